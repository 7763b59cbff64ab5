import Derived.Test.YtakaadcpaeiccabGreatV18
import Derived.Deep.CutBlock
set_option maxHeartbeats 4000000
set_option maxRecDepth 100000
namespace Go.Proofs.YtakaadcpaeiccabGreat
open Go.RowKit Go.Maps
variable{x:SG}{s s':eB}{W w w' w1:World}
theorem m_.cell(h:m_ x s W):
  W.cell? ⟨x.B,0,none⟩=some (.int .u32 s.addr)∧W.cell? ⟨x.B,1,none⟩=some x.jv∧W.cell? ⟨x.B,2,none⟩=some (Oi x.N s.nd)∧W.cell? ⟨x.B,9,none⟩=some (.bool s.tears)∧W.cell? ⟨x.B,10,none⟩=some (.int .i64 s.whole)∧(∀(j:Nat) b,s.hrs[j]?=some b->W.cell? ⟨x.B,3+j,none⟩=some (.bool b))∧∀j,W.frozen? ⟨x.B,j,none⟩=false:=by
 have hl:=h.hl;have hc:∀j,W.cell? ⟨x.B,j,none⟩=(FJ x s)[j]?:=λj=>by
  rw[aJ _ _ j _ _ _ h.blk];simp
 refine⟨(hc 0).trans rfl,(hc 1).trans rfl,(hc 2).trans rfl,?_,?_,λj b hj=> ?_,λj=> ?_⟩
 ·rw[hc];simp[FJ,hl]
 ·rw[hc];simp[FJ,hl]
 ·have hj':=(fO.1 hj).1;rw[hc];simp only[FJ,List.append_assoc];rw[List.getElem?_append_right (by simp),List.getElem?_append_left (by simp;omega)];simp[hj]
 ·simp[World.frozen?,h.blk]
def nG(x:SG)(s s':eB)(w w':World):Prop:=
 ∃x',x'.B=x.B∧m_ x' s' w'∧Fx (lm x s) w w'∧∀k,lm x' s' k->lm x s k∨(w.heap.size<=k∧k<w'.heap.size)
theorem nG.pre(hb:Below w.heap.size w w1)(h:nG x s s' w1 w'):nG x s s' w w':=by
 obtain⟨x',h1,h2,h3,h4⟩:=h;have:=hb.size;have:=h3.size;exact⟨x',h1,h2,(Fx.below hb).trans h3 λ_ _ h=>h,λk hk=>(h4 k hk).imp_right λh=>by omega⟩
theorem nG.trans{s1:eB}(h1:nG x s s1 w w1)(h2:∀x1,x1.B=x.B->m_ x1 s1 w1->nG x1 s1 s' w1 w'):nG x s s' w w':=by
 obtain⟨x1,b1,m1,f1,u1⟩:=h1;obtain⟨x2,b2,m2,f2,u2⟩:=h2 x1 b1 m1;have:=f1.size;have:=f2.size;refine⟨x2,b2.trans b1,m2,f1.trans f2 λk hk hs=>(u1 k hs).elim id λh=>by omega,λk hk=> ?_⟩;rcases u2 k hk with h|h
 ·exact(u1 k h).imp_right λh=>by omega
 ·exact .inr (by omega)
theorem nG.refl(h:m_ x s w):nG x s s w w:=⟨x,rfl,h,Fx.refl _ _,λ_ h=> .inl h⟩
theorem zq{B j:Nat}{l:List Value}{t:Nat}{v:Value}(h:W.heap[B]?=some (.cells l.toArray t (0,0))):(W.setCell ⟨B,j,none⟩ v).heap[B]?=some (.cells (l.set j v).toArray t (0,0)):=by
 simp[World.setCell,d_,h]
theorem m_.set{x':SG}(h:m_ x s W)(j:Nat)(v:Value)(hB:x'.B=x.B)(hc:FJ x' s'=(FJ x s).set j v)(hl:s'.hrs.length=6)(hj:x'.jv=x.jv∧s'.bH=s.bH)(hn:∀z,s'.nd=some z->s.nd=some z∧x'.N=x.N∧x'.g=x.g∧x'.TL=x.TL):
  nG x s s' W (W.setCell ⟨x.B,j,none⟩ v):=by
 have hg:W.grownBy (W.setCell ⟨x.B,j,none⟩ v) (some x.B):=ah (aC _ (some x.B)) j _;have hnd:∀z,s.nd=some z->∀k,Ft x.N x.g z k->k≠x.B:=λz hz k hk e=>by
  obtain⟨o,ho,hK⟩:=(h.nd z hz).1.kind hk;subst e;rw[h.blk]at ho;cases ho;exact hK.not (by decide)
 obtain⟨hj1,hj2⟩:=hj;refine⟨x',hB,⟨?_,hl,?_,λz hz=> ?_⟩,Fx.grown hg λk e=>by cases e;exact .inl rfl,λk hk=> .inl ?_⟩
 ·rw[hB,hc];exact zq h.blk
 ·rw[hj1,hj2];exact h.row.kept hg (.inr (aL h.row h.blk (λc e=>(by cases e))))
 ·obtain⟨e0,e1,e2,e3⟩:=hn z hz;rw[e1,e2,e3];exact⟨(h.nd z e0).1.kept λk hk=>hg.block k ((h.nd z e0).1.lt hk) λe=>hnd z e0 k hk (Option.some.inj e),(h.nd z e0).2⟩
 ·rcases hk with hk|hk|⟨z,hz,hk⟩
  ·exact .inl (hk.trans hB)
  ·exact .inr (.inl (by rw[<-hj1];exact hk))
  ·obtain⟨e0,e1,e2,e3⟩:=hn z hz;rw[e1,e2]at hk;exact .inr (.inr ⟨z,e0,hk⟩)
theorem m_.bH{W':World}(h:m_ x s W){v:Value}{xs:List Int}(ho:W'.ownsRow 0 5 1 v xs.length (U xs))(hg:W.grownBy W' x.jv.ownBlock)(hv:v.ownBlock=x.jv.ownBlock∨v.ownBlock=some W.heap.size∨v.ownBlock=none):
  nG x s {s with bH:=xs} W (W'.setCell ⟨x.B,1,none⟩ v):=by
 have hne:x.jv.ownBlock≠some x.B:=aL h.row h.blk (λc e=>(by cases e));have hB:=aG h.blk;have hsz:=hg.size;have hblk:=(hg.block _ hB λe=>hne e.symm).trans h.blk;have hg2:W'.grownBy (W'.setCell ⟨x.B,1,none⟩ v) (some x.B):=ah (aC _ (some x.B)) 1 _;have hnd:∀z,s.nd=some z->∀k,Ft x.N x.g z k->k≠x.B∧x.jv.ownBlock≠some k:=λz hz k hk=>by
  obtain⟨o,ho,hK⟩:=(h.nd z hz).1.kind hk;refine⟨λe=> ?_,λe=> ?_⟩
  ·subst e;rw[h.blk]at ho;cases ho;exact hK.not (by decide)
  ·obtain⟨c,hc⟩:=aS h.row e;rw[hc]at ho;cases ho;exact hK.not (by decide)
 have hf:Fx (lm x s) W (W'.setCell ⟨x.B,1,none⟩ v):=aW (Fx.grown hg λk e=> .inr (.inl e)) hg2 λi _ e=>by cases e;exact .inl rfl
 refine⟨{x with jv:=v},rfl,⟨?_,h.hl,?_,λz hz=> ?_⟩,hf,λk hk=> ?_⟩
 ·rw[show FJ {x with jv:=v} {s with bH:=xs}=(FJ x s).set 1 v from rfl];exact zq hblk
 ·exact ho.kept hg2 (.inr (aL ho hblk (λc e=>(by cases e))))
 ·refine⟨(h.nd z hz).1.kept λk hk=> ?_,(h.nd z hz).2⟩;have hlt:=(h.nd z hz).1.lt hk;obtain⟨e1,e2⟩:=hnd z hz k hk;exact(hg2.block k (by omega) λe=>e1 (Option.some.inj e)).trans (hg.block k hlt λe=>e2 e.symm)
 ·rcases hk with hk|hk|hk
  ·exact .inl (.inl hk)
  ·rcases hv with e|e|e
   ·exact .inl (.inr (.inl (by rw[<-e];exact hk)))
   ·rw[show({x with jv:=v}:SG).jv=v from rfl,e]at hk;cases hk;have h1:=(ho.lt _ e).2;exact .inr ⟨aB _,by simpa using h1⟩
   ·rw[show({x with jv:=v}:SG).jv=v from rfl,e]at hk;cases hk
  ·exact .inl (.inr (.inr hk))
theorem Fs(h:m_ x s w):Calls Tryz.prog 34 #[.pointer (some ⟨x.B,0,none⟩)] w λe w'=>e=.returned (.tuple #[])∧nG x s s.stop w w':=by
 obtain⟨c0,c1,c2,c9,c10,ch,fz⟩:=h.cell;have f2:=fz 2;have f9:=fz 9;have f10:=fz 10;have hfin:nG x s s.stop w (((w.setCell ⟨x.B,2,none⟩ (.pointer none)).setCell ⟨x.B,9,none⟩ (.bool false)).setCell ⟨x.B,10,none⟩ (.int .i64 0)):=by
  have hl:=h.hl;refine nG.trans (s1:={s with nd:=none}) (h.set (x':=x) (s':={s with nd:=none}) 2 (.pointer none) rfl rfl hl ⟨rfl,rfl⟩ (λz hz=>by cases hz)) λx1 b1 m1=> ?_;rw[show(⟨x.B,9,none⟩:Addr)=⟨x1.B,9,none⟩by rw[b1],show(⟨x.B,10,none⟩:Addr)=⟨x1.B,10,none⟩by rw[b1]];refine nG.trans (s1:={s with nd:=none,tears:=false}) (m1.set (x':=x1) (s':={s with nd:=none,tears:=false}) 9 (.bool false) rfl ?_ hl ⟨rfl,rfl⟩ (λz hz=>by cases hz)) λx2 b2 m2=> ?_
  ·simp[FJ,Oi,hl]
  ·rw[show(⟨x1.B,10,none⟩:Addr)=⟨x2.B,10,none⟩by rw[b2]];refine m2.set (x':=x2) (s':=s.stop) 10 (.int .i64 0) rfl ?_ hl ⟨rfl,rfl⟩ (λz hz=>by cases hz);simp[FJ,Oi,eB.stop,hl]
 clear h c0 c1 ch fz;go_enter Tryz.func34,Tryz.ntmps34;go_wp2;go_returns;exact⟨rfl,hfin⟩
theorem Ya(h:m_ x s w)(n:Int):Calls Tryz.prog 35 #[.pointer (some ⟨x.B,0,none⟩),.int .i64 n] w λe w'=>e=.returned (.tuple #[])∧nG x s {s with tears:=true,whole:=max 0 n} w w':=by
 obtain⟨c0,c1,c2,c9,c10,ch,fz⟩:=h.cell;have f9:=fz 9;have f10:=fz 10;have hfin:∀y,y=max 0 n->nG x s {s with tears:=true,whole:=max 0 n} w ((w.setCell ⟨x.B,9,none⟩ (.bool true)).setCell ⟨x.B,10,none⟩ (.int .i64 y)):=by
  rintro y rfl;have hl:=h.hl;refine nG.trans (s1:={s with tears:=true}) (h.set (x':=x) (s':={s with tears:=true}) 9 (.bool true) rfl ?_ hl ⟨rfl,rfl⟩ (λz hz=>⟨hz,rfl,rfl,rfl⟩)) λx1 b1 m1=> ?_
  ·simp[FJ,hl]
  ·rw[show(⟨x.B,10,none⟩:Addr)=⟨x1.B,10,none⟩by rw[b1]];refine m1.set (x':=x1) (s':={s with tears:=true,whole:=max 0 n}) 10 (.int .i64 (max 0 n)) rfl ?_ hl ⟨rfl,rfl⟩ (λz hz=>⟨hz,rfl,rfl,rfl⟩);simp[FJ,hl]
 replace hfin:=hide hfin;clear h c0 c1 ch fz;go_enter Tryz.func35,Tryz.ntmps35;go_wp2;all_goals (go_returns;exact⟨rfl,hfin.out _ (by omega)⟩)
variable{x:SG}{s:eB}{W:World}
theorem m_.drew(h:m_ x s W):m_ x s W.drew:=h.kept λ_ _=>rfl
theorem m_.later{W':World}(h:m_ x s W)(hb:Below W.heap.size W W'):m_ x s W':=h.kept λk hk=>hb.block k (h.lt hk)
theorem m_.add(h:m_ x s W){ns:List Int}{v7:Value}{w7:World}(ho:w7.ownsRow 0 5 1 v7 (s.bH.length+ns.length) (U s.bH++U ns))(hg:W.grownBy w7 x.jv.ownBlock)(hv:v7.ownBlock=x.jv.ownBlock∨v7.ownBlock=some W.heap.size):
  (w7.cell? ⟨x.B,1,none⟩=some x.jv∧w7.frozen? ⟨x.B,1,none⟩=false)∧nG x s {s with bH:=s.bH++ns} W (w7.setCell ⟨x.B,1,none⟩ v7):=by
 have hne:x.jv.ownBlock≠some x.B:=aL h.row h.blk (λc e=>(by cases e));have hblk:=hg.block _ (aG h.blk) λe=>hne e.symm;obtain⟨_,c1,_,_,_,_,fz⟩:=h.cell;refine⟨⟨(World.cell?_of_block (a:=⟨x.B,1,none⟩) hblk).trans c1,(World.frozen?_of_block (a:=⟨x.B,1,none⟩) hblk).trans (fz 1)⟩,h.bH (xs:=s.bH++ns) ?_ hg (hv.imp_right .inl)⟩;rw[bU];rw[show U (s.bH++ns)=U s.bH++U ns by simp[U]];exact ho
theorem m_.nil(h:m_ x s W):nG x s {s with bH:=[]} W (W.setCell ⟨x.B,1,none⟩ (.slice none 0 0)):=
 h.bH (xs:=[]) ⟨rfl,.inl ⟨rfl,rfl⟩⟩ (aC _ _) (.inr (.inr rfl))
theorem El(s:ByteArray)(a b:Nat):aA (s.extract a b)=((aA s).drop a).take (b - a):=by
 simp only[aA,Go.Lib.extract_data,List.map_take,List.map_drop]
theorem La(s:ByteArray)(W:World):Src Tryz.prog 1 9 (.string s) s.size (U (aA s)) W:=by
 rw[<-yB];exact Src.ofString W Tryz.underlying9 s
theorem XU(s:ByteArray)(k:Nat)(hk:k<=s.size):(s.extract 0 k).size=k∧aA (s.extract 0 k)=(aA s).take k:=by
 refine⟨by rw[ByteArray.size_extract];omega,?_⟩;rw[El];simp
theorem Fq{w:World}(h:m_ x s w)(j:ByteArray)(bB:Bool)(aH bO bP:Value)(hj:j.size<=1000000)(hl:s.bH.length<=1000000)(hw:0<=s.whole):
  Calls Tryz.prog 98 #[.pointer (some ⟨x.B,0,none⟩),jg j bB aH bO bP] w λe w'=>e=.returned (.tuple #[])∧nG x s {s with bH:=if bB then s.bH else s.bH++(aA j).take s.whole.toNat} w w':=by
 obtain⟨i0,hi,hz0,hz1,hz2⟩:=info_parts vL;have hb0:Below w.heap.size w (w.alloc (.cells #[.string j,.bool bB,aH,bO,bP] 52)):=bC;have hC:=bV w (.cells #[.string j,.bool bB,aH,bO,bP] 52);have h1:=h.later hb0;obtain⟨k,hk⟩:∃k:Nat,s.whole=k:=Int.eq_ofNat_of_zero_le hw;cases bB
 ·rw[ay (by simp)];obtain⟨K,hK⟩:∃K,(min (k:Int) (j.size:Int)).toNat=K:=⟨_,rfl⟩;have hKm:K=min k j.size:=by omega
  have hle:K<=j.size:=by omega
  obtain⟨q1,q2⟩:=XU j K hle;have ht:(aA j).take s.whole.toNat=aA (j.extract 0 K):=by
   rw[q2,hk,hKm];simp only[iU];rw[<-dz];by_cases hkj:k<=(aA j).length
   ·rw[Nat.min_eq_left hkj]
   ·rw[Nat.min_eq_right (by omega),kN (by omega),kN (aB _)]
  rw[ht];have hsl:=dz (j.extract 0 K);rw[q1]at hsl;have hsrc:∀W,Src Tryz.prog 1 9 (.string (j.extract 0 K)) (aA (j.extract 0 K)).length (U (aA (j.extract 0 K))) W:=λW=>by rw[dz];exact La (j.extract 0 K) W
  have b1:Hid (s.bH.length+(aA (j.extract 0 K)).length<=maxLen):=by show _<=_;unfold maxLen;omega
  have b2:Hid ((s.bH.length+(aA (j.extract 0 K)).length)* 1<=140737488355328):=by show _<=_;omega
  unfold jg;go_enter Tryz.func98,Tryz.ntmps98;go_upto_region 1 with(fail);generalize World.alloc _ _=W1 at hb0 hC h1 ⊢;have hfin:=λv7 w7 (ho:w7.ownsRow 0 5 1 v7 (s.bH.length+(aA (j.extract 0 K)).length) (U s.bH++U (aA (j.extract 0 K)))) (hg:W1.drew.grownBy w7 x.jv.ownBlock) (hv:v7.ownBlock=x.jv.ownBlock∨v7.ownBlock=some W1.drew.heap.size)=>h1.drew.add ho hg hv;replace hfin:=hide hfin;have hb1':Below w.heap.size w W1.drew:=hb0.drew;replace hb1':=hide hb1';have hrow:=h1.drew.row;obtain⟨_,c1,_,_,c10,_,fz⟩:=h1.cell;generalize w.heap.size=C at hC hb0 ⊢;have t0:W1.cell? ⟨C,0,none⟩=some (.string j):=aJ _ _ 0 _ _ _ hC;have t1:W1.cell? ⟨C,1,none⟩=some (.bool false):=aJ _ _ 1 _ _ _ hC;have f1:=fz 1;rw[hk]at c10;have hmc:(min (k:Int) (j.size:Int))<=(j.size:Int):=Int.min_le_right _ _;have hm0:0<=(min (k:Int) (j.size:Int)):=by omega
  clear hC h1 fz h hk ht hw hKm hle q1 q2 hsl;replace hK:=hide hK;go_wp2_with fail;go_region_law (refine iJ rfl (.tmp 11) (.tmp 22) 58 9 rfl 0 5 i0 (.int .u8 0) 1 1 Tryz.underlying58 hi hz0 hz1 hz2 rfl x.jv s.bH.length (U s.bH) ?h1 hrow (.string (j.extract 0 K)) (aA (j.extract 0 K)).length (U (aA (j.extract 0 K))) ?h2 (hsrc _) b1.out b2.out (dm _) ?_;(case h1=>simp[Act.eval,Act.put]);(case h2=>simp[Act.eval,Act.put,hK.out]);intro v7 w7 ig gQ hv7;obtain⟨⟨g1,g2⟩,hm⟩:=hfin.out v7 w7 ig gQ hv7;obtain⟨Qc,Ua,rfl,_⟩:=ax ig)
  all_goals
   clear g1 g2 gQ ig;go_wp2;go_returns;exact⟨rfl,nG.pre hb1'.out hm⟩
 ·rw[aI rfl];unfold jg;go_enter Tryz.func98,Tryz.ntmps98;go_wp2;go_returns;exact⟨rfl,nG.pre hb0 (nG.refl h1)⟩
variable{y:MG}{m:aM}{W w:World}
theorem MM.cell(h:MM y m W):W.cell? ⟨y.G,0,none⟩=some (.int .u64 m.now)∧W.cell? ⟨y.G,1,none⟩=some y.sv∧W.cell? ⟨y.G,2,none⟩=some y.av∧∀j,W.frozen? ⟨y.G,j,none⟩=false:=
 ⟨aJ _ _ 0 _ _ _ h.blk,aJ _ _ 1 _ _ _ h.blk,aJ _ _ 2 _ _ _ h.blk,λj=>by simp[World.frozen?,h.blk]⟩
theorem MM.svf(h:MM y m W):∃ao c,y.sv=.slice ao m.S.length c:=by
 obtain⟨ao,c,e,_⟩:=ax h.zJ;exact⟨ao,c,e⟩
theorem MM.get(h:MM y m W){i:Nat}(hi:i<m.S.length):∃x s b c,y.L[i]?=some x∧m.S[i]?=some s∧m.at' i=s∧y.sv=.slice (some ⟨b,0,none⟩) m.S.length c∧W.cell? ⟨b,i,none⟩=some (.pointer (some ⟨x.B,0,none⟩)):=by
 have hl:i<y.L.length:=by rw[h.len];exact hi
 have h1:y.L[i]?=some y.L[i]:=bS hl;have h2:m.S[i]?=some m.S[i]:=bS hi;obtain⟨b,c,e,_⟩:=bZ h.zJ (by omega);refine⟨_,_,b,c,h1,h2,?_,e,?_⟩
 ·unfold aM.at';rw[List.getD_eq_getElem?_getD,h2];rfl
 ·have hs:=h.zJ;rw[e]at hs;refine(hs.cellAt i (by simpa using hi)).trans ?_;unfold KE;rw[l9,h1];rfl
theorem UI(h:MM y m w)(i:Int):Calls Tryz.prog 38 #[.pointer (some ⟨y.G,0,none⟩),.int .i64 i] w λe w'=>e=.returned (.bool (m.has i))∧w'=w:=by
 obtain⟨c0,c1,c2,fz⟩:=h.cell;obtain⟨ao,c,e⟩:=h.svf;rw[e]at c1;clear h e c0 c2 fz;have hm:∀b,b=m.has i->Value.bool b=Value.bool (m.has i):=by rintro _ rfl;rfl
 unfold aM.has at hm ⊢;by_cases hi:0<=i
 ·by_cases hl:i<(m.S.length:Int)
  ·have e1:(decide (0<=i)&&decide (i<(m.S.length:Int)))=true:=by simp[hi,hl]
   rw[e1]at hm ⊢;go_enter Tryz.func38,Tryz.ntmps38;go_wp2;go_ret;simp
  ·have e1:(decide (0<=i)&&decide (i<(m.S.length:Int)))=false:=by simp[hl]
   rw[e1]at hm ⊢;go_enter Tryz.func38,Tryz.ntmps38;go_wp2;go_ret;simp
 ·have e1:(decide (0<=i)&&decide (i<(m.S.length:Int)))=false:=by simp[hi]
  rw[e1]at hm ⊢;go_enter Tryz.func38,Tryz.ntmps38;go_wp2;go_ret;simp
theorem abw(h:MM y m w)(i:Int):Calls Tryz.prog 13 #[.pointer (some ⟨y.G,0,none⟩),.int .i64 i] w λe w'=>e=.returned (.bool (m.runs i))∧w'=w:=by
 obtain⟨c0,c1,c2,fz⟩:=h.cell;have HH:=hide (UI h i);obtain⟨b,hb⟩:∃b,m.has i=b:=⟨_,rfl⟩;have hr:m.runs i=(b&&(m.at' i.toNat).nd.isSome):=by unfold aM.runs;rw[hb]
 rw[hr];rw[hb]at HH;cases b
 ·clear c0 c1 c2 fz hr;go_enter Tryz.func13,Tryz.ntmps13;go_wp2_with fail;refine aU HH.out ?_;rintro e w2 ⟨rfl,rfl⟩;go_wp2;go_ret;simp
 ·unfold aM.has at hb;simp only[jr,qi]at hb;obtain⟨k,rfl⟩:=Int.eq_ofNat_of_zero_le hb.1;have hk:k<m.S.length:=by omega
  have hk':(k:Int)<(m.S.length:Int):=by omega
  obtain⟨x,s,g,c,h1,h2,h3,e,d0⟩:=h.get hk;obtain⟨_,_,b2,_⟩:=(h.st k x s h1 h2).cell;rw[e]at c1;simp only[iU];rw[h3];clear c0 c2 fz hr h h1 h2 h3 e hb;cases hnd:s.nd with
  |none=>
   rw[hnd]at b2;unfold Oi at b2;go_enter Tryz.func13,Tryz.ntmps13;go_wp2_with fail;refine aU HH.out ?_;rintro e w2 ⟨rfl,rfl⟩;go_wp2;go_ret;simp
  |some z=>
   rw[hnd]at b2;unfold Oi at b2;go_enter Tryz.func13,Tryz.ntmps13;go_wp2_with fail;refine aU HH.out ?_;rintro e w2 ⟨rfl,rfl⟩;go_wp2;go_ret;simp
def Ee(o:Op):Value:=.agg #[.int .i64 o.fe,.int .i64 o.a,.int .i64 o.b,.int .i64 o.n,.bool o.on,.string o.txt]
theorem adn{y:MG}{m:aM}{w:World}(h:MM y m w)(o:Op):Calls Tryz.prog 28 #[.pointer (some ⟨y.G,0,none⟩),Ee o] w λe w'=>e=.returned (.bool (m.may o))∧Below w.heap.size w w':=by
 have hb0:Below w.heap.size w (w.alloc (.cells #[.int .i64 o.fe,.int .i64 o.a,.int .i64 o.b,.int .i64 o.n,.bool o.on,.string o.txt] 28)):=bC;have hC:=bV w (.cells #[.int .i64 o.fe,.int .i64 o.a,.int .i64 o.b,.int .i64 o.n,.bool o.on,.string o.txt] 28);have h1:=h.later hb0;obtain⟨fe,a,b,n,on,txt⟩:=o;dsimp only at hb0 hC h1;have Ha:=hide (UI h1 a);have Hb:=hide (UI h1 b);have Hr:=hide (abw h1 a);unfold aM.may;dsimp only;obtain⟨ha,e1⟩:∃z,m.has a=z:=⟨_,rfl⟩;obtain⟨hb,e2⟩:∃z,m.has b=z:=⟨_,rfl⟩;obtain⟨hr,e3⟩:∃z,m.runs a=z:=⟨_,rfl⟩;rw[e1]at Ha;rw[e2]at Hb;rw[e3]at Hr;rw[e1,e2,e3];obtain⟨R,hR⟩:∃R,(if fe=1 then ha&&hb else if fe=2∨fe=8 then hr&&hb else if fe=9∨fe=10 then hr else if fe=11 then ha&&!hr else true)=R:=⟨_,rfl⟩;rw[hR];replace hR:=hide hR;clear h h1 e1 e2 e3;unfold Ee;dsimp only;go_enter Tryz.func28,Tryz.ntmps28;go_upto_region 1 with(fail);generalize World.alloc _ _=W1 at hb0 hC Ha Hb Hr ⊢;generalize lZ:w.heap.size=C at hC ⊢;have t0:W1.cell? ⟨C,0,none⟩=some (.int .i64 fe):=aJ _ _ 0 _ _ _ hC;have t1:W1.cell? ⟨C,1,none⟩=some (.int .i64 a):=aJ _ _ 1 _ _ _ hC;have t2:W1.cell? ⟨C,2,none⟩=some (.int .i64 b):=aJ _ _ 2 _ _ _ hC;clear hC lZ;by_cases d1:fe=1
 ·subst d1;cases ha
  ·go_wp2_with fail;refine aU Ha.out ?_;rintro e w2 ⟨rfl,rfl⟩;go_wp2;go_ret;exact⟨by rw[<-hR.out];simp[*],hb0⟩
  ·go_wp2_with fail;refine aU Ha.out ?_;rintro e w2 ⟨rfl,rfl⟩;go_wp2_with fail;refine aU Hb.out ?_;rintro e w2 ⟨rfl,rfl⟩;go_wp2;go_ret;exact⟨by rw[<-hR.out];simp[*],hb0⟩
 by_cases d2:fe=2∨fe=8
 ·cases hr
  ·rcases d2 with rfl|rfl<;>
   ·go_wp2_with fail;refine aU Hr.out ?_;rintro e w2 ⟨rfl,rfl⟩;go_wp2;go_ret;exact⟨by rw[<-hR.out];simp[*],hb0⟩
  ·rcases d2 with rfl|rfl<;>
   ·go_wp2_with fail;refine aU Hr.out ?_;rintro e w2 ⟨rfl,rfl⟩;go_wp2_with fail;refine aU Hb.out ?_;rintro e w2 ⟨rfl,rfl⟩;go_wp2;go_ret;exact⟨by rw[<-hR.out];simp[*],hb0⟩
 by_cases d3:fe=9∨fe=10
 ·rcases d3 with rfl|rfl<;>
  ·go_wp2_with fail;refine aU Hr.out ?_;rintro e w2 ⟨rfl,rfl⟩;go_wp2;go_ret;exact⟨by rw[<-hR.out];simp[*],hb0⟩
 by_cases d4:fe=11
 ·subst d4;cases ha
  ·go_wp2_with fail;refine aU Ha.out ?_;rintro e w2 ⟨rfl,rfl⟩;go_wp2;go_ret;exact⟨by rw[<-hR.out];simp[*],hb0⟩
  ·go_wp2_with fail;refine aU Ha.out ?_;rintro e w2 ⟨rfl,rfl⟩;go_wp2_with fail;refine aU Hr.out ?_;rintro e w2 ⟨rfl,rfl⟩;go_wp2;go_ret;exact⟨by rw[<-hR.out];simp[*],hb0⟩
 ·simp only[not_or]at d2 d3;obtain⟨d21,d22⟩:=d2;obtain⟨d31,d32⟩:=d3;go_wp2;go_ret;exact⟨by rw[<-hR.out];simp[*],hb0⟩
theorem wJ(j:ByteArray):(j.size=0->j.toList=[])∧(j.size≠0->¬j.toList=[]):=by
 have h:=TH j;constructor
 ·intro e;rw[f_ e]at h;exact List.isEmpty_iff.1 h
 ·intro e k;rw[k,eU e]at h;cases h
theorem BX(j:ByteArray)(bB:Bool)(fa ca da:Option Addr)(fn fc cn cc dn dc:Nat)(hb:fn+cn+dn<=1000000)(w:World):Calls Tryz.prog 66 #[jg j bB (.slice fa fn fc) (.slice ca cn cc) (.slice da dn dc)] w λe w'=>e=.returned (.bool (decide (j.size=0)&&!bB&&decide (fn+cn+dn=0)))∧Below w.heap.size w w':=by
 have hb0:Below w.heap.size w (w.alloc (.cells #[.string j,.bool bB,.slice fa fn fc,.slice ca cn cc,.slice da dn dc] 52)):=bC;have w1:wrap64 ((fn:Int)+(cn:Int))=(fn:Int)+(cn:Int):=by unfold wrap64;omega
 have w2:wrap64 ((fn:Int)+(cn:Int)+(dn:Int))=(fn:Int)+(cn:Int)+(dn:Int):=by unfold wrap64;omega
 have e0:((fn:Int)+(cn:Int)+(dn:Int)==0)=decide (fn+cn+dn=0):=by
  by_cases h:fn+cn+dn=0
  ·have:(fn:Int)+(cn:Int)+(dn:Int)=0:=by omega
   simp[h,this]
  ·have:¬(fn:Int)+(cn:Int)+(dn:Int)=0:=by omega
   rw[eU h];simpa using this
 obtain⟨r,hr⟩:∃r,decide (fn+cn+dn=0)=r:=⟨_,rfl⟩;rw[hr]at e0 ⊢;clear hr hb;obtain⟨q1,q2⟩:=wJ j;unfold jg;by_cases hj:j.size=0
 ·have hj':=q1 hj;rw[f_ hj];clear q1 q2 hj;cases bB
  ·go_enter Tryz.func66,Tryz.ntmps66;go_wp2;go_ret;exact⟨by simp,hb0⟩
  ·go_enter Tryz.func66,Tryz.ntmps66;go_wp2;go_ret;exact⟨by simp,hb0⟩
 ·have hj':=q2 hj;rw[eU hj];clear q1 q2 hj;cases bB
  ·go_enter Tryz.func66,Tryz.ntmps66;go_wp2;go_ret;exact⟨by simp,hb0⟩
  ·go_enter Tryz.func66,Tryz.ntmps66;go_wp2;go_ret;exact⟨by simp,hb0⟩
variable{o:Ot}{x:SG}{s:eB}{w:World}
theorem G9{L:List (Bool×Int×Int)}(hb:qg L):aA (strOfNums (bD L))=bD L∧(strOfNums (bD L)).size=13 * L.length:=by
 have h:=tJ (EW hb);refine⟨h,?_⟩;rw[<-dz,h,iE]
theorem eB.qz(h1:o.bg=[])(h2:o.bB=false):s.write o=(s,true):=by
 unfold eB.write;rw[h1,h2];rfl
theorem eB.tC(h1:o.bg≠ []∨o.bB=true)(ht:s.tears=true):s.write o=({s with bH:=if o.bB then s.bH else s.bH++(bD o.bg).take s.whole.toNat}.stop,false):=by
 unfold eB.write;rw[ay (by
  rcases h1 with h|h
  ·cases hn:o.bg with
   |nil=>exact absurd hn h
   |cons a l=>simp
  ·simp[h]),aI ht]
theorem eB.j3(h1:o.bg≠ []∨o.bB=true)(ht:s.tears=false):s.write o=({s with bH:=(if o.bB then []else s.bH)++bD o.bg},true):=by
 unfold eB.write;rw[ay (by
  rcases h1 with h|h
  ·cases hn:o.bg with
   |nil=>exact absurd hn h
   |cons a l=>simp
  ·simp[h]),ay (by simp[ht])]
theorem nG.comp{x1:SG}{s1 s':eB}{w1 w':World}(b1:x1.B=x.B)(f1:Fx (lm x s) w w1)(u1:∀k,lm x1 s1 k->lm x s k∨(w.heap.size<=k∧k<w1.heap.size))(h2:nG x1 s1 s' w1 w'):nG x s s' w w':=by
 obtain⟨x2,b2,m2,f2,u2⟩:=h2;have:=f1.size;have:=f2.size;refine⟨x2,b2.trans b1,m2,f1.trans f2 λk hk hs=>(u1 k hs).elim id λh=>by omega,λk hk=> ?_⟩;rcases u2 k hk with h|h
 ·exact(u1 k h).imp_right λh=>by omega
 ·exact .inr (by omega)
theorem IE(h:m_ x s w)(o:Ot)(aH bO bP:Value)(hb:qg o.bg)(hl:o.bg.length<=50000)(hj:s.bH.length<=1000000)(hw:0<=s.whole):
  Calls Tryz.prog 62 #[.pointer (some ⟨x.B,0,none⟩),jg (strOfNums (bD o.bg)) o.bB aH bO bP] w λe w'=>e=.returned (.bool (s.write o).2)∧nG x s (s.write o).1 w w':=by
 obtain⟨i0,hi,hz0,hz1,hz2⟩:=info_parts vL;obtain⟨j1,j2⟩:=G9 hb;have hb0:Below w.heap.size w (w.alloc (.cells #[.string (strOfNums (bD o.bg)),.bool o.bB,aH,bO,bP] 52)):=bC;have hC:=bV w (.cells #[.string (strOfNums (bD o.bg)),.bool o.bB,aH,bO,bP] 52);have h1:=h.later hb0;by_cases hno:o.bg=[]∧o.bB=false
 ·rw[eB.qz hno.1 hno.2];have hs0:(strOfNums (bD o.bg)).size=0:=by rw[j2,hno.1];rfl
  have q1:=(wJ _).1 hs0;rw[hno.2]at hb0 hC h1 ⊢;generalize strOfNums (bD o.bg)=j at hb0 hC h1 q1 ⊢;have hfin:=nG.pre hb0 (nG.refl h1);clear h hno hs0 j1 j2 hC h1 hb0;unfold jg;go_enter Tryz.func62,Tryz.ntmps62;go_wp2;go_ret;exact⟨rfl,hfin⟩
 have hno':o.bg≠ []∨o.bB=true:=by
  by_cases e:o.bg=[]
  ·refine .inr ?_;cases hr:o.bB
   ·exact absurd ⟨e,hr⟩ hno
   ·rfl
  ·exact .inl e
 have hg:(strOfNums (bD o.bg)).toList=[]->o.bB=true:=λe=>by
  rcases hno' with h|h
  ·refine absurd e ((wJ _).2 ?_);rw[j2];have:=List.length_pos_iff.2 h;omega
  ·exact h
 cases ht:s.tears
 ·rw[eB.j3 hno' ht];have hsrc:=λW=>La (strOfNums (bD o.bg)) W;have hjs:(strOfNums (bD o.bg)).size<=1000000:=by omega
  rw[j1]at hsrc;obtain⟨ZE,aaf⟩:∃n,(strOfNums (bD o.bg)).size=n:=⟨_,rfl⟩;have hfl:(bD o.bg).length=ZE:=by rw[iE,<-j2,aaf]
  rw[aaf]at hsrc hjs;clear hno hno' h hb hl j1 j2 aaf;generalize strOfNums (bD o.bg)=j at hb0 hC h1 hsrc hg ⊢;generalize bD o.bg=ns at hsrc hfl ⊢;obtain⟨_,c1,_,c9,_,_,fz⟩:=h1.cell;rw[ht]at c9;have f1:=fz 1;have hlen:s.bH.length+ZE<=maxLen:=by unfold maxLen;omega
  have acA:(s.bH.length+ZE)* 1<=140737488355328:=by omega
  replace hsrc:=hide hsrc;cases hr:o.bB
  ·rw[hr]at hb0 hC h1 hg c1 c9 f1;have hg':¬j.toList=[]:=λe=>by cases hg e
   simp only[Bool.false_eq_true,if_false];clear fz hg;unfold jg;go_enter Tryz.func62,Tryz.ntmps62;go_upto_region 1 with(fail);generalize World.alloc _ _=W1 at hb0 hC h1 c1 c9 f1 ⊢;have hrow:=h1.drew.row;have hfin:=λv7 w7 (ho:w7.ownsRow 0 5 1 v7 (s.bH.length+ns.length) (U s.bH++U ns)) (hg:W1.drew.grownBy w7 x.jv.ownBlock) (hv:v7.ownBlock=x.jv.ownBlock∨v7.ownBlock=some W1.drew.heap.size)=>nG.pre hb0.drew (h1.drew.add ho hg hv).2;have hkp:=λv7 w7 (ho:w7.ownsRow 0 5 1 v7 (s.bH.length+ns.length) (U s.bH++U ns)) (hg:W1.drew.grownBy w7 x.jv.ownBlock) (hv:v7.ownBlock=x.jv.ownBlock∨v7.ownBlock=some W1.drew.heap.size)=>(h1.drew.add ho hg hv).1;rw[hfl]at hfin hkp;replace hfin:=hide hfin;replace hkp:=hide hkp;generalize w.heap.size=C at hC ⊢;have t0:W1.cell? ⟨C,0,none⟩=some (.string j):=aJ _ _ 0 _ _ _ hC;have t1:W1.cell? ⟨C,1,none⟩=some (.bool false):=aJ _ _ 1 _ _ _ hC;clear hC h1 hb0 hfl ht hr;go_upto_region 9 with(fail);go_region_law (refine iJ rfl (.tmp 31) (.tmp 33) 58 9 rfl 0 5 i0 (.int .u8 0) 1 1 Tryz.underlying58 hi hz0 hz1 hz2 rfl x.jv s.bH.length (U s.bH) ?h1 hrow (.string j) ZE (U ns) ?h2 (hsrc.out _) hlen acA (dm _) ?_;(case h1=>simp[Act.eval]);(case h2=>simp[Act.eval]);intro v7 w7 ig gQ hv7;obtain⟨g1,g2⟩:=hkp.out v7 w7 ig gQ hv7;have hm:=hfin.out v7 w7 ig gQ hv7;obtain⟨Qc,Ua,rfl,_⟩:=ax ig)
   all_goals
    clear g1 g2 gQ ig;go_wp2;go_ret;exact⟨rfl,hm⟩
  ·rw[hr]at hb0 hC h1 hg c1 c9 f1;simp only[if_true];clear fz hg;unfold jg;go_enter Tryz.func62,Tryz.ntmps62;go_upto_region 1 with(fail);generalize World.alloc _ _=W1 at hb0 hC h1 c1 c9 f1 ⊢;have hn:=h1.nil;have hB:=aG h1.blk;generalize lZ:w.heap.size=C at hC ⊢;have hne:x.B≠C:=λe=>by
    have h2:=h1.blk;rw[e,hC]at h2;cases h2
   have t0:W1.cell? ⟨C,0,none⟩=some (.string j):=aJ _ _ 0 _ _ _ hC;have t1:W1.cell? ⟨C,1,none⟩=some (.bool true):=aJ _ _ 1 _ _ _ hC;have hg2:W1.grownBy (W1.setCell ⟨x.B,1,none⟩ (.slice none 0 0)) (some x.B):=ah (aC _ (some x.B)) 1 _;have t2:(W1.setCell ⟨x.B,1,none⟩ (.slice none 0 0)).cell? ⟨C,0,none⟩=some (.string j):=(World.cell?_of_block (a:=⟨C,0,none⟩) (hg2.block C (aG hC) λe=>hne (Option.some.inj e).symm)).trans t0;have hc1:(W1.setCell ⟨x.B,1,none⟩ (.slice none 0 0)).cell? ⟨x.B,1,none⟩=some (.slice none 0 0):=by
    have hb:=zq (j:=1) (v:=.slice none 0 0) h1.blk;exact(aJ _ _ 1 _ _ _ hb).trans (by simp[FJ])
   obtain⟨x1,b1,m1,k1,u1⟩:=hn;have hjv:x1.jv=.slice none 0 0:=by
    have c:=m1.cell.2.1;rw[b1,hc1]at c;exact(Option.some.inj c).symm
   have hf2:=(m1.drew.cell.2.2.2.2.2.2 1);rw[b1]at hf2;have hfin:=λv7 w7 (ho:w7.ownsRow 0 5 1 v7 (0+ZE) ([]++U ns)) (hg:(W1.setCell ⟨x.B,1,none⟩ (.slice none 0 0)).drew.grownBy w7 (Value.slice none 0 0).ownBlock) (hv:v7.ownBlock=(Value.slice none 0 0).ownBlock∨v7.ownBlock=some (W1.setCell ⟨x.B,1,none⟩ (.slice none 0 0)).drew.heap.size)=>(show(w7.cell? ⟨x.B,1,none⟩=some (.slice none 0 0)∧w7.frozen? ⟨x.B,1,none⟩=false)∧nG x s {s with bH:=[]++ns} w (w7.setCell ⟨x.B,1,none⟩ v7)from by
    obtain⟨q1,q2⟩:=m1.drew.add (ns:=ns) (v7:=v7) (w7:=w7) (by rw[hfl];exact ho) (by rw[hjv];exact hg) (by rw[hjv];exact hv);rw[b1,hjv]at q1;rw[b1]at q2;exact⟨q1,nG.pre hb0 (nG.comp b1 (k1.trans (Fx.below (S:=lm x s) (aV _ _).drew) (λ_ _ h=>h)) u1 q2)⟩)
   have hrow:(W1.setCell ⟨x.B,1,none⟩ (.slice none 0 0)).drew.ownsRow 0 5 1 (.slice none 0 0) 0 []:=⟨rfl,.inl ⟨rfl,rfl⟩⟩;have hfz:=(m1.cell.2.2.2.2.2.2 1);rw[b1]at hfz;clear hC ht hr hb0 hB hg2 k1 u1 h1 m1 hne hfl;replace hfin:=hide hfin;have hnl:(Value.slice none 0 0).ownBlock=none:=rfl;by_cases hje:j.toList=[]
   ·go_upto_region 9 with(fail);go_region_law (refine iJ rfl (.tmp 31) (.tmp 33) 58 9 rfl 0 5 i0 (.int .u8 0) 1 1 Tryz.underlying58 hi hz0 hz1 hz2 rfl (.slice none 0 0) 0 [] ?h1 hrow (.string j) ZE (U ns) ?h2 (hsrc.out _) ?h3 ?h4 (dm _) ?_;(case h1=>simp[Act.eval]);(case h2=>simp[Act.eval]);(case h3=>omega);(case h4=>omega);intro v7 w7 ig gQ hv7;obtain⟨⟨g1,g2⟩,hm⟩:=hfin.out v7 w7 ig gQ hv7;rw[Nat.zero_add]at ig;obtain⟨Qc,Ua,rfl,_⟩:=ax ig)
    all_goals
     clear g1 g2 gQ ig;go_wp2;go_ret;exact⟨rfl,hm⟩
   ·go_upto_region 9 with(fail);go_region_law (refine iJ rfl (.tmp 31) (.tmp 33) 58 9 rfl 0 5 i0 (.int .u8 0) 1 1 Tryz.underlying58 hi hz0 hz1 hz2 rfl (.slice none 0 0) 0 [] ?h1 hrow (.string j) ZE (U ns) ?h2 (hsrc.out _) ?h3 ?h4 (dm _) ?_;(case h1=>simp[Act.eval]);(case h2=>simp[Act.eval]);(case h3=>omega);(case h4=>omega);intro v7 w7 ig gQ hv7;obtain⟨⟨g1,g2⟩,hm⟩:=hfin.out v7 w7 ig gQ hv7;rw[Nat.zero_add]at ig;obtain⟨Qc,Ua,rfl,_⟩:=ax ig)
    all_goals
     clear g1 g2 gQ ig;go_wp2;go_ret;exact⟨rfl,hm⟩
 ·rw[eB.tC hno' ht];have hjs:(strOfNums (bD o.bg)).size<=1000000:=by omega
  obtain⟨_,c1,_,c9,_,_,fz⟩:=h1.cell;rw[ht]at c9;have HW:=Fq h1 (strOfNums (bD o.bg)) o.bB aH bO bP hjs hj hw;rw[j1]at HW;replace HW:=hide HW;clear hno hno' h hb hl j1 j2 hjs c1 fz hi hz0 hz1 hz2;generalize strOfNums (bD o.bg)=j at hb0 hC h1 hg HW c9 ⊢;obtain⟨s1,hs1⟩:∃s1,({s with bH:=if o.bB then s.bH else s.bH++(bD o.bg).take s.whole.toNat}:eB)=s1:=⟨_,rfl⟩;rw[hs1]at HW ⊢;clear hs1;generalize o.bB=rp at hb0 hC h1 hg HW c9 ⊢;clear h1;unfold jg at HW ⊢;go_enter Tryz.func62,Tryz.ntmps62;go_upto_region 1 with(fail);generalize World.alloc _ _=W1 at hb0 hC HW c9 ⊢;generalize lZ:w.heap.size=C at hC ⊢;have t0:W1.cell? ⟨C,0,none⟩=some (.string j):=aJ _ _ 0 _ _ _ hC;have t1:W1.cell? ⟨C,1,none⟩=some (.bool rp):=aJ _ _ 1 _ _ _ hC;have t2:W1.cell? ⟨C,2,none⟩=some aH:=aJ _ _ 2 _ _ _ hC;have t3:W1.cell? ⟨C,3,none⟩=some bO:=aJ _ _ 3 _ _ _ hC;have t4:W1.cell? ⟨C,4,none⟩=some bP:=aJ _ _ 4 _ _ _ hC;clear hC lZ;by_cases hje:j.toList=[]
  ·obtain rfl:=hg hje;clear hg;go_wp2_with fail;refine aU HW.out ?_;rintro e w2 ⟨rfl,hm⟩;obtain⟨x1,b1,m1,k1,u1⟩:=hm;have HS:=Fs m1;rw[b1]at HS;replace HS:=hide HS;clear HW m1 c9 t0 t1 t2 t3 t4;go_wp2_with fail;refine aU HS.out ?_;rintro e w3 ⟨rfl,hm⟩;have hfin:=nG.pre hb0 (nG.comp b1 k1 u1 hm);clear HS hm k1 u1 hb0;go_wp2;go_ret;exact⟨rfl,hfin⟩
  ·clear hg;go_wp2_with fail;refine aU HW.out ?_;rintro e w2 ⟨rfl,hm⟩;obtain⟨x1,b1,m1,k1,u1⟩:=hm;have HS:=Fs m1;rw[b1]at HS;replace HS:=hide HS;clear HW m1 c9 t0 t1 t2 t3 t4;go_wp2_with fail;refine aU HS.out ?_;rintro e w3 ⟨rfl,hm⟩;have hfin:=nG.pre hb0 (nG.comp b1 k1 u1 hm);clear HS hm k1 u1 hb0;go_wp2;go_ret;exact⟨rfl,hfin⟩
variable{bB:Bool}{j:ByteArray}{a:Int}{aO aF:List (Int×ByteArray)}{aP xs:List Int}{B D N b:Nat}{o:Obj}{x:SG}{s:eB}{bO bP aH jv:Value}{W W' W0 W1 w w2:World}
theorem uF{n:Nat}{a:World}(h:Below n a w)(hD:n<=D)(v0 v1 v2 v3 v4:Value):Below n a (((((w.setCell ⟨D,0,none⟩ v0).setCell ⟨D,1,none⟩ v1).setCell ⟨D,2,none⟩ v2).setCell ⟨D,3,none⟩ v3).setCell ⟨D,4,none⟩ v4):=
 ((((h.setCell (p:=⟨D,0,none⟩) hD _).setCell (p:=⟨D,1,none⟩) hD _).setCell (p:=⟨D,2,none⟩) hD _).setCell (p:=⟨D,3,none⟩) hD _).setCell (p:=⟨D,4,none⟩) hD _
def pU(D:Nat)(j:ByteArray)(bB:Bool)(aH bO bP:Value)(W:World):Prop:=W.heap[D]?=some (.cells #[.string j,.bool bB,aH,bO,bP] 52)
theorem pU.NC{j':ByteArray}{Zq:Bool}{aaU aa6 aa2:Value}(h:pU D j bB aH bO bP w):pU D j' Zq aaU aa6 aa2 (((((w.setCell ⟨D,0,none⟩ (.string j')).setCell ⟨D,1,none⟩ (.bool Zq)).setCell ⟨D,2,none⟩ aaU).setCell ⟨D,3,none⟩ aa6).setCell ⟨D,4,none⟩ aa2):=by
 unfold pU at h ⊢;simp[World.setCell,d_,h]
theorem pU.cell(h:pU D j bB aH bO bP W):W.cell? ⟨D,0,none⟩=some (.string j)∧W.cell? ⟨D,1,none⟩=some (.bool bB)∧W.cell? ⟨D,2,none⟩=some aH∧W.cell? ⟨D,3,none⟩=some bO∧W.cell? ⟨D,4,none⟩=some bP∧∀i,W.frozen? ⟨D,i,none⟩=false:=
 ⟨aJ _ _ 0 _ _ _ h,aJ _ _ 1 _ _ _ h,aJ _ _ 2 _ _ _ h,aJ _ _ 3 _ _ _ h,aJ _ _ 4 _ _ _ h,λi=>ng W D i _ _ h⟩
theorem uw(w:World)(D:Nat)(v0 v1 v2 v3 v4:Value):w.grownBy (((((w.setCell ⟨D,0,none⟩ v0).setCell ⟨D,1,none⟩ v1).setCell ⟨D,2,none⟩ v2).setCell ⟨D,3,none⟩ v3).setCell ⟨D,4,none⟩ v4) (some D):=
 ah (ah (ah (ah (ah (aC w (some D)) 0 v0) 1 v1) 2 v2) 3 v3) 4 v4
structure iH(b:Nat)(aF aO:List (Int×ByteArray))(aP:List Int)(aH bO bP:Value)(W:World):Prop where
 aH:W.ownsRow b 77 2 aH aF.length (uH aF)
 bO:W.ownsRow b 56 2 bO aO.length (uH aO)
 bP:W.ownsRow b 195 1 bP aP.length (Jj aP)
theorem iH.at(h:iH b aF aO aP aH bO bP W)(he:∀(k:Nat) (c:Array Value) (t:Nat),t∈([77,56,195]:List Nat)->W.heap[k]?=some (Obj.cells c t (0,0))->W'.heap[k]?=W.heap[k]?):iH b aF aO aP aH bO bP W':=by
 refine⟨bQ h.aH λk hk=> ?_,bQ h.bO λk hk=> ?_,bQ h.bP λk hk=> ?_⟩
 ·obtain⟨c,hc⟩:=aS h.aH hk;exact he k c 77 (by decide) hc
 ·obtain⟨c,hc⟩:=aS h.bO hk;exact he k c 56 (by decide) hc
 ·obtain⟨c,hc⟩:=aS h.bP hk;exact he k c 195 (by decide) hc
theorem iH.later(h:iH b aF aO aP aH bO bP W)(hb:Below W.heap.size W W'):iH b aF aO aP aH bO bP W':=h.at λk _ _ _ hk=>hb.block k (aG hk)
theorem iH.lower{b':Nat}(h:iH b aF aO aP aH bO bP W)(hb:b'<=b):iH b' aF aO aP aH bO bP W:=⟨ownsRow_base_a h.aH hb,ownsRow_base_a h.bO hb,ownsRow_base_a h.bP hb⟩
structure Bo(z:St)(b:Nat)(N:Nat)(g:bI)(aH bO bP:Value)(W:World):Prop where
 nn:Nn N g z [] W
 out:iH b z.aF z.aO z.aP aH bO bP W
 ge:∀k,Ft N g z k->b<=k
theorem Bo.set{z:St}{g:bI}(h:Bo z b N g aH bO bP W){c:Array Value}(hD:W.heap[D]?=some (.cells c 52 (0,0)))(hg:W.grownBy W' (some D)):Bo z b N g aH bO bP W':=by
 refine⟨h.nn.kept λk hk=>hg.block k (h.nn.lt hk) λe=> ?_,h.out.at λk c' t ht hk=>hg.block k (aG hk) λe=> ?_,h.ge⟩
 ·cases e;obtain⟨o,ho,hK⟩:=h.nn.kind hk;rw[hD]at ho;cases ho;exact hK.not (by decide)
 ·cases e;rw[hD]at hk;cases hk;exact absurd ht (by decide)
theorem Bo.later{z:St}{g:bI}(h:Bo z b N g aH bO bP W)(hb:Below W.heap.size W W'):Bo z b N g aH bO bP W':=⟨h.nn.later hb,h.out.later hb,h.ge⟩
def UX(z:St)(W1:World)(nv ov:Value)(W:World):Prop:=∃N g aH bO bP D,nv=.pointer (some ⟨N,0,none⟩)∧ov=.pointer (some ⟨D,0,none⟩)∧pU D z.bH z.bB aH bO bP W∧Bo z W1.heap.size N g aH bO bP W∧W1.heap.size<=D∧Below W1.heap.size W1 W
theorem Kk{z:St}{g:bI}(hb:Below W1.heap.size W1 w2)(h:Bo z W1.heap.size N g aH bO bP w2):UX z W1 (.pointer (some ⟨N,0,none⟩)) (.pointer (some ⟨w2.heap.size,0,none⟩)) (w2.alloc (.cells #[.string z.bH,.bool z.bB,aH,bO,bP] 52)):=
 ⟨N,g,aH,bO,bP,_,rfl,rfl,bV _ _,h.later (bC),hb.size,hb.alloc hb.size _⟩
theorem Uc{z:St}{g:bI}{j0:ByteArray}{r0:Bool}{f0 c0 d0:Value}(hb:Below W1.heap.size W1 w2)(h:Bo z W1.heap.size N g aH bO bP w2)(hD:Hid (pU W1.heap.size j0 r0 f0 c0 d0 w2)):UX z W1 (.pointer (some ⟨N,0,none⟩)) (.pointer (some ⟨W1.heap.size,0,none⟩)) (((((w2.setCell ⟨W1.heap.size,0,none⟩ (.string z.bH)).setCell ⟨W1.heap.size,1,none⟩ (.bool z.bB)).setCell ⟨W1.heap.size,2,none⟩ aH).setCell ⟨W1.heap.size,3,none⟩ bO).setCell ⟨W1.heap.size,4,none⟩ bP):=
 ⟨N,g,aH,bO,bP,_,rfl,rfl,hD.out.NC,h.set hD.out (uw _ _ _ _ _ _ _),aB _,uF hb (aB _) _ _ _ _ _⟩
theorem Lr(W:World):pU W.heap.size ⟨#[]⟩ false (.slice none 0 0) (.slice none 0 0) (.slice none 0 0) (W.alloc (.cells #[.string ⟨#[]⟩,.bool false,.slice none 0 0,.slice none 0 0,.slice none 0 0] 52)).drew:=bV W _
@[reducible] def IK(B : Nat)(a : Int)(jv : Value)(W0 W : World): Prop := (W.cell? ⟨B, 0, none⟩ = some (.int .u32 a) ∧ W.cell? ⟨B, 1, none⟩ = some jv) ∧ Below W0.heap.size W0 W
theorem IK.of(h:m_ x s W0)(hb:Below W0.heap.size W0 W):IK x.B s.addr x.jv W0 W:=⟨⟨(h.later hb).cell.1,(h.later hb).cell.2.1⟩,hb⟩
theorem IK.kF(hk:Hid (∀W5,Below W0.heap.size W0 W5->IK B a jv W0 W5))(h:Below W0.heap.size W0 W):IK B a jv W0 (W.alloc o):=hk.out _ (h.alloc h.size _)
theorem IK.eT(hk:Hid (∀W5,Below W0.heap.size W0 W5->IK B a jv W0 W5)):IK B a jv W0 (W0.alloc o).drew:=hk.out _ (bC).drew
theorem IK.R4{v0 v1 v2 v3 v4:Value}(hk:Hid (∀W5,Below W0.heap.size W0 W5->IK B a jv W0 W5))(h:Below W0.heap.size W0 W):IK B a jv W0 (((((W.setCell ⟨W0.heap.size,0,none⟩ v0).setCell ⟨W0.heap.size,1,none⟩ v1).setCell ⟨W0.heap.size,2,none⟩ v2).setCell ⟨W0.heap.size,3,none⟩ v3).setCell ⟨W0.heap.size,4,none⟩ v4):=hk.out _ (uF h (aB _) _ _ _ _ _)
structure FI(s:eB)(now:Int):Prop where
 addr:a_ s.addr
 a0:s.addr≠0
 jb:∀x∈s.bH,0<=x∧x<=255
 jl:s.bH.length<=50000
 few:Na (Go.Proofs.YtakaadcpaeiccabGreat.jl s.bH)
 now:0<=now∧now<=4611686018427387904
theorem Lg:∀(f:Nat) (xs:List Int),(JE f xs).length<=f
 |0,_=>aB _
 |f+1,xs=>by
  unfold JE;split
  ·have:=Lg f (xs.drop 13);simp only[dZ];omega
  ·simp
theorem ZT(xs:List Int):(jl xs).length<=xs.length:=Lg _ _
theorem ru(h:∀x∈xs,0<=x∧x<=255)(i:Nat):0<=xs.getD i 0∧xs.getD i 0<=255:=by
 rw[List.getD_eq_getElem?_getD];cases hi:xs[i]? with
 |none=>simp
 |some v=>exact h v (iV hi)
theorem QG:∀(f:Nat) (xs:List Int),(∀x∈xs,0<=x∧x<=255)->qg (JE f xs)
 |0,_,_=>λ_ h=>by cases h
 |f+1,xs,h=>by
  unfold JE;split
  ·intro x hx;rcases fE.1 hx with rfl|hx
   ·exact⟨uh (ru h _) (ru h _) (ru h _) (ru h _),uh (ru h _) (ru h _) (ru h _) (ru h _)⟩
   ·exact QG f (xs.drop 13) (λx hx=>h x (List.mem_of_mem_drop hx)) x hx
  ·intro x hx;cases hx
theorem R6(h:∀x∈xs,0<=x∧x<=255):qg (jl xs):=QG _ _ h
theorem Pp(h:m_ x s W1)(now:Int)(hs:FI s now):∀W5,Below W1.heap.size W1 W5->Calls Tryz.prog 19 #[.int .u32 s.addr,x.jv,.int .u64 now] W5 λe w'=>∃N g af kf ac kc ad kd,e=.returned (.tuple #[.pointer (some ⟨N,0,none⟩),.agg #[.string (St.new s.addr s.bH now).bH,.bool (St.new s.addr s.bH now).bB,.slice af (St.new s.addr s.bH now).aF.length kf,.slice ac (St.new s.addr s.bH now).aO.length kc,.slice ad (St.new s.addr s.bH now).aP.length kd],.int .i64 0])∧Below W1.heap.size W1 w'∧(∀j r f c d,pU W1.heap.size j r f c d W5->pU W1.heap.size j r f c d w')∧Bo (St.new s.addr s.bH now) W1.heap.size N g (.slice af (St.new s.addr s.bH now).aF.length kf) (.slice ac (St.new s.addr s.bH now).aO.length kc) (.slice ad (St.new s.addr s.bH now).aP.length kd) w':=by
 intro W5 hb;refine(PG s.addr now hs.addr hs.a0 x.jv s.bH W5 (qI (h.later hb).row hs.jb) (by have:=hs.jl;omega) (R6 hs.jb) hs.few (by have:=ZT s.bH;have:=hs.jl;omega) hs.now).mono ?_;rintro e w' ⟨N,g,aH,bO,bP,rfl,nn,r1,r2,r3,hb',hge⟩;have:=hb.size;obtain⟨af,kf,rfl,_⟩:=ax r1;obtain⟨ac,kc,rfl,_⟩:=ax r2;obtain⟨ad,kd,rfl,_⟩:=ax r3;exact⟨N,g,af,kf,ac,kc,ad,kd,rfl,hb.trans (hb'.mono hb.size),λj r f c d ho=>(hb'.block _ (aG (show W5.heap[W1.heap.size]?=_ from ho))).trans ho,nn,(⟨r1,r2,r3⟩:iH _ _ _ _ _ _ _ w').lower hb.size,λk hk=>by have:=hge k hk;omega⟩
theorem M4(h:m_ x s w)(hnd:s.nd=none)(now:Int)(hs:FI s now):Calls Tryz.prog 37 #[.pointer (some ⟨x.B,0,none⟩),.int .u64 now] w λe w'=>∃aH bO bP,e=.returned (jg (St.new s.addr s.bH now).bH (St.new s.addr s.bH now).bB aH bO bP)∧nG x s {s with nd:=some (St.new s.addr s.bH now)} w w'∧iH w.heap.size (St.new s.addr s.bH now).aF (St.new s.addr s.bH now).aO (St.new s.addr s.bH now).aP aH bO bP w':=by
 have hb0:Below w.heap.size w (w.alloc (.cells #[.string ⟨#[]⟩,.bool false,.slice none 0 0,.slice none 0 0,.slice none 0 0] 52)):=bC;have hC:=bV w (.cells #[.string ⟨#[]⟩,.bool false,.slice none 0 0,.slice none 0 0,.slice none 0 0] 52);have h1:=h.later hb0;have hQz:(St.new s.addr s.bH now).Q=[]:=by rw[St.uf,(aR _).Q];rfl
 have HN0:=hide (λW1 (h1:m_ x s W1)=>Pp h1 now hs);obtain⟨z,hz⟩:∃z,St.new s.addr s.bH now=z:=⟨_,rfl⟩;rw[hz]at hQz HN0 ⊢;clear hz;replace hQz:=hide hQz;go_enter Tryz.func37,Tryz.ntmps37;go_upto_region 1 with(fail);generalize World.alloc _ _=W1 at hb0 hC h1 ⊢;have HN:=hide (HN0.out W1 h1);clear HN0;have hkB:=(show Hid _ from λW5 (h5:Below W1.heap.size W1 W5)=>IK.of h1 h5);have hS:IK x.B s.addr x.jv W1 W1.drew:=hkB.out _ (aV _ _).drew;have hwC:w.heap.size<W1.heap.size:=aG hC;go_cut [5,6]from 9 to 21 (UX z W1)
 case first=>
  clear hs hnd h h1 hb0 hC;go_region_held3 (IK x.B s.addr x.jv W1) (first|with_reducible exact hS|with_reducible assumption|(with_reducible apply IK.R4 hkB;assumption)|(with_reducible apply IK.kF hkB;assumption)|(with_reducible apply IK.eT hkB)|(with_reducible apply hkB.out;assumption)) ((go_at_call 19;refine(HN.out _ (And.right (by assumption))).mono ?_;rintro e w2 ⟨N,g,af,kf,ac,kc,ad,kd,rfl,hb2,hpr,hnr⟩;try ((with_reducible have hD:=hpr _ _ _ _ _ (Lr W1));have hD':Hid (pU W1.heap.size ⟨#[]⟩ false (.slice none 0 0) (.slice none 0 0) (.slice none 0 0) w2):=hD;obtain⟨d0,d1,d2,d3,d4,dq⟩:=hD'.out.cell;have q0:=dq 0;have q1:=dq 1;have q2:=dq 2;have q3:=dq 3;have q4:=dq 4;clear hD dq);clear hpr))
  all_goals
   go_wp2_with fail;go_meet;first|with_reducible exact Kk hb2 hnr|with_reducible exact Uc hb2 hnr hD'
 case rest=>
  obtain⟨N,g,aH,bO,bP,D,rfl,rfl,hD,hnr,hDl,hb2⟩:=hcut;have hm2:=h1.later hb2;have OT:=(hb2.block _ hwC).trans hC;have f2:=hm2.cell.2.2.2.2.2.2 2;have c2:=hm2.cell.2.2.1;have hg:wc.grownBy (wc.setCell ⟨x.B,2,none⟩ (.pointer (some ⟨N,0,none⟩))) (some x.B):=ah (aC _ (some x.B)) 2 _;have hBl:=aG hm2.blk;have hBw:=aG h.blk;have Qb:w.heap.size≠x.B:=by omega
  have hDB:D≠x.B:=by have:=aG h1.blk;omega
  have hD3:pU D z.bH z.bB aH bO bP (wc.setCell ⟨x.B,2,none⟩ (.pointer (some ⟨N,0,none⟩))):=(hg.block D (aG hD) λe=>hDB (Option.some.inj e)).trans hD;have qj:pU w.heap.size ⟨#[]⟩ false (.slice none 0 0) (.slice none 0 0) (.slice none 0 0) (wc.setCell ⟨x.B,2,none⟩ (.pointer (some ⟨N,0,none⟩))):=(hg.block w.heap.size (aG OT) λe=>Qb (Option.some.inj e)).trans OT;have Oz:Bo z W1.heap.size N g aH bO bP (wc.setCell ⟨x.B,2,none⟩ (.pointer (some ⟨N,0,none⟩))):=
   ⟨hnr.nn.kept λk hk=>hg.block k (hnr.nn.lt hk) (λe=>by cases e;have:=hnr.ge _ hk;have:=aG h1.blk;omega),hnr.out.at λk c t ht hk=>hg.block k (aG hk) (λe=>by
    cases e;rw[hm2.blk]at hk;cases hk;exact absurd ht (by decide)),hnr.ge⟩
  have Xg:=zq (j:=2) (v:=.pointer (some ⟨N,0,none⟩)) hm2.blk;have hrow3:=hm2.row.kept hg (.inr (aL hm2.row hm2.blk (λc e=>(by cases e))));have hf3:Fx (lm x s) w (wc.setCell ⟨x.B,2,none⟩ (.pointer (some ⟨N,0,none⟩))):=aW (Fx.below (hb0.trans (hb2.mono hb0.size))) hg λi _ e=>by cases e;exact .inl rfl
  have hz3:=hb2.size;clear hnr hD OT hm2 hg h1 hs hC hkB hS HN;go_upto_region 3 with(fail);generalize World.setCell _ _ _=W3 at hD3 qj Oz Xg hrow3 hf3 ⊢;obtain⟨d0,d1,d2,d3,d4,_⟩:=hD3.cell;obtain⟨z0,z1,z2,z3,z4,zf⟩:=qj.cell;have y0:=zf 0;have y1:=zf 1;have y2:=zf 2;have y3:=zf 3;have y4:=zf 4;obtain⟨af,kf,rfl,_⟩:=ax Oz.out.aH;obtain⟨ac,kc,rfl,_⟩:=ax Oz.out.bO;obtain⟨ad,kd,rfl,_⟩:=ax Oz.out.bP;have iY:=uw W3 w.heap.size (.string z.bH) (.bool z.bB) (.slice af z.aF.length kf) (.slice ac z.aO.length kc) (.slice ad z.aP.length kd);have yt:=qj.NC (j':=z.bH) (Zq:=z.bB) (aaU:=.slice af z.aF.length kf) (aa6:=.slice ac z.aO.length kc) (aa2:=.slice ad z.aP.length kd);have hfin:nG x s {s with nd:=some z} w (((((W3.setCell ⟨w.heap.size,0,none⟩ (.string z.bH)).setCell ⟨w.heap.size,1,none⟩ (.bool z.bB)).setCell ⟨w.heap.size,2,none⟩ (.slice af z.aF.length kf)).setCell ⟨w.heap.size,3,none⟩ (.slice ac z.aO.length kc)).setCell ⟨w.heap.size,4,none⟩ (.slice ad z.aP.length kd))∧iH w.heap.size z.aF z.aO z.aP (.slice af z.aF.length kf) (.slice ac z.aO.length kc) (.slice ad z.aP.length kd) (((((W3.setCell ⟨w.heap.size,0,none⟩ (.string z.bH)).setCell ⟨w.heap.size,1,none⟩ (.bool z.bB)).setCell ⟨w.heap.size,2,none⟩ (.slice af z.aF.length kf)).setCell ⟨w.heap.size,3,none⟩ (.slice ac z.aO.length kc)).setCell ⟨w.heap.size,4,none⟩ (.slice ad z.aP.length kd)):=by
   have Xb:=Oz.set qj iY;have hsz:=iY.size;have afj:=aG qj;refine⟨⟨{x with N:=N,g:=g,TL:=[]},rfl,⟨?_,h.hl,?_,λu hu=> ?_⟩,aW hf3 iY λi hi e=>by cases e;omega,λk hk=> ?_⟩,Xb.out.lower (by omega)⟩
   ·exact(iY.block x.B (aG Xg) λe=>Qb (Option.some.inj e).symm).trans Xg
   ·exact hrow3.kept iY (.inr (aL hrow3 qj (λc e=>(by cases e))))
   ·cases hu;refine⟨Xb.nn,?_⟩;unfold dV;rw[hQz.out];exact List.Perm.refl _
   ·rcases hk with hk|hk|⟨u,hu,hk⟩
    ·exact .inl (.inl hk)
    ·exact .inl (.inr (.inl hk))
    ·cases hu;have h2:=Xb.ge k hk;have h3:=Xb.nn.lt hk;exact .inr ⟨by omega,h3⟩
  clear iY Oz qj hD3 hrow3 Xg hf3 zf;go_wp2_with fail;generalize World.setCell _ _ _=W7 at yt hfin ⊢;obtain⟨p0,p1,p2,p3,p4,_⟩:=yt.cell;exact bodyPost_ret (v:=.agg #[.string z.bH,.bool z.bB,.slice af z.aF.length kf,.slice ac z.aO.length kc,.slice ad z.aP.length kd]) (by simp[results,Tryz.results37,go_sem,p0,p1,p2,p3,p4]) rfl ⟨_,_,_,rfl,hfin.1,hfin.2⟩
end Go.Proofs.YtakaadcpaeiccabGreat
namespace Go.Proofs.YtakaadcpaeiccabGreat.DF
open Go.RowKit Go.Maps
variable{cap e m:Nat}
theorem kT{base g size:Nat}:∀(vs:List Value) (o:Nat) (xs:List Value) (W:World),W.ownsRow base e size (.slice (some ⟨g,0,none⟩) m cap) m xs->o+vs.length<=m * size->
  (W.setCells g o vs).ownsRow base e size (.slice (some ⟨g,0,none⟩) m cap) m (xs.take o++vs++xs.drop (o+vs.length))∧W.grownBy (W.setCells g o vs) (some g)
 | [],o,xs,W,h,_=>by
  simp only[World.setCells,fw,List.length_nil,Nat.add_zero,List.take_append_drop];exact⟨h,aC _ _⟩
 |v::r,o,xs,W,h,hl=>by
  simp only[dZ]at hl;have hx:xs.length=m * size:=h.1;obtain⟨h1,g1⟩:=h.stored o v;obtain⟨h2,g2⟩:=kT r (o+1) (xs.set o v) (W.setCell ⟨g,o,none⟩ v) h1 (by omega);refine⟨?_,⟨g2.os.trans g1.os,g2.tape.trans g1.tape,g2.output.trans g1.output,dN g1.size g2.size,λk hk hn=>(g2.block k (fZ hk g1.size) hn).trans (g1.block k hk hn)⟩⟩;have e1:(xs.set o v).take (o+1)=xs.take o++ [v]:=by
   rw[List.take_succ_eq_append_getElem (by simp;omega),List.take_set_of_le (aB o)];simp
  have e2:(xs.set o v).drop (o+1+r.length)=xs.drop (o+(r.length+1)):=by
   rw[List.drop_set_of_lt (by omega),show o+1+r.length=o+(r.length+1)by omega]
  rw[e1,e2]at h2;show((W.setCell ⟨g,o,none⟩ v).setCells g (o+1) r).ownsRow _ _ _ _ _ _;simpa using h2
theorem wR{base g n size:Nat}{W:World}{xs:List Value}(h:W.ownsRow base e size (.slice (some ⟨g,0,none⟩) n cap) n xs)(hm:m<=n):
  W.ownsRow base e size (.slice (some ⟨g,0,none⟩) m cap) m (xs.take (m * size)):=by
 rcases h.2 with⟨he,_⟩|⟨g',cap',cur,he,hb,hg,h1,h2,h3,h4⟩
 ·cases he
 ·cases he;have hx:=h.1;have hms:m * size<=n * size:=Nat.mul_le_mul_right _ hm;refine⟨by rw[List.length_take,hx];omega,.inr ⟨g,cap,cur,rfl,hb,hg,by omega,h2,h3,?_⟩⟩;rw[<-h4,List.take_take,Nat.min_eq_left hms]
theorem DU(a:Option Addr)(n c k:Nat)(hk:k<=c)(W:World):(Instr.slice 45 (.slice a n c) none (some (.int .i64 k)) none).run Tryz.prog W=.ok (.slice a k c) W:=by
 have ht:Tryz.prog.underlying 45=some (.slice (Tryz.prog.elem 45)):=by simp[Program.elem,Tryz.underlying45]
 have hz:∀w,(Go.sizeOf (Tryz.prog.elem 45)).run Tryz.prog w=.ok 3 w:=by
  intro w;simp[go_sem,Program.elem,Tryz.underlying45]
 rw[run_slice_h W 45 _ _ _ ht .i64 _ (by omega) (by omega),hz];simp only[Result.andThen,sliced];rw[Nat.sub_zero,Nat.sub_zero,iU];cases a<;>(split<;>simp[Addr.add])
theorem DT(g n c k:Nat)(hk:k<=n):∃ad:Addr,(∀W,(Instr.slice 45 (.slice (some ⟨g,0,none⟩) n c) (some (.int .i64 k)) none none).run Tryz.prog W=.ok (.slice (some ad) (n - k) (c - k)) W)∧(k<c->ad=⟨g,k * 3,none⟩):=by
 have ht:Tryz.prog.underlying 45=some (.slice (Tryz.prog.elem 45)):=by simp[Program.elem,Tryz.underlying45]
 have hz:∀w,(Go.sizeOf (Tryz.prog.elem 45)).run Tryz.prog w=.ok 3 w:=by
  intro w;simp[go_sem,Program.elem,Tryz.underlying45]
 refine⟨if c=k then⟨g,0,none⟩else⟨g,k * 3,none⟩,λW=> ?_,λh=>by rw[ay (by omega)]⟩;rw[run_slice_l W 45 _ _ _ ht .i64 _ (by omega) (by omega),hz];simp only[Result.andThen,sliced];rw[iU];split<;>simp[Addr.add_lit]
theorem zN(g n c k m:Nat)(hk:k<m)(hm:m<=c)(W:World):(Instr.slice 45 (.slice (some ⟨g,0,none⟩) n c) (some (.int .i64 k)) (some (.int .i64 m)) none).run Tryz.prog W=.ok (.slice (some ⟨g,k * 3,none⟩) (m - k) (c - k)) W:=by
 have ht:Tryz.prog.underlying 45=some (.slice (Tryz.prog.elem 45)):=by simp[Program.elem,Tryz.underlying45]
 have hz:∀w,(Go.sizeOf (Tryz.prog.elem 45)).run Tryz.prog w=.ok 3 w:=by
  intro w;simp[go_sem,Program.elem,Tryz.underlying45]
 rw[run_slice_lh W 45 _ _ _ ht .i64 .i64 _ _ (by omega) (by omega) (by omega),hz];simp only[Result.andThen,sliced];rw[iU,iU,ay (by omega)];simp[Addr.add_lit]
theorem wM(a:Option Addr)(n c k m l:Nat)(hk:k<=m)(hm:m<=l)(hl:l<=c):∃v,∀W,(Instr.slice 45 (.slice a n c) (some (.int .i64 k)) (some (.int .i64 m)) (some (.int .i64 l))).run Tryz.prog W=.ok v W:=by
 have ht:Tryz.prog.underlying 45=some (.slice (Tryz.prog.elem 45)):=by simp[Program.elem,Tryz.underlying45]
 have hz:∀w,(Go.sizeOf (Tryz.prog.elem 45)).run Tryz.prog w=.ok 3 w:=by
  intro w;simp[go_sem,Program.elem,Tryz.underlying45]
 refine⟨sliced a k m l 3,λW=> ?_⟩;rw[run_slice_lhm W 45 _ _ _ ht .i64 .i64 .i64 _ _ _ (by omega) (by omega) (by omega) (by omega),hz];simp only[Result.andThen,iU]
theorem tX(w:World)(ty:TypeId)(b o c:Nat)(hc:∀j,j<3->(w.cell? ⟨b,o+j,none⟩).isSome=true)(hf:∀j,j<3->w.frozen? ⟨b,o+j,none⟩=false):
  (Builtin.clear_ #[45] ty #[.slice (some ⟨b,o,none⟩) 1 c]).run Tryz.prog w=.ok (.tuple #[]) (w.setCells b o ([.int .i64 0,.int .i64 0,.string ⟨#[]⟩]:List Value)):=by
 have hzc:(Builtin.zeroCells (.agg #[.int .i64 0,.int .i64 0,.string ⟨#[]⟩]:Value).cells 1).toList=([.int .i64 0,.int .i64 0,.string ⟨#[]⟩]:List Value):=by kernel_rfl
 have hst:=run_storeCells_cells (P:=Tryz.prog) b o ([.int .i64 0,.int .i64 0,.string ⟨#[]⟩]:List Value) 0 w (by simpa using hc) (by simpa using hf) (by intro v hv;simp at hv;rcases hv with rfl|rfl<;>rfl);simp only[Nat.add_zero]at hst;simp[Builtin.clear_,run_underlying Tryz.underlying45,hzc,hst]
theorem JU:(Tryz.prog.info? 149).map (λi=>(i.zero,i.size,i.bytes))=some (some (.agg #[.int .i64 0,.int .i64 0,.string ⟨#[]⟩]),3,32):=by kernel_rfl
theorem uJ(base g n cap i:Nat)(xs:List Value)(w:World)(h:w.ownsRow base 149 3 (.slice (some ⟨g,0,none⟩) n cap) n xs)(hi:i<n)(hn:n<=1000000)(h1c:∀u∈xs,u.oneCell'=true):
  Calls Tryz.prog 99 #[.slice (some ⟨g,0,none⟩) n cap,.int .i64 i,.int .i64 ((i:Int)+1)] w λe w'=>e=.returned (.slice (some ⟨g,0,none⟩) (n - 1) cap)∧w'.ownsRow base 149 3 (.slice (some ⟨g,0,none⟩) (n - 1) cap) (n - 1) (xs.take (i * 3)++xs.drop ((i+1)* 3))∧w.grownBy w' (some g):=by
 obtain⟨i0,hii,hz0,hz1,hz2⟩:=info_parts JU;have hcap:n<=cap:=by
  rcases h.2 with⟨he,_⟩|⟨g',cap',cur,he,hb,hg,h1,h2,h3,h4⟩
  ·cases he
  ·cases he;exact h1
 have hx:=h.1;obtain⟨v13,Z_⟩:=wM (some ⟨g,0,none⟩) n cap i (i+1) n (by omega) (by omega) hcap;have adU:=DU (some ⟨g,0,none⟩) n cap i (by omega);obtain⟨ad,Z9,had⟩:=DT g n cap (i+1) (by omega);have hd:w.drew.ownsRow base 149 3 (.slice (some ⟨g,0,none⟩) n cap) n xs:=h;have hnl:(xs.drop ((i+1)* 3)).length=(n - (i+1))* 3:=by
  rw[List.length_drop,hx,Nat.sub_mul]
 have hcell:∀ {W:World} {ys:List Value},W.ownsRow base 149 3 (.slice (some ⟨g,0,none⟩) n cap) n ys->∀j,j<n * 3->(W.cell? ⟨g,j,none⟩).isSome=true:=λhW j hj=>by
  rw[hW.cellAt j hj,bS (by rw[hW.1];exact hj)];rfl
 have hjl:∀j,j<(n - (i+1))* 3->(i+1)* 3+j<n * 3∧i * 3+j<n * 3:=λj hj=>by
  rw[Nat.sub_mul]at hj;have:(i+1)* 3<=n * 3:=Nat.mul_le_mul_right _ (by omega);rw[Nat.add_mul]at hj this ⊢;try omega
 have hcA:Hid (∀j u,(xs.drop ((i+1)* 3))[j]?=some u->w.drew.cell? (ad.add j)=some u):=λj u hj=>by
  have hl:=(fO.1 hj).1;rw[hnl]at hl;rw[had (by omega),Addr.add_lit];rw[List.getElem?_drop]at hj;exact(hd.cellAt _ (hjl j hl).1).trans hj
 have Z7:Hid (∀j,j<(xs.drop ((i+1)* 3)).length->(w.drew.cell? ⟨g,0+i * 3+j,none⟩).isSome=true∧w.drew.frozen? ⟨g,0+i * 3+j,none⟩=false):=λj hj=>by
  rw[hnl]at hj;rw[Nat.zero_add];exact⟨hcell hd _ (hjl j hj).2,hd.frozenAt _⟩
 have hE1:Hid (i+(n - (i+1))=n - 1):=by show _=_;omega
 have hE2:Hid (0+i * 3=i * 3):=Nat.zero_add _;have aai:=(show Hid _ from hnl);have aaO:Hid (∀u∈xs.drop ((i+1)* 3),u.oneCell'=true):=λu hu=>h1c u (List.mem_of_mem_drop hu);obtain⟨h1,g1⟩:=kT (xs.drop ((i+1)* 3)) (i * 3) xs _ hd (by
  rw[hnl,<-Nat.add_mul];exact Nat.mul_le_mul_right _ (by omega))
 have Sw:=zN g (n - 1) cap (n - 1) n (by omega) hcap;rw[show n - (n - 1)=1 by omega]at Sw;have hlast:(n - 1)* 3+3=n * 3:=by
  rw[<-Nat.succ_mul,show(n - 1).succ=n by omega]
 have hcl:∀ty,(Builtin.clear_ #[45] ty #[.slice (some ⟨g,(n - 1)* 3,none⟩) 1 (cap - (n - 1))]).run Tryz.prog (w.drew.setCells g (i * 3) (xs.drop ((i+1)* 3)))=.ok (.tuple #[]) ((w.drew.setCells g (i * 3) (xs.drop ((i+1)* 3))).setCells g ((n - 1)* 3) ([.int .i64 0,.int .i64 0,.string ⟨#[]⟩]:List Value)):=λty=>
  tX _ ty g _ _ (λj hj=>hcell h1 _ (by omega)) (λj hj=>h1.frozenAt _)
 obtain⟨h2,g2⟩:=kT ([.int .i64 0,.int .i64 0,.string ⟨#[]⟩]:List Value) ((n - 1)* 3) _ _ h1 (by simp only[dZ,List.length_nil];omega);have h3:=wR h2 (m:=n - 1) (by omega);have hgg:w.grownBy ((w.drew.setCells g (i * 3) (xs.drop ((i+1)* 3))).setCells g ((n - 1)* 3) ([.int .i64 0,.int .i64 0,.string ⟨#[]⟩]:List Value)) (some g):=⟨g2.os.trans g1.os,g2.tape.trans g1.tape,g2.output.trans g1.output,dN g1.size g2.size,λk hk hn=>(g2.block k (fZ hk g1.size) hn).trans (g1.block k hk hn)⟩;have jV:((xs.take (i * 3)++xs.drop ((i+1)* 3)++xs.drop (i * 3+(xs.drop ((i+1)* 3)).length)).take ((n - 1)* 3)++([.int .i64 0,.int .i64 0,.string ⟨#[]⟩]:List Value)++(xs.take (i * 3)++xs.drop ((i+1)* 3)++xs.drop (i * 3+(xs.drop ((i+1)* 3)).length)).drop ((n - 1)* 3+([.int .i64 0,.int .i64 0,.string ⟨#[]⟩]:List Value).length)).take ((n - 1)* 3)=xs.take (i * 3)++xs.drop ((i+1)* 3):=by
  have hl:(xs.take (i * 3)++xs.drop ((i+1)* 3)).length=(n - 1)* 3:=by
   have:i * 3<=n * 3:=Nat.mul_le_mul_right _ (by omega);rw[bU,hnl,List.length_take,hx,Nat.min_eq_left this,<-Nat.add_mul]
   congr 1
   all_goals omega
  rw[List.take_left' hl,List.append_assoc,List.take_left' hl]
 rw[jV]at h3;clear h1 g1 h2 g2 hcell hd h hnl hlast hx had h1c hjl;have hfin:=(show Hid _ from And.intro h3 hgg);clear h3 hgg jV;have hne:((i:Int)==(i:Int)+1)=false:=by
  have:¬((i:Int)=(i:Int)+1):=by omega
  simpa using this
 rw[show((i+1:Nat):Int)=(i:Int)+1 from rfl]at Z_ Z9;try simp only[Nat.mul_one]at hcl Sw hfin
 go_enter Tryz.func99,Tryz.ntmps99;go_wp2_with fail;go_region_law (refine step_append_room rfl (.tmp 22) (.tmp 25) 45 rfl 149 i0 3 Tryz.underlying45 hii hz1 g 0 i cap rfl ad (n - (i+1)) (cap - (i+1)) (xs.drop ((i+1)* 3)) rfl aai.out hcA.out aaO.out (by omega) Z7.out ?_;rw[hE1.out,hE2.out])
 all_goals
  generalize (w.drew.setCells g (i * 3) (xs.drop ((i+1)* 3)))=X at hcl hfin ⊢;go_wp2;go_returns;exact⟨rfl,hfin.out⟩
end Go.Proofs.YtakaadcpaeiccabGreat.DF
