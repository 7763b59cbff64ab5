import Derived.Test.YtakaadcpaeiccabGreatO19
set_option maxHeartbeats 8000000
set_option maxRecDepth 100000
namespace Go.Proofs.YtakaadcpaeiccabGreat
open Go.RowKit Go.Maps
variable{y y':MG}{m m':aP}{W w w' w1:World}
theorem uO(a b:List (Nat×Nat×ByteArray)):o5 (a++b)=o5 a++o5 b:=by simp[o5]
theorem Cs(L:List (Nat×Nat×ByteArray)):(o5 L).length=L.length * 3:=rM (λf:Nat×Nat×ByteArray=>([Value.int .i64 f.1,.int .i64 f.2.1,.string f.2.2]:List Value)) 3 (λ_=>rfl) L
theorem SH(L:List (Nat×Nat×ByteArray)):∀u∈o5 L,u.oneCell'=true:=by
 intro u hu;obtain⟨x,_,hx⟩:=List.mem_flatMap.1 hu;simp only[eF,List.not_mem_nil,or_false]at hx;rcases hx with rfl|rfl|rfl<;>rfl
theorem Gp{L:List (Nat×Nat×ByteArray)}{k:Nat}{x:Nat×Nat×ByteArray}(h:L[k]?=some x):(o5 L)[k * 3]?=some (.int .i64 x.1)∧(o5 L)[k * 3+1]?=some (.int .i64 x.2.1)∧(o5 L)[k * 3+2]?=some (.string x.2.2):=by
 have hf:=λi hi=>jk (λf:Nat×Nat×ByteArray=>([Value.int .i64 f.1,.int .i64 f.2.1,.string f.2.2]:List Value)) 3 (by decide) (λ_=>rfl) L k i hi h;exact⟨hf 0 (by decide),hf 1 (by decide),hf 2 (by decide)⟩
theorem JP(L:List (Nat×Nat×ByteArray))(k:Nat):o5 (L.take k)=(o5 L).take (k * 3):=by
 induction L generalizing k with
 |nil=>simp[o5]
 |cons a L ih=>
  cases k with
  |zero=>simp[o5]
  |succ k=>
   rw[List.take_succ_cons];show [_,_,_]++o5 (L.take k)=(([_,_,_]:List Value)++o5 L).take ((k+1)* 3);rw[ih,show(k+1)* 3=k * 3+1+1+1 by omega];rfl
theorem VQ(L:List (Nat×Nat×ByteArray))(k:Nat):o5 (L.drop k)=(o5 L).drop (k * 3):=by
 have h:=uO (L.take k) (L.drop k);rw[List.take_append_drop,JP]at h;by_cases hk:k<=L.length
 ·have hl:((o5 L).take (k * 3)).length=k * 3:=by rw[List.length_take,Cs];omega
  have h2:(o5 L).drop (k * 3)=((o5 L).take (k * 3)++o5 (L.drop k)).drop (k * 3):=by rw[<-h]
  rw[h2,List.drop_append,hl,Nat.sub_self,List.drop_zero,(List.drop_eq_nil_of_le (by omega):((o5 L).take (k * 3)).drop (k * 3)=[]),List.nil_append]
 ·rw[List.drop_eq_nil_of_le (by omega),List.drop_eq_nil_of_le (by rw[Cs];omega)];rfl
theorem MM.fly(h:MM y m W){v7:Value}{w7:World}{F:List (Nat×Nat×ByteArray)}(ho:w7.ownsRow 0 149 3 v7 F.length (o5 F))(hg:W.grownBy w7 y.av.ownBlock)(hv:v7.ownBlock=y.av.ownBlock∨v7.ownBlock=some W.heap.size):
  (w7.cell? ⟨y.G,2,none⟩=some y.av∧w7.frozen? ⟨y.G,2,none⟩=false)∧MM {y with av:=v7} {m with bD:=F} (w7.setCell ⟨y.G,2,none⟩ v7)∧MU y m {y with av:=v7} {m with bD:=F} W (w7.setCell ⟨y.G,2,none⟩ v7):=by
 have hne:y.av.ownBlock≠some y.G:=aJ h.bD h.blk (λc e=>(by cases e));have hblk:=hg.block _ (aD h.blk) λe=>hne e.symm;obtain⟨_,_,c2,fz⟩:=h.cell;have JX:=hblk.trans h.blk;have hg2:w7.grownBy (w7.setCell ⟨y.G,2,none⟩ v7) (some y.G):=ah (aB _ (some y.G)) 2 _;have hsz:=hg.size;have hkeep:∀k,k<W.heap.size->k≠y.G->y.av.ownBlock≠some k->(w7.setCell ⟨y.G,2,none⟩ v7).heap[k]?=W.heap[k]?:=λk hk h1 h2=>(hg2.block k (by omega) λe=>h1 (Option.some.inj e)).trans (hg.block k hk λe=>h2 e.symm);have hf:Fx (uR y m) W (w7.setCell ⟨y.G,2,none⟩ v7):=aV (Fx.grown hg λk e=> .inr (.inr (.inl e))) hg2 λi _ e=>by cases e;exact .inl rfl
 refine⟨⟨(World.cell?_of_block (a:=⟨y.G,2,none⟩) hblk).trans c2,(World.frozen?_of_block (a:=⟨y.G,2,none⟩) hblk).trans (fz 2)⟩,⟨?_,?_,ho.kept hg2 (.inr (aJ ho JX (λc e=>(by cases e)))),h.len,λi x s h1 h2=>(h.st i x s h1 h2).kept λk hk=> ?_,h.ap⟩,hf,λk hk=> ?_,rfl,rfl,rfl,rfl⟩
 ·simp[World.setCell,d_,JX]
 ·refine bP h.Ak λk hk=>hkeep k (h.Ak.lt k hk).2 (λe=> ?_) λe=> ?_
  ·subst e;exact aJ h.Ak h.blk (λc e=>(by cases e)) hk
  ·rcases bX h.Ak h.bD (by decide)with q|q
   ·rw[q]at hk;cases hk
   ·exact q (hk.trans e.symm)
 ·obtain⟨q1,_,q3⟩:=h.own h1 h2 hk;exact hkeep k ((h.st i x s h1 h2).lt hk) q1 q3
 ·rcases hk with hk|hk|hk|hk
  ·exact .inl (.inl hk)
  ·exact .inl (.inr (.inl hk))
  ·rcases hv with e|e
   ·exact .inl (.inr (.inr (.inl (by rw[<-e];exact hk))))
   ·have h1:=(ho.lt k hk).2;rw[show({y with av:=v7}:MG).av=v7 from rfl,e]at hk;cases hk;exact .inr ⟨aA _,by simpa using h1⟩
  ·exact .inl (.inr (.inr (.inr hk)))
theorem MM.drew(h:MM y m W):MM y m W.drew:=h.kept λ_ _=>rfl
theorem MU.pre(hb:Below w.heap.size w w1)(h:MU y m y' m' w1 w'):MU y m y' m' w w':=(MU.below hb).trans h
theorem MU.post(h:MU y m y' m' w w1)(hb:Below w1.heap.size w1 w'):MU y m y' m' w w':=h.trans (MU.below hb)
def MP(y:MG)(m m':aP)(w w':World):Prop:=∃y',MM y' m' w'∧MU y m y' m' w w'
theorem MP.pre(hb:Below w.heap.size w w1)(h:MP y m m' w1 w'):MP y m m' w w':=by
 obtain⟨y',h1,h2⟩:=h;exact⟨y',h1,h2.pre hb⟩
theorem MP.post(h:MP y m m' w w1)(hb:Below w1.heap.size w1 w'):MP y m m' w w':=by
 obtain⟨y',h1,h2⟩:=h;exact⟨y',h1.later hb,h2.post hb⟩
theorem MP.refl(h:MM y m w):MP y m m w w:=⟨y,h,MU.refl _ _ _⟩
theorem MP.comp{y1:MG}{m1:aP}(u:MU y m y1 m1 w w1)(h:MP y1 m1 m' w1 w'):MP y m m' w w':=by
 obtain⟨y',h1,h2⟩:=h;exact⟨y',h1,u.trans h2⟩
theorem X_:(Tryz.prog.info? 149).map (λi=>(i.zero,i.size,i.bytes))=some (some (.agg #[.int .i64 0,.int .i64 0,.string ⟨#[]⟩]),3,32):=by kernel_rfl
theorem Va(W:World)(a b:Nat)(s:ByteArray):∀(j:Nat) (u:Value),(o5 [(a,b,s)])[j]?=some u->(W.alloc (.cells #[.int .i64 a,.int .i64 b,.string s] 149)).drew.cell? ((⟨W.heap.size,0,none⟩:Addr).add j)=some u:=by
 intro j u hj;have hh:=bS W (.cells #[.int .i64 a,.int .i64 b,.string s] 149);have hadd:(⟨W.heap.size,0,none⟩:Addr).add j=⟨W.heap.size,0+j,none⟩:=by unfold Addr.add;split<;>simp_all
 rw[hadd,Nat.zero_add];have hh':(W.alloc (.cells #[.int .i64 a,.int .i64 b,.string s] 149)).drew.heap[W.heap.size]?=some (.cells #[.int .i64 a,.int .i64 b,.string s] 149):=hh
 match j,hj with
 |0,hj=>exact(aF _ _ 0 _ _ _ hh').trans hj
 |1,hj=>exact(aF _ _ 1 _ _ _ hh').trans hj
 |2,hj=>exact(aF _ _ 2 _ _ _ hh').trans hj
 |j+3,hj=>simp[o5]at hj
def flV(f:Nat×Nat×ByteArray):Value:=.agg #[.int .i64 f.1,.int .i64 f.2.1,.string f.2.2]
theorem LV(h:MM y m w)(i:Nat)(hi:i<m.bD.length)(hl:m.bD.length<=1000)(f:Nat×Nat×ByteArray)(hf:m.bD[i]?=some f):Calls Tryz.prog 63 #[.pointer (some ⟨y.G,0,none⟩),.int .i64 i] w λe w'=>e=.returned (flV f)∧MP y m {m with bD:=m.bD.eraseIdx i} w w':=by
 have hb0:Below w.heap.size w (w.alloc (.cells #[.int .i64 0,.int .i64 0,.string ⟨#[]⟩] 149)):=bC;have hC:=bS w (.cells #[.int .i64 0,.int .i64 0,.string ⟨#[]⟩] 149);have h1:=h.later hb0;obtain⟨g,cap,Cz,_⟩:=bY h.bD (by omega);have hgl:g<w.heap.size:=(h.bD.lt g (by rw[Cz];rfl)).2;have hlt:=λk (hk:uR y m k)=>h.lt hk;obtain⟨a,b,s⟩:=f;obtain⟨q0,q1,q2⟩:=Gp hf;dsimp only at q0 q1 q2;have hil:(i:Int)<(m.bD.length:Int):=by omega
 have hiw:wrap64 ((i:Int)+1)=(i:Int)+1:=by unfold wrap64;omega
 have hFl:o5 (m.bD.eraseIdx i)=(o5 m.bD).take (i * 3)++(o5 m.bD).drop ((i+1)* 3):=by
  rw[List.eraseIdx_eq_take_drop_succ,uO,JP,VQ]
 have hln:(m.bD.eraseIdx i).length=m.bD.length - 1:=by rw[List.length_eraseIdx,aM hi]
 unfold flV;dsimp only;clear h;go_enter Tryz.func63,Tryz.ntmps63;go_upto_region 1 with(fail);generalize World.alloc _ _=W1 at hb0 hC h1 ⊢;have hr1:=h1.bD;rw[Cz]at hr1;have c2:=h1.cell.2.2.1;rw[Cz]at c2;have d0:=(hr1.cellAt (i * 3) (by omega)).trans q0;have d1:=(hr1.cellAt (i * 3+1) (by omega)).trans q1;have d2:=(hr1.cellAt (i * 3+2) (by omega)).trans q2;have hb1:Below W1.heap.size W1 (W1.alloc (.cells #[.int .i64 a,.int .i64 b,.string s] 149)):=bC;have hD:=bS W1 (.cells #[.int .i64 a,.int .i64 b,.string s] 149);have h2:=h1.later hb1;have hC2:=(hb1.block _ (aD hC)).trans hC;have hb2:=hb0.trans (hb1.mono hb0.size);have UF:=aD hC;clear h1 hr1 hb0 hb1 hC q0 q1 q2;go_upto_region 2 with(fail);generalize World.alloc _ _=W2 at hD h2 hC2 hb2 ⊢;generalize W1.heap.size=D at hD UF ⊢;clear c2 d0 d1 d2;have hr2:=h2.bD;have c2:=h2.cell.2.2.1;have f2:=h2.cell.2.2.2 2;have HX:=hide (DF.uP 0 g m.bD.length cap i (o5 m.bD) W2 (by rw[<-Cz];exact hr2) hi (by omega) (SH _));have HF:Hid (∀w7:World,w7.ownsRow 0 149 3 (.slice (some ⟨g,0,none⟩) (m.bD.length - 1) cap) (m.bD.length - 1) ((o5 m.bD).take (i * 3)++(o5 m.bD).drop ((i+1)* 3))->W2.grownBy w7 (some g)->(w7.cell? ⟨y.G,2,none⟩=some y.av∧w7.frozen? ⟨y.G,2,none⟩=false)∧(∃y',MM y' {m with bD:=m.bD.eraseIdx i} (w7.setCell ⟨y.G,2,none⟩ (.slice (some ⟨g,0,none⟩) (m.bD.length - 1) cap))∧MU y m y' {m with bD:=m.bD.eraseIdx i} w (w7.setCell ⟨y.G,2,none⟩ (.slice (some ⟨g,0,none⟩) (m.bD.length - 1) cap))∧∀k,uR y' {m with bD:=m.bD.eraseIdx i} k->k<w.heap.size)∧(w7.setCell ⟨y.G,2,none⟩ (.slice (some ⟨g,0,none⟩) (m.bD.length - 1) cap)).heap[w.heap.size]?=some (.cells #[.int .i64 0,.int .i64 0,.string ⟨#[]⟩] 149)∧(w7.setCell ⟨y.G,2,none⟩ (.slice (some ⟨g,0,none⟩) (m.bD.length - 1) cap)).heap[D]?=some (.cells #[.int .i64 a,.int .i64 b,.string s] 149)):=by
  intro w7 ho hg;rw[<-hFl,<-hln]at ho;obtain⟨k1,k2,k3⟩:=h2.fly ho (by rw[Cz];exact hg) (by rw[Cz];exact .inl rfl);have hsz:=hg.size;have hgG:w7.grownBy (w7.setCell ⟨y.G,2,none⟩ (.slice (some ⟨g,0,none⟩) (m.bD.eraseIdx i).length cap)) (some y.G):=ah (aB _ (some y.G)) 2 _;have hwG:W2.heap[y.G]?=_:=h2.blk;have hxg:∀k,k<W2.heap.size->k≠y.G->k≠g->(w7.setCell ⟨y.G,2,none⟩ (.slice (some ⟨g,0,none⟩) (m.bD.eraseIdx i).length cap)).heap[k]?=W2.heap[k]?:=λk hk e1 e2=>(hgG.block k (fP hk hsz) λe=>e1 (Option.some.inj e)).trans (hg.block k hk λe=>e2 (Option.some.inj e));rw[hln]at k2 k3 hxg;refine⟨k1,⟨_,k2,k3.pre hb2,λk hk=> ?_⟩,(hxg _ (aD hC2) (λe=> ?_) λe=> ?_).trans hC2,(hxg _ (aD hD) (λe=> ?_) λe=> ?_).trans hD⟩
  ·rcases hk with hk|hk|hk|hk
   ·exact hlt k (.inl hk)
   ·exact hlt k (.inr (.inl hk))
   ·cases hk;exact hgl
   ·exact hlt k (.inr (.inr (.inr hk)))
  ·rw[e,h2.blk]at hC2;cases hC2
  ·omega
  ·rw[e,h2.blk]at hD;cases hD
  ·omega
 clear h2 hr2 hFl hln hC2 hD;rw[Cz]at c2;go_wp2_with fail;refine aT HX.out ?_;rintro e w7 ⟨rfl,iw,gV⟩;obtain⟨⟨g1,g2⟩,hm,Qc,hDw⟩:=HF.out _ iw gV;rw[Cz]at g1;have z0:=aF _ _ 0 _ _ _ Qc;have z1:=aF _ _ 1 _ _ _ Qc;have z2:=aF _ _ 2 _ _ _ Qc;have y0:=lX _ w.heap.size 0 _ _ Qc;have y1:=lX _ w.heap.size 1 _ _ Qc;have y2:=lX _ w.heap.size 2 _ _ Qc;have u0:=aF _ _ 0 _ _ _ hDw;have u1:=aF _ _ 1 _ _ _ hDw;have u2:=aF _ _ 2 _ _ _ hDw;clear HX HF iw gV c2;go_upto_region 3 with(fail);generalize World.setCell _ _ _=W3 at hm Qc hDw z0 z1 z2 y0 y1 y2 u0 u1 u2 ⊢;simp at z0 z1 z2 u0 u1 u2;have gK:(((W3.setCell ⟨w.heap.size,0,none⟩ (.int .i64 a)).setCell ⟨w.heap.size,1,none⟩ (.int .i64 b)).setCell ⟨w.heap.size,2,none⟩ (.string s)).heap[w.heap.size]?=some (.cells #[.int .i64 a,.int .i64 b,.string s] 149):=by
  simp[World.setCell,d_,Qc]
 have iU:W3.grownBy (((W3.setCell ⟨w.heap.size,0,none⟩ (.int .i64 a)).setCell ⟨w.heap.size,1,none⟩ (.int .i64 b)).setCell ⟨w.heap.size,2,none⟩ (.string s)) (some w.heap.size):=ah (ah (ah (aB W3 (some w.heap.size)) 0 _) 1 _) 2 _;have hm7:MP y m {m with bD:=m.bD.eraseIdx i} w (((W3.setCell ⟨w.heap.size,0,none⟩ (.int .i64 a)).setCell ⟨w.heap.size,1,none⟩ (.int .i64 b)).setCell ⟨w.heap.size,2,none⟩ (.string s)):=by
  obtain⟨y',k1,k2,k3⟩:=hm;have hno:∀k,uR y' {m with bD:=m.bD.eraseIdx i} k->some k≠some w.heap.size:=λk hk e=>by
   cases e;have:=k3 _ hk;omega
  refine⟨y',k1.kept λk hk=>iU.block k (k1.lt hk) (hno k hk),⟨aV k2.fx iU (λj hj e=>by cases e;omega),λk hk=>(k2.sub k hk).imp_right λh=>⟨h.1,fP h.2 iU.size⟩,k2.G,k2.n,k2.sv,k2.B⟩⟩
 clear hm Qc hDw iU;go_wp2_with fail;generalize World.setCell _ _ _=W7 at gK hm7 ⊢;have p0:W7.cell? ⟨w.heap.size,0,none⟩=some (.int .i64 a):=aF _ _ 0 _ _ _ gK;have p1:W7.cell? ⟨w.heap.size,1,none⟩=some (.int .i64 b):=aF _ _ 1 _ _ _ gK;have p2:W7.cell? ⟨w.heap.size,2,none⟩=some (.string s):=aF _ _ 2 _ _ _ gK;exact bodyPost_ret (v:=.agg #[.int .i64 a,.int .i64 b,.string s]) (by simp[results,Tryz.results63,go_sem,p0,p1,p2]) rfl ⟨rfl,hm7⟩
theorem JN(h:MM y m w)(hl:m.bD.length<=500)(f:Nat×Nat×ByteArray):Calls Tryz.prog 64 #[.pointer (some ⟨y.G,0,none⟩),flV f] w λe w'=>e=.returned (.tuple #[])∧MP y m (m.launch f) w w':=by
 obtain⟨i0,hi,hz0,hz1,hz2⟩:=info_parts X_;obtain⟨a,b,s⟩:=f;have hb0:Below w.heap.size w (w.alloc (.cells #[.int .i64 a,.int .i64 b,.string s] 149)):=bC;have hC:=bS w (.cells #[.int .i64 a,.int .i64 b,.string s] 149);have h1:=h.later hb0;unfold flV;dsimp only;go_enter Tryz.func64,Tryz.ntmps64;go_upto_region 1 with(fail);generalize World.alloc _ _=W1 at hb0 hC h1 ⊢;have hkb:∀o,Below W1.heap.size W1 (W1.alloc o).drew:=λo=>((aU _ _).alloc (aA _) o).drew;have hrow:=λo=>(h1.later (hkb o)).bD;have hcf:=Va W1 a b s;have hcm:=λo=>(h1.later (hkb o)).cell.2.2.1;have hc1:=h1.cell.2.2.1;have t0:W1.cell? ⟨w.heap.size,0,none⟩=some (.int .i64 a):=aF _ _ 0 _ _ _ hC;have t1:W1.cell? ⟨w.heap.size,1,none⟩=some (.int .i64 b):=aF _ _ 1 _ _ _ hC;have t2:W1.cell? ⟨w.heap.size,2,none⟩=some (.string s):=aF _ _ 2 _ _ _ hC;have HF:Hid (∀v7 w7,w7.ownsRow 0 149 3 v7 (m.bD.length+1) (o5 m.bD++o5 [(a,b,s)])->(W1.alloc (.cells #[.int .i64 a,.int .i64 b,.string s] 149)).drew.grownBy w7 y.av.ownBlock->(v7.ownBlock=y.av.ownBlock∨v7.ownBlock=some (W1.alloc (.cells #[.int .i64 a,.int .i64 b,.string s] 149)).drew.heap.size)->(w7.cell? ⟨y.G,2,none⟩=some y.av∧w7.frozen? ⟨y.G,2,none⟩=false)∧MM {y with av:=v7} {m with bD:=m.bD++ [(a,b,s)]} (w7.setCell ⟨y.G,2,none⟩ v7)∧MU y m {y with av:=v7} {m with bD:=m.bD++ [(a,b,s)]} w (w7.setCell ⟨y.G,2,none⟩ v7)):=by
  intro v7 w7 ho hg hv;rw[<-uO,show m.bD.length+1=(m.bD++ [(a,b,s)]).length by simp]at ho;obtain⟨q1,q2,q3⟩:=(h1.later (hkb _)).fly ho hg hv;exact⟨q1,q2,(q3.pre (hkb _)).pre hb0⟩
 have hlm:m.bD.length+1<=maxLen:=by unfold maxLen;omega
 have hl2:(m.bD.length+1)* 32<=140737488355328:=by omega
 have zT:m.launch (a,b,s)=if 48<m.bD.length+1 then {m with bD:=(m.bD++ [(a,b,s)]).eraseIdx 0}else {m with bD:=m.bD++ [(a,b,s)]}:=by
  unfold aP.launch;simp only[dx,dY,List.length_nil,List.eraseIdx_zero];split<;>rfl
 replace zT:=hide zT;clear h h1 hC hkb;generalize w.heap.size=C at t0 t1 t2 ⊢;go_cut []from 4 to 13 (λWc=>∃v7,MM {y with av:=v7} {m with bD:=m.bD++ [(a,b,s)]} Wc∧MU y m {y with av:=v7} {m with bD:=m.bD++ [(a,b,s)]} w Wc)
 case first=>
  go_region_law (refine gX rfl (.tmp 8) (.tmp 10) 45 rfl 0 149 i0 (.agg #[.int .i64 0,.int .i64 0,.string ⟨#[]⟩]) 3 32 Tryz.underlying45 hi hz0 hz1 hz2 rfl (by decide) y.av m.bD.length (o5 m.bD) (by simp[Act.eval]) (hrow _) ⟨_,0,none⟩ 1 1 (o5 [(a,b,s)]) (by simp[Act.eval]) rfl (hcf) (SH _) hlm hl2 (b_ _) ?_;intro v7 w7 iw gV hv7;obtain⟨⟨g1,g2⟩,hm⟩:=HF.out _ _ iw gV hv7;obtain⟨Ri,Vb,rfl,_⟩:=ay iw)
  all_goals
   clear gV iw;go_wp2_with fail;go_meet;exact⟨_,hm⟩
 case rest=>
  obtain⟨v7,hm,hu⟩:=hcut;have c2:=hm.cell.2.2.1;obtain⟨ao,cc,hv,_⟩:=ay hm.bD;dsimp only at c2 hv;rw[hv]at c2;have hlen:(m.bD++ [(a,b,s)]).length=m.bD.length+1:=by simp
  have HL:=λ(h48:48<m.bD.length+1)=>LV hm 0 (by dsimp only;omega) (by dsimp only;omega) ((m.bD++ [(a,b,s)])[0]'(by omega)) (cK (by dsimp only;omega));rw[hlen]at c2;replace HL:=hide HL;have hl':=zT.out;clear zT HF hrow hcf hcm hc1 t0 t1 t2;by_cases h48:48<m.bD.length+1
  ·rw[aM h48]at hl';have h48':(48:Int)<(m.bD.length:Int)+1:=by omega
   have HL':=hide (HL.out h48);replace hl':=hide hl';clear hm HL;go_wp2_with fail;refine aT HL'.out ?_;rintro e w3 ⟨rfl,hp⟩;have hfin:=MP.comp hu hp;clear hp hu HL';go_wp2;go_returns;exact⟨rfl,by rw[hl'.out];exact hfin⟩
  ·rw[aG h48]at hl';have h48':¬(48:Int)<(m.bD.length:Int)+1:=by omega
   have hfin:MP y m {m with bD:=m.bD++ [(a,b,s)]} w wc:=⟨_,hm,hu⟩;replace hl':=hide hl';clear hm HL hu;go_wp2;go_returns;exact⟨rfl,by rw[hl'.out];exact hfin⟩
variable{aR aH:List (Int×ByteArray)}{aQ:List Int}{y:MG}{m:aP}{b:Nat}{v:Value}{W W':World}
structure J7 where
 aI:Value
 bL:Value
 bO:Value
def xX(x:Ev×J7):List Value:=[.int .i64 x.1.node,.int .i64 x.1.err,.string (strOfNums (bB x.1.o.bg)),.bool x.1.o.bn,x.2.aI,x.2.bL,x.2.bO]
def EvC(L:List (Ev×J7)):List Value:=L.flatMap xX
def EvB(v:J7)(k:Nat):Prop:=v.aI.ownBlock=some k∨v.bL.ownBlock=some k∨v.bO.ownBlock=some k
structure gN(b:Nat)(v:Value)(L:List (Ev×J7))(W:World):Prop where
 row:W.ownsRow b 54 7 v L.length (EvC L)
 out:∀x∈L,iG b x.1.o.aH x.1.o.aR x.1.o.aQ x.2.aI x.2.bL x.2.bO W
 ap:L.Pairwise λx y=>∀k,EvB x.2 k->¬EvB y.2 k
theorem Ct(a b:List (Ev×J7)):EvC (a++b)=EvC a++EvC b:=by simp[EvC]
theorem iG.lt{v:J7}(h:iG b aH aR aQ v.aI v.bL v.bO W){k:Nat}(hk:EvB v k):b<=k∧k<W.heap.size:=by
 rcases hk with hk|hk|hk
 ·exact h.aI.lt k hk
 ·exact h.bL.lt k hk
 ·exact h.bO.lt k hk
theorem aaL{L:List (Ev×J7)}(h:∀x∈L,x.2.aI.oneCell'=true∧x.2.bL.oneCell'=true∧x.2.bO.oneCell'=true):∀u∈EvC L,u.oneCell'=true:=by
 intro u hu;obtain⟨x,hx,hu⟩:=List.mem_flatMap.1 hu;obtain⟨h1,h2,h3⟩:=h x hx;simp only[xX,eF,List.not_mem_nil,or_false]at hu;rcases hu with rfl|rfl|rfl|rfl|rfl|rfl|rfl<;>first|rfl|assumption
theorem row_one{base e size n:Nat}{xs:List Value}(h:W.ownsRow base e size v n xs):v.oneCell'=true:=by
 rcases h.2 with⟨rfl,_⟩|⟨g,cap,cur,rfl,_⟩<;>rfl
theorem gN.one{L:List (Ev×J7)}(h:gN b v L W):∀u∈EvC L,u.oneCell'=true:=aaL λx hx=>⟨row_one (h.out x hx).aI,row_one (h.out x hx).bL,row_one (h.out x hx).bO⟩
def evK:List Nat:=[54,77,56,195]
theorem gN.at{L:List (Ev×J7)}(h:gN b v L W)(he:∀(k:Nat) (c:Array Value) (t:Nat),t∈evK->W.heap[k]?=some (Obj.cells c t (0,0))->W'.heap[k]?=W.heap[k]?):gN b v L W':=
 ⟨bP h.row λk hk=>by
  obtain⟨c,hc⟩:=aS h.row hk;exact he k c 54 (by decide) hc,λx hx=>(h.out x hx).at λk c t ht hk=>he k c t (by
   simp only[eF,List.not_mem_nil,or_false]at ht;simp only[evK,eF,List.not_mem_nil,or_false];rcases ht with rfl|rfl|rfl<;>decide) hk,h.ap⟩
theorem gN.nil(b:Nat)(W:World):gN b (.slice none 0 0) [] W:=⟨⟨rfl,.inl ⟨rfl,rfl⟩⟩,λ_ h=>(by cases h),List.Pairwise.nil⟩
theorem MM.notE(h:MM y m W){k:Nat}{c:Array Value}{t:Nat}(ht:t∈evK)(hk:W.heap[k]?=some (Obj.cells c t (0,0))):¬uR y m k:=h.not hk (by
 simp only[evK,eF,List.not_mem_nil,or_false]at ht;rcases ht with rfl|rfl|rfl|rfl<;>decide)
theorem gN.mesh{L:List (Ev×J7)}(h:gN b v L W)(hm:MM y m W)(hf:Fx (uR y m) W W'):gN b v L W':=h.at λk _ _ ht hk=>hf.block k (aD hk) (hm.notE ht hk)
theorem iG.mesh{aI bL bO:Value}(h:iG b aH aR aQ aI bL bO W)(hm:MM y m W)(hf:Fx (uR y m) W W'):iG b aH aR aQ aI bL bO W':=h.at λk _ _ ht hk=>hf.block k (aD hk) (hm.notE (by
 simp only[eF,List.not_mem_nil,or_false]at ht;simp only[evK,eF,List.not_mem_nil,or_false];rcases ht with rfl|rfl|rfl<;>decide) hk)
theorem gN.later{L:List (Ev×J7)}(h:gN b v L W)(hb:Below W.heap.size W W'):gN b v L W':=h.at λk _ _ _ hk=>hb.block k (aD hk)
theorem gN.lower{b':Nat}{L:List (Ev×J7)}(h:gN b v L W)(hb:b'<=b):gN b' v L W:=⟨ownsRow_base_a h.row hb,λx hx=>(h.out x hx).lower hb,h.ap⟩
theorem gN.append{c:Nat}{v2 v':Value}{L L2:List (Ev×J7)}(h:gN b v L W)(h2:gN c v2 L2 W)(hbc:b<=c)(hlt:∀x∈L,∀k,EvB x.2 k->k<c)(ho:W'.ownsRow b 54 7 v' (L.length+L2.length) (EvC L++EvC L2))(hg:W.grownBy W' v.ownBlock):gN b v' (L++L2) W':=by
 have hk:∀(k:Nat) (cs:Array Value) (t:Nat),t∈([77,56,195]:List Nat)->W.heap[k]?=some (Obj.cells cs t (0,0))->W'.heap[k]?=W.heap[k]?:=λk cs t ht hk=>hg.block k (aD hk) λe=>by
  obtain⟨c',hc'⟩:=aS h.row e.symm;rw[hk]at hc';cases hc';exact absurd ht (by decide)
 refine⟨by rw[dx,Ct];exact ho,λx hx=> ?_,List.pairwise_append.2 ⟨h.ap,h2.ap,λx hx z hz k e1 e2=> ?_⟩⟩
 ·rcases dG.1 hx with hx|hx
  ·exact(h.out x hx).at hk
  ·exact((h2.out x hx).lower hbc).at hk
 ·have q1:=hlt x hx k e1;have q2:=((h2.out z hz).lt e2).1;omega
theorem Nt:(Tryz.prog.info? 54).map (λi=>(i.zero,i.size,i.bytes))=some (some (.agg #[.int .i64 0,.int .i64 0,.string ⟨#[]⟩,.bool false,.slice none 0 0,.slice none 0 0,.slice none 0 0]),7,112):=by kernel_rfl
theorem FU{x:Ev×J7}(hb:b<=W.heap.size)(ho:iG b x.1.o.aH x.1.o.aR x.1.o.aQ x.2.aI x.2.bL x.2.bO W):gN b (.slice (some ⟨W.heap.size,0,none⟩) 1 1) [x] (W.alloc (.cells (xX x).toArray 54)):=by
 refine⟨⟨rfl,.inr ⟨W.heap.size,1,_,rfl,hb,bS _ _,aA _,by decide,rfl,?_⟩⟩,λz hz=> ?_,List.pairwise_singleton _ _⟩
 ·simp[EvC,xX]
 ·rw[dO]at hz;subst hz;exact ho.later (bC)
variable{y:MG}{m m':aP}{W W':World}
theorem MM.call(h:MM y m W){i:Nat}{x:SG}{s:bG}{z z':St}{o:Value}(h1:y.L[i]?=some x)(h2:m.S[i]?=some s)(hz:s.nd=some z)(c:Cv x.N x.g z z' W o W'):
  ∃aI bL bO,o=ja z'.aZ z'.bn aI bL bO∧iG W.heap.size z'.aH z'.aR z'.aQ aI bL bO W'∧MP y m (m.put i {s with nd:=some z'}) W W':=by
 obtain⟨g',dW,aI,bL,bO,rfl,nn,ht,r1,r2,r3,fx,sub⟩:=c;have hst:=h.st i x s h1 h2;obtain⟨n0,_⟩:=hst.nd z hz;have hB:¬Ft x.N x.g z x.B:=λhk=>by
  obtain⟨o,ho,hK⟩:=n0.kind hk;rw[hst.blk]at ho;cases ho;exact hK.not (by decide)
 have hJ:∀k,x.jv.ownBlock=some k->¬Ft x.N x.g z k:=λk hk hf=>by
  obtain⟨o,ho,hK⟩:=n0.kind hf;obtain⟨cc,hc⟩:=aS hst.row hk;rw[hc]at ho;cases ho;exact hK.not (by decide)
 have hN:x.N=x.N:=rfl;refine⟨aI,bL,bO,rfl,⟨r1,r2,r3⟩,?_⟩;have ht:=h.turn (W':=W') (x':={x with g:=g',TL:=dW}) (s':={s with nd:=some z'}) h1 h2 (fx.mono λk hk=> .inr (.inr ⟨z,hz,hk⟩)) ⟨?_,hst.hl,?_,λu hu=>by cases hu;exact⟨nn,ht⟩⟩ rfl λk hk=> ?_
 ·exact⟨_,ht.1,ht.2⟩
 ·rw[show Gr {x with g:=g',TL:=dW} {s with nd:=some z'}=Gr x s by
   unfold Gr;rw[hz];rfl]
  exact(fx.block _ (aD hst.blk) hB).trans hst.blk
 ·exact bP hst.row λk hk=>fx.block k (hst.row.lt k hk).2 (hJ k hk)
 ·rcases hk with hk|hk|⟨u,hu,hk⟩
  ·exact .inl (.inl hk)
  ·exact .inl (.inr (.inl hk))
  ·cases hu;rcases sub k hk with h|h
   ·exact .inl (.inr (.inr ⟨z,hz,h⟩))
   ·exact .inr h
theorem MM.stp(h:MM y m W){i:Nat}{x:SG}{s s':bG}(h1:y.L[i]?=some x)(h2:m.S[i]?=some s)(c:nE x s s' W W'):MP y m (m.put i s') W W':=by
 obtain⟨x',b1,m1,f1,u1⟩:=c;have ht:=h.turn h1 h2 f1 m1 b1 u1;exact⟨_,ht.1,ht.2⟩
theorem MU.at{y':MG}{w w':World}(u:MU y m y' m' w w'){i:Nat}{x x':SG}(h1:y.L[i]?=some x)(h2:y'.L[i]?=some x'):x'.B=x.B:=by
 have e1:(y.L.map (·.B))[i]?=some x.B:=by rw[jQ,h1];rfl
 have e2:(y'.L.map (·.B))[i]?=some x'.B:=by rw[jQ,h2];rfl
 rw[<-u.B,e2]at e1;exact Option.some.inj e1
def jT(m:aP)(i:Nat)(t:Int)(j:Nat):Bool:=(m.at' i).hrs.getD j false&&(decide (t=0)||decide (t=(m.at' j).addr))
def jq(m:aP)(i:Nat)(f:Int×ByteArray)(k:Nat):aP:=((List.range k).filter (jT m i f.1)).foldl (λm j=>m.launch (i,j,f.2)) m
theorem yC(m:aP)(i:Nat)(f:Int×ByteArray)(k:Nat):jq m i f (k+1)=if jT m i f.1 k then(jq m i f k).launch (i,k,f.2)else jq m i f k:=by
 unfold jq;rw[List.range_succ,List.filter_append,List.foldl_append];cases h:jT m i f.1 k<;>simp[h]
theorem pu(m:aP)(i:Nat)(f:Int×ByteArray):jq m i f m.S.length=m.bK i f:=rfl
theorem vW(i:Nat)(b:ByteArray):∀(l:List Nat) (m:aP),(l.foldl (λm j=>m.launch (i,j,b)) m).S=m.S∧(l.foldl (λm j=>m.launch (i,j,b)) m).now=m.now
 | [],m=>⟨rfl,rfl⟩
 |a::l,m=>by
  rw[fQ];exact vW i b l (m.launch (i,a,b))
theorem oz(m:aP)(i:Nat)(f:Int×ByteArray)(k:Nat):(jq m i f k).S=m.S∧(jq m i f k).now=m.now:=vW _ _ _ _
theorem dX{i:Nat}{s:bG}(h:m.S[i]?=some s):m.at' i=s:=by
 unfold aP.at';rw[List.getD_eq_getElem?_getD,h];rfl
theorem aej(h:m'.S=m.S)(i:Nat):m'.at' i=m.at' i:=by
 unfold aP.at';rw[h]
theorem Bd(m:aP)(f:Nat×Nat×ByteArray)(h:m.bD.length<=48):(m.launch f).bD.length<=48:=by
 unfold aP.launch;dsimp only;split
 ·rename_i h1;rw[List.length_tail];rw[dx]at h1 ⊢;simp only[dY,List.length_nil]at h1 ⊢;omega
 ·rename_i h1;omega
theorem D_(i:Nat)(b:ByteArray):∀(l:List Nat) (m:aP),m.bD.length<=48->(l.foldl (λm j=>m.launch (i,j,b)) m).bD.length<=48
 | [],_,h=>h
 |a::l,m,h=>by
  rw[fQ];exact D_ i b l _ (Bd m _ h)
theorem Aq(m:aP)(i:Nat)(f:Int×ByteArray)(k:Nat)(h:m.bD.length<=48):(jq m i f k).bD.length<=48:=D_ _ _ _ _ h
open Go.MuLone
variable{N:Nat}{s:St}{w:World}
theorem Y_(eu:Int){A:List Rt}(hA:∀y∈A,y.Ok):∀x∈nD eu A,0<=x.1∧x.1<4294967296∧0<=x.2∧x.2<4294967296:=by
 intro x hx;obtain⟨y,hy,e⟩:=List.mem_filterMap.1 hx;unfold Da at e;split at e
 ·cases e;have h1:=(hA y hy).dest;have h2:=uI (hA y hy).seq;unfold a_ at h1 h2;dsimp only;omega
 ·cases e
theorem QS{B:Nat}{g:bI}{TL:List Hp.Tm}(n:Nd N B g s TL w)(eu:Int):
  Calls Tryz.prog 138 #[.pointer (some ⟨g.x.T,0,none⟩),.int .u32 eu] w λe w'=>∃ao c,e=.returned (.slice ao (nD eu s.A).length c)∧bE w' ao (nD eu s.A)∧lW N B g s {s with A:=s.A.map (bQ eu 0)} TL w w':=by
 refine(Ma eu n.nn.cr.tb (S:=mZ g.x.T g.M g.ff g.gg s.A) (λ_ h=>h) (λk hk=>n.nn.cr.tb.lt hk)).mono ?_;rintro e w' ⟨v,xU,rfl,h1,h2,h3,h4⟩;obtain⟨ao,c,rfl,hH⟩:=Dn h1 (Y_ eu n.nn.cr.tb.ok);exact⟨ao,c,rfl,hH,n.wW ⟨g.M,g.ff,xU,by rw[<-n.nn.eq.self];exact h2,λk hk=> .inl (h3 k hk)⟩ h4⟩
theorem WV(A:List Rt)(f:Rt->Rt)(hf:∀y,(f y).dest=y.dest):∀y∈A,∃z∈A.map f,z.dest=y.dest:=λy hy=>⟨f y,dh.2 ⟨y,hy,rfl⟩,hf y⟩
theorem VH{g:bI}{TL:List Hp.Tm}(n:Nn N g s TL w){k:Int}(hI:s.Inv k)(hT:dV s TL)(now eu:Int)(fM:s.now<=now∧now<=4611686018427387904):
  Calls Tryz.prog 100 #[.pointer (some ⟨N,0,none⟩),.int .u64 now,.int .u32 eu] w λe w'=>∃o,e=.returned o∧Hid ((s.brk now eu).Inv (k+1))∧Cv N g s (s.brk now eu) w o w':=by
 have hA:=n.cr.tb.ok;have hl:=n.cr.tb.len;have hb0:Below w.heap.size w (w.alloc jg):=bC;have hC0:(w.alloc jg).heap[w.heap.size]?=some jg:=bS _ _;have kK:¬Ft N g s w.heap.size:=λh=>by have:=n.lt h;omega
 have hs0:(w.alloc jg).heap.size=w.heap.size+1:=by simp
 have n0:=n.later hb0;have hM:=(rf hI).2 now fM hA hl;obtain⟨s3,hs3⟩:∃z,s.locked.begin now=z:=⟨_,rfl⟩;rw[hs3]at hM;have I6:Hid (s3.lk=1):=by show _=_;rw[<-hs3];rfl
 have NI:Hid (s3.Q=s.Q):=by show _=_;rw[<-hs3];rfl
 have yO:Hid (s3.now=now):=by show _=_;rw[<-hs3];rfl
 have Ug:Hid (s3.me=s.me):=by show _=_;rw[<-hs3];rfl
 replace hM:=hide hM;dsimp only[jg]at hb0 hC0 hs0 n0
 go_enter_defers Tryz.func100,Tryz.ntmps100
 go_upto_region 1 with(fail);generalize World.alloc _ _=W1 at hb0 hC0 hs0 n0 ⊢;obtain⟨c0,f0⟩:=n0.Nj;rw[hI.lk]at c0;go_wp2_with fail;refine aT (lock_free nL ⟨N,0,none⟩ W1 c0 f0) ?_;rintro e w2 ⟨rfl,rfl⟩;obtain⟨n2,hg2⟩:=n0.l7 1;have hf2:Fx (Ft N g s) w (W1.setCell ⟨N,0,none⟩ (.int .i32 1)):=aV (Fx.below hb0) hg2 (λi _ e=>by cases e;exact .inl (.inl rfl));have hC2:=(hg2.block w.heap.size (by omega) (λe=>kK (by cases e;exact .inl (.inl rfl)))).trans hC0;have hs2:w.heap.size+1<=(W1.setCell ⟨N,0,none⟩ (.int .i32 1)).heap.size:=by
  have:=hg2.size;omega
 have hcn:=hI.cnt;have HB:=hide (zZ n2 now ⟨hI.dom.mb,hI.dom.on,hI.dom.own⟩ ⟨hcn.1,by dsimp only;omega⟩);rw[show({s with lk:=1}:St).begin now=s3 from hs3]at HB;have hF1:Hid (∀k,Ft N ({g with x:={g.x with lk:=1}}:bI) ({s with lk:=1}:St) k->Ft N g s k):=λk h=>h;replace hs3:=hide hs3;clear n0 hC0 hs0 hb0 c0 f0 hg2 hA hl hcn;generalize ({g with x:={g.x with lk:=1}}:bI)=g1 at n2 HB hF1;generalize ({s with lk:=1}:St)=s1 at n2 HB hF1;generalize World.setCell _ _ _=W2 at n2 hf2 hC2 hs2 HB ⊢;go_wp2_with fail;refine aT HB.out ?_;rintro e w3 ⟨g3,rfl,n3,u3,ZY,t3⟩;clear t3;clear HB;have Uw:Hid (dV s3 TL):=by
  show dV _ _;unfold dV;rw[NI.out];exact hT
 have HR:=hide (QS n3 eu);have hbl:=rT eu s3.A;have hA8:=n3.nn.cr.tb.len;obtain⟨c2,c3,c4,c7,c0⟩:=n3.cell;obtain⟨s4,hs4⟩:∃z,({s3 with A:=s3.A.map (bQ eu 0)}:St)=z:=⟨_,rfl⟩;have he4:Hid (Eff 0 s3 s4):=by
  show Eff 0 s3 s4;rw[<-hs4];exact qj s3 (WV _ _ (eX eu 0))
 rw[hs4]at HR;replace hs4:=hide hs4;have I7:Hid (s4.aH.length<=1000000):=by
  show _<=_;have:=he4.out.aH;have:=hM.out.aH;omega
 clear ZY n2 n3;go_wp2_with fail;refine aT HR.out ?_;rintro e w4 ⟨ao,c,rfl,hH,g4,n4,u4,t4⟩;have HL:=hide (Vz n4 0 ao c (nD eu s3.A) (by omega) hH I7.out);have qg:=u3.trans u4;clear HR c2 c3 c4 c7 c0 n4 u4 hH u3;go_wp2_with fail;refine aT HL.out ?_;rintro e w5 ⟨rfl,g5,n5,u5,t5⟩;obtain⟨s5,hs5⟩:∃z,s4.lose 0 (nD eu s3.A)=z:=⟨_,rfl⟩;have he5:Hid (Eff 1 s4 s5):=by
  show Eff 1 s4 s5;rw[<-hs5];exact rQ _ _ _
 rw[hs5]at n5 u5;have Yn:Hid (dV s5 TL):=by
  show dV _ _;unfold dV;rw[<-hs5,<-hs4.out];exact Uw.out
 have n_:Hid (s5.Mid k 2):=vM (vM hM.out he4.out) he5.out;have Fw:Hid (s5.lk=1):=(he5.out.lk.trans he4.out.lk).trans I6.out;have zn:=qg.trans u5;replace hs5:=hide hs5;clear HL u5 qg he4 he5 I7 hbl hA8;have NM:=hide (mI n_.out (by omega) n5.nn.cr.tb.ok n5.nn.cr.tb.len);have Om:=hide (oV n5 n_.out.dom (by have:=n_.out.cnt;omega) (by have:=n_.out.bg;omega) n_.out.bd n_.out.seq);go_wp2_with fail;refine aT Om.out ?_;rintro e w6 ⟨g6,rfl,n6,u6,t6⟩;obtain⟨s6,hs6⟩:∃z,s5.finish=z:=⟨_,rfl⟩;have Fv:s6.lk=1:=by rw[<-hs6,(aO s5).lk];exact Fw.out
 have Ym:Hid (dV s6 TL):=by
  show dV _ _;unfold dV;rw[<-hs6,(aO s5).Q];exact Yn.out
 have jS:Hid (s.brk now eu=s6.freed):=by
  show _=_;rw[<-hs6];unfold St.brk St.broken;rw[hs3.out];dsimp only;rw[hs4.out,hs5.out]
 rw[hs6]at n6 u6 NM ⊢;have nH:=zn.trans u6;clear Om hs6 u6 n5 zn;have FM:=nH.Ru (aA _);have nO:∀k,Ft N g6 s6 k->Ft N g s k∨(w.heap.size<=k∧k<w6.heap.size):=λk hk=>(nH.sub k hk).elim (λh=> .inl (hF1.out k h)) λh=> .inr ⟨by omega,h.2⟩;have gZ:=(FM.block w.heap.size (by omega) (λh=>kK (hF1.out _ h))).trans hC2;have kP:¬Ft N g6 s6 w.heap.size:=λh=>(nH.sub _ h).elim (λh=>kK (hF1.out _ h)) (by omega);have NE:=hf2.trans FM (λi _ h=>hF1.out i h);have r1:=ownsRow_base_a n6.ac.aI (show w.heap.size<=W2.heap.size+1 by omega);have r2:=ownsRow_base_a n6.ac.bL (show w.heap.size<=W2.heap.size+1 by omega);have r3:=ownsRow_base_a n6.ac.bO (show w.heap.size<=W2.heap.size+1 by omega);have m6:=n6.nn;obtain⟨af,kf,hf,_⟩:=ay r1;obtain⟨ac,kc,hc,_⟩:=ay r2;obtain⟨ad,kd,hdd,_⟩:=ay r3;rw[hf]at r1;rw[hc]at r2;rw[hdd]at r3;rw[hf,hc,hdd];simp only[ja];clear n6 hf hc hdd nH FM hf2 hC2;generalize hjj:s6.aZ=jj;replace hjj:=hide hjj;obtain⟨z0,z1,z2,z3,z4⟩:=cells5 gZ;obtain⟨y0,y1,y2,y3,y4⟩:=yU gZ;have iU:=ah (ah (ah (ah (ah (aB w6 (some w.heap.size)) 0 (.string jj)) 1 (.bool s6.bn)) 2 (.slice af s6.aH.length kf)) 3 (.slice ac s6.aR.length kc)) 4 (.slice ad s6.aQ.length kd);have gK:(((((w6.setCell ⟨w.heap.size,0,none⟩ (.string jj)).setCell ⟨w.heap.size,1,none⟩ (.bool s6.bn)).setCell ⟨w.heap.size,2,none⟩ (.slice af s6.aH.length kf)).setCell ⟨w.heap.size,3,none⟩ (.slice ac s6.aR.length kc)).setCell ⟨w.heap.size,4,none⟩ (.slice ad s6.aQ.length kd)).heap[w.heap.size]?=some (.cells #[.string jj,.bool s6.bn,.slice af s6.aH.length kf,.slice ac s6.aR.length kc,.slice ad s6.aQ.length kd] 52):=by
  simp[World.setCell,d_,gZ]
 obtain⟨r1,r2,r3⟩:=sV iU gZ r1 r2 r3 (by decide);have m7:=m6.kept λk hk=>iU.block k (m6.lt hk) (λe=>kP (by cases e;exact hk));have pY:=aV NE iU (λi hi e=>by cases e;omega);have kH:=λk hk=>(nO k hk).imp_right λh=>(⟨h.1,fP h.2 iU.size⟩:w.heap.size<=k∧_);clear m6 iU NE gZ nO;go_wp2_with fail;generalize World.setCell _ _ _=W7 at gK r1 r2 r3 m7 pY kH ⊢;obtain⟨p0,p1,p2,p3,p4⟩:=cells5 gK;obtain⟨c0,f0⟩:=m7.Nj;rw[Fv]at c0;refine leaves_cons (f:=50) (args:=#[.pointer (some ⟨N,0,none⟩)]) (by simp) (by simp[go_sem]) ?_;refine(unlock_deferred nL ⟨N,0,none⟩ .returning W7 c0 f0).mono ?_;rintro e u' w'' ⟨rfl,rfl,rfl⟩;obtain⟨m8,lG⟩:=m7.l7 0;have CF:N≠w.heap.size:=λe=>kP (by rw[<-e];exact .inl (.inl rfl));have ic:=(lG.block w.heap.size (aD gK) (λe=>by cases e;exact CF rfl)).trans gK;obtain⟨r1,r2,r3⟩:=sV lG m7.cr.nd r1 r2 r3 (by decide);have yP:=aV pY lG (λi hi e=>by cases e;exact .inl (.inl rfl));have nN:=λk hk=>(kH k hk).imp_right λh=>(⟨h.1,fP h.2 lG.size⟩:w.heap.size<=k∧_);clear p0 p1 p2 p3 p4 c0 f0 lG m7 pY kH gK;generalize World.setCell _ _ _=W8 at ic r1 r2 r3 m8 yP nN ⊢;obtain⟨p0,p1,p2,p3,p4⟩:=cells5 ic;refine⟨.agg #[.string jj,.bool s6.bn,.slice af s6.aH.length kf,.slice ac s6.aR.length kc,.slice ad s6.aQ.length kd],by simp[results,Tryz.results100,go_sem,p0,p1,p2,p3,p4],_,rfl,?_⟩;rw[jS.out];refine⟨NM,_,TL,.slice af s6.aH.length kf,.slice ac s6.aR.length kc,.slice ad s6.aQ.length kd,?_,m8,Ym.out,r1,r2,r3,yP,nN⟩;rw[<-hjj.out];rfl
variable{h:Nat}
theorem tQ{P:Program}{w:World}{ops:Array Oper}{rest:List Oper}{o:Oper}{a:Act}{Q:Exit->Act->World->Prop}(hg:o.guard=none)(s x:Operand)(t:TypeId)(hop:o.op=Op.call {callee:=Callee.builtin Builtin.append,args:=#[s,x],argTypes:=#[t,t]})
  (base:Nat) (e:TypeId) (i:TypeInfo) (z:Value) (size bytes:Nat) (h1:P.underlying t=some (.slice e)) (h2:P.info? e=some i) (h3:i.zero=some z) (h4:i.size=size) (h5:i.bytes=bytes) (h6:z.cells.size=size) (h7:0<size)
  (v:Value) (n:Nat) (xs:List Value) (hs:a.eval s=v) (hown:w.ownsRow base e size v n xs)
  (N7:Nat) (v2:Value) (m:Nat) (ys:List Value) (hx:a.eval x=v2) (hown2:w.ownsRow N7 e size v2 m ys) (h1c:∀u∈ys,u.oneCell'=true)
  (b1:n+m<=maxLen) (b2:(n+m)* bytes<=140737488355328) (hbase:base<=w.heap.size)
  (hK:∀v' w',w'.ownsRow base e size v' (n+m) (xs++ys)->w.grownBy w' v.ownBlock->wpList P ops Q rest (a.put o.dst v') w'):
  wpList P ops Q (o::rest) a w:=by
 refine wpList_plain hg λK hKK=> ?_;have h:=kU (ops:=ops) (E:=True) (K:=K) (Q:=Q) hg s x t hop base e i z size bytes h1 h2 h3 h4 h5 h6 h7 v n xs hs hown N7 v2 m ys hx hown2 h1c b1 b2 hbase λv' w' k1 k2=>hKK _ _ (hK v' w' k1 k2);have hw:Region.wanted o (yielded ops a.tmps)=true:=by simp[Region.wanted,hg]
 rw[aM hw]at h;exact h
theorem acP(hb:h<1000000000):wrap64 ((h:Int)+1)=(h:Int)+1:=by unfold wrap64;omega
theorem pR{l:Nat}(hh:h<l):l - (intOf (.int .i64 ((h:Int)+1))).toNat<l - (intOf (.int .i64 (h:Int))).toNat:=by
 simp[intOf];omega
def jC(y:MG)(m m':aP)(evs:List Ev)(b:Nat)(w:World)(e:Ending)(w':World):Prop:=∃v L,e=.returned v∧L.map (·.1)=evs∧gN b v L w'∧MP y m m' w w'
theorem zl{y:MG}{m:aP}{w:World}(h:MM y m w)(i:Nat)(hi:i<m.S.length)(hn:m.S.length<=6)(ha:m.bD.length<=48)(f:Int×ByteArray)
  (hI:∀z,(m.at' i).nd=some z->∃k,z.Inv k∧z.now<=m.now) (fM:m.now<=4611686018427387904)
  (HD:f.1≠0->∀z,((m.bK i f).at' i).nd=some z->∀y1 w1 b aI bL bO,MM y1 ((m.bK i f).put i {(m.bK i f).at' i with nd:=some (z.brk m.now f.1)}) w1->b<=w1.heap.size->iG b (z.brk m.now f.1).aH (z.brk m.now f.1).aR (z.brk m.now f.1).aQ aI bL bO w1->
   Calls Tryz.prog 36 #[.pointer (some ⟨y1.G,0,none⟩),.int .i64 i,ja (z.brk m.now f.1).aZ (z.brk m.now f.1).bn aI bL bO] w1 (jC y1 ((m.bK i f).put i {(m.bK i f).at' i with nd:=some (z.brk m.now f.1)}) (((m.bK i f).put i {(m.bK i f).at' i with nd:=some (z.brk m.now f.1)}).C9 i (z.brk m.now f.1).ot).1 (((m.bK i f).put i {(m.bK i f).at' i with nd:=some (z.brk m.now f.1)}).C9 i (z.brk m.now f.1).ot).2 b w1)):
  Calls Tryz.prog 67 #[.pointer (some ⟨y.G,0,none⟩),.int .i64 i,.agg #[.int .u32 f.1,.string f.2]] w (jC y m (m.jh i f).1 (m.jh i f).2 w.heap.size w):=by
 obtain⟨t,s⟩:=f;dsimp only at HD ⊢;have hb0:Below w.heap.size w (w.alloc (.cells #[.int .u32 t,.string s] 77)):=bC;have hC:=bS w (.cells #[.int .u32 t,.string s] 77);have h1:=h.later hb0;obtain⟨xi,si,g0,c0,e1,e2,e3,e4,p0⟩:=h1.get hi;obtain⟨q0,q1,q2,fz⟩:=h1.cell;rw[e4]at q1;have hin:(i:Int)<(m.S.length:Int):=by omega
 have hlt:=λk (hk:uR y m k)=>h.lt hk;clear h;go_enter Tryz.func67,Tryz.ntmps67;go_upto_region 1 with(fail);generalize World.alloc _ _=W1 at hb0 hC h1 p0 q0 q1 q2 fz ⊢;generalize l5:w.heap.size=C at hC ⊢;have hst:Hid (∀(k:Nat) (hv:Value),True):=λ_ _=>trivial;have rD:Hid (∃y',MM y' (jq m i (t,s) 0) W1∧MU y m y' (jq m i (t,s) 0) w W1∧W1.heap[C]?=some (.cells #[.int .u32 t,.string s] 77)):=⟨y,h1,(MU.refl _ _ _).pre hb0,hC⟩;clear q0 q2 fz;go_upto_region 4 with(fail);clear p0 q1 hb0 hC;go_loopw [8,23] (λhv iv wr=>∃k:Nat,k<=m.S.length∧iv=.int .i64 k∧hv=.bool (!((List.range k).filter (jT m i t)).isEmpty)∧Hid (∃y',MM y' (jq m i (t,s) k) wr∧MU y m y' (jq m i (t,s) k) w wr∧wr.heap[C]?=some (.cells #[.int .u32 t,.string s] 77))) (λ_ iv _=>m.S.length - (intOf iv).toNat)
 case atStart=>exact⟨0,b_ _,rfl,rfl,rD⟩
 case round=>
  clear rD h1;obtain⟨k,hk,rfl,rfl,hr⟩:=hrel;by_cases hkl:k<m.S.length
  ·have hki:(k:Int)<(m.S.length:Int):=by omega
   obtain⟨y',hm,hu,D8⟩:=hr.out;have hS:=(oz m i (t,s) k).1;obtain⟨xk,sk,g,c,a1,a2,a3,a4,d0⟩:=hm.get (i:=k) (by rw[hS];exact hkl);obtain⟨xj,sj,g',c',b1,b2,b3,b4,_⟩:=hm.get (i:=i) (by rw[hS];exact hi);have hgg:g=g0:=by
    have h5:=a4;rw[hu.sv,e4]at h5;injection h5 with h5 _ _;injection h5 with h5;injection h5 with h5 _ _;exact h5.symm
   subst hgg;have hjB:xj.B=xi.B:=hu.at e1 b1;have hjs:sj=si:=by
    rw[hS,e2]at b2;exact(Option.some.inj b2).symm
   subst hjs;obtain⟨_,_,_,_,_,hh,_⟩:=(hm.st i xj sj b1 b2).cell;rw[hjB]at hh;have hhl:=(hm.st i xj sj b1 b2).hl;have ZR:k<sj.hrs.length:=by omega
   have hcell:=hh k _ (cK ZR);have hcA:=(hm.st k xk sk a1 a2).cell.1;have t0:wr.cell? ⟨C,0,none⟩=some (.int .u32 t):=aF _ _ 0 _ _ _ D8;have t1:wr.cell? ⟨C,1,none⟩=some (.string s):=aF _ _ 1 _ _ _ D8;have Uy:jT m i t k=(sj.hrs[k]&&(decide (t=0)||decide (t=sk.addr))):=by
    unfold jT;rw[e3,List.getD_eq_getElem?_getD,cK ZR,<-aej hS k,a3];rfl
   generalize sj.hrs[k]=hb at hcell Uy;have agG:(k:Int)<6:=by omega
   have hL:Hid (∀q,jT m i t k=true->Calls Tryz.prog 64 #[.pointer (some ⟨y.G,0,none⟩),.agg #[.int .i64 i,.int .i64 k,.string s]] (wr.drewN q) λe w'=>e=.returned (.tuple #[])∧∃y',MM y' (jq m i (t,s) (k+1)) w'∧MU y m y' (jq m i (t,s) (k+1)) w w'∧w'.heap[C]?=some (.cells #[.int .u32 t,.string s] 77)):=λq hp=>by
    have Uq:Below wr.heap.size wr (wr.drewN q):=mq wr q;have hl:=JN (hm.later Uq) (by have:=Aq m i (t,s) k ha;omega) (i,k,s);rw[hu.G]at hl;refine hl.mono ?_;rintro e w2 ⟨rfl,y2,hm2,hu2⟩;rw[yC,aM hp];have hCq:(wr.drewN q).heap[C]?=some (.cells #[.int .u32 t,.string s] 77):=(Uq.block C (aD D8)).trans D8;exact⟨rfl,y2,hm2,(hu.post Uq).trans hu2,(hu2.fx.block C (aD hCq) ((hm.later Uq).notE (by decide) hCq)).trans hCq⟩
   have hN:Hid (∀q,jT m i t k=false->∃y',MM y' (jq m i (t,s) (k+1)) (wr.drewN q)∧MU y m y' (jq m i (t,s) (k+1)) w (wr.drewN q)∧(wr.drewN q).heap[C]?=some (.cells #[.int .u32 t,.string s] 77)):=λq hp=>by
    have Uq:Below wr.heap.size wr (wr.drewN q):=mq wr q;rw[yC,aG (by rw[hp];simp)];exact⟨y',hm.later Uq,hu.post Uq,(Uq.block C (aD D8)).trans D8⟩
   have hw64:wrap64 ((k:Int)+1)=(k:Int)+1:=by unfold wrap64;omega
   have hfl:Hid (∀b,jT m i t k=b->(!((List.range (k+1)).filter (jT m i t)).isEmpty)=(b||!((List.range k).filter (jT m i t)).isEmpty)):=by
    intro b hb;rw[List.range_succ,List.filter_append];cases b
    ·simp[hb]
    ·simp[hb]
   obtain⟨pk,hpk⟩:∃b,jT m i t k=b:=⟨_,rfl⟩;rw[hpk]at Uy hL hN hfl;replace hfl:=hide (hfl.out _ rfl);clear hr hm hu D8 a1 a2 a3 a4 b1 b2 b3 b4 hjB hh hhl ZR hS e2 e3 e4 hpk;generalize (!((List.range k).filter (jT m i t)).isEmpty)=hv at hfl ⊢;obtain⟨hv2,TT⟩:∃b,(!((List.range (k+1)).filter (jT m i t)).isEmpty)=b:=⟨_,rfl⟩;rw[TT]at hfl;replace TT:=hide TT;go_upto_region 6 with(fail);go_cut [47]from 28 to 47 (λv W=>v=.bool pk∧∃q,W=wr.drewN q)
   case first=>
    clear hL hN hfl;cases hb
    ·obtain rfl:pk=false:=by rw[Uy];rfl
     clear Uy hw64;go_quiet (fail);go_wp2_with fail;go_meet;exact⟨rfl,_,rfl⟩
    ·by_cases h0:t=0
     ·obtain rfl:pk=true:=by rw[Uy];simp[h0]
      subst h0;clear Uy hw64;go_quiet (fail);go_wp2_with fail;go_meet;exact⟨rfl,_,rfl⟩
     ·have h0':(t==0)=false:=by simpa using h0
      by_cases h2:t=sk.addr
      ·obtain rfl:pk=true:=by rw[Uy];simp[h2]
       subst h2;clear Uy hw64;go_quiet (fail);go_wp2_with fail;go_meet;exact⟨by simp,_,rfl⟩
      ·obtain rfl:pk=false:=by rw[Uy];simp[h0,h2]
       have h2':(t==sk.addr)=false:=by simpa using h2
       clear Uy hw64;go_quiet (fail);go_wp2_with fail;go_meet;exact⟨by simp,_,rfl⟩
   case rest=>
    obtain⟨rfl,q,rfl⟩:=hcut;clear Uy;have hk1:k+1<=m.S.length:=by omega
    have hme:=pR hkl;cases pk
    ·have hr2:=hide (hN.out q rfl);have TU:=hfl.out;rw[Bool.false_or]at TU;subst TU;clear hL hN hfl t0 t1 hcell hcA d0;generalize World.drewN _ _=W5 at hr2 ⊢;go_wp2;go_roundw
     case rel=>exact⟨k+1,hk1,by go_num,by rw[TT.out],hr2⟩
     case measure=>exact hme
    ·have hL2:=hide (hL.out q rfl);have TU:=hfl.out;rw[Bool.true_or]at TU;subst TU;have Uq:Below wr.heap.size wr (wr.drewN q):=mq wr q;have t1':(wr.drewN q).cell? ⟨C,1,none⟩=some (.string s):=(Uq.cell (World.block_lt_of_cell? _ _ t1)).trans t1;clear hL hN hfl t0 t1 hcell hcA d0 Uq;generalize World.drewN _ _=W5 at hL2 t1' ⊢;go_wp2_with fail;refine aT hL2.out ?_;rintro e w2 ⟨rfl,hr2⟩;replace hr2:=hide hr2;clear hL2 t1';go_wp2;go_roundw
     case rel=>exact⟨k+1,hk1,by go_num,by rw[TT.out],hr2⟩
     case measure=>exact hme
  ·obtain rfl:k=m.S.length:=by omega
   obtain⟨y',hm,hu,D8⟩:=hr.out;rw[pu]at hm hu;have hS:(m.bK i (t,s)).S=m.S:=(oz m i (t,s) m.S.length).1;have CF:(m.bK i (t,s)).now=m.now:=(oz m i (t,s) m.S.length).2;obtain⟨xj,sj,g',c',b1,b2,b3,b4,_⟩:=hm.get (i:=i) (by rw[hS];exact hi);have hjB:xj.B=xi.B:=hu.at e1 b1;have hc2:=(hm.st i xj sj b1 b2).cell.2.2.1;rw[hjB]at hc2;have hheard:(List.range m.S.length).filter (jT m i t)=m.heard i t:=rfl;rw[hheard];have t0:wr.cell? ⟨C,0,none⟩=some (.int .u32 t):=aF _ _ 0 _ _ _ D8;have hlow:w.heap.size<=wr.heap.size:=hu.fx.size;by_cases hh:m.heard i t≠ []∨t=0
   ·have ho:m.jh i (t,s)=(m.bK i (t,s),[]):=by
     unfold aP.jh;rw[aM hh]
    have hfin:jC y m (m.jh i (t,s)).1 (m.jh i (t,s)).2 w.heap.size w (.returned (.slice none 0 0)) wr:=by
     rw[ho];exact⟨_,[],rfl,rfl,gN.nil _ _,y',hm,hu⟩
    clear hr hm hu D8 HD ho b1 b2 b3 b4 hlow hheard;cases he:(m.heard i t).isEmpty
    ·clear t0 hc2 hh;go_wp2;go_ret;exact hfin
    ·obtain rfl:t=0:=by
      rcases hh with hh|hh
      ·exact absurd (List.isEmpty_iff.1 he) hh
      ·exact hh
     clear hc2 hh;go_wp2;go_ret;exact hfin
   ·simp only[not_or,Classical.not_not]at hh;obtain⟨hh,h0⟩:=hh;have he:(m.heard i t).isEmpty=true:=List.isEmpty_iff.2 hh;have h0':(t==0)=false:=by simpa using h0
    cases hnd:sj.nd with
    |none=>
     have ho:m.jh i (t,s)=(m.bK i (t,s),[]):=by
      unfold aP.jh;rw[aG (by simp[hh,h0]),b3,hnd]
     have hfin:jC y m (m.jh i (t,s)).1 (m.jh i (t,s)).2 w.heap.size w (.returned (.slice none 0 0)) wr:=by
      rw[ho];exact⟨_,[],rfl,rfl,gN.nil _ _,y',hm,hu⟩
     rw[hnd]at hc2;unfold Pn at hc2;clear hr hm hu D8 HD ho b1 b2 b3 b4 hlow hheard l5;rw[he];go_wp2;go_ret;exact hfin
    |some z=>
     have hz3:((m.bK i (t,s)).at' i).nd=some z:=by rw[b3];exact hnd
     obtain⟨k,hIk,hzn⟩:=hI z (by rw[<-aej hS i];exact hz3);have ho:m.jh i (t,s)=((m.bK i (t,s)).put i {(m.bK i (t,s)).at' i with nd:=some (z.brk m.now t)}).C9 i (z.brk m.now t).ot:=by
      unfold aP.jh;rw[aG (by simp[hh,h0]),hz3]
     rw[hnd]at hc2;unfold Pn at hc2;have HD':=HD h0 z hz3;have hd1:Below wr.heap.size wr wr.drew:=(aU _ _).drew;have hm1:=hm.later hd1;obtain⟨n1,tm1⟩:=(hm1.st i xj sj b1 b2).nd z hnd;have HB:=VH n1 hIk tm1 m.now t ⟨hzn,fM⟩;have HB2:Hid (Calls Tryz.prog 100 #[.pointer (some ⟨xj.N,0,none⟩),.int .u64 m.now,.int .u32 t] wr.drew λe w2=>∃aI bL bO,e=.returned (ja (z.brk m.now t).aZ (z.brk m.now t).bn aI bL bO)∧iG wr.heap.size (z.brk m.now t).aH (z.brk m.now t).aR (z.brk m.now t).aQ aI bL bO w2∧wr.heap.size<=w2.heap.size∧∃y2,MM y2 ((m.bK i (t,s)).put i {(m.bK i (t,s)).at' i with nd:=some (z.brk m.now t)}) w2∧MU y m y2 ((m.bK i (t,s)).put i {(m.bK i (t,s)).at' i with nd:=some (z.brk m.now t)}) w w2):=by
      refine HB.mono ?_;rintro e w2 ⟨o,rfl,_,hcp⟩;obtain⟨aI,bL,bO,rfl,hor,y2,hm2,hu2⟩:=hm1.call b1 b2 hnd hcp;rw[b3];exact⟨aI,bL,bO,rfl,hor,hu2.fx.size,y2,hm2,(hu.post hd1).trans hu2⟩
     have c0:=hm.cell.1;rw[hu.G,CF]at c0;obtain⟨m2,Uh⟩:∃m2,(m.bK i (t,s)).put i {(m.bK i (t,s)).at' i with nd:=some (z.brk m.now t)}=m2:=⟨_,rfl⟩;rw[Uh]at HD' HB2 ho;obtain⟨zb,hzb⟩:∃zb,z.brk m.now t=zb:=⟨_,rfl⟩;rw[hzb]at HD' HB2 ho;replace ho:=hide ho;replace HD':=hide HD';obtain⟨N,Uz⟩:∃N,xj.N=N:=⟨_,rfl⟩;rw[Uz]at hc2 HB2;clear HD HB hm1 n1 tm1 hr hm hu D8 b1 b2 b3 b4 hheard hz3 hIk hzn Uh hzb Uz hd1 hS CF hjB e1 e2 e3 e4;rw[he];go_upto_region 12 with(fail);go_region_with(first
      |(go_at_call 36;refine Wo.out.mono ?_;rintro e w3 ⟨v,L,rfl,hL,hev,hp3⟩)
      |(go_at_call 100;refine HB2.out.mono ?_;rintro e w2 ⟨aI,bL,bO,rfl,hor,hsz,y2,hm2,hu2⟩;have Wo:=HD'.out _ _ _ _ _ _ hm2 hsz hor;rw[hu2.G]at Wo;replace Wo:=hide Wo))
     all_goals
      have hfin:=hide (show jC y m (m.jh i (t,s)).1 (m.jh i (t,s)).2 w.heap.size w (.returned v) w3 from by rw[ho.out];exact⟨v,L,rfl,hL,hev.lower hlow,MP.comp hu2 hp3⟩);clear Wo hev hp3 hu2 hm2 hor HB2 HD';go_wp2;go_ret;exact hfin.out
def uJ(φ:aP->Int×ByteArray->aP×List Ev)(z:aP×List Ev)(f:Int×ByteArray):aP×List Ev:=((φ z.1 f).1,z.2++(φ z.1 f).2)
def jI(φ:aP->Int×ByteArray->aP×List Ev)(m:aP)(i:Nat)(o:Ot)(k:Nat):aP×List Ev:=(o.aH.take k).foldl (uJ φ) (m.put i ((m.at' i).write o).1,[⟨i,0,o⟩])
theorem Ee(φ:aP->Int×ByteArray->aP×List Ev)(m:aP)(i:Nat)(o:Ot){k:Nat}{f:Int×ByteArray}(h:o.aH[k]?=some f):jI φ m i o (k+1)=uJ φ (jI φ m i o k) f:=by
 unfold jI;rw[List.take_add_one,h,List.foldl_append];rfl
theorem BP{φ:aP->Int×ByteArray->aP×List Ev}(hφ:∀m f,(φ m f).2.length<=1)(m:aP)(i:Nat)(o:Ot):∀k,k<=o.aH.length->(jI φ m i o k).2.length<=1+k
 |0,_=>by
  unfold jI;simp
 |k+1,hk=>by
  rw[Ee φ m i o (cK (by omega))];have h1:=BP hφ m i o k (by omega);have h2:=hφ (jI φ m i o k).1 o.aH[k];unfold uJ;rw[dx];omega
theorem v_(φ:aP->Int×ByteArray->aP×List Ev)(m:aP)(i:Nat)(o:Ot)(h1:o.idle=false)(h2:((m.at' i).write o).2=true):m.jH φ i o=jI φ m i o o.aH.length:=by
 unfold aP.jH jI;rw[aG (by simp[h1]),aM h2,List.take_length];rfl
theorem Fq(o:Ot):o.idle=(decide (o.bg=[])&&!o.bn&&decide (o.aH.length+o.aR.length+o.aQ.length=0)):=by
 unfold Ot.idle;cases o.bg<;>cases o.aH<;>cases o.aR<;>cases o.aQ<;>cases o.bn<;>simp
theorem YI{b:Nat}{aH aR:List (Int×ByteArray)}{aQ:List Int}{a:Option Addr}{n c:Nat}{bL bO:Value}{W:World}(h:iG b aH aR aQ (.slice a n c) bL bO W)(hn:n=aH.length){k:Nat}{f:Int×ByteArray}(hf:aH[k]?=some f):∃g,a=some ⟨g,0,none⟩∧W.cell? ⟨g,k * 2,none⟩=some (.int .u32 f.1)∧W.cell? ⟨g,k * 2+1,none⟩=some (.string f.2):=by
 subst hn;have hk:=(fA.1 hf).1;obtain⟨g,cap,e,_⟩:=bY h.aI (by omega);cases e;have hat:∀i u,i<2->([.int .u32 f.1,.string f.2]:List Value)[i]?=some u->(uN aH)[k * 2+i]?=some u:=λi u hi hu=>(jk (λx:Int×ByteArray=>([Value.int .u32 x.1,Value.string x.2]:List Value)) 2 (by decide) (λ_=>rfl) aH k i hi hf).trans hu;exact⟨g,rfl,(h.aI.cellAt (k * 2) (by omega)).trans (hat 0 _ (by decide) rfl),(h.aI.cellAt (k * 2+1) (by omega)).trans (hat 1 _ (by decide) rfl)⟩
theorem aad{y:MG}{m:aP}{w:World}(h:MM y m w)(i:Nat)(hi:i<m.S.length)(_:m.S.length<=6)(φ:aP->Int×ByteArray->aP×List Ev)(o:Ot)(aI bL bO:Value)(b:Nat)(hor:iG b o.aH o.aR o.aQ aI bL bO w)(hb:b<=w.heap.size)
  (hbd:qy o.bg) (hnw:o.bg.length<=50000) (hfr:o.aH.length<=100000∧o.aR.length<=100000∧o.aQ.length<=100000) (hjl:(m.at' i).aZ.length<=1000000) (hwh:0<=(m.at' i).whole) (hφ:∀m f,(φ m f).2.length<=1)
  (HS:∀k f,o.aH[k]?=some f->o.idle=false->((m.at' i).write o).2=true->∀y1 w1,MM y1 (jI φ m i o k).1 w1->Calls Tryz.prog 67 #[.pointer (some ⟨y1.G,0,none⟩),.int .i64 i,.agg #[.int .u32 f.1,.string f.2]] w1 (jC y1 (jI φ m i o k).1 (φ (jI φ m i o k).1 f).1 (φ (jI φ m i o k).1 f).2 w1.heap.size w1)):
  Calls Tryz.prog 36 #[.pointer (some ⟨y.G,0,none⟩),.int .i64 i,ja (strOfNums (bB o.bg)) o.bn aI bL bO] w (jC y m (m.jH φ i o).1 (m.jH φ i o).2 b w):=by
 obtain⟨i0,hi0,hz0,hz1,hz2⟩:=info_parts Nt;obtain⟨af,kf,rfl,_⟩:=ay hor.aI;obtain⟨ac,kc,rfl,_⟩:=ay hor.bL;obtain⟨ad,kd,rfl,_⟩:=ay hor.bO;obtain⟨j1,j2⟩:=II hbd;obtain⟨j,hj⟩:∃j,strOfNums (bB o.bg)=j:=⟨_,rfl⟩;have hidle:=Fq o;have hjz:decide (o.bg=[])=decide (j.size=0):=by
  rw[<-hj,j2];cases o.bg<;>simp
 rw[hjz]at hidle;rw[hj];have hb0:Below w.heap.size w (w.alloc (.cells #[.string j,.bool o.bn,.slice af o.aH.length kf,.slice ac o.aR.length kc,.slice ad o.aQ.length kd] 52)):=bC;have hC:=bS w (.cells #[.string j,.bool o.bn,.slice af o.aH.length kf,.slice ac o.aR.length kc,.slice ad o.aQ.length kd] 52);have h1:=h.later hb0;have ho1:=hor.later hb0;unfold ja;go_enter Tryz.func36,Tryz.ntmps36;go_upto_region 1 with(fail);generalize World.alloc _ _=W1 at hb0 hC h1 ho1 ⊢;have HN:=hide (CR j o.bn af ac ad o.aH.length kf o.aR.length kc o.aQ.length kd (by omega) W1);rw[<-hidle]at HN;unfold ja at HN;have hlow:=hb0.size;obtain⟨C,l5⟩:∃C,w.heap.size=C:=⟨_,rfl⟩;have hC0:w.heap.size<=C:=by omega
 rw[l5]at hC;have t0:W1.cell? ⟨C,0,none⟩=some (.string j):=aF _ _ 0 _ _ _ hC;have t1:W1.cell? ⟨C,1,none⟩=some (.bool o.bn):=aF _ _ 1 _ _ _ hC;have t2:W1.cell? ⟨C,2,none⟩=some (.slice af o.aH.length kf):=aF _ _ 2 _ _ _ hC;have t3:W1.cell? ⟨C,3,none⟩=some (.slice ac o.aR.length kc):=aF _ _ 3 _ _ _ hC;have t4:W1.cell? ⟨C,4,none⟩=some (.slice ad o.aQ.length kd):=aF _ _ 4 _ _ _ hC;rw[l5];clear l5 h hor;go_wp2_with fail;refine aT HN.out ?_;rintro e w2 ⟨rfl,hb2⟩;have h2:=h1.later hb2;have ho2:=ho1.later hb2;have hC2:=(hb2.block _ (aD hC)).trans hC;have hbb:=hb0.trans (hb2.mono hb0.size);have agl:=hbb.size;clear HN h1 ho1 hC t0 t1 t2 t3 t4 hb0 hb2 hlow;cases hid:o.idle
 ·have t0:w2.cell? ⟨C,0,none⟩=some (.string j):=aF _ _ 0 _ _ _ hC2;have t1:w2.cell? ⟨C,1,none⟩=some (.bool o.bn):=aF _ _ 1 _ _ _ hC2;have t2:w2.cell? ⟨C,2,none⟩=some (.slice af o.aH.length kf):=aF _ _ 2 _ _ _ hC2;have t3:w2.cell? ⟨C,3,none⟩=some (.slice ac o.aR.length kc):=aF _ _ 3 _ _ _ hC2;have t4:w2.cell? ⟨C,4,none⟩=some (.slice ad o.aQ.length kd):=aF _ _ 4 _ _ _ hC2;obtain⟨x,s,g,c,e1,e2,e3,e4,p0⟩:=h2.get hi;have q1:=h2.cell.2.1;rw[e4]at q1;have hin:(i:Int)<(m.S.length:Int):=by omega
  rw[e3]at hjl hwh HS;have hall:=v_ φ m i o hid;have hno:(s.write o).2=false->m.jH φ i o=(m.put i (s.write o).1,[⟨i,0,Ot.none⟩]):=λe=>by
   unfold aP.jH;rw[aG (by simp[hid]),aG (by rw[e3,e];simp),e3]
  rw[e3]at hall;have hd1:Below w2.heap.size w2 w2.drew:=(aU _ _).drew;have hmd:=h2.later hd1;have HW:=JC (hmd.st i x s e1 e2) o (.slice af o.aH.length kf) (.slice ac o.aR.length kc) (.slice ad o.aQ.length kd) hbd hnw hjl hwh;rw[hj]at HW;have HW2:Hid (Calls Tryz.prog 62 #[.pointer (some ⟨x.B,0,none⟩),.agg #[.string j,.bool o.bn,.slice af o.aH.length kf,.slice ac o.aR.length kc,.slice ad o.aQ.length kd]] w2.drew λe w'=>e=.returned (.bool (s.write o).2)∧∃y',MM y' (m.put i (s.write o).1) w'∧MU y m y' (m.put i (s.write o).1) w w'∧iG b o.aH o.aR o.aQ (.slice af o.aH.length kf) (.slice ac o.aR.length kc) (.slice ad o.aQ.length kd) w'∧w'.heap[C]?=some (.cells #[.string j,.bool o.bn,.slice af o.aH.length kf,.slice ac o.aR.length kc,.slice ad o.aQ.length kd] 52)):=by
   refine HW.mono ?_;rintro e w' ⟨rfl,hp⟩;obtain⟨y',hm',hu'⟩:=hmd.stp e1 e2 hp;exact⟨rfl,y',hm',((MU.refl y m w).post hbb).trans (hu'.pre hd1),(ho2.later hd1).mesh hmd hu'.fx,(hu'.fx.block C (aD hC2) (hmd.not hC2 (by decide))).trans hC2⟩
  obtain⟨s1,hs1⟩:∃s1,(s.write o).1=s1:=⟨_,rfl⟩;obtain⟨ok,hok⟩:∃ok,(s.write o).2=ok:=⟨_,rfl⟩;rw[hs1,hok]at HW2 hno;rw[hok]at HS hall;have Yb:Hid (jI φ m i o 0=(m.put i s1,[⟨i,0,o⟩])):=by
   show _=_;unfold jI;rw[e3,hs1];rfl
  clear HW hs1 hok e1 e2 e3 e4 h2 ho2 hd1 hmd hjl hwh hbd hnw j1 j2 hjz hidle hbb;go_upto_region 3 with(fail);go_cut [21]from 12 to 21 (λv W=>v=.bool (!ok)∧∃y',MM y' (m.put i s1) W∧MU y m y' (m.put i s1) w W∧iG b o.aH o.aR o.aQ (.slice af o.aH.length kf) (.slice ac o.aR.length kc) (.slice ad o.aQ.length kd) W∧W.heap[C]?=some (.cells #[.string j,.bool o.bn,.slice af o.aH.length kf,.slice ac o.aR.length kc,.slice ad o.aQ.length kd] 52))
  case first=>
   clear HS hno hall Yb hC2;go_region_with(go_at_call 62;refine HW2.out.mono ?_;rintro e w3 ⟨rfl,hfin⟩)
   all_goals
    clear HW2;go_wp2_with fail;go_meet;exact⟨by cases ok<;>rfl,hfin⟩
  case rest=>
   obtain⟨rfl,y',hm,hu,ho,D8⟩:=hcut;clear HW2 hC2 t0 t1 t2 t3 t4 p0 q1;have adE:w.heap.size<=wc.heap.size:=hu.fx.size;cases ok
   ·have hev:=FU (b:=b) (W:=wc) (x:=(⟨i,0,Ot.none⟩,⟨.slice none 0 0,.slice none 0 0,.slice none 0 0⟩)) (by omega) ⟨⟨rfl,.inl ⟨rfl,rfl⟩⟩,⟨rfl,.inl ⟨rfl,rfl⟩⟩,⟨rfl,.inl ⟨rfl,rfl⟩⟩⟩;have hb5:Below wc.heap.size wc (wc.alloc (.cells (xX (⟨i,0,Ot.none⟩,⟨.slice none 0 0,.slice none 0 0,.slice none 0 0⟩)).toArray 54)):=bC;have hfin:jC y m (m.jH φ i o).1 (m.jH φ i o).2 b w (.returned (.slice (some ⟨wc.heap.size,0,none⟩) 1 1)) (wc.alloc (.cells (xX (⟨i,0,Ot.none⟩,⟨.slice none 0 0,.slice none 0 0,.slice none 0 0⟩)).toArray 54)):=by
     rw[hno rfl];exact⟨_,_,rfl,rfl,hev,y',hm.later hb5,hu.post hb5⟩
    have nC:(xX (⟨i,0,Ot.none⟩,⟨.slice none 0 0,.slice none 0 0,.slice none 0 0⟩)).toArray=#[.int .i64 i,.int .i64 0,.string ⟨#[]⟩,.bool false,.slice none 0 0,.slice none 0 0,.slice none 0 0]:=rfl;rw[nC]at hfin;clear hev hb5 hno HS hall Yb hm hu ho D8 nC;go_wp2;go_ret;exact hfin
   ·have hev:=FU (b:=b) (W:=wc) (x:=(⟨i,0,o⟩,⟨.slice af o.aH.length kf,.slice ac o.aR.length kc,.slice ad o.aQ.length kd⟩)) (by omega) ho;have nC:(xX (⟨i,0,o⟩,⟨.slice af o.aH.length kf,.slice ac o.aR.length kc,.slice ad o.aQ.length kd⟩)).toArray=#[.int .i64 i,.int .i64 0,.string j,.bool o.bn,.slice af o.aH.length kf,.slice ac o.aR.length kc,.slice ad o.aQ.length kd]:=by
     rw[<-hj];rfl
    rw[nC]at hev;have hb5:Below wc.heap.size wc (wc.alloc (.cells #[.int .i64 i,.int .i64 0,.string j,.bool o.bn,.slice af o.aH.length kf,.slice ac o.aR.length kc,.slice ad o.aQ.length kd] 54)):=bC;have rD:Hid (∃y' L,MM y' (jI φ m i o 0).1 (wc.alloc (.cells #[.int .i64 i,.int .i64 0,.string j,.bool o.bn,.slice af o.aH.length kf,.slice ac o.aR.length kc,.slice ad o.aQ.length kd] 54))∧MU y m y' (jI φ m i o 0).1 w (wc.alloc (.cells #[.int .i64 i,.int .i64 0,.string j,.bool o.bn,.slice af o.aH.length kf,.slice ac o.aR.length kc,.slice ad o.aQ.length kd] 54))∧gN b (.slice (some ⟨wc.heap.size,0,none⟩) 1 1) L (wc.alloc (.cells #[.int .i64 i,.int .i64 0,.string j,.bool o.bn,.slice af o.aH.length kf,.slice ac o.aR.length kc,.slice ad o.aQ.length kd] 54))∧L.map (·.1)=(jI φ m i o 0).2∧(wc.alloc (.cells #[.int .i64 i,.int .i64 0,.string j,.bool o.bn,.slice af o.aH.length kf,.slice ac o.aR.length kc,.slice ad o.aQ.length kd] 54)).ownsRow w.heap.size 54 7 (.slice (some ⟨wc.heap.size,0,none⟩) 1 1) L.length (EvC L)∧iG b o.aH o.aR o.aQ (.slice af o.aH.length kf) (.slice ac o.aR.length kc) (.slice ad o.aQ.length kd) (wc.alloc (.cells #[.int .i64 i,.int .i64 0,.string j,.bool o.bn,.slice af o.aH.length kf,.slice ac o.aR.length kc,.slice ad o.aQ.length kd] 54))):=by
     show ∃y' L,_;rw[Yb.out];refine⟨y',_,hm.later hb5,hu.post hb5,hev,rfl,⟨rfl,.inr ⟨wc.heap.size,1,_,rfl,adE,bS _ _,aA _,by decide,rfl,?_⟩⟩,ho.later hb5⟩;rw[<-hj];rfl
    have t0:wc.cell? ⟨C,0,none⟩=some (.string j):=aF _ _ 0 _ _ _ D8;have t1:wc.cell? ⟨C,1,none⟩=some (.bool o.bn):=aF _ _ 1 _ _ _ D8;have t2:wc.cell? ⟨C,2,none⟩=some (.slice af o.aH.length kf):=aF _ _ 2 _ _ _ D8;have t3:wc.cell? ⟨C,3,none⟩=some (.slice ac o.aR.length kc):=aF _ _ 3 _ _ _ D8;have t4:wc.cell? ⟨C,4,none⟩=some (.slice ad o.aQ.length kd):=aF _ _ 4 _ _ _ D8;have ZV:=hide (hall rfl);have HS2:=hide (λk f hf=>HS k f hf hid rfl);clear hev hb5 hno HS hall Yb hm hu ho D8 nC hj hid;have u2:(wc.alloc (.cells #[.int .i64 i,.int .i64 0,.string j,.bool o.bn,.slice af o.aH.length kf,.slice ac o.aR.length kc,.slice ad o.aQ.length kd] 54)).cell? ⟨C,2,none⟩=some (.slice af o.aH.length kf):=((bC:Below wc.heap.size wc _).cell (World.block_lt_of_cell? _ _ t2)).trans t2;go_upto_region 6 with(fail);generalize World.alloc _ _=W5 at rD u2 ⊢;generalize wc.heap.size=E at rD ⊢;clear t0 t1 t2 t3 t4;go_wp2_with fail;go_loopw [7,32] (λev iv wr=>∃k:Nat,k<=o.aH.length∧iv=.int .i64 k∧Hid (∃y' L,MM y' (jI φ m i o k).1 wr∧MU y m y' (jI φ m i o k).1 w wr∧gN b ev L wr∧L.map (·.1)=(jI φ m i o k).2∧wr.ownsRow w.heap.size 54 7 ev L.length (EvC L)∧iG b o.aH o.aR o.aQ (.slice af o.aH.length kf) (.slice ac o.aR.length kc) (.slice ad o.aQ.length kd) wr)) (λ_ iv _=>o.aH.length - (intOf iv).toNat)
    case atStart=>exact⟨0,b_ _,rfl,rD⟩
    case round=>
     clear rD;obtain⟨k,hk,rfl,hr⟩:=hrel;by_cases hkl:k<o.aH.length
     ·have hki:(k:Int)<(o.aH.length:Int):=by omega
      obtain⟨y1,L,hm,hu,hev,hL,hrw,ho⟩:=hr.out;obtain⟨f,hf⟩:∃f,o.aH[k]?=some f:=⟨_,cK hkl⟩;obtain⟨g5,rfl,d0,d1⟩:=YI ho rfl hf;have hbx:Below wr.heap.size wr (wr.alloc (.cells #[.int .u32 f.1,.string f.2] 77)):=bC;have hm1:=hm.later hbx;have hHS:=HS2.out k f hf y1 _ hm1;rw[hu.G]at hHS;have hlen:=BP hφ m i o k hk;rw[<-hL,iK]at hlen;have aeH:=hφ (jI φ m i o k).1 f;have hsucc:=Ee φ m i o hf;have adO:=hev.later hbx;have ho1:=ho.later hbx;have hu1:=hu.post hbx;have abO:Hid (Calls Tryz.prog 67 #[.pointer (some ⟨y.G,0,none⟩),.int .i64 i,.agg #[.int .u32 f.1,.string f.2]] (wr.alloc (.cells #[.int .u32 f.1,.string f.2] 77)) λe w3=>∃v2 L2 n2,e=.returned v2∧L2.length=n2∧n2<=1∧w3.ownsRow w.heap.size 54 7 u7 L.length (EvC L)∧w3.ownsRow wr.heap.size 54 7 v2 n2 (EvC L2)∧(∀u∈EvC L2,u.oneCell'=true)∧w.heap.size<=w3.heap.size∧∀v' w',w'.ownsRow w.heap.size 54 7 v' (L.length+n2) (EvC L++EvC L2)->w3.grownBy w' u7.ownBlock->∃y' L,MM y' (jI φ m i o (k+1)).1 w'∧MU y m y' (jI φ m i o (k+1)).1 w w'∧gN b v' L w'∧L.map (·.1)=(jI φ m i o (k+1)).2∧w'.ownsRow w.heap.size 54 7 v' L.length (EvC L)∧iG b o.aH o.aR o.aQ (.slice (some ⟨g5,0,none⟩) o.aH.length kf) (.slice ac o.aR.length kc) (.slice ad o.aQ.length kd) w'):=by
       refine hHS.mono ?_;rintro e w3 ⟨v2,L2,rfl,hL2,nC,y2,hm2,hu2⟩;have hl2:L2.length<=1:=by
        have:=congrArg List.length hL2;rw[iK]at this;omega
       have abw:=adO.mesh hm1 hu2.fx;have how:=ho1.mesh hm1 hu2.fx;have hz1:=hbx.size;have hz2:=hu2.fx.size;have hz3:=(hu1.trans hu2).fx.size;have hz0:=hu.fx.size;have hrw3:w3.ownsRow w.heap.size 54 7 u7 L.length (EvC L):=bP (bP hrw λk5 hk5=>hbx.block k5 (hrw.lt k5 hk5).2) λk5 hk5=>by
        obtain⟨cc,P7⟩:=aS hrw hk5;have hc6:=(hbx.block k5 (aD P7)).trans P7;exact hu2.fx.block k5 (aD hc6) (hm1.notE (by decide) hc6)
       refine⟨v2,L2,_,rfl,rfl,hl2,hrw3,(nC.lower hz1).row,nC.one,hz3,λv' w' ho' hg'=> ?_⟩;have hbE:∀k5,uR y2 (φ (jI φ m i o k).1 f).1 k5->w'.heap[k5]?=w3.heap[k5]?:=λk5 hk5=>hg'.block k5 (hm2.lt hk5) λe5=>by
        obtain⟨cc,P7⟩:=aS abw.row e5.symm;exact hm2.notE (by decide) P7 hk5
       rw[hsucc];refine⟨y2,L++L2,hm2.kept hbE,⟨aV (hu1.trans hu2).fx hg' (λj5 hj5 e5=> ?_),λk5 hk5=>((hu1.trans hu2).sub k5 hk5).imp_right λh=>⟨h.1,fP h.2 hg'.size⟩,(hu1.trans hu2).G,(hu1.trans hu2).n,(hu1.trans hu2).sv,(hu1.trans hu2).B⟩,?_,?_,by rw[dx,Ct];exact ho',how.at λk5 c5 t5 ht5 hk5=>hg'.block k5 (aD hk5) λe5=> ?_⟩
       ·have:=(hrw.lt j5 e5).1;omega
       ·exact abw.append nC (by omega) (λx hx k5 hk5=>by have:=(hev.out x hx).lt hk5;omega) (ownsRow_base_a ho' hb) hg'
       ·rw[List.map_append,hL,hL2];rfl
       ·obtain⟨cc,P7⟩:=aS abw.row e5.symm;rw[hk5]at P7;cases P7;exact absurd ht5 (by decide)
      have IY:Hid (∀n2,n2<=1->L.length+n2<=maxLen∧(L.length+n2)* 112<=140737488355328):=λn2 h2=>by unfold maxLen;omega
      have hme:=pR hkl;have hk1:k+1<=o.aH.length:=by omega
      have hw64:wrap64 ((k:Int)+1)=(k:Int)+1:=by unfold wrap64;omega
      obtain⟨f1,f2⟩:=f;dsimp only at d0 d1 abO;clear hr hm hu hev hL ho hm1 hHS hlen aeH hsucc adO ho1 hu1 hf hbx hrw hfr hb;go_wp2_with fail;refine aT abO.out ?_;rintro e w3 ⟨v2,L2,n2,rfl,hn2,afd,hr1,hr2,h1c,hbw,hnx⟩;replace hnx:=hide hnx;replace hn2:=hide hn2;obtain⟨abp,abo⟩:=IY.out n2 afd;clear abO IY;go_wp2_with(at_builtin;refine tQ rfl _ _ 29 rfl w.heap.size 54 i0 (.agg #[.int .i64 0,.int .i64 0,.string ⟨#[]⟩,.bool false,.slice none 0 0,.slice none 0 0,.slice none 0 0]) 7 112 Tryz.underlying29 hi0 hz0 hz1 hz2 rfl (by decide) u7 L.length (EvC L) rfl hr1 wr.heap.size v2 n2 (EvC L2) rfl hr2 h1c abp abo hbw ?_);intro v7 w7 iw gV;have Bj:=hide (hnx.out v7 w7 iw gV);clear hnx iw gV hr1 hr2 h1c d0 d1;go_wp2;try rw[hw64]
      go_roundw
      case rel=>
       first
        |exact⟨k+1,hk1,by go_num,Bj⟩
        |exact⟨_,_,⟨k+1,hk1,by go_num,Bj⟩,rfl⟩
        |((repeat apply Exists.intro);refine⟨⟨k+1,hk1,by go_num,Bj⟩,rfl⟩)
      case measure=>exact hme
     ·obtain rfl:k=o.aH.length:=by omega
      obtain⟨y1,L,hm,hu,hev,hL,hrw,ho⟩:=hr.out;have hfin:jC y m (m.jH φ i o).1 (m.jH φ i o).2 b w (.returned u7) wr:=by
       rw[ZV.out];exact⟨u7,L,rfl,hL,hev,y1,hm,hu⟩
      clear hr hm hu hev hL ho HS2 ZV hrw;go_wp2;go_ret;exact hfin
 ·have hfin:jC y m (m.jH φ i o).1 (m.jH φ i o).2 b w (.returned (.slice none 0 0)) w2:=by
   unfold aP.jH;rw[aM (by rw[hid])];exact⟨_,[],rfl,rfl,gN.nil _ _,y,h2,(MU.refl y m w).post hbb⟩
  clear h2 ho2 hC2 HS hbb;go_wp2;go_ret;exact hfin
end Go.Proofs.YtakaadcpaeiccabGreat
