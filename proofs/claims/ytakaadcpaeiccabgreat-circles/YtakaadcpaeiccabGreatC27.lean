import Derived.Test.YtakaadcpaeiccabGreatC26
set_option maxHeartbeats 8000000
set_option maxRecDepth 100000
namespace Go.Proofs.YtakaadcpaeiccabGreat
open Go.RowKit Go.Maps
variable{y y':MG}{m m':aS}{W w w' w1:World}
theorem uF(a b:List (Nat×Nat×ByteArray)):o6 (a++b)=o6 a++o6 b:=by simp[o6]
theorem BD(L:List (Nat×Nat×ByteArray)):(o6 L).length=L.length * 3:=rE (λf:Nat×Nat×ByteArray=>([Value.int .i64 f.1,.int .i64 f.2.1,.string f.2.2]:List Value)) 3 (λ_=>rfl) L
theorem RV(L:List (Nat×Nat×ByteArray)):∀u∈o6 L,u.oneCell'=true:=by
 intro u hu;obtain⟨x,_,hx⟩:=List.mem_flatMap.1 hu;simp only[fe,List.not_mem_nil,or_false]at hx;rcases hx with rfl|rfl|rfl<;>rfl
theorem FI{L:List (Nat×Nat×ByteArray)}{k:Nat}{x:Nat×Nat×ByteArray}(h:L[k]?=some x):(o6 L)[k * 3]?=some (.int .i64 x.1)∧(o6 L)[k * 3+1]?=some (.int .i64 x.2.1)∧(o6 L)[k * 3+2]?=some (.string x.2.2):=by
 have hf:=λi hi=>kM (λf:Nat×Nat×ByteArray=>([Value.int .i64 f.1,.int .i64 f.2.1,.string f.2.2]:List Value)) 3 (by decide) (λ_=>rfl) L k i hi h;exact⟨hf 0 (by decide),hf 1 (by decide),hf 2 (by decide)⟩
theorem Ja(L:List (Nat×Nat×ByteArray))(k:Nat):o6 (L.take k)=(o6 L).take (k * 3):=by
 induction L generalizing k with
 |nil=>simp[o6]
 |cons a L ih=>
  cases k with
  |zero=>simp[o6]
  |succ k=>
   rw[List.take_succ_cons];show [_,_,_]++o6 (L.take k)=(([_,_,_]:List Value)++o6 L).take ((k+1)* 3);rw[ih,show(k+1)* 3=k * 3+1+1+1 by omega];rfl
theorem Vr(L:List (Nat×Nat×ByteArray))(k:Nat):o6 (L.drop k)=(o6 L).drop (k * 3):=by
 have h:=uF (L.take k) (L.drop k);rw[List.take_append_drop,Ja]at h;by_cases hk:k<=L.length
 ·have hl:((o6 L).take (k * 3)).length=k * 3:=by rw[List.length_take,BD];omega
  have h2:(o6 L).drop (k * 3)=((o6 L).take (k * 3)++o6 (L.drop k)).drop (k * 3):=by rw[<-h]
  rw[h2,List.drop_append,hl,Nat.sub_self,List.drop_zero,(List.drop_eq_nil_of_le (by omega):((o6 L).take (k * 3)).drop (k * 3)=[]),List.nil_append]
 ·rw[List.drop_eq_nil_of_le (by omega),List.drop_eq_nil_of_le (by rw[BD];omega)];rfl
theorem MM.fly(h:MM y m W){v7:Value}{w7:World}{F:List (Nat×Nat×ByteArray)}(ho:w7.ownsRow 0 149 3 v7 F.length (o6 F))(hg:W.grownBy w7 y.av.ownBlock)(hv:v7.ownBlock=y.av.ownBlock∨v7.ownBlock=some W.heap.size):
  (w7.cell? ⟨y.G,2,none⟩=some y.av∧w7.frozen? ⟨y.G,2,none⟩=false)∧MM {y with av:=v7} {m with bO:=F} (w7.setCell ⟨y.G,2,none⟩ v7)∧MU y m {y with av:=v7} {m with bO:=F} W (w7.setCell ⟨y.G,2,none⟩ v7):=by
 have hne:y.av.ownBlock≠some y.G:=aB h.bO h.blk (λc e=>(by cases e));have hblk:=hg.block _ (aG h.blk) λe=>hne e.symm;obtain⟨_,_,c2,fz⟩:=h.cell;have Ig:=hblk.trans h.blk;have hg2:w7.grownBy (w7.setCell ⟨y.G,2,none⟩ v7) (some y.G):=ah (aC _ (some y.G)) 2 _;have hsz:=hg.size;have hkeep:∀k,k<W.heap.size->k≠y.G->y.av.ownBlock≠some k->(w7.setCell ⟨y.G,2,none⟩ v7).heap[k]?=W.heap[k]?:=λk hk h1 h2=>(hg2.block k (by omega) λe=>h1 (Option.some.inj e)).trans (hg.block k hk λe=>h2 e.symm);have hf:Fx (oZ y m) W (w7.setCell ⟨y.G,2,none⟩ v7):=aW (Fx.grown hg λk e=> .inr (.inr (.inl e))) hg2 λi _ e=>by cases e;exact .inl rfl
 refine⟨⟨(World.cell?_of_block (a:=⟨y.G,2,none⟩) hblk).trans c2,(World.frozen?_of_block (a:=⟨y.G,2,none⟩) hblk).trans (fz 2)⟩,⟨?_,?_,ho.kept hg2 (.inr (aB ho Ig (λc e=>(by cases e)))),h.len,λi x s h1 h2=>(h.st i x s h1 h2).kept λk hk=> ?_,h.ap⟩,hf,λk hk=> ?_,rfl,rfl,rfl,rfl⟩
 ·simp[World.setCell,Array.getElem?_modify,Ig]
 ·refine bK h.zF λk hk=>hkeep k (h.zF.lt k hk).2 (λe=> ?_) λe=> ?_
  ·subst e;exact aB h.zF h.blk (λc e=>(by cases e)) hk
  ·rcases bX h.zF h.bO (by decide)with q|q
   ·rw[q]at hk;cases hk
   ·exact q (hk.trans e.symm)
 ·obtain⟨q1,_,q3⟩:=h.own h1 h2 hk;exact hkeep k ((h.st i x s h1 h2).lt hk) q1 q3
 ·rcases hk with hk|hk|hk|hk
  ·exact .inl (.inl hk)
  ·exact .inl (.inr (.inl hk))
  ·rcases hv with e|e
   ·exact .inl (.inr (.inr (.inl (by rw[<-e];exact hk))))
   ·have h1:=(ho.lt k hk).2;rw[show({y with av:=v7}:MG).av=v7 from rfl,e]at hk;cases hk;exact .inr ⟨aD _,by simpa using h1⟩
  ·exact .inl (.inr (.inr (.inr hk)))
theorem MM.drew(h:MM y m W):MM y m W.drew:=h.kept λ_ _=>rfl
theorem MU.pre(hb:Below w.heap.size w w1)(h:MU y m y' m' w1 w'):MU y m y' m' w w':=(MU.below hb).trans h
theorem MU.post(h:MU y m y' m' w w1)(hb:Below w1.heap.size w1 w'):MU y m y' m' w w':=h.trans (MU.below hb)
def MP(y:MG)(m m':aS)(w w':World):Prop:=∃y',MM y' m' w'∧MU y m y' m' w w'
theorem MP.pre(hb:Below w.heap.size w w1)(h:MP y m m' w1 w'):MP y m m' w w':=by
 obtain⟨y',h1,h2⟩:=h;exact⟨y',h1,h2.pre hb⟩
theorem MP.post(h:MP y m m' w w1)(hb:Below w1.heap.size w1 w'):MP y m m' w w':=by
 obtain⟨y',h1,h2⟩:=h;exact⟨y',h1.later hb,h2.post hb⟩
theorem MP.refl(h:MM y m w):MP y m m w w:=⟨y,h,MU.refl _ _ _⟩
theorem MP.comp{y1:MG}{m1:aS}(u:MU y m y1 m1 w w1)(h:MP y1 m1 m' w1 w'):MP y m m' w w':=by
 obtain⟨y',h1,h2⟩:=h;exact⟨y',h1,u.trans h2⟩
theorem XJ:(Tryz.prog.info? 149).map (λi=>(i.zero,i.size,i.bytes))=some (some (.agg #[.int .i64 0,.int .i64 0,.string ⟨#[]⟩]),3,32):=by kernel_rfl
theorem UL(W:World)(a b:Nat)(s:ByteArray):∀(j:Nat) (u:Value),(o6 [(a,b,s)])[j]?=some u->(W.alloc (.cells #[.int .i64 a,.int .i64 b,.string s] 149)).drew.cell? ((⟨W.heap.size,0,none⟩:Addr).add j)=some u:=by
 intro j u hj;have hh:=bS W (.cells #[.int .i64 a,.int .i64 b,.string s] 149);have hadd:(⟨W.heap.size,0,none⟩:Addr).add j=⟨W.heap.size,0+j,none⟩:=by unfold Addr.add;split<;>simp_all
 rw[hadd,Nat.zero_add];have hh':(W.alloc (.cells #[.int .i64 a,.int .i64 b,.string s] 149)).drew.heap[W.heap.size]?=some (.cells #[.int .i64 a,.int .i64 b,.string s] 149):=hh
 match j,hj with
 |0,hj=>exact(aH _ _ 0 _ _ _ hh').trans hj
 |1,hj=>exact(aH _ _ 1 _ _ _ hh').trans hj
 |2,hj=>exact(aH _ _ 2 _ _ _ hh').trans hj
 |j+3,hj=>simp[o6]at hj
def flV(f:Nat×Nat×ByteArray):Value:=.agg #[.int .i64 f.1,.int .i64 f.2.1,.string f.2.2]
theorem KY(h:MM y m w)(i:Nat)(hi:i<m.bO.length)(hl:m.bO.length<=1000)(f:Nat×Nat×ByteArray)(hf:m.bO[i]?=some f):Calls Tryz.prog 63 #[.pointer (some ⟨y.G,0,none⟩),.int .i64 i] w λe w'=>e=.returned (flV f)∧MP y m {m with bO:=m.bO.eraseIdx i} w w':=by
 have hb0:Below w.heap.size w (w.alloc (.cells #[.int .i64 0,.int .i64 0,.string ⟨#[]⟩] 149)):=bq;have hC:=bS w (.cells #[.int .i64 0,.int .i64 0,.string ⟨#[]⟩] 149);have h1:=h.later hb0;obtain⟨g,cap,BL,_⟩:=bV h.bO (by omega);have hgl:g<w.heap.size:=(h.bO.lt g (by rw[BL];rfl)).2;have hlt:=λk (hk:oZ y m k)=>h.lt hk;obtain⟨a,b,s⟩:=f;obtain⟨q0,q1,q2⟩:=FI hf;dsimp only at q0 q1 q2;have hil:(i:Int)<(m.bO.length:Int):=by omega
 have hiw:wrap64 ((i:Int)+1)=(i:Int)+1:=by unfold wrap64;omega
 have hFl:o6 (m.bO.eraseIdx i)=(o6 m.bO).take (i * 3)++(o6 m.bO).drop ((i+1)* 3):=by
  rw[List.eraseIdx_eq_take_drop_succ,uF,Ja,Vr]
 have hln:(m.bO.eraseIdx i).length=m.bO.length - 1:=by rw[List.length_eraseIdx,aQ hi]
 unfold flV;dsimp only;clear h;go_enter Tryz.func63,Tryz.ntmps63;go_upto_region 1 with(fail);generalize World.alloc _ _=W1 at hb0 hC h1 ⊢;have hr1:=h1.bO;rw[BL]at hr1;have c2:=h1.cell.2.2.1;rw[BL]at c2;have d0:=(hr1.cellAt (i * 3) (by omega)).trans q0;have d1:=(hr1.cellAt (i * 3+1) (by omega)).trans q1;have d2:=(hr1.cellAt (i * 3+2) (by omega)).trans q2;have hb1:Below W1.heap.size W1 (W1.alloc (.cells #[.int .i64 a,.int .i64 b,.string s] 149)):=bq;have hD:=bS W1 (.cells #[.int .i64 a,.int .i64 b,.string s] 149);have h2:=h1.later hb1;have hC2:=(hb1.block _ (aG hC)).trans hC;have hb2:=hb0.trans (hb1.mono hb0.size);have Uj:=aG hC;clear h1 hr1 hb0 hb1 hC q0 q1 q2;go_upto_region 2 with(fail);generalize World.alloc _ _=W2 at hD h2 hC2 hb2 ⊢;generalize W1.heap.size=D at hD Uj ⊢;clear c2 d0 d1 d2;have hr2:=h2.bO;have c2:=h2.cell.2.2.1;have f2:=h2.cell.2.2.2 2;have HX:=hide (DF.uG 0 g m.bO.length cap i (o6 m.bO) W2 (by rw[<-BL];exact hr2) hi (by omega) (RV _));have HF:Hid (∀w7:World,w7.ownsRow 0 149 3 (.slice (some ⟨g,0,none⟩) (m.bO.length - 1) cap) (m.bO.length - 1) ((o6 m.bO).take (i * 3)++(o6 m.bO).drop ((i+1)* 3))->W2.grownBy w7 (some g)->(w7.cell? ⟨y.G,2,none⟩=some y.av∧w7.frozen? ⟨y.G,2,none⟩=false)∧(∃y',MM y' {m with bO:=m.bO.eraseIdx i} (w7.setCell ⟨y.G,2,none⟩ (.slice (some ⟨g,0,none⟩) (m.bO.length - 1) cap))∧MU y m y' {m with bO:=m.bO.eraseIdx i} w (w7.setCell ⟨y.G,2,none⟩ (.slice (some ⟨g,0,none⟩) (m.bO.length - 1) cap))∧∀k,oZ y' {m with bO:=m.bO.eraseIdx i} k->k<w.heap.size)∧(w7.setCell ⟨y.G,2,none⟩ (.slice (some ⟨g,0,none⟩) (m.bO.length - 1) cap)).heap[w.heap.size]?=some (.cells #[.int .i64 0,.int .i64 0,.string ⟨#[]⟩] 149)∧(w7.setCell ⟨y.G,2,none⟩ (.slice (some ⟨g,0,none⟩) (m.bO.length - 1) cap)).heap[D]?=some (.cells #[.int .i64 a,.int .i64 b,.string s] 149)):=by
  intro w7 ho hg;rw[<-hFl,<-hln]at ho;obtain⟨k1,k2,k3⟩:=h2.fly ho (by rw[BL];exact hg) (by rw[BL];exact .inl rfl);have hsz:=hg.size;have hgG:w7.grownBy (w7.setCell ⟨y.G,2,none⟩ (.slice (some ⟨g,0,none⟩) (m.bO.eraseIdx i).length cap)) (some y.G):=ah (aC _ (some y.G)) 2 _;have hwG:W2.heap[y.G]?=_:=h2.blk;have hxg:∀k,k<W2.heap.size->k≠y.G->k≠g->(w7.setCell ⟨y.G,2,none⟩ (.slice (some ⟨g,0,none⟩) (m.bO.eraseIdx i).length cap)).heap[k]?=W2.heap[k]?:=λk hk e1 e2=>(hgG.block k (fZ hk hsz) λe=>e1 (Option.some.inj e)).trans (hg.block k hk λe=>e2 (Option.some.inj e));rw[hln]at k2 k3 hxg;refine⟨k1,⟨_,k2,k3.pre hb2,λk hk=> ?_⟩,(hxg _ (aG hC2) (λe=> ?_) λe=> ?_).trans hC2,(hxg _ (aG hD) (λe=> ?_) λe=> ?_).trans hD⟩
  ·rcases hk with hk|hk|hk|hk
   ·exact hlt k (.inl hk)
   ·exact hlt k (.inr (.inl hk))
   ·cases hk;exact hgl
   ·exact hlt k (.inr (.inr (.inr hk)))
  ·rw[e,h2.blk]at hC2;cases hC2
  ·omega
  ·rw[e,h2.blk]at hD;cases hD
  ·omega
 clear h2 hr2 hFl hln hC2 hD;rw[BL]at c2;go_wp2_with fail;refine aU HX.out ?_;rintro e w7 ⟨rfl,iy,gP⟩;obtain⟨⟨g1,g2⟩,hm,Pg,hDw⟩:=HF.out _ iy gP;rw[BL]at g1;have z0:=aH _ _ 0 _ _ _ Pg;have z1:=aH _ _ 1 _ _ _ Pg;have z2:=aH _ _ 2 _ _ _ Pg;have y0:=mM _ w.heap.size 0 _ _ Pg;have y1:=mM _ w.heap.size 1 _ _ Pg;have y2:=mM _ w.heap.size 2 _ _ Pg;have u0:=aH _ _ 0 _ _ _ hDw;have u1:=aH _ _ 1 _ _ _ hDw;have u2:=aH _ _ 2 _ _ _ hDw;clear HX HF iy gP c2;go_upto_region 3 with(fail);generalize World.setCell _ _ _=W3 at hm Pg hDw z0 z1 z2 y0 y1 y2 u0 u1 u2 ⊢;simp at z0 z1 z2 u0 u1 u2;have gJ:(((W3.setCell ⟨w.heap.size,0,none⟩ (.int .i64 a)).setCell ⟨w.heap.size,1,none⟩ (.int .i64 b)).setCell ⟨w.heap.size,2,none⟩ (.string s)).heap[w.heap.size]?=some (.cells #[.int .i64 a,.int .i64 b,.string s] 149):=by
  simp[World.setCell,Array.getElem?_modify,Pg]
 have gV:W3.grownBy (((W3.setCell ⟨w.heap.size,0,none⟩ (.int .i64 a)).setCell ⟨w.heap.size,1,none⟩ (.int .i64 b)).setCell ⟨w.heap.size,2,none⟩ (.string s)) (some w.heap.size):=ah (ah (ah (aC W3 (some w.heap.size)) 0 _) 1 _) 2 _;have VG:MP y m {m with bO:=m.bO.eraseIdx i} w (((W3.setCell ⟨w.heap.size,0,none⟩ (.int .i64 a)).setCell ⟨w.heap.size,1,none⟩ (.int .i64 b)).setCell ⟨w.heap.size,2,none⟩ (.string s)):=by
  obtain⟨y',k1,k2,k3⟩:=hm;have hno:∀k,oZ y' {m with bO:=m.bO.eraseIdx i} k->some k≠some w.heap.size:=λk hk e=>by
   cases e;have:=k3 _ hk;omega
  refine⟨y',k1.kept λk hk=>gV.block k (k1.lt hk) (hno k hk),⟨aW k2.fx gV (λj hj e=>by cases e;omega),λk hk=>(k2.sub k hk).imp_right λh=>⟨h.1,fZ h.2 gV.size⟩,k2.G,k2.n,k2.sv,k2.B⟩⟩
 clear hm Pg hDw gV;go_wp2_with fail;generalize World.setCell _ _ _=W7 at gJ VG ⊢;have p0:W7.cell? ⟨w.heap.size,0,none⟩=some (.int .i64 a):=aH _ _ 0 _ _ _ gJ;have p1:W7.cell? ⟨w.heap.size,1,none⟩=some (.int .i64 b):=aH _ _ 1 _ _ _ gJ;have p2:W7.cell? ⟨w.heap.size,2,none⟩=some (.string s):=aH _ _ 2 _ _ _ gJ;exact bodyPost_ret (v:=.agg #[.int .i64 a,.int .i64 b,.string s]) (by simp[results,Tryz.results63,go_sem,p0,p1,p2]) rfl ⟨rfl,VG⟩
theorem I7(h:MM y m w)(hl:m.bO.length<=500)(f:Nat×Nat×ByteArray):Calls Tryz.prog 64 #[.pointer (some ⟨y.G,0,none⟩),flV f] w λe w'=>e=.returned (.tuple #[])∧MP y m (m.launch f) w w':=by
 obtain⟨i0,hi,hz0,hz1,hz2⟩:=info_parts XJ;obtain⟨a,b,s⟩:=f;have hb0:Below w.heap.size w (w.alloc (.cells #[.int .i64 a,.int .i64 b,.string s] 149)):=bq;have hC:=bS w (.cells #[.int .i64 a,.int .i64 b,.string s] 149);have h1:=h.later hb0;unfold flV;dsimp only;go_enter Tryz.func64,Tryz.ntmps64;go_upto_region 1 with(fail);generalize World.alloc _ _=W1 at hb0 hC h1 ⊢;have hkb:∀o,Below W1.heap.size W1 (W1.alloc o).drew:=λo=>((aV _ _).alloc (aD _) o).drew;have hrow:=λo=>(h1.later (hkb o)).bO;have hcf:=UL W1 a b s;have hcm:=λo=>(h1.later (hkb o)).cell.2.2.1;have hc1:=h1.cell.2.2.1;have t0:W1.cell? ⟨w.heap.size,0,none⟩=some (.int .i64 a):=aH _ _ 0 _ _ _ hC;have t1:W1.cell? ⟨w.heap.size,1,none⟩=some (.int .i64 b):=aH _ _ 1 _ _ _ hC;have t2:W1.cell? ⟨w.heap.size,2,none⟩=some (.string s):=aH _ _ 2 _ _ _ hC;have HF:Hid (∀v7 w7,w7.ownsRow 0 149 3 v7 (m.bO.length+1) (o6 m.bO++o6 [(a,b,s)])->(W1.alloc (.cells #[.int .i64 a,.int .i64 b,.string s] 149)).drew.grownBy w7 y.av.ownBlock->(v7.ownBlock=y.av.ownBlock∨v7.ownBlock=some (W1.alloc (.cells #[.int .i64 a,.int .i64 b,.string s] 149)).drew.heap.size)->(w7.cell? ⟨y.G,2,none⟩=some y.av∧w7.frozen? ⟨y.G,2,none⟩=false)∧MM {y with av:=v7} {m with bO:=m.bO++ [(a,b,s)]} (w7.setCell ⟨y.G,2,none⟩ v7)∧MU y m {y with av:=v7} {m with bO:=m.bO++ [(a,b,s)]} w (w7.setCell ⟨y.G,2,none⟩ v7)):=by
  intro v7 w7 ho hg hv;rw[<-uF,show m.bO.length+1=(m.bO++ [(a,b,s)]).length by simp]at ho;obtain⟨q1,q2,q3⟩:=(h1.later (hkb _)).fly ho hg hv;exact⟨q1,q2,(q3.pre (hkb _)).pre hb0⟩
 have hlm:m.bO.length+1<=maxLen:=by unfold maxLen;omega
 have hl2:(m.bO.length+1)* 32<=140737488355328:=by omega
 have za:m.launch (a,b,s)=if 48<m.bO.length+1 then {m with bO:=(m.bO++ [(a,b,s)]).eraseIdx 0}else {m with bO:=m.bO++ [(a,b,s)]}:=by
  unfold aS.launch;simp only[dw,dU,List.length_nil,List.eraseIdx_zero];split<;>rfl
 replace za:=hide za;clear h h1 hC hkb;generalize w.heap.size=C at t0 t1 t2 ⊢;go_cut []from 4 to 13 (λWc=>∃v7,MM {y with av:=v7} {m with bO:=m.bO++ [(a,b,s)]} Wc∧MU y m {y with av:=v7} {m with bO:=m.bO++ [(a,b,s)]} w Wc)
 case first=>
  go_region_law (refine gU rfl (.tmp 8) (.tmp 10) 45 rfl 0 149 i0 (.agg #[.int .i64 0,.int .i64 0,.string ⟨#[]⟩]) 3 32 Tryz.underlying45 hi hz0 hz1 hz2 rfl (by decide) y.av m.bO.length (o6 m.bO) (by simp[Act.eval]) (hrow _) ⟨_,0,none⟩ 1 1 (o6 [(a,b,s)]) (by simp[Act.eval]) rfl (hcf) (RV _) hlm hl2 (dh _) ?_;intro v7 w7 iy gP hv7;obtain⟨⟨g1,g2⟩,hm⟩:=HF.out _ _ iy gP hv7;obtain⟨Qz,UM,rfl,_⟩:=ak iy)
  all_goals
   clear gP iy;go_wp2_with fail;go_meet;exact⟨_,hm⟩
 case rest=>
  obtain⟨v7,hm,hu⟩:=hcut;have c2:=hm.cell.2.2.1;obtain⟨ao,cc,hv,_⟩:=ak hm.bO;dsimp only at c2 hv;rw[hv]at c2;have hlen:(m.bO++ [(a,b,s)]).length=m.bO.length+1:=by simp
  have HL:=λ(h48:48<m.bO.length+1)=>KY hm 0 (by dsimp only;omega) (by dsimp only;omega) ((m.bO++ [(a,b,s)])[0]'(by omega)) (cZ (by dsimp only;omega));rw[hlen]at c2;replace HL:=hide HL;have hl':=za.out;clear za HF hrow hcf hcm hc1 t0 t1 t2;by_cases h48:48<m.bO.length+1
  ·rw[aQ h48]at hl';have h48':(48:Int)<(m.bO.length:Int)+1:=by omega
   have HL':=hide (HL.out h48);replace hl':=hide hl';clear hm HL;go_wp2_with fail;refine aU HL'.out ?_;rintro e w3 ⟨rfl,hp⟩;have hfin:=MP.comp hu hp;clear hp hu HL';go_wp2;go_returns;exact⟨rfl,by rw[hl'.out];exact hfin⟩
  ·rw[aM h48]at hl';have h48':¬(48:Int)<(m.bO.length:Int)+1:=by omega
   have hfin:MP y m {m with bO:=m.bO++ [(a,b,s)]} w wc:=⟨_,hm,hu⟩;replace hl':=hide hl';clear hm HL hu;go_wp2;go_returns;exact⟨rfl,by rw[hl'.out];exact hfin⟩
variable{aY aL:List (Int×ByteArray)}{aT:List Int}{y:MG}{m:aS}{b:Nat}{v:Value}{W W':World}
structure NE where
 aK:Value
 bP:Value
 bQ:Value
def AQ(x:Ev×NE):List Value:=[.int .i64 x.1.node,.int .i64 x.1.err,.string (strOfNums (bE x.1.o.bA)),.bool x.1.o.bC,x.2.aK,x.2.bP,x.2.bQ]
def EvC(L:List (Ev×NE)):List Value:=L.flatMap AQ
def EvB(v:NE)(k:Nat):Prop:=v.aK.ownBlock=some k∨v.bP.ownBlock=some k∨v.bQ.ownBlock=some k
structure gY(b:Nat)(v:Value)(L:List (Ev×NE))(W:World):Prop where
 row:W.ownsRow b 54 7 v L.length (EvC L)
 out:∀x∈L,iG b x.1.o.aL x.1.o.aY x.1.o.aT x.2.aK x.2.bP x.2.bQ W
 ap:L.Pairwise λx y=>∀k,EvB x.2 k->¬EvB y.2 k
theorem BF(a b:List (Ev×NE)):EvC (a++b)=EvC a++EvC b:=by simp[EvC]
theorem iG.lt{v:NE}(h:iG b aL aY aT v.aK v.bP v.bQ W){k:Nat}(hk:EvB v k):b<=k∧k<W.heap.size:=by
 rcases hk with hk|hk|hk
 ·exact h.aK.lt k hk
 ·exact h.bP.lt k hk
 ·exact h.bQ.lt k hk
theorem aau{L:List (Ev×NE)}(h:∀x∈L,x.2.aK.oneCell'=true∧x.2.bP.oneCell'=true∧x.2.bQ.oneCell'=true):∀u∈EvC L,u.oneCell'=true:=by
 intro u hu;obtain⟨x,hx,hu⟩:=List.mem_flatMap.1 hu;obtain⟨h1,h2,h3⟩:=h x hx;simp only[AQ,fe,List.not_mem_nil,or_false]at hu;rcases hu with rfl|rfl|rfl|rfl|rfl|rfl|rfl<;>first|rfl|assumption
theorem row_one{base e size n:Nat}{xs:List Value}(h:W.ownsRow base e size v n xs):v.oneCell'=true:=by
 rcases h.2 with⟨rfl,_⟩|⟨g,cap,cur,rfl,_⟩<;>rfl
theorem gY.one{L:List (Ev×NE)}(h:gY b v L W):∀u∈EvC L,u.oneCell'=true:=aau λx hx=>⟨row_one (h.out x hx).aK,row_one (h.out x hx).bP,row_one (h.out x hx).bQ⟩
def evK:List Nat:=[54,77,56,195]
theorem gY.at{L:List (Ev×NE)}(h:gY b v L W)(he:∀(k:Nat) (c:Array Value) (t:Nat),t∈evK->W.heap[k]?=some (Obj.cells c t (0,0))->W'.heap[k]?=W.heap[k]?):gY b v L W':=
 ⟨bK h.row λk hk=>by
  obtain⟨c,hc⟩:=aR h.row hk;exact he k c 54 (by decide) hc,λx hx=>(h.out x hx).at λk c t ht hk=>he k c t (by
   simp only[fe,List.not_mem_nil,or_false]at ht;simp only[evK,fe,List.not_mem_nil,or_false];rcases ht with rfl|rfl|rfl<;>decide) hk,h.ap⟩
theorem gY.nil(b:Nat)(W:World):gY b (.slice none 0 0) [] W:=⟨⟨rfl,.inl ⟨rfl,rfl⟩⟩,λ_ h=>(by cases h),List.Pairwise.nil⟩
theorem MM.notE(h:MM y m W){k:Nat}{c:Array Value}{t:Nat}(ht:t∈evK)(hk:W.heap[k]?=some (Obj.cells c t (0,0))):¬oZ y m k:=h.not hk (by
 simp only[evK,fe,List.not_mem_nil,or_false]at ht;rcases ht with rfl|rfl|rfl|rfl<;>decide)
theorem gY.mesh{L:List (Ev×NE)}(h:gY b v L W)(hm:MM y m W)(hf:Fx (oZ y m) W W'):gY b v L W':=h.at λk _ _ ht hk=>hf.block k (aG hk) (hm.notE ht hk)
theorem iG.mesh{aK bP bQ:Value}(h:iG b aL aY aT aK bP bQ W)(hm:MM y m W)(hf:Fx (oZ y m) W W'):iG b aL aY aT aK bP bQ W':=h.at λk _ _ ht hk=>hf.block k (aG hk) (hm.notE (by
 simp only[fe,List.not_mem_nil,or_false]at ht;simp only[evK,fe,List.not_mem_nil,or_false];rcases ht with rfl|rfl|rfl<;>decide) hk)
theorem gY.later{L:List (Ev×NE)}(h:gY b v L W)(hb:Below W.heap.size W W'):gY b v L W':=h.at λk _ _ _ hk=>hb.block k (aG hk)
theorem gY.lower{b':Nat}{L:List (Ev×NE)}(h:gY b v L W)(hb:b'<=b):gY b' v L W:=⟨ownsRow_base_a h.row hb,λx hx=>(h.out x hx).lower hb,h.ap⟩
theorem gY.append{c:Nat}{v2 v':Value}{L L2:List (Ev×NE)}(h:gY b v L W)(h2:gY c v2 L2 W)(hbc:b<=c)(hlt:∀x∈L,∀k,EvB x.2 k->k<c)(ho:W'.ownsRow b 54 7 v' (L.length+L2.length) (EvC L++EvC L2))(hg:W.grownBy W' v.ownBlock):gY b v' (L++L2) W':=by
 have hk:∀(k:Nat) (cs:Array Value) (t:Nat),t∈([77,56,195]:List Nat)->W.heap[k]?=some (Obj.cells cs t (0,0))->W'.heap[k]?=W.heap[k]?:=λk cs t ht hk=>hg.block k (aG hk) λe=>by
  obtain⟨c',hc'⟩:=aR h.row e.symm;rw[hk]at hc';cases hc';exact absurd ht (by decide)
 refine⟨by rw[dw,BF];exact ho,λx hx=> ?_,List.pairwise_append.2 ⟨h.ap,h2.ap,λx hx z hz k e1 e2=> ?_⟩⟩
 ·rcases eu.1 hx with hx|hx
  ·exact(h.out x hx).at hk
  ·exact((h2.out x hx).lower hbc).at hk
 ·have q1:=hlt x hx k e1;have q2:=((h2.out z hz).lt e2).1;omega
theorem MQ:(Tryz.prog.info? 54).map (λi=>(i.zero,i.size,i.bytes))=some (some (.agg #[.int .i64 0,.int .i64 0,.string ⟨#[]⟩,.bool false,.slice none 0 0,.slice none 0 0,.slice none 0 0]),7,112):=by kernel_rfl
theorem EY{x:Ev×NE}(hb:b<=W.heap.size)(ho:iG b x.1.o.aL x.1.o.aY x.1.o.aT x.2.aK x.2.bP x.2.bQ W):gY b (.slice (some ⟨W.heap.size,0,none⟩) 1 1) [x] (W.alloc (.cells (AQ x).toArray 54)):=by
 refine⟨⟨rfl,.inr ⟨W.heap.size,1,_,rfl,hb,bS _ _,aD _,by decide,rfl,?_⟩⟩,λz hz=> ?_,List.pairwise_singleton _ _⟩
 ·simp[EvC,AQ]
 ·rw[eZ]at hz;subst hz;exact ho.later (bq)
variable{y:MG}{m m':aS}{W W':World}
theorem MM.call(h:MM y m W){i:Nat}{x:SG}{s:bJ}{z z':St}{o:Value}(h1:y.L[i]?=some x)(h2:m.S[i]?=some s)(hz:s.nd=some z)(c:BH x.N x.g z z' W o W'):
  ∃aK bP bQ,o=iY z'.bn z'.bC aK bP bQ∧iG W.heap.size z'.aL z'.aY z'.aT aK bP bQ W'∧MP y m (m.put i {s with nd:=some z'}) W W':=by
 obtain⟨g',dR,aK,bP,bQ,rfl,nn,ht,r1,r2,r3,fx,sub⟩:=c;have hst:=h.st i x s h1 h2;obtain⟨n0,_⟩:=hst.nd z hz;have hB:¬Ft x.N x.g z x.B:=λhk=>by
  obtain⟨o,ho,hK⟩:=n0.kind hk;rw[hst.blk]at ho;cases ho;exact hK.not (by decide)
 have hJ:∀k,x.jv.ownBlock=some k->¬Ft x.N x.g z k:=λk hk hf=>by
  obtain⟨o,ho,hK⟩:=n0.kind hf;obtain⟨cc,hc⟩:=aR hst.row hk;rw[hc]at ho;cases ho;exact hK.not (by decide)
 have hN:x.N=x.N:=rfl;refine⟨aK,bP,bQ,rfl,⟨r1,r2,r3⟩,?_⟩;have ht:=h.turn (W':=W') (x':={x with g:=g',TL:=dR}) (s':={s with nd:=some z'}) h1 h2 (fx.mono λk hk=> .inr (.inr ⟨z,hz,hk⟩)) ⟨?_,hst.hl,?_,λu hu=>by cases hu;exact⟨nn,ht⟩⟩ rfl λk hk=> ?_
 ·exact⟨_,ht.1,ht.2⟩
 ·rw[show FL {x with g:=g',TL:=dR} {s with nd:=some z'}=FL x s by
   unfold FL;rw[hz];rfl]
  exact(fx.block _ (aG hst.blk) hB).trans hst.blk
 ·exact bK hst.row λk hk=>fx.block k (hst.row.lt k hk).2 (hJ k hk)
 ·rcases hk with hk|hk|⟨u,hu,hk⟩
  ·exact .inl (.inl hk)
  ·exact .inl (.inr (.inl hk))
  ·cases hu;rcases sub k hk with h|h
   ·exact .inl (.inr (.inr ⟨z,hz,h⟩))
   ·exact .inr h
theorem MM.Z8(h:MM y m W){i:Nat}{x:SG}{s s':bJ}(h1:y.L[i]?=some x)(h2:m.S[i]?=some s)(c:nJ x s s' W W'):MP y m (m.put i s') W W':=by
 obtain⟨x',b1,m1,f1,u1⟩:=c;have ht:=h.turn h1 h2 f1 m1 b1 u1;exact⟨_,ht.1,ht.2⟩
theorem MU.at{y':MG}{w w':World}(u:MU y m y' m' w w'){i:Nat}{x x':SG}(h1:y.L[i]?=some x)(h2:y'.L[i]?=some x'):x'.B=x.B:=by
 have e1:(y.L.map (·.B))[i]?=some x.B:=by rw[kr,h1];rfl
 have e2:(y'.L.map (·.B))[i]?=some x'.B:=by rw[kr,h2];rfl
 rw[<-u.B,e2]at e1;exact Option.some.inj e1
def jV(m:aS)(i:Nat)(t:Int)(j:Nat):Bool:=(m.at' i).hrs.getD j false&&(decide (t=0)||decide (t=(m.at' j).addr))
def jr(m:aS)(i:Nat)(f:Int×ByteArray)(k:Nat):aS:=((List.range k).filter (jV m i f.1)).foldl (λm j=>m.launch (i,j,f.2)) m
theorem xM(m:aS)(i:Nat)(f:Int×ByteArray)(k:Nat):jr m i f (k+1)=if jV m i f.1 k then(jr m i f k).launch (i,k,f.2)else jr m i f k:=by
 unfold jr;rw[List.range_succ,List.filter_append,List.foldl_append];cases h:jV m i f.1 k<;>simp[h]
theorem pu(m:aS)(i:Nat)(f:Int×ByteArray):jr m i f m.S.length=m.bU i f:=rfl
theorem vL(i:Nat)(b:ByteArray):∀(l:List Nat) (m:aS),(l.foldl (λm j=>m.launch (i,j,b)) m).S=m.S∧(l.foldl (λm j=>m.launch (i,j,b)) m).now=m.now
 | [],m=>⟨rfl,rfl⟩
 |a::l,m=>by
  rw[gH];exact vL i b l (m.launch (i,a,b))
theorem oF(m:aS)(i:Nat)(f:Int×ByteArray)(k:Nat):(jr m i f k).S=m.S∧(jr m i f k).now=m.now:=vL _ _ _ _
theorem eX{i:Nat}{s:bJ}(h:m.S[i]?=some s):m.at' i=s:=by
 unfold aS.at';rw[List.getD_eq_getElem?_getD,h];rfl
theorem aeh(h:m'.S=m.S)(i:Nat):m'.at' i=m.at' i:=by
 unfold aS.at';rw[h]
theorem Ai(m:aS)(f:Nat×Nat×ByteArray)(h:m.bO.length<=48):(m.launch f).bO.length<=48:=by
 unfold aS.launch;dsimp only;split
 ·rename_i h1;rw[List.length_tail];rw[dw]at h1 ⊢;simp only[dU,List.length_nil]at h1 ⊢;omega
 ·rename_i h1;omega
theorem Dl(i:Nat)(b:ByteArray):∀(l:List Nat) (m:aS),m.bO.length<=48->(l.foldl (λm j=>m.launch (i,j,b)) m).bO.length<=48
 | [],_,h=>h
 |a::l,m,h=>by
  rw[gH];exact Dl i b l _ (Ai m _ h)
theorem zM(m:aS)(i:Nat)(f:Int×ByteArray)(k:Nat)(h:m.bO.length<=48):(jr m i f k).bO.length<=48:=Dl _ _ _ _ h
open Go.MuLone
variable{N:Nat}{s:St}{w:World}
theorem YJ(d_:Int){A:List Rt}(hA:∀y∈A,y.Ok):∀x∈oh d_ A,0<=x.1∧x.1<4294967296∧0<=x.2∧x.2<4294967296:=by
 intro x hx;obtain⟨y,hy,e⟩:=List.mem_filterMap.1 hx;unfold Ci at e;split at e
 ·cases e;have h1:=(hA y hy).dest;have h2:=uw (hA y hy).seq;unfold bB at h1 h2;dsimp only;omega
 ·cases e
theorem Qe{B:Nat}{g:bI}{TL:List Hp.Tm}(n:Nd N B g s TL w)(d_:Int):
  Calls Tryz.prog 138 #[.pointer (some ⟨g.x.T,0,none⟩),.int .u32 d_] w λe w'=>∃ao c,e=.returned (.slice ao (oh d_ s.A).length c)∧bF w' ao (oh d_ s.A)∧l5 N B g s {s with A:=s.A.map (bY d_ 0)} TL w w':=by
 refine(Lf d_ n.nn.cr.tb (S:=nu g.x.T g.M g.ff g.gg s.A) (λ_ h=>h) (λk hk=>n.nn.cr.tb.lt hk)).mono ?_;rintro e w' ⟨v,wY,rfl,h1,h2,h3,h4⟩;obtain⟨ao,c,rfl,hH⟩:=Ct h1 (YJ d_ n.nn.cr.tb.ok);exact⟨ao,c,rfl,hH,n.wB ⟨g.M,g.ff,wY,by rw[<-n.nn.eq.self];exact h2,λk hk=> .inl (h3 k hk)⟩ h4⟩
theorem Ws(A:List Rt)(f:Rt->Rt)(hf:∀y,(f y).dest=y.dest):∀y∈A,∃z∈A.map f,z.dest=y.dest:=λy hy=>⟨f y,di.2 ⟨y,hy,rfl⟩,hf y⟩
theorem Vi{g:bI}{TL:List Hp.Tm}(n:Nn N g s TL w){k:Int}(hI:s.Inv k)(hT:dQ s TL)(now d_:Int)(fK:s.now<=now∧now<=4611686018427387904):
  Calls Tryz.prog 100 #[.pointer (some ⟨N,0,none⟩),.int .u64 now,.int .u32 d_] w λe w'=>∃o,e=.returned o∧Hid ((s.brk now d_).Inv (k+1))∧BH N g s (s.brk now d_) w o w':=by
 have hA:=n.cr.tb.ok;have hl:=n.cr.tb.len;have hb0:Below w.heap.size w (w.alloc jm):=bq;have hC0:(w.alloc jm).heap[w.heap.size]?=some jm:=bS _ _;have kL:¬Ft N g s w.heap.size:=λh=>by have:=n.lt h;omega
 have hs0:(w.alloc jm).heap.size=w.heap.size+1:=by simp
 have n0:=n.later hb0;have hM:=(qU hI).2 now fK hA hl;obtain⟨s3,hs3⟩:∃z,s.locked.begin now=z:=⟨_,rfl⟩;rw[hs3]at hM;have H9:Hid (s3.lk=1):=by show _=_;rw[<-hs3];rfl
 have M9:Hid (s3.Q=s.Q):=by show _=_;rw[<-hs3];rfl
 have xY:Hid (s3.now=now):=by show _=_;rw[<-hs3];rfl
 have TD:Hid (s3.me=s.me):=by show _=_;rw[<-hs3];rfl
 replace hM:=hide hM;dsimp only[jm]at hb0 hC0 hs0 n0
 go_enter_defers Tryz.func100,Tryz.ntmps100
 go_upto_region 1 with(fail);generalize World.alloc _ _=W1 at hb0 hC0 hs0 n0 ⊢;obtain⟨c0,f0⟩:=n0.Ji;rw[hI.lk]at c0;go_wp2_with fail;refine aU (lock_free l_ ⟨N,0,none⟩ W1 c0 f0) ?_;rintro e w2 ⟨rfl,rfl⟩;obtain⟨n2,hg2⟩:=n0.kV 1;have hf2:Fx (Ft N g s) w (W1.setCell ⟨N,0,none⟩ (.int .i32 1)):=aW (Fx.below hb0) hg2 (λi _ e=>by cases e;exact .inl (.inl rfl));have hC2:=(hg2.block w.heap.size (by omega) (λe=>kL (by cases e;exact .inl (.inl rfl)))).trans hC0;have hs2:w.heap.size+1<=(W1.setCell ⟨N,0,none⟩ (.int .i32 1)).heap.size:=by
  have:=hg2.size;omega
 have hcn:=hI.cnt;have HB:=hide (zm n2 now ⟨hI.dom.mb,hI.dom.on,hI.dom.own⟩ ⟨hcn.1,by dsimp only;omega⟩);rw[show({s with lk:=1}:St).begin now=s3 from hs3]at HB;have hF1:Hid (∀k,Ft N ({g with x:={g.x with lk:=1}}:bI) ({s with lk:=1}:St) k->Ft N g s k):=λk h=>h;replace hs3:=hide hs3;clear n0 hC0 hs0 hb0 c0 f0 hg2 hA hl hcn;generalize ({g with x:={g.x with lk:=1}}:bI)=g1 at n2 HB hF1;generalize ({s with lk:=1}:St)=s1 at n2 HB hF1;generalize World.setCell _ _ _=W2 at n2 hf2 hC2 hs2 HB ⊢;go_wp2_with fail;refine aU HB.out ?_;rintro e w3 ⟨g3,rfl,n3,u3,ZA,t3⟩;clear t3;clear HB;have Ub:Hid (dQ s3 TL):=by
  show dQ _ _;unfold dQ;rw[M9.out];exact hT
 have HR:=hide (Qe n3 d_);have hbl:=rH d_ s3.A;have hA8:=n3.nn.cr.tb.len;obtain⟨c2,c3,c4,c7,c0⟩:=n3.cell;obtain⟨s4,hs4⟩:∃z,({s3 with A:=s3.A.map (bY d_ 0)}:St)=z:=⟨_,rfl⟩;have he4:Hid (Eff 0 s3 s4):=by
  show Eff 0 s3 s4;rw[<-hs4];exact qj s3 (Ws _ _ (eG d_ 0))
 rw[hs4]at HR;replace hs4:=hide hs4;have H_:Hid (s4.aL.length<=1000000):=by
  show _<=_;have:=he4.out.aL;have:=hM.out.aL;omega
 clear ZA n2 n3;go_wp2_with fail;refine aU HR.out ?_;rintro e w4 ⟨ao,c,rfl,hH,g4,n4,u4,t4⟩;have HL:=hide (Va n4 0 ao c (oh d_ s3.A) (by omega) hH H_.out);have qf:=u3.trans u4;clear HR c2 c3 c4 c7 c0 n4 u4 hH u3;go_wp2_with fail;refine aU HL.out ?_;rintro e w5 ⟨rfl,g5,n5,u5,t5⟩;obtain⟨s5,hs5⟩:∃z,s4.lose 0 (oh d_ s3.A)=z:=⟨_,rfl⟩;have he5:Hid (Eff 1 s4 s5):=by
  show Eff 1 s4 s5;rw[<-hs5];exact rG _ _ _
 rw[hs5]at n5 u5;have XW:Hid (dQ s5 TL):=by
  show dQ _ _;unfold dQ;rw[<-hs5,<-hs4.out];exact Ub.out
 have og:Hid (s5.Mid k 2):=vw (vw hM.out he4.out) he5.out;have EG:Hid (s5.lk=1):=(he5.out.lk.trans he4.out.lk).trans H9.out;have yD:=qf.trans u5;replace hs5:=hide hs5;clear HL u5 qf he4 he5 H_ hbl hA8;have M_:=hide (mJ og.out (by omega) n5.nn.cr.tb.ok n5.nn.cr.tb.len);have NC:=hide (oV n5 og.out.dom (by have:=og.out.cnt;omega) (by have:=og.out.bA;omega) og.out.bd og.out.seq);go_wp2_with fail;refine aU NC.out ?_;rintro e w6 ⟨g6,rfl,n6,u6,t6⟩;obtain⟨s6,hs6⟩:∃z,s5.finish=z:=⟨_,rfl⟩;have EF:s6.lk=1:=by rw[<-hs6,(aP s5).lk];exact EG.out
 have XV:Hid (dQ s6 TL):=by
  show dQ _ _;unfold dQ;rw[<-hs6,(aP s5).Q];exact XW.out
 have jU:Hid (s.brk now d_=s6.freed):=by
  show _=_;rw[<-hs6];unfold St.brk St.broken;rw[hs3.out];dsimp only;rw[hs4.out,hs5.out]
 rw[hs6]at n6 u6 M_ ⊢;have nL:=yD.trans u6;clear NC hs6 u6 n5 yD;have ER:=nL.QR (aD _);have nR:∀k,Ft N g6 s6 k->Ft N g s k∨(w.heap.size<=k∧k<w6.heap.size):=λk hk=>(nL.sub k hk).elim (λh=> .inl (hF1.out k h)) λh=> .inr ⟨by omega,h.2⟩;have gD:=(ER.block w.heap.size (by omega) (λh=>kL (hF1.out _ h))).trans hC2;have kR:¬Ft N g6 s6 w.heap.size:=λh=>(nL.sub _ h).elim (λh=>kL (hF1.out _ h)) (by omega);have M4:=hf2.trans ER (λi _ h=>hF1.out i h);have r1:=ownsRow_base_a n6.ac.aK (show w.heap.size<=W2.heap.size+1 by omega);have r2:=ownsRow_base_a n6.ac.bP (show w.heap.size<=W2.heap.size+1 by omega);have r3:=ownsRow_base_a n6.ac.bQ (show w.heap.size<=W2.heap.size+1 by omega);have m6:=n6.nn;obtain⟨af,kf,hf,_⟩:=ak r1;obtain⟨ac,kc,hc,_⟩:=ak r2;obtain⟨ad,kd,hdd,_⟩:=ak r3;rw[hf]at r1;rw[hc]at r2;rw[hdd]at r3;rw[hf,hc,hdd];simp only[iY];clear n6 hf hc hdd nL ER hf2 hC2;generalize hjj:s6.bn=jj;replace hjj:=hide hjj;obtain⟨z0,z1,z2,z3,z4⟩:=cells5 gD;obtain⟨y0,y1,y2,y3,y4⟩:=yj gD;have gV:=ah (ah (ah (ah (ah (aC w6 (some w.heap.size)) 0 (.string jj)) 1 (.bool s6.bC)) 2 (.slice af s6.aL.length kf)) 3 (.slice ac s6.aY.length kc)) 4 (.slice ad s6.aT.length kd);have gJ:(((((w6.setCell ⟨w.heap.size,0,none⟩ (.string jj)).setCell ⟨w.heap.size,1,none⟩ (.bool s6.bC)).setCell ⟨w.heap.size,2,none⟩ (.slice af s6.aL.length kf)).setCell ⟨w.heap.size,3,none⟩ (.slice ac s6.aY.length kc)).setCell ⟨w.heap.size,4,none⟩ (.slice ad s6.aT.length kd)).heap[w.heap.size]?=some (.cells #[.string jj,.bool s6.bC,.slice af s6.aL.length kf,.slice ac s6.aY.length kc,.slice ad s6.aT.length kd] 52):=by
  simp[World.setCell,Array.getElem?_modify,gD]
 have r1:=r1.kept gV (.inr (aB r1 gD (λc e=>(by cases e))));have r2:=r2.kept gV (.inr (aB r2 gD (λc e=>(by cases e))));have r3:=r3.kept gV (.inr (aB r3 gD (λc e=>(by cases e))));have m7:=m6.kept λk hk=>gV.block k (m6.lt hk) (λe=>kR (by cases e;exact hk));have pW:=aW M4 gV (λi hi e=>by cases e;omega);have kI:=λk hk=>(nR k hk).imp_right λh=>(⟨h.1,fZ h.2 gV.size⟩:w.heap.size<=k∧_);clear m6 gV M4 gD nR;go_wp2_with fail;generalize World.setCell _ _ _=W7 at gJ r1 r2 r3 m7 pW kI ⊢;obtain⟨p0,p1,p2,p3,p4⟩:=cells5 gJ;obtain⟨c0,f0⟩:=m7.Ji;rw[EF]at c0;refine leaves_cons (f:=50) (args:=#[.pointer (some ⟨N,0,none⟩)]) (by simp) (by simp[go_sem]) ?_;refine(unlock_deferred l_ ⟨N,0,none⟩ .returning W7 c0 f0).mono ?_;rintro e u' w'' ⟨rfl,rfl,rfl⟩;obtain⟨m8,jN⟩:=m7.kV 0;have BO:N≠w.heap.size:=λe=>kR (by rw[<-e];exact .inl (.inl rfl));have h_:=(jN.block w.heap.size (aG gJ) (λe=>by cases e;exact BO rfl)).trans gJ;have r1:=r1.kept jN (.inr (aB r1 m7.cr.nd (λc e=>(by cases e))));have r2:=r2.kept jN (.inr (aB r2 m7.cr.nd (λc e=>(by cases e))));have r3:=r3.kept jN (.inr (aB r3 m7.cr.nd (λc e=>(by cases e))));have xZ:=aW pW jN (λi hi e=>by cases e;exact .inl (.inl rfl));have nQ:=λk hk=>(kI k hk).imp_right λh=>(⟨h.1,fZ h.2 jN.size⟩:w.heap.size<=k∧_);clear p0 p1 p2 p3 p4 c0 f0 jN m7 pW kI gJ;generalize World.setCell _ _ _=W8 at h_ r1 r2 r3 m8 xZ nQ ⊢;obtain⟨p0,p1,p2,p3,p4⟩:=cells5 h_;refine⟨.agg #[.string jj,.bool s6.bC,.slice af s6.aL.length kf,.slice ac s6.aY.length kc,.slice ad s6.aT.length kd],by simp[results,Tryz.results100,go_sem,p0,p1,p2,p3,p4],_,rfl,?_⟩;rw[jU.out];refine⟨M_,_,TL,.slice af s6.aL.length kf,.slice ac s6.aY.length kc,.slice ad s6.aT.length kd,?_,m8,XV.out,r1,r2,r3,xZ,nQ⟩;rw[<-hjj.out];rfl
variable{h:Nat}
theorem tC{P:Program}{w:World}{ops:Array Oper}{rest:List Oper}{o:Oper}{a:Act}{Q:Exit->Act->World->Prop}(hg:o.guard=none)(s x:Operand)(t:TypeId)(hop:o.op=Op.call {callee:=Callee.builtin Builtin.append,args:=#[s,x],argTypes:=#[t,t]})
  (base:Nat) (e:TypeId) (i:TypeInfo) (z:Value) (size bytes:Nat) (h1:P.underlying t=some (.slice e)) (h2:P.info? e=some i) (h3:i.zero=some z) (h4:i.size=size) (h5:i.bytes=bytes) (h6:z.cells.size=size) (h7:0<size)
  (v:Value) (n:Nat) (xs:List Value) (hs:a.eval s=v) (hown:w.ownsRow base e size v n xs)
  (Nq:Nat) (v2:Value) (m:Nat) (ys:List Value) (hx:a.eval x=v2) (hown2:w.ownsRow Nq e size v2 m ys) (h1c:∀u∈ys,u.oneCell'=true)
  (b1:n+m<=maxLen) (b2:(n+m)* bytes<=140737488355328) (hbase:base<=w.heap.size)
  (hK:∀v' w',w'.ownsRow base e size v' (n+m) (xs++ys)->w.grownBy w' v.ownBlock->wpList P ops Q rest (a.put o.dst v') w'):
  wpList P ops Q (o::rest) a w:=by
 refine wpList_plain hg λK hKK=> ?_;have h:=kX (ops:=ops) (E:=True) (K:=K) (Q:=Q) hg s x t hop base e i z size bytes h1 h2 h3 h4 h5 h6 h7 v n xs hs hown Nq v2 m ys hx hown2 h1c b1 b2 hbase λv' w' k1 k2=>hKK _ _ (hK v' w' k1 k2);have hw:Region.wanted o (yielded ops a.tmps)=true:=by simp[Region.wanted,hg]
 rw[aQ hw]at h;exact h
theorem QM(hb:h<1000000000):wrap64 ((h:Int)+1)=(h:Int)+1:=by unfold wrap64;omega
theorem jM{l:Nat}(hh:h<l):l - (intOf (.int .i64 ((h:Int)+1))).toNat<l - (intOf (.int .i64 (h:Int))).toNat:=by
 simp[intOf];omega
def jD(y:MG)(m m':aS)(evs:List Ev)(b:Nat)(w:World)(e:Ending)(w':World):Prop:=∃v L,e=.returned v∧L.map (·.1)=evs∧gY b v L w'∧MP y m m' w w'
theorem yB{y:MG}{m:aS}{w:World}(h:MM y m w)(i:Nat)(hi:i<m.S.length)(hn:m.S.length<=6)(ha:m.bO.length<=48)(f:Int×ByteArray)
  (hI:∀z,(m.at' i).nd=some z->∃k,z.Inv k∧z.now<=m.now) (fK:m.now<=4611686018427387904)
  (HD:f.1≠0->∀z,((m.bU i f).at' i).nd=some z->∀y1 w1 b aK bP bQ,MM y1 ((m.bU i f).put i {(m.bU i f).at' i with nd:=some (z.brk m.now f.1)}) w1->b<=w1.heap.size->iG b (z.brk m.now f.1).aL (z.brk m.now f.1).aY (z.brk m.now f.1).aT aK bP bQ w1->
   Calls Tryz.prog 36 #[.pointer (some ⟨y1.G,0,none⟩),.int .i64 i,iY (z.brk m.now f.1).bn (z.brk m.now f.1).bC aK bP bQ] w1 (jD y1 ((m.bU i f).put i {(m.bU i f).at' i with nd:=some (z.brk m.now f.1)}) (((m.bU i f).put i {(m.bU i f).at' i with nd:=some (z.brk m.now f.1)}).Ch i (z.brk m.now f.1).ot).1 (((m.bU i f).put i {(m.bU i f).at' i with nd:=some (z.brk m.now f.1)}).Ch i (z.brk m.now f.1).ot).2 b w1)):
  Calls Tryz.prog 67 #[.pointer (some ⟨y.G,0,none⟩),.int .i64 i,.agg #[.int .u32 f.1,.string f.2]] w (jD y m (m.jo i f).1 (m.jo i f).2 w.heap.size w):=by
 obtain⟨t,s⟩:=f;dsimp only at HD ⊢;have hb0:Below w.heap.size w (w.alloc (.cells #[.int .u32 t,.string s] 77)):=bq;have hC:=bS w (.cells #[.int .u32 t,.string s] 77);have h1:=h.later hb0;obtain⟨xi,si,g0,c0,e1,e2,e3,e4,p0⟩:=h1.get hi;obtain⟨q0,q1,q2,fz⟩:=h1.cell;rw[e4]at q1;have hin:(i:Int)<(m.S.length:Int):=by omega
 have hlt:=λk (hk:oZ y m k)=>h.lt hk;clear h;go_enter Tryz.func67,Tryz.ntmps67;go_upto_region 1 with(fail);generalize World.alloc _ _=W1 at hb0 hC h1 p0 q0 q1 q2 fz ⊢;generalize l8:w.heap.size=C at hC ⊢;have hst:Hid (∀(k:Nat) (hv:Value),True):=λ_ _=>trivial;have rf:Hid (∃y',MM y' (jr m i (t,s) 0) W1∧MU y m y' (jr m i (t,s) 0) w W1∧W1.heap[C]?=some (.cells #[.int .u32 t,.string s] 77)):=⟨y,h1,(MU.refl _ _ _).pre hb0,hC⟩;clear q0 q2 fz;go_upto_region 4 with(fail);clear p0 q1 hb0 hC;go_loopw [8,23] (λhv iv wr=>∃k:Nat,k<=m.S.length∧iv=.int .i64 k∧hv=.bool (!((List.range k).filter (jV m i t)).isEmpty)∧Hid (∃y',MM y' (jr m i (t,s) k) wr∧MU y m y' (jr m i (t,s) k) w wr∧wr.heap[C]?=some (.cells #[.int .u32 t,.string s] 77))) (λ_ iv _=>m.S.length - (intOf iv).toNat)
 case atStart=>exact⟨0,dh _,rfl,rfl,rf⟩
 case round=>
  clear rf h1;obtain⟨k,hk,rfl,rfl,hr⟩:=hrel;by_cases hkl:k<m.S.length
  ·have hki:(k:Int)<(m.S.length:Int):=by omega
   obtain⟨y',hm,hu,Dj⟩:=hr.out;have hS:=(oF m i (t,s) k).1;obtain⟨xk,sk,g,c,a1,a2,a3,a4,d0⟩:=hm.get (i:=k) (by rw[hS];exact hkl);obtain⟨xj,sj,g',c',b1,b2,b3,b4,_⟩:=hm.get (i:=i) (by rw[hS];exact hi);have hgg:g=g0:=by
    have h5:=a4;rw[hu.sv,e4]at h5;injection h5 with h5 _ _;injection h5 with h5;injection h5 with h5 _ _;exact h5.symm
   subst hgg;have hjB:xj.B=xi.B:=hu.at e1 b1;have hjs:sj=si:=by
    rw[hS,e2]at b2;exact(Option.some.inj b2).symm
   subst hjs;obtain⟨_,_,_,_,_,hh,_⟩:=(hm.st i xj sj b1 b2).cell;rw[hjB]at hh;have hhl:=(hm.st i xj sj b1 b2).hl;have Zr:k<sj.hrs.length:=by omega
   have hcell:=hh k _ (cZ Zr);have hcA:=(hm.st k xk sk a1 a2).cell.1;have t0:wr.cell? ⟨C,0,none⟩=some (.int .u32 t):=aH _ _ 0 _ _ _ Dj;have t1:wr.cell? ⟨C,1,none⟩=some (.string s):=aH _ _ 1 _ _ _ Dj;have Ud:jV m i t k=(sj.hrs[k]&&(decide (t=0)||decide (t=sk.addr))):=by
    unfold jV;rw[e3,List.getD_eq_getElem?_getD,cZ Zr,<-aeh hS k,a3];rfl
   generalize sj.hrs[k]=hb at hcell Ud;have agw:(k:Int)<6:=by omega
   have hL:Hid (∀q,jV m i t k=true->Calls Tryz.prog 64 #[.pointer (some ⟨y.G,0,none⟩),.agg #[.int .i64 i,.int .i64 k,.string s]] (wr.drewN q) λe w'=>e=.returned (.tuple #[])∧∃y',MM y' (jr m i (t,s) (k+1)) w'∧MU y m y' (jr m i (t,s) (k+1)) w w'∧w'.heap[C]?=some (.cells #[.int .u32 t,.string s] 77)):=λq hp=>by
    have TS:Below wr.heap.size wr (wr.drewN q):=mD wr q;have hl:=I7 (hm.later TS) (by have:=zM m i (t,s) k ha;omega) (i,k,s);rw[hu.G]at hl;refine hl.mono ?_;rintro e w2 ⟨rfl,y2,hm2,hu2⟩;rw[xM,aQ hp];have hCq:(wr.drewN q).heap[C]?=some (.cells #[.int .u32 t,.string s] 77):=(TS.block C (aG Dj)).trans Dj;exact⟨rfl,y2,hm2,(hu.post TS).trans hu2,(hu2.fx.block C (aG hCq) ((hm.later TS).notE (by decide) hCq)).trans hCq⟩
   have hN:Hid (∀q,jV m i t k=false->∃y',MM y' (jr m i (t,s) (k+1)) (wr.drewN q)∧MU y m y' (jr m i (t,s) (k+1)) w (wr.drewN q)∧(wr.drewN q).heap[C]?=some (.cells #[.int .u32 t,.string s] 77)):=λq hp=>by
    have TS:Below wr.heap.size wr (wr.drewN q):=mD wr q;rw[xM,aM (by rw[hp];simp)];exact⟨y',hm.later TS,hu.post TS,(TS.block C (aG Dj)).trans Dj⟩
   have hw64:wrap64 ((k:Int)+1)=(k:Int)+1:=by unfold wrap64;omega
   have hfl:Hid (∀b,jV m i t k=b->(!((List.range (k+1)).filter (jV m i t)).isEmpty)=(b||!((List.range k).filter (jV m i t)).isEmpty)):=by
    intro b hb;rw[List.range_succ,List.filter_append];cases b
    ·simp[hb]
    ·simp[hb]
   obtain⟨pk,hpk⟩:∃b,jV m i t k=b:=⟨_,rfl⟩;rw[hpk]at Ud hL hN hfl;replace hfl:=hide (hfl.out _ rfl);clear hr hm hu Dj a1 a2 a3 a4 b1 b2 b3 b4 hjB hh hhl Zr hS e2 e3 e4 hpk;generalize (!((List.range k).filter (jV m i t)).isEmpty)=hv at hfl ⊢;obtain⟨hv2,Tg⟩:∃b,(!((List.range (k+1)).filter (jV m i t)).isEmpty)=b:=⟨_,rfl⟩;rw[Tg]at hfl;replace Tg:=hide Tg;go_upto_region 6 with(fail);go_cut [47]from 28 to 47 (λv W=>v=.bool pk∧∃q,W=wr.drewN q)
   case first=>
    clear hL hN hfl;cases hb
    ·obtain rfl:pk=false:=by rw[Ud];rfl
     clear Ud hw64;go_quiet (fail);go_wp2_with fail;go_meet;exact⟨rfl,_,rfl⟩
    ·by_cases h0:t=0
     ·obtain rfl:pk=true:=by rw[Ud];simp[h0]
      subst h0;clear Ud hw64;go_quiet (fail);go_wp2_with fail;go_meet;exact⟨rfl,_,rfl⟩
     ·have h0':(t==0)=false:=by simpa using h0
      by_cases h2:t=sk.addr
      ·obtain rfl:pk=true:=by rw[Ud];simp[h2]
       subst h2;clear Ud hw64;go_quiet (fail);go_wp2_with fail;go_meet;exact⟨by simp,_,rfl⟩
      ·obtain rfl:pk=false:=by rw[Ud];simp[h0,h2]
       have h2':(t==sk.addr)=false:=by simpa using h2
       clear Ud hw64;go_quiet (fail);go_wp2_with fail;go_meet;exact⟨by simp,_,rfl⟩
   case rest=>
    obtain⟨rfl,q,rfl⟩:=hcut;clear Ud;have hk1:k+1<=m.S.length:=by omega
    have hme:=jM hkl;cases pk
    ·have hr2:=hide (hN.out q rfl);have Ti:=hfl.out;rw[Bool.false_or]at Ti;subst Ti;clear hL hN hfl t0 t1 hcell hcA d0;generalize World.drewN _ _=W5 at hr2 ⊢;go_wp2;go_roundw
     case rel=>exact⟨k+1,hk1,by go_num,by rw[Tg.out],hr2⟩
     case measure=>exact hme
    ·have hL2:=hide (hL.out q rfl);have Ti:=hfl.out;rw[Bool.true_or]at Ti;subst Ti;have TS:Below wr.heap.size wr (wr.drewN q):=mD wr q;have t1':(wr.drewN q).cell? ⟨C,1,none⟩=some (.string s):=(TS.cell (World.block_lt_of_cell? _ _ t1)).trans t1;clear hL hN hfl t0 t1 hcell hcA d0 TS;generalize World.drewN _ _=W5 at hL2 t1' ⊢;go_wp2_with fail;refine aU hL2.out ?_;rintro e w2 ⟨rfl,hr2⟩;replace hr2:=hide hr2;clear hL2 t1';go_wp2;go_roundw
     case rel=>exact⟨k+1,hk1,by go_num,by rw[Tg.out],hr2⟩
     case measure=>exact hme
  ·obtain rfl:k=m.S.length:=by omega
   obtain⟨y',hm,hu,Dj⟩:=hr.out;rw[pu]at hm hu;have hS:(m.bU i (t,s)).S=m.S:=(oF m i (t,s) m.S.length).1;have BO:(m.bU i (t,s)).now=m.now:=(oF m i (t,s) m.S.length).2;obtain⟨xj,sj,g',c',b1,b2,b3,b4,_⟩:=hm.get (i:=i) (by rw[hS];exact hi);have hjB:xj.B=xi.B:=hu.at e1 b1;have hc2:=(hm.st i xj sj b1 b2).cell.2.2.1;rw[hjB]at hc2;have hheard:(List.range m.S.length).filter (jV m i t)=m.heard i t:=rfl;rw[hheard];have t0:wr.cell? ⟨C,0,none⟩=some (.int .u32 t):=aH _ _ 0 _ _ _ Dj;have hlow:w.heap.size<=wr.heap.size:=hu.fx.size;by_cases hh:m.heard i t≠ []∨t=0
   ·have ho:m.jo i (t,s)=(m.bU i (t,s),[]):=by
     unfold aS.jo;rw[aQ hh]
    have hfin:jD y m (m.jo i (t,s)).1 (m.jo i (t,s)).2 w.heap.size w (.returned (.slice none 0 0)) wr:=by
     rw[ho];exact⟨_,[],rfl,rfl,gY.nil _ _,y',hm,hu⟩
    clear hr hm hu Dj HD ho b1 b2 b3 b4 hlow hheard;cases he:(m.heard i t).isEmpty
    ·clear t0 hc2 hh;go_wp2;go_ret;exact hfin
    ·obtain rfl:t=0:=by
      rcases hh with hh|hh
      ·exact absurd (List.isEmpty_iff.1 he) hh
      ·exact hh
     clear hc2 hh;go_wp2;go_ret;exact hfin
   ·simp only[not_or,Classical.not_not]at hh;obtain⟨hh,h0⟩:=hh;have he:(m.heard i t).isEmpty=true:=List.isEmpty_iff.2 hh;have h0':(t==0)=false:=by simpa using h0
    cases hnd:sj.nd with
    |none=>
     have ho:m.jo i (t,s)=(m.bU i (t,s),[]):=by
      unfold aS.jo;rw[aM (by simp[hh,h0]),b3,hnd]
     have hfin:jD y m (m.jo i (t,s)).1 (m.jo i (t,s)).2 w.heap.size w (.returned (.slice none 0 0)) wr:=by
      rw[ho];exact⟨_,[],rfl,rfl,gY.nil _ _,y',hm,hu⟩
     rw[hnd]at hc2;unfold MC at hc2;clear hr hm hu Dj HD ho b1 b2 b3 b4 hlow hheard l8;rw[he];go_wp2;go_ret;exact hfin
    |some z=>
     have hz3:((m.bU i (t,s)).at' i).nd=some z:=by rw[b3];exact hnd
     obtain⟨k,hIk,hzn⟩:=hI z (by rw[<-aeh hS i];exact hz3);have ho:m.jo i (t,s)=((m.bU i (t,s)).put i {(m.bU i (t,s)).at' i with nd:=some (z.brk m.now t)}).Ch i (z.brk m.now t).ot:=by
      unfold aS.jo;rw[aM (by simp[hh,h0]),hz3]
     rw[hnd]at hc2;unfold MC at hc2;have HD':=HD h0 z hz3;have hd1:Below wr.heap.size wr wr.drew:=(aV _ _).drew;have hm1:=hm.later hd1;obtain⟨n1,tm1⟩:=(hm1.st i xj sj b1 b2).nd z hnd;have HB:=Vi n1 hIk tm1 m.now t ⟨hzn,fK⟩;have HB2:Hid (Calls Tryz.prog 100 #[.pointer (some ⟨xj.N,0,none⟩),.int .u64 m.now,.int .u32 t] wr.drew λe w2=>∃aK bP bQ,e=.returned (iY (z.brk m.now t).bn (z.brk m.now t).bC aK bP bQ)∧iG wr.heap.size (z.brk m.now t).aL (z.brk m.now t).aY (z.brk m.now t).aT aK bP bQ w2∧wr.heap.size<=w2.heap.size∧∃y2,MM y2 ((m.bU i (t,s)).put i {(m.bU i (t,s)).at' i with nd:=some (z.brk m.now t)}) w2∧MU y m y2 ((m.bU i (t,s)).put i {(m.bU i (t,s)).at' i with nd:=some (z.brk m.now t)}) w w2):=by
      refine HB.mono ?_;rintro e w2 ⟨o,rfl,_,hcp⟩;obtain⟨aK,bP,bQ,rfl,hor,y2,hm2,hu2⟩:=hm1.call b1 b2 hnd hcp;rw[b3];exact⟨aK,bP,bQ,rfl,hor,hu2.fx.size,y2,hm2,(hu.post hd1).trans hu2⟩
     have c0:=hm.cell.1;rw[hu.G,BO]at c0;obtain⟨m2,TF⟩:∃m2,(m.bU i (t,s)).put i {(m.bU i (t,s)).at' i with nd:=some (z.brk m.now t)}=m2:=⟨_,rfl⟩;rw[TF]at HD' HB2 ho;obtain⟨zb,hzb⟩:∃zb,z.brk m.now t=zb:=⟨_,rfl⟩;rw[hzb]at HD' HB2 ho;replace ho:=hide ho;replace HD':=hide HD';obtain⟨N,Ue⟩:∃N,xj.N=N:=⟨_,rfl⟩;rw[Ue]at hc2 HB2;clear HD HB hm1 n1 tm1 hr hm hu Dj b1 b2 b3 b4 hheard hz3 hIk hzn TF hzb Ue hd1 hS BO hjB e1 e2 e3 e4;rw[he];go_upto_region 12 with(fail);go_region_with(first
      |(go_at_call 36;refine VR.out.mono ?_;rintro e w3 ⟨v,L,rfl,hL,hev,hp3⟩)
      |(go_at_call 100;refine HB2.out.mono ?_;rintro e w2 ⟨aK,bP,bQ,rfl,hor,hsz,y2,hm2,hu2⟩;have VR:=HD'.out _ _ _ _ _ _ hm2 hsz hor;rw[hu2.G]at VR;replace VR:=hide VR))
     all_goals
      have hfin:=hide (show jD y m (m.jo i (t,s)).1 (m.jo i (t,s)).2 w.heap.size w (.returned v) w3 from by rw[ho.out];exact⟨v,L,rfl,hL,hev.lower hlow,MP.comp hu2 hp3⟩);clear VR hev hp3 hu2 hm2 hor HB2 HD';go_wp2;go_ret;exact hfin.out
end Go.Proofs.YtakaadcpaeiccabGreat
