import Derived.Test.YtakaadcpaeiccabGreatB19
set_option maxHeartbeats 8000000
set_option maxRecDepth 100000
namespace Go.Proofs.YtakaadcpaeiccabGreat
open Go.RowKit Go.Maps
variable{y y':MG}{m m':aP}{W w w' w1:World}
theorem sM(a b:List (Nat×Nat×ByteArray)):nC (a++b)=nC a++nC b:=by simp[nC]
theorem Ab(L:List (Nat×Nat×ByteArray)):(nC L).length=L.length * 3:=qd (λf:Nat×Nat×ByteArray=>([Value.int .i64 f.1,.int .i64 f.2.1,.string f.2.2]:List Value)) 3 (λ_=>rfl) L
theorem Ia(L:List (Nat×Nat×ByteArray)):∀u∈nC L,u.oneCell'=true:=by
 intro u hu;obtain⟨x,_,hx⟩:=List.mem_flatMap.1 hu;simp only[eF,List.not_mem_nil,or_false]at hx;rcases hx with rfl|rfl|rfl<;>rfl
theorem D7{L:List (Nat×Nat×ByteArray)}{k:Nat}{x:Nat×Nat×ByteArray}(h:L[k]?=some x):(nC L)[k * 3]?=some (.int .i64 x.1)∧(nC L)[k * 3+1]?=some (.int .i64 x.2.1)∧(nC L)[k * 3+2]?=some (.string x.2.2):=by
 have hf:=λi hi=>jW (λf:Nat×Nat×ByteArray=>([Value.int .i64 f.1,.int .i64 f.2.1,.string f.2.2]:List Value)) 3 (by decide) (λ_=>rfl) L k i hi h;exact⟨hf 0 (by decide),hf 1 (by decide),hf 2 (by decide)⟩
theorem Gy(L:List (Nat×Nat×ByteArray))(k:Nat):nC (L.take k)=(nC L).take (k * 3):=by
 induction L generalizing k with
 |nil=>simp[nC]
 |cons a L ih=>
  cases k with
  |zero=>simp[nC]
  |succ k=>
   rw[List.take_succ_cons];show [_,_,_]++nC (L.take k)=(([_,_,_]:List Value)++nC L).take ((k+1)* 3);rw[ih,show(k+1)* 3=k * 3+1+1+1 by omega];rfl
theorem RZ(L:List (Nat×Nat×ByteArray))(k:Nat):nC (L.drop k)=(nC L).drop (k * 3):=by
 have h:=sM (L.take k) (L.drop k);rw[List.take_append_drop,Gy]at h;by_cases hk:k<=L.length
 ·have hl:((nC L).take (k * 3)).length=k * 3:=by rw[List.length_take,Ab];omega
  have h2:(nC L).drop (k * 3)=((nC L).take (k * 3)++nC (L.drop k)).drop (k * 3):=by rw[<-h]
  rw[h2,List.drop_append,hl,Nat.sub_self,List.drop_zero,(List.drop_eq_nil_of_le (by omega):((nC L).take (k * 3)).drop (k * 3)=[]),List.nil_append]
 ·rw[List.drop_eq_nil_of_le (by omega),List.drop_eq_nil_of_le (by rw[Ab];omega)];rfl
theorem MM.fly(h:MM y m W){v7:Value}{w7:World}{F:List (Nat×Nat×ByteArray)}(ho:w7.ownsRow 0 149 3 v7 F.length (nC F))(hg:W.grownBy w7 y.av.ownBlock)(hv:v7.ownBlock=y.av.ownBlock∨v7.ownBlock=some W.heap.size):
  (w7.cell? ⟨y.G,2,none⟩=some y.av∧w7.frozen? ⟨y.G,2,none⟩=false)∧MM {y with av:=v7} {m with bH:=F} (w7.setCell ⟨y.G,2,none⟩ v7)∧MU y m {y with av:=v7} {m with bH:=F} W (w7.setCell ⟨y.G,2,none⟩ v7):=by
 have hne:y.av.ownBlock≠some y.G:=aH h.bH h.blk (λc e=>(by cases e));have hblk:=hg.block _ (aB h.blk) λe=>hne e.symm;obtain⟨_,_,c2,fz⟩:=h.cell;have GQ:=hblk.trans h.blk;have hg2:w7.grownBy (w7.setCell ⟨y.G,2,none⟩ v7) (some y.G):=ah (ay _ (some y.G)) 2 _;have hsz:=hg.size;have hkeep:∀k,k<W.heap.size->k≠y.G->y.av.ownBlock≠some k->(w7.setCell ⟨y.G,2,none⟩ v7).heap[k]?=W.heap[k]?:=λk hk h1 h2=>(hg2.block k (by omega) λe=>h1 (Option.some.inj e)).trans (hg.block k hk λe=>h2 e.symm);have hf:Fx (uU y m) W (w7.setCell ⟨y.G,2,none⟩ v7):=aQ (Fx.grown hg λk e=> .inr (.inr (.inl e))) hg2 λi _ e=>by cases e;exact .inl rfl
 refine⟨⟨(World.cell?_of_block (a:=⟨y.G,2,none⟩) hblk).trans c2,(World.frozen?_of_block (a:=⟨y.G,2,none⟩) hblk).trans (fz 2)⟩,⟨?_,?_,ho.kept hg2 (.inr (aH ho GQ (λc e=>(by cases e)))),h.len,λi x s h1 h2=>(h.st i x s h1 h2).kept λk hk=> ?_,h.ap⟩,hf,λk hk=> ?_,rfl,rfl,rfl,rfl⟩
 ·simp[World.setCell,dM,GQ]
 ·refine bK h.xZ λk hk=>hkeep k (h.xZ.lt k hk).2 (λe=> ?_) λe=> ?_
  ·subst e;exact aH h.xZ h.blk (λc e=>(by cases e)) hk
  ·rcases bP h.xZ h.bH (by decide)with q|q
   ·rw[q]at hk;cases hk
   ·exact q (hk.trans e.symm)
 ·obtain⟨q1,_,q3⟩:=h.own h1 h2 hk;exact hkeep k ((h.st i x s h1 h2).lt hk) q1 q3
 ·rcases hk with hk|hk|hk|hk
  ·exact .inl (.inl hk)
  ·exact .inl (.inr (.inl hk))
  ·rcases hv with e|e
   ·exact .inl (.inr (.inr (.inl (by rw[<-e];exact hk))))
   ·have h1:=(ho.lt k hk).2;rw[show({y with av:=v7}:MG).av=v7 from rfl,e]at hk;cases hk;exact .inr ⟨aA _,by simpa using h1⟩
  ·exact .inl (.inr (.inr (.inr hk)))
theorem MM.drew(h:MM y m W):MM y m W.drew:=h.kept λ_ _=>rfl
theorem MU.pre(hb:Below w.heap.size w w1)(h:MU y m y' m' w1 w'):MU y m y' m' w w':=(MU.below hb).trans h
theorem MU.post(h:MU y m y' m' w w1)(hb:Below w1.heap.size w1 w'):MU y m y' m' w w':=h.trans (MU.below hb)
def MP(y:MG)(m m':aP)(w w':World):Prop:=∃y',MM y' m' w'∧MU y m y' m' w w'
theorem MP.pre(hb:Below w.heap.size w w1)(h:MP y m m' w1 w'):MP y m m' w w':=by
 obtain⟨y',h1,h2⟩:=h;exact⟨y',h1,h2.pre hb⟩
theorem MP.post(h:MP y m m' w w1)(hb:Below w1.heap.size w1 w'):MP y m m' w w':=by
 obtain⟨y',h1,h2⟩:=h;exact⟨y',h1.later hb,h2.post hb⟩
theorem MP.refl(h:MM y m w):MP y m m w w:=⟨y,h,MU.refl _ _ _⟩
theorem MP.comp{y1:MG}{m1:aP}(u:MU y m y1 m1 w w1)(h:MP y1 m1 m' w1 w'):MP y m m' w w':=by
 obtain⟨y',h1,h2⟩:=h;exact⟨y',h1,u.trans h2⟩
theorem Kh:(Tryz.prog.info? 149).map (λi=>(i.zero,i.size,i.bytes))=some (some (.agg #[.int .i64 0,.int .i64 0,.string ⟨#[]⟩]),3,32):=by kernel_rfl
theorem Rj(W:World)(a b:Nat)(s:ByteArray):∀(j:Nat) (u:Value),(nC [(a,b,s)])[j]?=some u->(W.alloc (.cells #[.int .i64 a,.int .i64 b,.string s] 149)).drew.cell? ((⟨W.heap.size,0,none⟩:Addr).add j)=some u:=by
 intro j u hj;have hh:=bO W (.cells #[.int .i64 a,.int .i64 b,.string s] 149);have hadd:(⟨W.heap.size,0,none⟩:Addr).add j=⟨W.heap.size,0+j,none⟩:=by unfold Addr.add;split<;>simp_all
 rw[hadd,Nat.zero_add];have hh':(W.alloc (.cells #[.int .i64 a,.int .i64 b,.string s] 149)).drew.heap[W.heap.size]?=some (.cells #[.int .i64 a,.int .i64 b,.string s] 149):=hh
 match j,hj with
 |0,hj=>exact(aF _ _ 0 _ _ _ hh').trans hj
 |1,hj=>exact(aF _ _ 1 _ _ _ hh').trans hj
 |2,hj=>exact(aF _ _ 2 _ _ _ hh').trans hj
 |j+3,hj=>simp[nC]at hj
def ZV(f:Nat×Nat×ByteArray):Value:=.agg #[.int .i64 f.1,.int .i64 f.2.1,.string f.2.2]
theorem Jj(h:MM y m w)(i:Nat)(hi:i<m.bH.length)(hl:m.bH.length<=1000)(f:Nat×Nat×ByteArray)(hf:m.bH[i]?=some f):Calls Tryz.prog 63 #[.pointer (some ⟨y.G,0,none⟩),.int .i64 i] w λe w'=>e=.returned (ZV f)∧MP y m {m with bH:=m.bH.eraseIdx i} w w':=by
 have hb0:Below w.heap.size w (w.alloc (.cells #[.int .i64 0,.int .i64 0,.string ⟨#[]⟩] 149)):=bn;have hC:=bO w (.cells #[.int .i64 0,.int .i64 0,.string ⟨#[]⟩] 149);have h1:=h.later hb0;obtain⟨g,cap,Ag,_⟩:=bS h.bH (by omega);have hgl:g<w.heap.size:=(h.bH.lt g (by rw[Ag];rfl)).2;have hlt:=λk (hk:uU y m k)=>h.lt hk;obtain⟨a,b,s⟩:=f;obtain⟨q0,q1,q2⟩:=D7 hf;dsimp only at q0 q1 q2;have hil:(i:Int)<(m.bH.length:Int):=by omega
 have hiw:wrap64 ((i:Int)+1)=(i:Int)+1:=by unfold wrap64;omega
 have hFl:nC (m.bH.eraseIdx i)=(nC m.bH).take (i * 3)++(nC m.bH).drop ((i+1)* 3):=by
  rw[List.eraseIdx_eq_take_drop_succ,sM,Gy,RZ]
 have hln:(m.bH.eraseIdx i).length=m.bH.length - 1:=by rw[List.length_eraseIdx,aO hi]
 unfold ZV;dsimp only;clear h;go_enter Tryz.func63,Tryz.ntmps63;go_upto_region 1 with(fail);generalize World.alloc _ _=W1 at hb0 hC h1 ⊢;have hr1:=h1.bH;rw[Ag]at hr1;have c2:=h1.cell.2.2.1;rw[Ag]at c2;have d0:=(hr1.cellAt (i * 3) (by omega)).trans q0;have d1:=(hr1.cellAt (i * 3+1) (by omega)).trans q1;have d2:=(hr1.cellAt (i * 3+2) (by omega)).trans q2;have hb1:Below W1.heap.size W1 (W1.alloc (.cells #[.int .i64 a,.int .i64 b,.string s] 149)):=bn;have hD:=bO W1 (.cells #[.int .i64 a,.int .i64 b,.string s] 149);have h2:=h1.later hb1;have hC2:=(hb1.block _ (aB hC)).trans hC;have hb2:=hb0.trans (hb1.mono hb0.size);have QO:=aB hC;clear h1 hr1 hb0 hb1 hC q0 q1 q2;go_upto_region 2 with(fail);generalize World.alloc _ _=W2 at hD h2 hC2 hb2 ⊢;generalize W1.heap.size=D at hD QO ⊢;clear c2 d0 d1 d2;have hr2:=h2.bH;have c2:=h2.cell.2.2.1;have f2:=h2.cell.2.2.2 2;have HX:=hide (DF.sN 0 g m.bH.length cap i (nC m.bH) W2 (by rw[<-Ag];exact hr2) hi (by omega) (Ia _));have HF:Hid (∀w7:World,w7.ownsRow 0 149 3 (.slice (some ⟨g,0,none⟩) (m.bH.length - 1) cap) (m.bH.length - 1) ((nC m.bH).take (i * 3)++(nC m.bH).drop ((i+1)* 3))->W2.grownBy w7 (some g)->(w7.cell? ⟨y.G,2,none⟩=some y.av∧w7.frozen? ⟨y.G,2,none⟩=false)∧(∃y',MM y' {m with bH:=m.bH.eraseIdx i} (w7.setCell ⟨y.G,2,none⟩ (.slice (some ⟨g,0,none⟩) (m.bH.length - 1) cap))∧MU y m y' {m with bH:=m.bH.eraseIdx i} w (w7.setCell ⟨y.G,2,none⟩ (.slice (some ⟨g,0,none⟩) (m.bH.length - 1) cap))∧∀k,uU y' {m with bH:=m.bH.eraseIdx i} k->k<w.heap.size)∧(w7.setCell ⟨y.G,2,none⟩ (.slice (some ⟨g,0,none⟩) (m.bH.length - 1) cap)).heap[w.heap.size]?=some (.cells #[.int .i64 0,.int .i64 0,.string ⟨#[]⟩] 149)∧(w7.setCell ⟨y.G,2,none⟩ (.slice (some ⟨g,0,none⟩) (m.bH.length - 1) cap)).heap[D]?=some (.cells #[.int .i64 a,.int .i64 b,.string s] 149)):=by
  intro w7 ho hg;rw[<-hFl,<-hln]at ho;obtain⟨k1,k2,k3⟩:=h2.fly ho (by rw[Ag];exact hg) (by rw[Ag];exact .inl rfl);have hsz:=hg.size;have hgG:w7.grownBy (w7.setCell ⟨y.G,2,none⟩ (.slice (some ⟨g,0,none⟩) (m.bH.eraseIdx i).length cap)) (some y.G):=ah (ay _ (some y.G)) 2 _;have hwG:W2.heap[y.G]?=_:=h2.blk;have hxg:∀k,k<W2.heap.size->k≠y.G->k≠g->(w7.setCell ⟨y.G,2,none⟩ (.slice (some ⟨g,0,none⟩) (m.bH.eraseIdx i).length cap)).heap[k]?=W2.heap[k]?:=λk hk e1 e2=>(hgG.block k (fB hk hsz) λe=>e1 (Option.some.inj e)).trans (hg.block k hk λe=>e2 (Option.some.inj e));rw[hln]at k2 k3 hxg;refine⟨k1,⟨_,k2,k3.pre hb2,λk hk=> ?_⟩,(hxg _ (aB hC2) (λe=> ?_) λe=> ?_).trans hC2,(hxg _ (aB hD) (λe=> ?_) λe=> ?_).trans hD⟩
  ·rcases hk with hk|hk|hk|hk
   ·exact hlt k (.inl hk)
   ·exact hlt k (.inr (.inl hk))
   ·cases hk;exact hgl
   ·exact hlt k (.inr (.inr (.inr hk)))
  ·rw[e,h2.blk]at hC2;cases hC2
  ·omega
  ·rw[e,h2.blk]at hD;cases hD
  ·omega
 clear h2 hr2 hFl hln hC2 hD;rw[Ag]at c2;go_wp2_with fail;refine aN HX.out ?_;rintro e w7 ⟨rfl,gB,fP⟩;obtain⟨⟨g1,g2⟩,hm,MS,hDw⟩:=HF.out _ gB fP;rw[Ag]at g1;have z0:=aF _ _ 0 _ _ _ MS;have z1:=aF _ _ 1 _ _ _ MS;have z2:=aF _ _ 2 _ _ _ MS;have y0:=mg _ w.heap.size 0 _ _ MS;have y1:=mg _ w.heap.size 1 _ _ MS;have y2:=mg _ w.heap.size 2 _ _ MS;have u0:=aF _ _ 0 _ _ _ hDw;have u1:=aF _ _ 1 _ _ _ hDw;have u2:=aF _ _ 2 _ _ _ hDw;clear HX HF gB fP c2;go_upto_region 3 with(fail);generalize World.setCell _ _ _=W3 at hm MS hDw z0 z1 z2 y0 y1 y2 u0 u1 u2 ⊢;simp at z0 z1 z2 u0 u1 u2;have fQ:(((W3.setCell ⟨w.heap.size,0,none⟩ (.int .i64 a)).setCell ⟨w.heap.size,1,none⟩ (.int .i64 b)).setCell ⟨w.heap.size,2,none⟩ (.string s)).heap[w.heap.size]?=some (.cells #[.int .i64 a,.int .i64 b,.string s] 149):=by
  simp[World.setCell,dM,MS]
 have iq:W3.grownBy (((W3.setCell ⟨w.heap.size,0,none⟩ (.int .i64 a)).setCell ⟨w.heap.size,1,none⟩ (.int .i64 b)).setCell ⟨w.heap.size,2,none⟩ (.string s)) (some w.heap.size):=ah (ah (ah (ay W3 (some w.heap.size)) 0 _) 1 _) 2 _;have hm7:MP y m {m with bH:=m.bH.eraseIdx i} w (((W3.setCell ⟨w.heap.size,0,none⟩ (.int .i64 a)).setCell ⟨w.heap.size,1,none⟩ (.int .i64 b)).setCell ⟨w.heap.size,2,none⟩ (.string s)):=by
  obtain⟨y',k1,k2,k3⟩:=hm;have hno:∀k,uU y' {m with bH:=m.bH.eraseIdx i} k->some k≠some w.heap.size:=λk hk e=>by
   cases e;have:=k3 _ hk;omega
  refine⟨y',k1.kept λk hk=>iq.block k (k1.lt hk) (hno k hk),⟨aQ k2.fx iq (λj hj e=>by cases e;omega),λk hk=>(k2.sub k hk).imp_right λh=>⟨h.1,fB h.2 iq.size⟩,k2.G,k2.n,k2.sv,k2.B⟩⟩
 clear hm MS hDw iq;go_wp2_with fail;generalize World.setCell _ _ _=W7 at fQ hm7 ⊢;have p0:W7.cell? ⟨w.heap.size,0,none⟩=some (.int .i64 a):=aF _ _ 0 _ _ _ fQ;have p1:W7.cell? ⟨w.heap.size,1,none⟩=some (.int .i64 b):=aF _ _ 1 _ _ _ fQ;have p2:W7.cell? ⟨w.heap.size,2,none⟩=some (.string s):=aF _ _ 2 _ _ _ fQ;exact bodyPost_ret (v:=.agg #[.int .i64 a,.int .i64 b,.string s]) (by simp[results,Tryz.results63,go_sem,p0,p1,p2]) rfl ⟨rfl,hm7⟩
theorem Gv(h:MM y m w)(hl:m.bH.length<=500)(f:Nat×Nat×ByteArray):Calls Tryz.prog 64 #[.pointer (some ⟨y.G,0,none⟩),ZV f] w λe w'=>e=.returned (.tuple #[])∧MP y m (m.launch f) w w':=by
 obtain⟨i0,hi,hz0,hz1,hz2⟩:=info_parts Kh;obtain⟨a,b,s⟩:=f;have hb0:Below w.heap.size w (w.alloc (.cells #[.int .i64 a,.int .i64 b,.string s] 149)):=bn;have hC:=bO w (.cells #[.int .i64 a,.int .i64 b,.string s] 149);have h1:=h.later hb0;unfold ZV;dsimp only;go_enter Tryz.func64,Tryz.ntmps64;go_upto_region 1 with(fail);generalize World.alloc _ _=W1 at hb0 hC h1 ⊢;have hkb:∀o,Below W1.heap.size W1 (W1.alloc o).drew:=λo=>((aR _ _).alloc (aA _) o).drew;have hrow:=λo=>(h1.later (hkb o)).bH;have hcf:=Rj W1 a b s;have hcm:=λo=>(h1.later (hkb o)).cell.2.2.1;have hc1:=h1.cell.2.2.1;have t0:W1.cell? ⟨w.heap.size,0,none⟩=some (.int .i64 a):=aF _ _ 0 _ _ _ hC;have t1:W1.cell? ⟨w.heap.size,1,none⟩=some (.int .i64 b):=aF _ _ 1 _ _ _ hC;have t2:W1.cell? ⟨w.heap.size,2,none⟩=some (.string s):=aF _ _ 2 _ _ _ hC;have HF:Hid (∀v7 w7,w7.ownsRow 0 149 3 v7 (m.bH.length+1) (nC m.bH++nC [(a,b,s)])->(W1.alloc (.cells #[.int .i64 a,.int .i64 b,.string s] 149)).drew.grownBy w7 y.av.ownBlock->(v7.ownBlock=y.av.ownBlock∨v7.ownBlock=some (W1.alloc (.cells #[.int .i64 a,.int .i64 b,.string s] 149)).drew.heap.size)->(w7.cell? ⟨y.G,2,none⟩=some y.av∧w7.frozen? ⟨y.G,2,none⟩=false)∧MM {y with av:=v7} {m with bH:=m.bH++ [(a,b,s)]} (w7.setCell ⟨y.G,2,none⟩ v7)∧MU y m {y with av:=v7} {m with bH:=m.bH++ [(a,b,s)]} w (w7.setCell ⟨y.G,2,none⟩ v7)):=by
  intro v7 w7 ho hg hv;rw[<-sM,show m.bH.length+1=(m.bH++ [(a,b,s)]).length by simp]at ho;obtain⟨q1,q2,q3⟩:=(h1.later (hkb _)).fly ho hg hv;exact⟨q1,q2,(q3.pre (hkb _)).pre hb0⟩
 have hlm:m.bH.length+1<=maxLen:=by unfold maxLen;omega
 have hl2:(m.bH.length+1)* 32<=140737488355328:=by omega
 have xL:m.launch (a,b,s)=if 48<m.bH.length+1 then {m with bH:=(m.bH++ [(a,b,s)]).eraseIdx 0}else {m with bH:=m.bH++ [(a,b,s)]}:=by
  unfold aP.launch;simp only[bZ,dR,List.length_nil,List.eraseIdx_zero];split<;>rfl
 replace xL:=hide xL;clear h h1 hC hkb;generalize w.heap.size=C at t0 t1 t2 ⊢;go_cut []from 4 to 13 (λWc=>∃v7,MM {y with av:=v7} {m with bH:=m.bH++ [(a,b,s)]} Wc∧MU y m {y with av:=v7} {m with bH:=m.bH++ [(a,b,s)]} w Wc)
 case first=>
  go_region_law (refine gu rfl (.tmp 8) (.tmp 10) 45 rfl 0 149 i0 (.agg #[.int .i64 0,.int .i64 0,.string ⟨#[]⟩]) 3 32 Tryz.underlying45 hi hz0 hz1 hz2 rfl (by decide) y.av m.bH.length (nC m.bH) (by simp[Act.eval]) (hrow _) ⟨_,0,none⟩ 1 1 (nC [(a,b,s)]) (by simp[Act.eval]) rfl (hcf) (Ia _) hlm hl2 (bX _) ?_;intro v7 w7 gB fP hv7;obtain⟨⟨g1,g2⟩,hm⟩:=HF.out _ _ gB fP hv7;obtain⟨N8,Rk,rfl,_⟩:=ak gB)
  all_goals
   clear fP gB;go_wp2_with fail;go_meet;exact⟨_,hm⟩
 case rest=>
  obtain⟨v7,hm,hu⟩:=hcut;have c2:=hm.cell.2.2.1;obtain⟨ao,cc,hv,_⟩:=ak hm.bH;dsimp only at c2 hv;rw[hv]at c2;have hlen:(m.bH++ [(a,b,s)]).length=m.bH.length+1:=by simp
  have HL:=λ(h48:48<m.bH.length+1)=>Jj hm 0 (by dsimp only;omega) (by dsimp only;omega) ((m.bH++ [(a,b,s)])[0]'(by omega)) (bW (by dsimp only;omega));rw[hlen]at c2;replace HL:=hide HL;have hl':=xL.out;clear xL HF hrow hcf hcm hc1 t0 t1 t2;by_cases h48:48<m.bH.length+1
  ·rw[aO h48]at hl';have h48':(48:Int)<(m.bH.length:Int)+1:=by omega
   have HL':=hide (HL.out h48);replace hl':=hide hl';clear hm HL;go_wp2_with fail;refine aN HL'.out ?_;rintro e w3 ⟨rfl,hp⟩;have hfin:=MP.comp hu hp;clear hp hu HL';go_wp2;go_returns;exact⟨rfl,by rw[hl'.out];exact hfin⟩
  ·rw[aD h48]at hl';have h48':¬(48:Int)<(m.bH.length:Int)+1:=by omega
   have hfin:MP y m {m with bH:=m.bH++ [(a,b,s)]} w wc:=⟨_,hm,hu⟩;replace hl':=hide hl';clear hm HL hu;go_wp2;go_returns;exact⟨rfl,by rw[hl'.out];exact hfin⟩
variable{aT aI:List (Int×ByteArray)}{aM:List Int}{y:MG}{m:aP}{b:Nat}{v:Value}{W W':World}
structure KZ where
 aG:Value
 bL:Value
 bN:Value
def zx(x:Ev×KZ):List Value:=[.int .i64 x.1.node,.int .i64 x.1.err,.string (strOfNums (bA x.1.o.aY)),.bool x.1.o.bq,x.2.aG,x.2.bL,x.2.bN]
def EvC(L:List (Ev×KZ)):List Value:=L.flatMap zx
def EvB(v:KZ)(k:Nat):Prop:=v.aG.ownBlock=some k∨v.bL.ownBlock=some k∨v.bN.ownBlock=some k
structure f_(b:Nat)(v:Value)(L:List (Ev×KZ))(W:World):Prop where
 row:W.ownsRow b 54 7 v L.length (EvC L)
 out:∀x∈L,gV b x.1.o.aI x.1.o.aT x.1.o.aM x.2.aG x.2.bL x.2.bN W
 ap:L.Pairwise λx y=>∀k,EvB x.2 k->¬EvB y.2 k
theorem Ac(a b:List (Ev×KZ)):EvC (a++b)=EvC a++EvC b:=by simp[EvC]
theorem gV.lt{v:KZ}(h:gV b aI aT aM v.aG v.bL v.bN W){k:Nat}(hk:EvB v k):b<=k∧k<W.heap.size:=by
 rcases hk with hk|hk|hk
 ·exact h.aG.lt k hk
 ·exact h.bL.lt k hk
 ·exact h.bN.lt k hk
theorem Xp{L:List (Ev×KZ)}(h:∀x∈L,x.2.aG.oneCell'=true∧x.2.bL.oneCell'=true∧x.2.bN.oneCell'=true):∀u∈EvC L,u.oneCell'=true:=by
 intro u hu;obtain⟨x,hx,hu⟩:=List.mem_flatMap.1 hu;obtain⟨h1,h2,h3⟩:=h x hx;simp only[zx,eF,List.not_mem_nil,or_false]at hu;rcases hu with rfl|rfl|rfl|rfl|rfl|rfl|rfl<;>first|rfl|assumption
theorem row_one{base e size n:Nat}{xs:List Value}(h:W.ownsRow base e size v n xs):v.oneCell'=true:=by
 rcases h.2 with⟨rfl,_⟩|⟨g,cap,cur,rfl,_⟩<;>rfl
theorem f_.one{L:List (Ev×KZ)}(h:f_ b v L W):∀u∈EvC L,u.oneCell'=true:=Xp λx hx=>⟨row_one (h.out x hx).aG,row_one (h.out x hx).bL,row_one (h.out x hx).bN⟩
def evK:List Nat:=[54,77,56,195]
theorem f_.at{L:List (Ev×KZ)}(h:f_ b v L W)(he:∀(k:Nat) (c:Array Value) (t:Nat),t∈evK->W.heap[k]?=some (Obj.cells c t (0,0))->W'.heap[k]?=W.heap[k]?):f_ b v L W':=
 ⟨bK h.row λk hk=>by
  obtain⟨c,hc⟩:=aL h.row hk;exact he k c 54 (by decide) hc,λx hx=>(h.out x hx).at λk c t ht hk=>he k c t (by
   simp only[eF,List.not_mem_nil,or_false]at ht;simp only[evK,eF,List.not_mem_nil,or_false];rcases ht with rfl|rfl|rfl<;>decide) hk,h.ap⟩
theorem f_.nil(b:Nat)(W:World):f_ b (.slice none 0 0) [] W:=⟨⟨rfl,.inl ⟨rfl,rfl⟩⟩,λ_ h=>(by cases h),List.Pairwise.nil⟩
theorem MM.notE(h:MM y m W){k:Nat}{c:Array Value}{t:Nat}(ht:t∈evK)(hk:W.heap[k]?=some (Obj.cells c t (0,0))):¬uU y m k:=h.not hk (by
 simp only[evK,eF,List.not_mem_nil,or_false]at ht;rcases ht with rfl|rfl|rfl|rfl<;>decide)
theorem f_.mesh{L:List (Ev×KZ)}(h:f_ b v L W)(hm:MM y m W)(hf:Fx (uU y m) W W'):f_ b v L W':=h.at λk _ _ ht hk=>hf.block k (aB hk) (hm.notE ht hk)
theorem gV.mesh{aG bL bN:Value}(h:gV b aI aT aM aG bL bN W)(hm:MM y m W)(hf:Fx (uU y m) W W'):gV b aI aT aM aG bL bN W':=h.at λk _ _ ht hk=>hf.block k (aB hk) (hm.notE (by
 simp only[eF,List.not_mem_nil,or_false]at ht;simp only[evK,eF,List.not_mem_nil,or_false];rcases ht with rfl|rfl|rfl<;>decide) hk)
theorem f_.later{L:List (Ev×KZ)}(h:f_ b v L W)(hb:Below W.heap.size W W'):f_ b v L W':=h.at λk _ _ _ hk=>hb.block k (aB hk)
theorem f_.lower{b':Nat}{L:List (Ev×KZ)}(h:f_ b v L W)(hb:b'<=b):f_ b' v L W:=⟨ownsRow_base_a h.row hb,λx hx=>(h.out x hx).lower hb,h.ap⟩
theorem f_.append{c:Nat}{v2 v':Value}{L L2:List (Ev×KZ)}(h:f_ b v L W)(h2:f_ c v2 L2 W)(hbc:b<=c)(hlt:∀x∈L,∀k,EvB x.2 k->k<c)(ho:W'.ownsRow b 54 7 v' (L.length+L2.length) (EvC L++EvC L2))(hg:W.grownBy W' v.ownBlock):f_ b v' (L++L2) W':=by
 have hk:∀(k:Nat) (cs:Array Value) (t:Nat),t∈([77,56,195]:List Nat)->W.heap[k]?=some (Obj.cells cs t (0,0))->W'.heap[k]?=W.heap[k]?:=λk cs t ht hk=>hg.block k (aB hk) λe=>by
  obtain⟨c',hc'⟩:=aL h.row e.symm;rw[hk]at hc';cases hc';exact absurd ht (by decide)
 refine⟨by rw[bZ,Ac];exact ho,λx hx=> ?_,List.pairwise_append.2 ⟨h.ap,h2.ap,λx hx z hz k e1 e2=> ?_⟩⟩
 ·rcases fA.1 hx with hx|hx
  ·exact(h.out x hx).at hk
  ·exact((h2.out x hx).lower hbc).at hk
 ·have q1:=hlt x hx k e1;have q2:=((h2.out z hz).lt e2).1;omega
theorem Ki:(Tryz.prog.info? 54).map (λi=>(i.zero,i.size,i.bytes))=some (some (.agg #[.int .i64 0,.int .i64 0,.string ⟨#[]⟩,.bool false,.slice none 0 0,.slice none 0 0,.slice none 0 0]),7,112):=by kernel_rfl
theorem Dr{x:Ev×KZ}(hb:b<=W.heap.size)(ho:gV b x.1.o.aI x.1.o.aT x.1.o.aM x.2.aG x.2.bL x.2.bN W):f_ b (.slice (some ⟨W.heap.size,0,none⟩) 1 1) [x] (W.alloc (.cells (zx x).toArray 54)):=by
 refine⟨⟨rfl,.inr ⟨W.heap.size,1,_,rfl,hb,bO _ _,aA _,by decide,rfl,?_⟩⟩,λz hz=> ?_,List.pairwise_singleton _ _⟩
 ·simp[EvC,zx]
 ·rw[fD]at hz;subst hz;exact ho.later (bn)
variable{y:MG}{m m':aP}{W W':World}
theorem MM.call(h:MM y m W){i:Nat}{x:SG}{s:eU}{z z':St}{o:Value}(h1:y.L[i]?=some x)(h2:m.S[i]?=some s)(hz:s.nd=some z)(c:Ad x.N x.g z z' W o W'):
  ∃aG bL bN,o=iC z'.bD z'.bq aG bL bN∧gV W.heap.size z'.aI z'.aT z'.aM aG bL bN W'∧MP y m (m.put i {s with nd:=some z'}) W W':=by
 obtain⟨g',dG,aG,bL,bN,rfl,nn,ht,r1,r2,r3,fx,sub⟩:=c;have hst:=h.st i x s h1 h2;obtain⟨n0,_⟩:=hst.nd z hz;have hB:¬Ft x.N x.g z x.B:=λhk=>by
  obtain⟨o,ho,hK⟩:=n0.kind hk;rw[hst.blk]at ho;cases ho;exact hK.not (by decide)
 have hJ:∀k,x.jv.ownBlock=some k->¬Ft x.N x.g z k:=λk hk hf=>by
  obtain⟨o,ho,hK⟩:=n0.kind hf;obtain⟨cc,hc⟩:=aL hst.row hk;rw[hc]at ho;cases ho;exact hK.not (by decide)
 have hN:x.N=x.N:=rfl;refine⟨aG,bL,bN,rfl,⟨r1,r2,r3⟩,?_⟩;have ht:=h.turn (W':=W') (x':={x with g:=g',TL:=dG}) (s':={s with nd:=some z'}) h1 h2 (fx.mono λk hk=> .inr (.inr ⟨z,hz,hk⟩)) ⟨?_,hst.hl,?_,λu hu=>by cases hu;exact⟨nn,ht⟩⟩ rfl λk hk=> ?_
 ·exact⟨_,ht.1,ht.2⟩
 ·rw[show D9 {x with g:=g',TL:=dG} {s with nd:=some z'}=D9 x s by
   unfold D9;rw[hz];rfl]
  exact(fx.block _ (aB hst.blk) hB).trans hst.blk
 ·exact bK hst.row λk hk=>fx.block k (hst.row.lt k hk).2 (hJ k hk)
 ·rcases hk with hk|hk|⟨u,hu,hk⟩
  ·exact .inl (.inl hk)
  ·exact .inl (.inr (.inl hk))
  ·cases hu;rcases sub k hk with h|h
   ·exact .inl (.inr (.inr ⟨z,hz,h⟩))
   ·exact .inr h
theorem MM.WU(h:MM y m W){i:Nat}{x:SG}{s s':eU}(h1:y.L[i]?=some x)(h2:m.S[i]?=some s)(c:mG x s s' W W'):MP y m (m.put i s') W W':=by
 obtain⟨x',b1,m1,f1,u1⟩:=c;have ht:=h.turn h1 h2 f1 m1 b1 u1;exact⟨_,ht.1,ht.2⟩
theorem MU.at{y':MG}{w w':World}(u:MU y m y' m' w w'){i:Nat}{x x':SG}(h1:y.L[i]?=some x)(h2:y'.L[i]?=some x'):x'.B=x.B:=by
 have e1:(y.L.map (·.B))[i]?=some x.B:=by rw[lu,h1];rfl
 have e2:(y'.L.map (·.B))[i]?=some x'.B:=by rw[lu,h2];rfl
 rw[<-u.B,e2]at e1;exact Option.some.inj e1
def jB(m:aP)(i:Nat)(t:Int)(j:Nat):Bool:=(m.at' i).hrs.getD j false&&(decide (t=0)||decide (t=(m.at' j).addr))
def iP(m:aP)(i:Nat)(f:Int×ByteArray)(k:Nat):aP:=((List.range k).filter (jB m i f.1)).foldl (λm j=>m.launch (i,j,f.2)) m
theorem v_(m:aP)(i:Nat)(f:Int×ByteArray)(k:Nat):iP m i f (k+1)=if jB m i f.1 k then(iP m i f k).launch (i,k,f.2)else iP m i f k:=by
 unfold iP;rw[List.range_succ,List.filter_append,List.foldl_append];cases h:jB m i f.1 k<;>simp[h]
theorem oh(m:aP)(i:Nat)(f:Int×ByteArray):iP m i f m.S.length=m.bU i f:=rfl
theorem uD(i:Nat)(b:ByteArray):∀(l:List Nat) (m:aP),(l.foldl (λm j=>m.launch (i,j,b)) m).S=m.S∧(l.foldl (λm j=>m.launch (i,j,b)) m).now=m.now
 | [],m=>⟨rfl,rfl⟩
 |a::l,m=>by
  rw[iH];exact uD i b l (m.launch (i,a,b))
theorem nH(m:aP)(i:Nat)(f:Int×ByteArray)(k:Nat):(iP m i f k).S=m.S∧(iP m i f k).now=m.now:=uD _ _ _ _
theorem gL{i:Nat}{s:eU}(h:m.S[i]?=some s):m.at' i=s:=by
 unfold aP.at';rw[List.getD_eq_getElem?_getD,h];rfl
theorem abr(h:m'.S=m.S)(i:Nat):m'.at' i=m.at' i:=by
 unfold aP.at';rw[h]
theorem yQ(m:aP)(f:Nat×Nat×ByteArray)(h:m.bH.length<=48):(m.launch f).bH.length<=48:=by
 unfold aP.launch;dsimp only;split
 ·rename_i h1;rw[List.length_tail];rw[bZ]at h1 ⊢;simp only[dR,List.length_nil]at h1 ⊢;omega
 ·rename_i h1;omega
theorem BG(i:Nat)(b:ByteArray):∀(l:List Nat) (m:aP),m.bH.length<=48->(l.foldl (λm j=>m.launch (i,j,b)) m).bH.length<=48
 | [],_,h=>h
 |a::l,m,h=>by
  rw[iH];exact BG i b l _ (yQ m _ h)
theorem yj(m:aP)(i:Nat)(f:Int×ByteArray)(k:Nat)(h:m.bH.length<=48):(iP m i f k).bH.length<=48:=BG _ _ _ _ h
open Go.MuLone
variable{N:Nat}{s:St}{w:World}
theorem Vv(eu:Int){A:List Rt}(hA:∀y∈A,y.Ok):∀x∈ng eu A,0<=x.1∧x.1<4294967296∧0<=x.2∧x.2<4294967296:=by
 intro x hx;obtain⟨y,hy,e⟩:=List.mem_filterMap.1 hx;unfold AP at e;split at e
 ·cases e;have h1:=(hA y hy).dest;have h2:=sD (hA y hy).seq;unfold bg at h1 h2;dsimp only;omega
 ·cases e
theorem ND{B:Nat}{g:bF}{TL:List Hp.Tm}(n:Nd N B g s TL w)(eu:Int):
  Calls Tryz.prog 138 #[.pointer (some ⟨g.x.T,0,none⟩),.int .u32 eu] w λe w'=>∃ao c,e=.returned (.slice ao (ng eu s.A).length c)∧bB w' ao (ng eu s.A)∧kT N B g s {s with A:=s.A.map (cO eu 0)} TL w w':=by
 refine(Jv eu n.nn.cr.tb (S:=l9 g.x.T g.M g.ff g.gg s.A) (λ_ h=>h) (λk hk=>n.nn.cr.tb.lt hk)).mono ?_;rintro e w' ⟨v,vL,rfl,h1,h2,h3,h4⟩;obtain⟨ao,c,rfl,hH⟩:=A_ h1 (Vv eu n.nn.cr.tb.ok);exact⟨ao,c,rfl,hH,n.uX ⟨g.M,g.ff,vL,by rw[<-n.nn.eq.self];exact h2,λk hk=> .inl (h3 k hk)⟩ h4⟩
theorem Tn(A:List Rt)(f:Rt->Rt)(hf:∀y,(f y).dest=y.dest):∀y∈A,∃z∈A.map f,z.dest=y.dest:=λy hy=>⟨f y,dO.2 ⟨y,hy,rfl⟩,hf y⟩
theorem RP{g:bF}{TL:List Hp.Tm}(n:Nn N g s TL w){k:Int}(hI:s.Inv k)(hT:dD s TL)(now eu:Int)(eZ:s.now<=now∧now<=4611686018427387904):
  Calls Tryz.prog 100 #[.pointer (some ⟨N,0,none⟩),.int .u64 now,.int .u32 eu] w λe w'=>∃o,e=.returned o∧Hid ((s.brk now eu).Inv (k+1))∧Ad N g s (s.brk now eu) w o w':=by
 have hA:=n.cr.tb.ok;have hl:=n.cr.tb.len;have hb0:Below w.heap.size w (w.alloc iK):=bn;have hC0:(w.alloc iK).heap[w.heap.size]?=some iK:=bO _ _;have jV:¬Ft N g s w.heap.size:=λh=>by have:=n.lt h;omega
 have hs0:(w.alloc iK).heap.size=w.heap.size+1:=by simp
 have n0:=n.later hb0;have hM:=(pM hI).2 now eZ hA hl;obtain⟨s3,hs3⟩:∃z,s.locked.begin now=z:=⟨_,rfl⟩;rw[hs3]at hM;have FM:Hid (s3.lk=1):=by show _=_;rw[<-hs3];rfl
 have Kw:Hid (s3.Q=s.Q):=by show _=_;rw[<-hs3];rfl
 have wG:Hid (s3.now=now):=by show _=_;rw[<-hs3];rfl
 have Qt:Hid (s3.me=s.me):=by show _=_;rw[<-hs3];rfl
 replace hM:=hide hM;dsimp only[iK]at hb0 hC0 hs0 n0
 go_enter_defers Tryz.func100,Tryz.ntmps100
 go_upto_region 1 with(fail);generalize World.alloc _ _=W1 at hb0 hC0 hs0 n0 ⊢;obtain⟨c0,f0⟩:=n0.GN;rw[hI.lk]at c0;go_wp2_with fail;refine aN (lock_free lm ⟨N,0,none⟩ W1 c0 f0) ?_;rintro e w2 ⟨rfl,rfl⟩;obtain⟨n2,hg2⟩:=n0.j4 1;have hf2:Fx (Ft N g s) w (W1.setCell ⟨N,0,none⟩ (.int .i32 1)):=aQ (Fx.below hb0) hg2 (λi _ e=>by cases e;exact .inl (.inl rfl));have hC2:=(hg2.block w.heap.size (by omega) (λe=>jV (by cases e;exact .inl (.inl rfl)))).trans hC0;have hs2:w.heap.size+1<=(W1.setCell ⟨N,0,none⟩ (.int .i32 1)).heap.size:=by
  have:=hg2.size;omega
 have hcn:=hI.cnt;have HB:=hide (xP n2 now ⟨hI.dom.mb,hI.dom.on,hI.dom.own⟩ ⟨hcn.1,by dsimp only;omega⟩);rw[show({s with lk:=1}:St).begin now=s3 from hs3]at HB;have hF1:Hid (∀k,Ft N ({g with x:={g.x with lk:=1}}:bF) ({s with lk:=1}:St) k->Ft N g s k):=λk h=>h;replace hs3:=hide hs3;clear n0 hC0 hs0 hb0 c0 f0 hg2 hA hl hcn;generalize ({g with x:={g.x with lk:=1}}:bF)=g1 at n2 HB hF1;generalize ({s with lk:=1}:St)=s1 at n2 HB hF1;generalize World.setCell _ _ _=W2 at n2 hf2 hC2 hs2 HB ⊢;go_wp2_with fail;refine aN HB.out ?_;rintro e w3 ⟨g3,rfl,n3,u3,Wq,t3⟩;clear t3;clear HB;have QG:Hid (dD s3 TL):=by
  show dD _ _;unfold dD;rw[Kw.out];exact hT
 have HR:=hide (ND n3 eu);have hbl:=qh eu s3.A;have hA8:=n3.nn.cr.tb.len;obtain⟨c2,c3,c4,c7,c0⟩:=n3.cell;obtain⟨s4,hs4⟩:∃z,({s3 with A:=s3.A.map (cO eu 0)}:St)=z:=⟨_,rfl⟩;have Yi:Hid (Eff 0 s3 s4):=by
  show Eff 0 s3 s4;rw[<-hs4];exact oQ s3 (Tn _ _ (fG eu 0))
 rw[hs4]at HR;replace hs4:=hide hs4;have FN:Hid (s4.aI.length<=1000000):=by
  show _<=_;have:=Yi.out.aI;have:=hM.out.aI;omega
 clear Wq n2 n3;go_wp2_with fail;refine aN HR.out ?_;rintro e w4 ⟨ao,c,rfl,hH,g4,n4,u4,t4⟩;have HL:=hide (RG n4 0 ao c (ng eu s3.A) (by omega) hH FN.out);have oM:=u3.trans u4;clear HR c2 c3 c4 c7 c0 n4 u4 hH u3;go_wp2_with fail;refine aN HL.out ?_;rintro e w5 ⟨rfl,g5,n5,u5,t5⟩;obtain⟨s5,hs5⟩:∃z,s4.lose 0 (ng eu s3.A)=z:=⟨_,rfl⟩;have he5:Hid (Eff 1 s4 s5):=by
  show Eff 1 s4 s5;rw[<-hs5];exact qg _ _ _
 rw[hs5]at n5 u5;have UL:Hid (dD s5 TL):=by
  show dD _ _;unfold dD;rw[<-hs5,<-hs4.out];exact QG.out
 have m_:Hid (s5.Mid k 2):=uf (uf hM.out Yi.out) he5.out;have C8:Hid (s5.lk=1):=(he5.out.lk.trans Yi.out.lk).trans FM.out;have wU:=oM.trans u5;replace hs5:=hide hs5;clear HL u5 oM Yi he5 FN hbl hA8;have Ky:=hide (lK m_.out (by omega) n5.nn.cr.tb.ok n5.nn.cr.tb.len);have KW:=hide (nV n5 m_.out.dom (by have:=m_.out.cnt;omega) (by have:=m_.out.aY;omega) m_.out.bd m_.out.seq);go_wp2_with fail;refine aN KW.out ?_;rintro e w6 ⟨g6,rfl,n6,u6,t6⟩;obtain⟨s6,hs6⟩:∃z,s5.finish=z:=⟨_,rfl⟩;have CZ:s6.lk=1:=by rw[<-hs6,(aW s5).lk];exact C8.out
 have UK:Hid (dD s6 TL):=by
  show dD _ _;unfold dD;rw[<-hs6,(aW s5).Q];exact UL.out
 have jA:Hid (s.brk now eu=s6.freed):=by
  show _=_;rw[<-hs6];unfold St.brk St.broken;rw[hs3.out];dsimp only;rw[hs4.out,hs5.out]
 rw[hs6]at n6 u6 Ky ⊢;have mI:=wU.trans u6;clear KW hs6 u6 n5 wU;have Dl:=mI.Oe (aA _);have mP:∀k,Ft N g6 s6 k->Ft N g s k∨(w.heap.size<=k∧k<w6.heap.size):=λk hk=>(mI.sub k hk).elim (λh=> .inl (hF1.out k h)) λh=> .inr ⟨by omega,h.2⟩;have gy:=(Dl.block w.heap.size (by omega) (λh=>jV (hF1.out _ h))).trans hC2;have jZ:¬Ft N g6 s6 w.heap.size:=λh=>(mI.sub _ h).elim (λh=>jV (hF1.out _ h)) (by omega);have Kq:=hf2.trans Dl (λi _ h=>hF1.out i h);have r1:=ownsRow_base_a n6.ac.aG (show w.heap.size<=W2.heap.size+1 by omega);have r2:=ownsRow_base_a n6.ac.bL (show w.heap.size<=W2.heap.size+1 by omega);have r3:=ownsRow_base_a n6.ac.bN (show w.heap.size<=W2.heap.size+1 by omega);have m6:=n6.nn;obtain⟨af,kf,hf,_⟩:=ak r1;obtain⟨ac,kc,hc,_⟩:=ak r2;obtain⟨ad,kd,hdd,_⟩:=ak r3;rw[hf]at r1;rw[hc]at r2;rw[hdd]at r3;rw[hf,hc,hdd];simp only[iC];clear n6 hf hc hdd mI Dl hf2 hC2;generalize hjj:s6.bD=jj;replace hjj:=hide hjj;obtain⟨z0,z1,z2,z3,z4⟩:=cells5 gy;obtain⟨y0,y1,y2,y3,y4⟩:=wM gy;have iq:=ah (ah (ah (ah (ah (ay w6 (some w.heap.size)) 0 (.string jj)) 1 (.bool s6.bq)) 2 (.slice af s6.aI.length kf)) 3 (.slice ac s6.aT.length kc)) 4 (.slice ad s6.aM.length kd);have fQ:(((((w6.setCell ⟨w.heap.size,0,none⟩ (.string jj)).setCell ⟨w.heap.size,1,none⟩ (.bool s6.bq)).setCell ⟨w.heap.size,2,none⟩ (.slice af s6.aI.length kf)).setCell ⟨w.heap.size,3,none⟩ (.slice ac s6.aT.length kc)).setCell ⟨w.heap.size,4,none⟩ (.slice ad s6.aM.length kd)).heap[w.heap.size]?=some (.cells #[.string jj,.bool s6.bq,.slice af s6.aI.length kf,.slice ac s6.aT.length kc,.slice ad s6.aM.length kd] 52):=by
  simp[World.setCell,dM,gy]
 obtain⟨r1,r2,r3⟩:=qN iq gy r1 r2 r3 (by decide);have m7:=m6.kept λk hk=>iq.block k (m6.lt hk) (λe=>jZ (by cases e;exact hk));have oF:=aQ Kq iq (λi hi e=>by cases e;omega);have jS:=λk hk=>(mP k hk).imp_right λh=>(⟨h.1,fB h.2 iq.size⟩:w.heap.size<=k∧_);clear m6 iq Kq gy mP;go_wp2_with fail;generalize World.setCell _ _ _=W7 at fQ r1 r2 r3 m7 oF jS ⊢;obtain⟨p0,p1,p2,p3,p4⟩:=cells5 fQ;obtain⟨c0,f0⟩:=m7.GN;rw[CZ]at c0;refine leaves_cons (f:=50) (args:=#[.pointer (some ⟨N,0,none⟩)]) (by simp) (by simp[go_sem]) ?_;refine(unlock_deferred lm ⟨N,0,none⟩ .returning W7 c0 f0).mono ?_;rintro e u' w'' ⟨rfl,rfl,rfl⟩;obtain⟨m8,kG⟩:=m7.j4 0;have Ai:N≠w.heap.size:=λe=>jZ (by rw[<-e];exact .inl (.inl rfl));have gF:=(kG.block w.heap.size (aB fQ) (λe=>by cases e;exact Ai rfl)).trans fQ;obtain⟨r1,r2,r3⟩:=qN kG m7.cr.nd r1 r2 r3 (by decide);have wH:=aQ oF kG (λi hi e=>by cases e;exact .inl (.inl rfl));have mO:=λk hk=>(jS k hk).imp_right λh=>(⟨h.1,fB h.2 kG.size⟩:w.heap.size<=k∧_);clear p0 p1 p2 p3 p4 c0 f0 kG m7 oF jS fQ;generalize World.setCell _ _ _=W8 at gF r1 r2 r3 m8 wH mO ⊢;obtain⟨p0,p1,p2,p3,p4⟩:=cells5 gF;refine⟨.agg #[.string jj,.bool s6.bq,.slice af s6.aI.length kf,.slice ac s6.aT.length kc,.slice ad s6.aM.length kd],by simp[results,Tryz.results100,go_sem,p0,p1,p2,p3,p4],_,rfl,?_⟩;rw[jA.out];refine⟨Ky,_,TL,.slice af s6.aI.length kf,.slice ac s6.aT.length kc,.slice ad s6.aM.length kd,?_,m8,UK.out,r1,r2,r3,wH,mO⟩;rw[<-hjj.out];rfl
variable{h:Nat}
theorem rq{P:Program}{w:World}{ops:Array Oper}{rest:List Oper}{o:Oper}{a:Act}{Q:Exit->Act->World->Prop}(hg:o.guard=none)(s x:Operand)(t:TypeId)(hop:o.op=Op.call {callee:=Callee.builtin Builtin.append,args:=#[s,x],argTypes:=#[t,t]})
  (base:Nat) (e:TypeId) (i:TypeInfo) (z:Value) (size bytes:Nat) (h1:P.underlying t=some (.slice e)) (h2:P.info? e=some i) (h3:i.zero=some z) (h4:i.size=size) (h5:i.bytes=bytes) (h6:z.cells.size=size) (h7:0<size)
  (v:Value) (n:Nat) (xs:List Value) (hs:a.eval s=v) (hown:w.ownsRow base e size v n xs)
  (KH:Nat) (v2:Value) (m:Nat) (ys:List Value) (hx:a.eval x=v2) (hown2:w.ownsRow KH e size v2 m ys) (h1c:∀u∈ys,u.oneCell'=true)
  (b1:n+m<=maxLen) (b2:(n+m)* bytes<=140737488355328) (hbase:base<=w.heap.size)
  (hK:∀v' w',w'.ownsRow base e size v' (n+m) (xs++ys)->w.grownBy w' v.ownBlock->wpList P ops Q rest (a.put o.dst v') w'):
  wpList P ops Q (o::rest) a w:=by
 refine wpList_plain hg λK hKK=> ?_;have h:=j_ (ops:=ops) (E:=True) (K:=K) (Q:=Q) hg s x t hop base e i z size bytes h1 h2 h3 h4 h5 h6 h7 v n xs hs hown KH v2 m ys hx hown2 h1c b1 b2 hbase λv' w' k1 k2=>hKK _ _ (hK v' w' k1 k2);have hw:Region.wanted o (yielded ops a.tmps)=true:=by simp[Region.wanted,hg]
 rw[aO hw]at h;exact h
theorem Oc(hb:h<1000000000):wrap64 ((h:Int)+1)=(h:Int)+1:=by unfold wrap64;omega
theorem jP{l:Nat}(hh:h<l):l - (intOf (.int .i64 ((h:Int)+1))).toNat<l - (intOf (.int .i64 (h:Int))).toNat:=by
 simp[intOf];omega
def iW(y:MG)(m m':aP)(evs:List Ev)(b:Nat)(w:World)(e:Ending)(w':World):Prop:=∃v L,e=.returned v∧L.map (·.1)=evs∧f_ b v L w'∧MP y m m' w w'
theorem wT{y:MG}{m:aP}{w:World}(h:MM y m w)(i:Nat)(hi:i<m.S.length)(hn:m.S.length<=6)(ha:m.bH.length<=48)(f:Int×ByteArray)
  (hI:∀z,(m.at' i).nd=some z->∃k,z.Inv k∧z.now<=m.now) (eZ:m.now<=4611686018427387904)
  (HD:f.1≠0->∀z,((m.bU i f).at' i).nd=some z->∀y1 w1 b aG bL bN,MM y1 ((m.bU i f).put i {(m.bU i f).at' i with nd:=some (z.brk m.now f.1)}) w1->b<=w1.heap.size->gV b (z.brk m.now f.1).aI (z.brk m.now f.1).aT (z.brk m.now f.1).aM aG bL bN w1->
   Calls Tryz.prog 36 #[.pointer (some ⟨y1.G,0,none⟩),.int .i64 i,iC (z.brk m.now f.1).bD (z.brk m.now f.1).bq aG bL bN] w1 (iW y1 ((m.bU i f).put i {(m.bU i f).at' i with nd:=some (z.brk m.now f.1)}) (((m.bU i f).put i {(m.bU i f).at' i with nd:=some (z.brk m.now f.1)}).AO i (z.brk m.now f.1).ot).1 (((m.bU i f).put i {(m.bU i f).at' i with nd:=some (z.brk m.now f.1)}).AO i (z.brk m.now f.1).ot).2 b w1)):
  Calls Tryz.prog 67 #[.pointer (some ⟨y.G,0,none⟩),.int .i64 i,.agg #[.int .u32 f.1,.string f.2]] w (iW y m (m.iL i f).1 (m.iL i f).2 w.heap.size w):=by
 obtain⟨t,s⟩:=f;dsimp only at HD ⊢;have hb0:Below w.heap.size w (w.alloc (.cells #[.int .u32 t,.string s] 77)):=bn;have hC:=bO w (.cells #[.int .u32 t,.string s] 77);have h1:=h.later hb0;obtain⟨xi,si,g0,c0,e1,e2,e3,e4,p0⟩:=h1.get hi;obtain⟨q0,q1,q2,fz⟩:=h1.cell;rw[e4]at q1;have hin:(i:Int)<(m.S.length:Int):=by omega
 have hlt:=λk (hk:uU y m k)=>h.lt hk;clear h;go_enter Tryz.func67,Tryz.ntmps67;go_upto_region 1 with(fail);generalize World.alloc _ _=W1 at hb0 hC h1 p0 q0 q1 q2 fz ⊢;generalize kZ:w.heap.size=C at hC ⊢;have hst:Hid (∀(k:Nat) (hv:Value),True):=λ_ _=>trivial;have pX:Hid (∃y',MM y' (iP m i (t,s) 0) W1∧MU y m y' (iP m i (t,s) 0) w W1∧W1.heap[C]?=some (.cells #[.int .u32 t,.string s] 77)):=⟨y,h1,(MU.refl _ _ _).pre hb0,hC⟩;clear q0 q2 fz;go_upto_region 4 with(fail);clear p0 q1 hb0 hC;go_loopw [8,23] (λhv iv wr=>∃k:Nat,k<=m.S.length∧iv=.int .i64 k∧hv=.bool (!((List.range k).filter (jB m i t)).isEmpty)∧Hid (∃y',MM y' (iP m i (t,s) k) wr∧MU y m y' (iP m i (t,s) k) w wr∧wr.heap[C]?=some (.cells #[.int .u32 t,.string s] 77))) (λ_ iv _=>m.S.length - (intOf iv).toNat)
 case atStart=>exact⟨0,bX _,rfl,rfl,pX⟩
 case round=>
  clear pX h1;obtain⟨k,hk,rfl,rfl,hr⟩:=hrel;by_cases hkl:k<m.S.length
  ·have hki:(k:Int)<(m.S.length:Int):=by omega
   obtain⟨y',hm,hu,BF⟩:=hr.out;have hS:=(nH m i (t,s) k).1;obtain⟨xk,sk,g,c,a1,a2,a3,a4,d0⟩:=hm.get (i:=k) (by rw[hS];exact hkl);obtain⟨xj,sj,g',c',b1,b2,b3,b4,_⟩:=hm.get (i:=i) (by rw[hS];exact hi);have hgg:g=g0:=by
    have h5:=a4;rw[hu.sv,e4]at h5;injection h5 with h5 _ _;injection h5 with h5;injection h5 with h5 _ _;exact h5.symm
   subst hgg;have hjB:xj.B=xi.B:=hu.at e1 b1;have hjs:sj=si:=by
    rw[hS,e2]at b2;exact(Option.some.inj b2).symm
   subst hjs;obtain⟨_,_,_,_,_,hh,_⟩:=(hm.st i xj sj b1 b2).cell;rw[hjB]at hh;have hhl:=(hm.st i xj sj b1 b2).hl;have Wh:k<sj.hrs.length:=by omega
   have hcell:=hh k _ (bW Wh);have hcA:=(hm.st k xk sk a1 a2).cell.1;have t0:wr.cell? ⟨C,0,none⟩=some (.int .u32 t):=aF _ _ 0 _ _ _ BF;have t1:wr.cell? ⟨C,1,none⟩=some (.string s):=aF _ _ 1 _ _ _ BF;have QI:jB m i t k=(sj.hrs[k]&&(decide (t=0)||decide (t=sk.addr))):=by
    unfold jB;rw[e3,List.getD_eq_getElem?_getD,bW Wh,<-abr hS k,a3];rfl
   generalize sj.hrs[k]=hb at hcell QI;have adT:(k:Int)<6:=by omega
   have hL:Hid (∀q,jB m i t k=true->Calls Tryz.prog 64 #[.pointer (some ⟨y.G,0,none⟩),.agg #[.int .i64 i,.int .i64 k,.string s]] (wr.drewN q) λe w'=>e=.returned (.tuple #[])∧∃y',MM y' (iP m i (t,s) (k+1)) w'∧MU y m y' (iP m i (t,s) (k+1)) w w'∧w'.heap[C]?=some (.cells #[.int .u32 t,.string s] 77)):=λq hp=>by
    have Qz:Below wr.heap.size wr (wr.drewN q):=lG wr q;have hl:=Gv (hm.later Qz) (by have:=yj m i (t,s) k ha;omega) (i,k,s);rw[hu.G]at hl;refine hl.mono ?_;rintro e w2 ⟨rfl,y2,hm2,hu2⟩;rw[v_,aO hp];have hCq:(wr.drewN q).heap[C]?=some (.cells #[.int .u32 t,.string s] 77):=(Qz.block C (aB BF)).trans BF;exact⟨rfl,y2,hm2,(hu.post Qz).trans hu2,(hu2.fx.block C (aB hCq) ((hm.later Qz).notE (by decide) hCq)).trans hCq⟩
   have hN:Hid (∀q,jB m i t k=false->∃y',MM y' (iP m i (t,s) (k+1)) (wr.drewN q)∧MU y m y' (iP m i (t,s) (k+1)) w (wr.drewN q)∧(wr.drewN q).heap[C]?=some (.cells #[.int .u32 t,.string s] 77)):=λq hp=>by
    have Qz:Below wr.heap.size wr (wr.drewN q):=lG wr q;rw[v_,aD (by rw[hp];simp)];exact⟨y',hm.later Qz,hu.post Qz,(Qz.block C (aB BF)).trans BF⟩
   have hw64:wrap64 ((k:Int)+1)=(k:Int)+1:=by unfold wrap64;omega
   have hfl:Hid (∀b,jB m i t k=b->(!((List.range (k+1)).filter (jB m i t)).isEmpty)=(b||!((List.range k).filter (jB m i t)).isEmpty)):=by
    intro b hb;rw[List.range_succ,List.filter_append];cases b
    ·simp[hb]
    ·simp[hb]
   obtain⟨pk,hpk⟩:∃b,jB m i t k=b:=⟨_,rfl⟩;rw[hpk]at QI hL hN hfl;replace hfl:=hide (hfl.out _ rfl);clear hr hm hu BF a1 a2 a3 a4 b1 b2 b3 b4 hjB hh hhl Wh hS e2 e3 e4 hpk;generalize (!((List.range k).filter (jB m i t)).isEmpty)=hv at hfl ⊢;obtain⟨hv2,Qh⟩:∃b,(!((List.range (k+1)).filter (jB m i t)).isEmpty)=b:=⟨_,rfl⟩;rw[Qh]at hfl;replace Qh:=hide Qh;go_upto_region 6 with(fail);go_cut [47]from 28 to 47 (λv W=>v=.bool pk∧∃q,W=wr.drewN q)
   case first=>
    clear hL hN hfl;cases hb
    ·obtain rfl:pk=false:=by rw[QI];rfl
     clear QI hw64;go_quiet (fail);go_wp2_with fail;go_meet;exact⟨rfl,_,rfl⟩
    ·by_cases h0:t=0
     ·obtain rfl:pk=true:=by rw[QI];simp[h0]
      subst h0;clear QI hw64;go_quiet (fail);go_wp2_with fail;go_meet;exact⟨rfl,_,rfl⟩
     ·have h0':(t==0)=false:=by simpa using h0
      by_cases h2:t=sk.addr
      ·obtain rfl:pk=true:=by rw[QI];simp[h2]
       subst h2;clear QI hw64;go_quiet (fail);go_wp2_with fail;go_meet;exact⟨by simp,_,rfl⟩
      ·obtain rfl:pk=false:=by rw[QI];simp[h0,h2]
       have h2':(t==sk.addr)=false:=by simpa using h2
       clear QI hw64;go_quiet (fail);go_wp2_with fail;go_meet;exact⟨by simp,_,rfl⟩
   case rest=>
    obtain⟨rfl,q,rfl⟩:=hcut;clear QI;have hk1:k+1<=m.S.length:=by omega
    have hme:=jP hkl;cases pk
    ·have hr2:=hide (hN.out q rfl);have Qi:=hfl.out;rw[Bool.false_or]at Qi;subst Qi;clear hL hN hfl t0 t1 hcell hcA d0;generalize World.drewN _ _=W5 at hr2 ⊢;go_wp2;go_roundw
     case rel=>exact⟨k+1,hk1,by go_num,by rw[Qh.out],hr2⟩
     case measure=>exact hme
    ·have hL2:=hide (hL.out q rfl);have Qi:=hfl.out;rw[Bool.true_or]at Qi;subst Qi;have Qz:Below wr.heap.size wr (wr.drewN q):=lG wr q;have t1':(wr.drewN q).cell? ⟨C,1,none⟩=some (.string s):=(Qz.cell (World.block_lt_of_cell? _ _ t1)).trans t1;clear hL hN hfl t0 t1 hcell hcA d0 Qz;generalize World.drewN _ _=W5 at hL2 t1' ⊢;go_wp2_with fail;refine aN hL2.out ?_;rintro e w2 ⟨rfl,hr2⟩;replace hr2:=hide hr2;clear hL2 t1';go_wp2;go_roundw
     case rel=>exact⟨k+1,hk1,by go_num,by rw[Qh.out],hr2⟩
     case measure=>exact hme
  ·obtain rfl:k=m.S.length:=by omega
   obtain⟨y',hm,hu,BF⟩:=hr.out;rw[oh]at hm hu;have hS:(m.bU i (t,s)).S=m.S:=(nH m i (t,s) m.S.length).1;have Ai:(m.bU i (t,s)).now=m.now:=(nH m i (t,s) m.S.length).2;obtain⟨xj,sj,g',c',b1,b2,b3,b4,_⟩:=hm.get (i:=i) (by rw[hS];exact hi);have hjB:xj.B=xi.B:=hu.at e1 b1;have hc2:=(hm.st i xj sj b1 b2).cell.2.2.1;rw[hjB]at hc2;have hheard:(List.range m.S.length).filter (jB m i t)=m.heard i t:=rfl;rw[hheard];have t0:wr.cell? ⟨C,0,none⟩=some (.int .u32 t):=aF _ _ 0 _ _ _ BF;have hlow:w.heap.size<=wr.heap.size:=hu.fx.size;by_cases hh:m.heard i t≠ []∨t=0
   ·have ho:m.iL i (t,s)=(m.bU i (t,s),[]):=by
     unfold aP.iL;rw[aO hh]
    have hfin:iW y m (m.iL i (t,s)).1 (m.iL i (t,s)).2 w.heap.size w (.returned (.slice none 0 0)) wr:=by
     rw[ho];exact⟨_,[],rfl,rfl,f_.nil _ _,y',hm,hu⟩
    clear hr hm hu BF HD ho b1 b2 b3 b4 hlow hheard;cases he:(m.heard i t).isEmpty
    ·clear t0 hc2 hh;go_wp2;go_ret;exact hfin
    ·obtain rfl:t=0:=by
      rcases hh with hh|hh
      ·exact absurd (List.isEmpty_iff.1 he) hh
      ·exact hh
     clear hc2 hh;go_wp2;go_ret;exact hfin
   ·simp only[not_or,Classical.not_not]at hh;obtain⟨hh,h0⟩:=hh;have he:(m.heard i t).isEmpty=true:=List.isEmpty_iff.2 hh;have h0':(t==0)=false:=by simpa using h0
    cases hnd:sj.nd with
    |none=>
     have ho:m.iL i (t,s)=(m.bU i (t,s),[]):=by
      unfold aP.iL;rw[aD (by simp[hh,h0]),b3,hnd]
     have hfin:iW y m (m.iL i (t,s)).1 (m.iL i (t,s)).2 w.heap.size w (.returned (.slice none 0 0)) wr:=by
      rw[ho];exact⟨_,[],rfl,rfl,f_.nil _ _,y',hm,hu⟩
     rw[hnd]at hc2;unfold J7 at hc2;clear hr hm hu BF HD ho b1 b2 b3 b4 hlow hheard kZ;rw[he];go_wp2;go_ret;exact hfin
    |some z=>
     have hz3:((m.bU i (t,s)).at' i).nd=some z:=by rw[b3];exact hnd
     obtain⟨k,hIk,hzn⟩:=hI z (by rw[<-abr hS i];exact hz3);have ho:m.iL i (t,s)=((m.bU i (t,s)).put i {(m.bU i (t,s)).at' i with nd:=some (z.brk m.now t)}).AO i (z.brk m.now t).ot:=by
      unfold aP.iL;rw[aD (by simp[hh,h0]),hz3]
     rw[hnd]at hc2;unfold J7 at hc2;have Z0:=HD h0 z hz3;have hd1:Below wr.heap.size wr wr.drew:=(aR _ _).drew;have hm1:=hm.later hd1;obtain⟨n1,tm1⟩:=(hm1.st i xj sj b1 b2).nd z hnd;have HB:=RP n1 hIk tm1 m.now t ⟨hzn,eZ⟩;have HB2:Hid (Calls Tryz.prog 100 #[.pointer (some ⟨xj.N,0,none⟩),.int .u64 m.now,.int .u32 t] wr.drew λe w2=>∃aG bL bN,e=.returned (iC (z.brk m.now t).bD (z.brk m.now t).bq aG bL bN)∧gV wr.heap.size (z.brk m.now t).aI (z.brk m.now t).aT (z.brk m.now t).aM aG bL bN w2∧wr.heap.size<=w2.heap.size∧∃y2,MM y2 ((m.bU i (t,s)).put i {(m.bU i (t,s)).at' i with nd:=some (z.brk m.now t)}) w2∧MU y m y2 ((m.bU i (t,s)).put i {(m.bU i (t,s)).at' i with nd:=some (z.brk m.now t)}) w w2):=by
      refine HB.mono ?_;rintro e w2 ⟨o,rfl,_,hcp⟩;obtain⟨aG,bL,bN,rfl,hor,y2,hm2,hu2⟩:=hm1.call b1 b2 hnd hcp;rw[b3];exact⟨aG,bL,bN,rfl,hor,hu2.fx.size,y2,hm2,(hu.post hd1).trans hu2⟩
     have c0:=hm.cell.1;rw[hu.G,Ai]at c0;obtain⟨m2,Qu⟩:∃m2,(m.bU i (t,s)).put i {(m.bU i (t,s)).at' i with nd:=some (z.brk m.now t)}=m2:=⟨_,rfl⟩;rw[Qu]at Z0 HB2 ho;obtain⟨zb,hzb⟩:∃zb,z.brk m.now t=zb:=⟨_,rfl⟩;rw[hzb]at Z0 HB2 ho;replace ho:=hide ho;replace Z0:=hide Z0;obtain⟨N,QJ⟩:∃N,xj.N=N:=⟨_,rfl⟩;rw[QJ]at hc2 HB2;clear HD HB hm1 n1 tm1 hr hm hu BF b1 b2 b3 b4 hheard hz3 hIk hzn Qu hzb QJ hd1 hS Ai hjB e1 e2 e3 e4;rw[he];go_upto_region 12 with(fail);go_region_with(first
      |(go_at_call 36;refine Sy.out.mono ?_;rintro e w3 ⟨v,L,rfl,hL,hev,hp3⟩)
      |(go_at_call 100;refine HB2.out.mono ?_;rintro e w2 ⟨aG,bL,bN,rfl,hor,hsz,y2,hm2,hu2⟩;have Sy:=Z0.out _ _ _ _ _ _ hm2 hsz hor;rw[hu2.G]at Sy;replace Sy:=hide Sy))
     all_goals
      have hfin:=hide (show iW y m (m.iL i (t,s)).1 (m.iL i (t,s)).2 w.heap.size w (.returned v) w3 from by rw[ho.out];exact⟨v,L,rfl,hL,hev.lower hlow,MP.comp hu2 hp3⟩);clear Sy hev hp3 hu2 hm2 hor HB2 Z0;go_wp2;go_ret;exact hfin.out
def sG(φ:aP->Int×ByteArray->aP×List Ev)(z:aP×List Ev)(f:Int×ByteArray):aP×List Ev:=((φ z.1 f).1,z.2++(φ z.1 f).2)
def jd(φ:aP->Int×ByteArray->aP×List Ev)(m:aP)(i:Nat)(o:Ot)(k:Nat):aP×List Ev:=(o.aI.take k).foldl (sG φ) (m.put i ((m.at' i).write o).1,[⟨i,0,o⟩])
theorem BL(φ:aP->Int×ByteArray->aP×List Ev)(m:aP)(i:Nat)(o:Ot){k:Nat}{f:Int×ByteArray}(h:o.aI[k]?=some f):jd φ m i o (k+1)=sG φ (jd φ m i o k) f:=by
 unfold jd;rw[List.take_add_one,h,List.foldl_append];rfl
theorem zG{φ:aP->Int×ByteArray->aP×List Ev}(hφ:∀m f,(φ m f).2.length<=1)(m:aP)(i:Nat)(o:Ot):∀k,k<=o.aI.length->(jd φ m i o k).2.length<=1+k
 |0,_=>by
  unfold jd;simp
 |k+1,hk=>by
  rw[BL φ m i o (bW (by omega))];have h1:=zG hφ m i o k (by omega);have h2:=hφ (jd φ m i o k).1 o.aI[k];unfold sG;rw[bZ];omega
theorem uI(φ:aP->Int×ByteArray->aP×List Ev)(m:aP)(i:Nat)(o:Ot)(h1:o.idle=false)(h2:((m.at' i).write o).2=true):m.jc φ i o=jd φ m i o o.aI.length:=by
 unfold aP.jc jd;rw[aD (by simp[h1]),aO h2,List.take_length];rfl
theorem CW(o:Ot):o.idle=(decide (o.aY=[])&&!o.bq&&decide (o.aI.length+o.aT.length+o.aM.length=0)):=by
 unfold Ot.idle;cases o.aY<;>cases o.aI<;>cases o.aT<;>cases o.aM<;>cases o.bq<;>simp
theorem U_{b:Nat}{aI aT:List (Int×ByteArray)}{aM:List Int}{a:Option Addr}{n c:Nat}{bL bN:Value}{W:World}(h:gV b aI aT aM (.slice a n c) bL bN W)(hn:n=aI.length){k:Nat}{f:Int×ByteArray}(hf:aI[k]?=some f):∃g,a=some ⟨g,0,none⟩∧W.cell? ⟨g,k * 2,none⟩=some (.int .u32 f.1)∧W.cell? ⟨g,k * 2+1,none⟩=some (.string f.2):=by
 subst hn;have hk:=(gm.1 hf).1;obtain⟨g,cap,e,_⟩:=bS h.aG (by omega);cases e;have hat:∀i u,i<2->([.int .u32 f.1,.string f.2]:List Value)[i]?=some u->(sK aI)[k * 2+i]?=some u:=λi u hi hu=>(jW (λx:Int×ByteArray=>([Value.int .u32 x.1,Value.string x.2]:List Value)) 2 (by decide) (λ_=>rfl) aI k i hi hf).trans hu;exact⟨g,rfl,(h.aG.cellAt (k * 2) (by omega)).trans (hat 0 _ (by decide) rfl),(h.aG.cellAt (k * 2+1) (by omega)).trans (hat 1 _ (by decide) rfl)⟩
theorem WG{y:MG}{m:aP}{w:World}(h:MM y m w)(i:Nat)(hi:i<m.S.length)(_:m.S.length<=6)(φ:aP->Int×ByteArray->aP×List Ev)(o:Ot)(aG bL bN:Value)(b:Nat)(hor:gV b o.aI o.aT o.aM aG bL bN w)(hb:b<=w.heap.size)
  (hbd:oV o.aY) (hnw:o.aY.length<=50000) (hfr:o.aI.length<=100000∧o.aT.length<=100000∧o.aM.length<=100000) (hjl:(m.at' i).bD.length<=1000000) (hwh:0<=(m.at' i).whole) (hφ:∀m f,(φ m f).2.length<=1)
  (HS:∀k f,o.aI[k]?=some f->o.idle=false->((m.at' i).write o).2=true->∀y1 w1,MM y1 (jd φ m i o k).1 w1->Calls Tryz.prog 67 #[.pointer (some ⟨y1.G,0,none⟩),.int .i64 i,.agg #[.int .u32 f.1,.string f.2]] w1 (iW y1 (jd φ m i o k).1 (φ (jd φ m i o k).1 f).1 (φ (jd φ m i o k).1 f).2 w1.heap.size w1)):
  Calls Tryz.prog 36 #[.pointer (some ⟨y.G,0,none⟩),.int .i64 i,iC (strOfNums (bA o.aY)) o.bq aG bL bN] w (iW y m (m.jc φ i o).1 (m.jc φ i o).2 b w):=by
 obtain⟨i0,hi0,hz0,hz1,hz2⟩:=info_parts Ki;obtain⟨af,kf,rfl,_⟩:=ak hor.aG;obtain⟨ac,kc,rfl,_⟩:=ak hor.bL;obtain⟨ad,kd,rfl,_⟩:=ak hor.bN;obtain⟨j1,j2⟩:=Fz hbd;obtain⟨j,hj⟩:∃j,strOfNums (bA o.aY)=j:=⟨_,rfl⟩;have hidle:=CW o;have hjz:decide (o.aY=[])=decide (j.size=0):=by
  rw[<-hj,j2];cases o.aY<;>simp
 rw[hjz]at hidle;rw[hj];have hb0:Below w.heap.size w (w.alloc (.cells #[.string j,.bool o.bq,.slice af o.aI.length kf,.slice ac o.aT.length kc,.slice ad o.aM.length kd] 52)):=bn;have hC:=bO w (.cells #[.string j,.bool o.bq,.slice af o.aI.length kf,.slice ac o.aT.length kc,.slice ad o.aM.length kd] 52);have h1:=h.later hb0;have ho1:=hor.later hb0;unfold iC;go_enter Tryz.func36,Tryz.ntmps36;go_upto_region 1 with(fail);generalize World.alloc _ _=W1 at hb0 hC h1 ho1 ⊢;have HN:=hide (Au j o.bq af ac ad o.aI.length kf o.aT.length kc o.aM.length kd (by omega) W1);rw[<-hidle]at HN;unfold iC at HN;have hlow:=hb0.size;obtain⟨C,kZ⟩:∃C,w.heap.size=C:=⟨_,rfl⟩;have hC0:w.heap.size<=C:=by omega
 rw[kZ]at hC;have t0:W1.cell? ⟨C,0,none⟩=some (.string j):=aF _ _ 0 _ _ _ hC;have t1:W1.cell? ⟨C,1,none⟩=some (.bool o.bq):=aF _ _ 1 _ _ _ hC;have t2:W1.cell? ⟨C,2,none⟩=some (.slice af o.aI.length kf):=aF _ _ 2 _ _ _ hC;have t3:W1.cell? ⟨C,3,none⟩=some (.slice ac o.aT.length kc):=aF _ _ 3 _ _ _ hC;have t4:W1.cell? ⟨C,4,none⟩=some (.slice ad o.aM.length kd):=aF _ _ 4 _ _ _ hC;rw[kZ];clear kZ h hor;go_wp2_with fail;refine aN HN.out ?_;rintro e w2 ⟨rfl,hb2⟩;have h2:=h1.later hb2;have ho2:=ho1.later hb2;have hC2:=(hb2.block _ (aB hC)).trans hC;have hbb:=hb0.trans (hb2.mono hb0.size);have adz:=hbb.size;clear HN h1 ho1 hC t0 t1 t2 t3 t4 hb0 hb2 hlow;cases hid:o.idle
 ·have t0:w2.cell? ⟨C,0,none⟩=some (.string j):=aF _ _ 0 _ _ _ hC2;have t1:w2.cell? ⟨C,1,none⟩=some (.bool o.bq):=aF _ _ 1 _ _ _ hC2;have t2:w2.cell? ⟨C,2,none⟩=some (.slice af o.aI.length kf):=aF _ _ 2 _ _ _ hC2;have t3:w2.cell? ⟨C,3,none⟩=some (.slice ac o.aT.length kc):=aF _ _ 3 _ _ _ hC2;have t4:w2.cell? ⟨C,4,none⟩=some (.slice ad o.aM.length kd):=aF _ _ 4 _ _ _ hC2;obtain⟨x,s,g,c,e1,e2,e3,e4,p0⟩:=h2.get hi;have q1:=h2.cell.2.1;rw[e4]at q1;have hin:(i:Int)<(m.S.length:Int):=by omega
  rw[e3]at hjl hwh HS;have hall:=uI φ m i o hid;have hno:(s.write o).2=false->m.jc φ i o=(m.put i (s.write o).1,[⟨i,0,Ot.none⟩]):=λe=>by
   unfold aP.jc;rw[aD (by simp[hid]),aD (by rw[e3,e];simp),e3]
  rw[e3]at hall;have hd1:Below w2.heap.size w2 w2.drew:=(aR _ _).drew;have hmd:=h2.later hd1;have HW:=Gl (hmd.st i x s e1 e2) o (.slice af o.aI.length kf) (.slice ac o.aT.length kc) (.slice ad o.aM.length kd) hbd hnw hjl hwh;rw[hj]at HW;have HW2:Hid (Calls Tryz.prog 62 #[.pointer (some ⟨x.B,0,none⟩),.agg #[.string j,.bool o.bq,.slice af o.aI.length kf,.slice ac o.aT.length kc,.slice ad o.aM.length kd]] w2.drew λe w'=>e=.returned (.bool (s.write o).2)∧∃y',MM y' (m.put i (s.write o).1) w'∧MU y m y' (m.put i (s.write o).1) w w'∧gV b o.aI o.aT o.aM (.slice af o.aI.length kf) (.slice ac o.aT.length kc) (.slice ad o.aM.length kd) w'∧w'.heap[C]?=some (.cells #[.string j,.bool o.bq,.slice af o.aI.length kf,.slice ac o.aT.length kc,.slice ad o.aM.length kd] 52)):=by
   refine HW.mono ?_;rintro e w' ⟨rfl,hp⟩;obtain⟨y',hm',hu'⟩:=hmd.WU e1 e2 hp;exact⟨rfl,y',hm',((MU.refl y m w).post hbb).trans (hu'.pre hd1),(ho2.later hd1).mesh hmd hu'.fx,(hu'.fx.block C (aB hC2) (hmd.not hC2 (by decide))).trans hC2⟩
  obtain⟨s1,hs1⟩:∃s1,(s.write o).1=s1:=⟨_,rfl⟩;obtain⟨ok,hok⟩:∃ok,(s.write o).2=ok:=⟨_,rfl⟩;rw[hs1,hok]at HW2 hno;rw[hok]at HS hall;have UA:Hid (jd φ m i o 0=(m.put i s1,[⟨i,0,o⟩])):=by
   show _=_;unfold jd;rw[e3,hs1];rfl
  clear HW hs1 hok e1 e2 e3 e4 h2 ho2 hd1 hmd hjl hwh hbd hnw j1 j2 hjz hidle hbb;go_upto_region 3 with(fail);go_cut [21]from 12 to 21 (λv W=>v=.bool (!ok)∧∃y',MM y' (m.put i s1) W∧MU y m y' (m.put i s1) w W∧gV b o.aI o.aT o.aM (.slice af o.aI.length kf) (.slice ac o.aT.length kc) (.slice ad o.aM.length kd) W∧W.heap[C]?=some (.cells #[.string j,.bool o.bq,.slice af o.aI.length kf,.slice ac o.aT.length kc,.slice ad o.aM.length kd] 52))
  case first=>
   clear HS hno hall UA hC2;go_region_with(go_at_call 62;refine HW2.out.mono ?_;rintro e w3 ⟨rfl,hfin⟩)
   all_goals
    clear HW2;go_wp2_with fail;go_meet;exact⟨by cases ok<;>rfl,hfin⟩
  case rest=>
   obtain⟨rfl,y',hm,hu,ho,BF⟩:=hcut;clear HW2 hC2 t0 t1 t2 t3 t4 p0 q1;have aaN:w.heap.size<=wc.heap.size:=hu.fx.size;cases ok
   ·have hev:=Dr (b:=b) (W:=wc) (x:=(⟨i,0,Ot.none⟩,⟨.slice none 0 0,.slice none 0 0,.slice none 0 0⟩)) (by omega) ⟨⟨rfl,.inl ⟨rfl,rfl⟩⟩,⟨rfl,.inl ⟨rfl,rfl⟩⟩,⟨rfl,.inl ⟨rfl,rfl⟩⟩⟩;have hb5:Below wc.heap.size wc (wc.alloc (.cells (zx (⟨i,0,Ot.none⟩,⟨.slice none 0 0,.slice none 0 0,.slice none 0 0⟩)).toArray 54)):=bn;have hfin:iW y m (m.jc φ i o).1 (m.jc φ i o).2 b w (.returned (.slice (some ⟨wc.heap.size,0,none⟩) 1 1)) (wc.alloc (.cells (zx (⟨i,0,Ot.none⟩,⟨.slice none 0 0,.slice none 0 0,.slice none 0 0⟩)).toArray 54)):=by
     rw[hno rfl];exact⟨_,_,rfl,rfl,hev,y',hm.later hb5,hu.post hb5⟩
    have mE:(zx (⟨i,0,Ot.none⟩,⟨.slice none 0 0,.slice none 0 0,.slice none 0 0⟩)).toArray=#[.int .i64 i,.int .i64 0,.string ⟨#[]⟩,.bool false,.slice none 0 0,.slice none 0 0,.slice none 0 0]:=rfl;rw[mE]at hfin;clear hev hb5 hno HS hall UA hm hu ho BF mE;go_wp2;go_ret;exact hfin
   ·have hev:=Dr (b:=b) (W:=wc) (x:=(⟨i,0,o⟩,⟨.slice af o.aI.length kf,.slice ac o.aT.length kc,.slice ad o.aM.length kd⟩)) (by omega) ho;have mE:(zx (⟨i,0,o⟩,⟨.slice af o.aI.length kf,.slice ac o.aT.length kc,.slice ad o.aM.length kd⟩)).toArray=#[.int .i64 i,.int .i64 0,.string j,.bool o.bq,.slice af o.aI.length kf,.slice ac o.aT.length kc,.slice ad o.aM.length kd]:=by
     rw[<-hj];rfl
    rw[mE]at hev;have hb5:Below wc.heap.size wc (wc.alloc (.cells #[.int .i64 i,.int .i64 0,.string j,.bool o.bq,.slice af o.aI.length kf,.slice ac o.aT.length kc,.slice ad o.aM.length kd] 54)):=bn;have pX:Hid (∃y' L,MM y' (jd φ m i o 0).1 (wc.alloc (.cells #[.int .i64 i,.int .i64 0,.string j,.bool o.bq,.slice af o.aI.length kf,.slice ac o.aT.length kc,.slice ad o.aM.length kd] 54))∧MU y m y' (jd φ m i o 0).1 w (wc.alloc (.cells #[.int .i64 i,.int .i64 0,.string j,.bool o.bq,.slice af o.aI.length kf,.slice ac o.aT.length kc,.slice ad o.aM.length kd] 54))∧f_ b (.slice (some ⟨wc.heap.size,0,none⟩) 1 1) L (wc.alloc (.cells #[.int .i64 i,.int .i64 0,.string j,.bool o.bq,.slice af o.aI.length kf,.slice ac o.aT.length kc,.slice ad o.aM.length kd] 54))∧L.map (·.1)=(jd φ m i o 0).2∧(wc.alloc (.cells #[.int .i64 i,.int .i64 0,.string j,.bool o.bq,.slice af o.aI.length kf,.slice ac o.aT.length kc,.slice ad o.aM.length kd] 54)).ownsRow w.heap.size 54 7 (.slice (some ⟨wc.heap.size,0,none⟩) 1 1) L.length (EvC L)∧gV b o.aI o.aT o.aM (.slice af o.aI.length kf) (.slice ac o.aT.length kc) (.slice ad o.aM.length kd) (wc.alloc (.cells #[.int .i64 i,.int .i64 0,.string j,.bool o.bq,.slice af o.aI.length kf,.slice ac o.aT.length kc,.slice ad o.aM.length kd] 54))):=by
     show ∃y' L,_;rw[UA.out];refine⟨y',_,hm.later hb5,hu.post hb5,hev,rfl,⟨rfl,.inr ⟨wc.heap.size,1,_,rfl,aaN,bO _ _,aA _,by decide,rfl,?_⟩⟩,ho.later hb5⟩;rw[<-hj];rfl
    have t0:wc.cell? ⟨C,0,none⟩=some (.string j):=aF _ _ 0 _ _ _ BF;have t1:wc.cell? ⟨C,1,none⟩=some (.bool o.bq):=aF _ _ 1 _ _ _ BF;have t2:wc.cell? ⟨C,2,none⟩=some (.slice af o.aI.length kf):=aF _ _ 2 _ _ _ BF;have t3:wc.cell? ⟨C,3,none⟩=some (.slice ac o.aT.length kc):=aF _ _ 3 _ _ _ BF;have t4:wc.cell? ⟨C,4,none⟩=some (.slice ad o.aM.length kd):=aF _ _ 4 _ _ _ BF;have Wm:=hide (hall rfl);have HS2:=hide (λk f hf=>HS k f hf hid rfl);clear hev hb5 hno HS hall UA hm hu ho BF mE hj hid;have u2:(wc.alloc (.cells #[.int .i64 i,.int .i64 0,.string j,.bool o.bq,.slice af o.aI.length kf,.slice ac o.aT.length kc,.slice ad o.aM.length kd] 54)).cell? ⟨C,2,none⟩=some (.slice af o.aI.length kf):=((bn:Below wc.heap.size wc _).cell (World.block_lt_of_cell? _ _ t2)).trans t2;go_upto_region 6 with(fail);generalize World.alloc _ _=W5 at pX u2 ⊢;generalize wc.heap.size=E at pX ⊢;clear t0 t1 t2 t3 t4;go_wp2_with fail;go_loopw [7,32] (λev iv wr=>∃k:Nat,k<=o.aI.length∧iv=.int .i64 k∧Hid (∃y' L,MM y' (jd φ m i o k).1 wr∧MU y m y' (jd φ m i o k).1 w wr∧f_ b ev L wr∧L.map (·.1)=(jd φ m i o k).2∧wr.ownsRow w.heap.size 54 7 ev L.length (EvC L)∧gV b o.aI o.aT o.aM (.slice af o.aI.length kf) (.slice ac o.aT.length kc) (.slice ad o.aM.length kd) wr)) (λ_ iv _=>o.aI.length - (intOf iv).toNat)
    case atStart=>exact⟨0,bX _,rfl,pX⟩
    case round=>
     clear pX;obtain⟨k,hk,rfl,hr⟩:=hrel;by_cases hkl:k<o.aI.length
     ·have hki:(k:Int)<(o.aI.length:Int):=by omega
      obtain⟨y1,L,hm,hu,hev,hL,hrw,ho⟩:=hr.out;obtain⟨f,hf⟩:∃f,o.aI[k]?=some f:=⟨_,bW hkl⟩;obtain⟨g5,rfl,d0,d1⟩:=U_ ho rfl hf;have hbx:Below wr.heap.size wr (wr.alloc (.cells #[.int .u32 f.1,.string f.2] 77)):=bn;have hm1:=hm.later hbx;have hHS:=HS2.out k f hf y1 _ hm1;rw[hu.G]at hHS;have hlen:=zG hφ m i o k hk;rw[<-hL,jq]at hlen;have abO:=hφ (jd φ m i o k).1 f;have hsucc:=BL φ m i o hf;have aaY:=hev.later hbx;have ho1:=ho.later hbx;have hu1:=hu.post hbx;have YF:Hid (Calls Tryz.prog 67 #[.pointer (some ⟨y.G,0,none⟩),.int .i64 i,.agg #[.int .u32 f.1,.string f.2]] (wr.alloc (.cells #[.int .u32 f.1,.string f.2] 77)) λe w3=>∃v2 L2 n2,e=.returned v2∧L2.length=n2∧n2<=1∧w3.ownsRow w.heap.size 54 7 u7 L.length (EvC L)∧w3.ownsRow wr.heap.size 54 7 v2 n2 (EvC L2)∧(∀u∈EvC L2,u.oneCell'=true)∧w.heap.size<=w3.heap.size∧∀v' w',w'.ownsRow w.heap.size 54 7 v' (L.length+n2) (EvC L++EvC L2)->w3.grownBy w' u7.ownBlock->∃y' L,MM y' (jd φ m i o (k+1)).1 w'∧MU y m y' (jd φ m i o (k+1)).1 w w'∧f_ b v' L w'∧L.map (·.1)=(jd φ m i o (k+1)).2∧w'.ownsRow w.heap.size 54 7 v' L.length (EvC L)∧gV b o.aI o.aT o.aM (.slice (some ⟨g5,0,none⟩) o.aI.length kf) (.slice ac o.aT.length kc) (.slice ad o.aM.length kd) w'):=by
       refine hHS.mono ?_;rintro e w3 ⟨v2,L2,rfl,hL2,mE,y2,hm2,hu2⟩;have hl2:L2.length<=1:=by
        have:=congrArg List.length hL2;rw[jq]at this;omega
       have Yg:=aaY.mesh hm1 hu2.fx;have how:=ho1.mesh hm1 hu2.fx;have hz1:=hbx.size;have hz2:=hu2.fx.size;have hz3:=(hu1.trans hu2).fx.size;have hz0:=hu.fx.size;have hrw3:w3.ownsRow w.heap.size 54 7 u7 L.length (EvC L):=bK (bK hrw λk5 hk5=>hbx.block k5 (hrw.lt k5 hk5).2) λk5 hk5=>by
        obtain⟨cc,ML⟩:=aL hrw hk5;have hc6:=(hbx.block k5 (aB ML)).trans ML;exact hu2.fx.block k5 (aB hc6) (hm1.notE (by decide) hc6)
       refine⟨v2,L2,_,rfl,rfl,hl2,hrw3,(mE.lower hz1).row,mE.one,hz3,λv' w' ho' hg'=> ?_⟩;have hbE:∀k5,uU y2 (φ (jd φ m i o k).1 f).1 k5->w'.heap[k5]?=w3.heap[k5]?:=λk5 hk5=>hg'.block k5 (hm2.lt hk5) λe5=>by
        obtain⟨cc,ML⟩:=aL Yg.row e5.symm;exact hm2.notE (by decide) ML hk5
       rw[hsucc];refine⟨y2,L++L2,hm2.kept hbE,⟨aQ (hu1.trans hu2).fx hg' (λj5 hj5 e5=> ?_),λk5 hk5=>((hu1.trans hu2).sub k5 hk5).imp_right λh=>⟨h.1,fB h.2 hg'.size⟩,(hu1.trans hu2).G,(hu1.trans hu2).n,(hu1.trans hu2).sv,(hu1.trans hu2).B⟩,?_,?_,by rw[bZ,Ac];exact ho',how.at λk5 c5 t5 ht5 hk5=>hg'.block k5 (aB hk5) λe5=> ?_⟩
       ·have:=(hrw.lt j5 e5).1;omega
       ·exact Yg.append mE (by omega) (λx hx k5 hk5=>by have:=(hev.out x hx).lt hk5;omega) (ownsRow_base_a ho' hb) hg'
       ·rw[List.map_append,hL,hL2];rfl
       ·obtain⟨cc,ML⟩:=aL Yg.row e5.symm;rw[hk5]at ML;cases ML;exact absurd ht5 (by decide)
      have FH:Hid (∀n2,n2<=1->L.length+n2<=maxLen∧(L.length+n2)* 112<=140737488355328):=λn2 h2=>by unfold maxLen;omega
      have hme:=jP hkl;have hk1:k+1<=o.aI.length:=by omega
      have hw64:wrap64 ((k:Int)+1)=(k:Int)+1:=by unfold wrap64;omega
      obtain⟨f1,f2⟩:=f;dsimp only at d0 d1 YF;clear hr hm hu hev hL ho hm1 hHS hlen abO hsucc aaY ho1 hu1 hf hbx hrw hfr hb;go_wp2_with fail;refine aN YF.out ?_;rintro e w3 ⟨v2,L2,n2,rfl,hn2,acn,hr1,hr2,h1c,hbw,hnx⟩;replace hnx:=hide hnx;replace hn2:=hide hn2;obtain⟨X9,X8⟩:=FH.out n2 acn;clear YF FH;go_wp2_with(at_builtin;refine rq rfl _ _ 29 rfl w.heap.size 54 i0 (.agg #[.int .i64 0,.int .i64 0,.string ⟨#[]⟩,.bool false,.slice none 0 0,.slice none 0 0,.slice none 0 0]) 7 112 Tryz.underlying29 hi0 hz0 hz1 hz2 rfl (by decide) u7 L.length (EvC L) rfl hr1 wr.heap.size v2 n2 (EvC L2) rfl hr2 h1c X9 X8 hbw ?_);intro v7 w7 gB fP;have yX:=hide (hnx.out v7 w7 gB fP);clear hnx gB fP hr1 hr2 h1c d0 d1;go_wp2;try rw[hw64]
      go_roundw
      case rel=>
       first
        |exact⟨k+1,hk1,by go_num,yX⟩
        |exact⟨_,_,⟨k+1,hk1,by go_num,yX⟩,rfl⟩
        |((repeat apply Exists.intro);refine⟨⟨k+1,hk1,by go_num,yX⟩,rfl⟩)
      case measure=>exact hme
     ·obtain rfl:k=o.aI.length:=by omega
      obtain⟨y1,L,hm,hu,hev,hL,hrw,ho⟩:=hr.out;have hfin:iW y m (m.jc φ i o).1 (m.jc φ i o).2 b w (.returned u7) wr:=by
       rw[Wm.out];exact⟨u7,L,rfl,hL,hev,y1,hm,hu⟩
      clear hr hm hu hev hL ho HS2 Wm hrw;go_wp2;go_ret;exact hfin
 ·have hfin:iW y m (m.jc φ i o).1 (m.jc φ i o).2 b w (.returned (.slice none 0 0)) w2:=by
   unfold aP.jc;rw[aO (by rw[hid])];exact⟨_,[],rfl,rfl,f_.nil _ _,y,h2,(MU.refl y m w).post hbb⟩
  clear h2 ho2 hC2 HS hbb;go_wp2;go_ret;exact hfin
end Go.Proofs.YtakaadcpaeiccabGreat
