import Derived.Test.YtakaadcpaeiccabGreatV19
set_option maxHeartbeats 8000000
set_option maxRecDepth 100000
namespace Go.Proofs.YtakaadcpaeiccabGreat
open Go.RowKit Go.Maps
variable{y y':MG}{m m':aM}{W w w' w1:World}
theorem uI(a b:List (Nat×Nat×ByteArray)):oh (a++b)=oh a++oh b:=by simp[oh]
theorem Bw(L:List (Nat×Nat×ByteArray)):(oh L).length=L.length * 3:=rz (λf:Nat×Nat×ByteArray=>([Value.int .i64 f.1,.int .i64 f.2.1,.string f.2.2]:List Value)) 3 (λ_=>rfl) L
theorem JL(L:List (Nat×Nat×ByteArray)):∀u∈oh L,u.oneCell'=true:=by
 intro u hu;obtain⟨x,_,hx⟩:=List.mem_flatMap.1 hu;simp only[fE,List.not_mem_nil,or_false]at hx;rcases hx with rfl|rfl|rfl<;>rfl
theorem FH{L:List (Nat×Nat×ByteArray)}{k:Nat}{x:Nat×Nat×ByteArray}(h:L[k]?=some x):(oh L)[k * 3]?=some (.int .i64 x.1)∧(oh L)[k * 3+1]?=some (.int .i64 x.2.1)∧(oh L)[k * 3+2]?=some (.string x.2.2):=by
 have hf:=λi hi=>jR (λf:Nat×Nat×ByteArray=>([Value.int .i64 f.1,.int .i64 f.2.1,.string f.2.2]:List Value)) 3 (by decide) (λ_=>rfl) L k i hi h;exact⟨hf 0 (by decide),hf 1 (by decide),hf 2 (by decide)⟩
theorem IZ(L:List (Nat×Nat×ByteArray))(k:Nat):oh (L.take k)=(oh L).take (k * 3):=by
 induction L generalizing k with
 |nil=>simp[oh]
 |cons a L ih=>
  cases k with
  |zero=>simp[oh]
  |succ k=>
   rw[List.take_succ_cons];show [_,_,_]++oh (L.take k)=(([_,_,_]:List Value)++oh L).take ((k+1)* 3);rw[ih,show(k+1)* 3=k * 3+1+1+1 by omega];rfl
theorem UO(L:List (Nat×Nat×ByteArray))(k:Nat):oh (L.drop k)=(oh L).drop (k * 3):=by
 have h:=uI (L.take k) (L.drop k);rw[List.take_append_drop,IZ]at h;by_cases hk:k<=L.length
 ·have hl:((oh L).take (k * 3)).length=k * 3:=by rw[List.length_take,Bw];omega
  have h2:(oh L).drop (k * 3)=((oh L).take (k * 3)++oh (L.drop k)).drop (k * 3):=by rw[<-h]
  rw[h2,List.drop_append,hl,Nat.sub_self,List.drop_zero,(List.drop_eq_nil_of_le (by omega):((oh L).take (k * 3)).drop (k * 3)=[]),List.nil_append]
 ·rw[List.drop_eq_nil_of_le (by omega),List.drop_eq_nil_of_le (by rw[Bw];omega)];rfl
theorem MM.fly(h:MM y m W){v7:Value}{w7:World}{F:List (Nat×Nat×ByteArray)}(ho:w7.ownsRow 0 149 3 v7 F.length (oh F))(hg:W.grownBy w7 y.av.ownBlock)(hv:v7.ownBlock=y.av.ownBlock∨v7.ownBlock=some W.heap.size):
  (w7.cell? ⟨y.G,2,none⟩=some y.av∧w7.frozen? ⟨y.G,2,none⟩=false)∧MM {y with av:=v7} {m with aT:=F} (w7.setCell ⟨y.G,2,none⟩ v7)∧MU y m {y with av:=v7} {m with aT:=F} W (w7.setCell ⟨y.G,2,none⟩ v7):=by
 have hne:y.av.ownBlock≠some y.G:=aL h.aT h.blk (λc e=>(by cases e));have hblk:=hg.block _ (aG h.blk) λe=>hne e.symm;obtain⟨_,_,c2,fz⟩:=h.cell;have Mw:=hblk.trans h.blk;have hg2:w7.grownBy (w7.setCell ⟨y.G,2,none⟩ v7) (some y.G):=ah (aC _ (some y.G)) 2 _;have hsz:=hg.size;have hkeep:∀k,k<W.heap.size->k≠y.G->y.av.ownBlock≠some k->(w7.setCell ⟨y.G,2,none⟩ v7).heap[k]?=W.heap[k]?:=λk hk h1 h2=>(hg2.block k (by omega) λe=>h1 (Option.some.inj e)).trans (hg.block k hk λe=>h2 e.symm);have hf:Fx (wE y m) W (w7.setCell ⟨y.G,2,none⟩ v7):=aW (Fx.grown hg λk e=> .inr (.inr (.inl e))) hg2 λi _ e=>by cases e;exact .inl rfl
 refine⟨⟨(World.cell?_of_block (a:=⟨y.G,2,none⟩) hblk).trans c2,(World.frozen?_of_block (a:=⟨y.G,2,none⟩) hblk).trans (fz 2)⟩,⟨?_,?_,ho.kept hg2 (.inr (aL ho Mw (λc e=>(by cases e)))),h.len,λi x s h1 h2=>(h.st i x s h1 h2).kept λk hk=> ?_,h.ap⟩,hf,λk hk=> ?_,rfl,rfl,rfl,rfl⟩
 ·simp[World.setCell,d_,Mw]
 ·refine bQ h.zJ λk hk=>hkeep k (h.zJ.lt k hk).2 (λe=> ?_) λe=> ?_
  ·subst e;exact aL h.zJ h.blk (λc e=>(by cases e)) hk
  ·rcases bX h.zJ h.aT (by decide)with q|q
   ·rw[q]at hk;cases hk
   ·exact q (hk.trans e.symm)
 ·obtain⟨q1,_,q3⟩:=h.own h1 h2 hk;exact hkeep k ((h.st i x s h1 h2).lt hk) q1 q3
 ·rcases hk with hk|hk|hk|hk
  ·exact .inl (.inl hk)
  ·exact .inl (.inr (.inl hk))
  ·rcases hv with e|e
   ·exact .inl (.inr (.inr (.inl (by rw[<-e];exact hk))))
   ·have h1:=(ho.lt k hk).2;rw[show({y with av:=v7}:MG).av=v7 from rfl,e]at hk;cases hk;exact .inr ⟨aB _,by simpa using h1⟩
  ·exact .inl (.inr (.inr (.inr hk)))
theorem MM.drew(h:MM y m W):MM y m W.drew:=h.kept λ_ _=>rfl
theorem MU.pre(hb:Below w.heap.size w w1)(h:MU y m y' m' w1 w'):MU y m y' m' w w':=(MU.below hb).trans h
theorem MU.post(h:MU y m y' m' w w1)(hb:Below w1.heap.size w1 w'):MU y m y' m' w w':=h.trans (MU.below hb)
def MP(y:MG)(m m':aM)(w w':World):Prop:=∃y',MM y' m' w'∧MU y m y' m' w w'
theorem MP.pre(hb:Below w.heap.size w w1)(h:MP y m m' w1 w'):MP y m m' w w':=by
 obtain⟨y',h1,h2⟩:=h;exact⟨y',h1,h2.pre hb⟩
theorem MP.post(h:MP y m m' w w1)(hb:Below w1.heap.size w1 w'):MP y m m' w w':=by
 obtain⟨y',h1,h2⟩:=h;exact⟨y',h1.later hb,h2.post hb⟩
theorem MP.refl(h:MM y m w):MP y m m w w:=⟨y,h,MU.refl _ _ _⟩
theorem MP.comp{y1:MG}{m1:aM}(u:MU y m y1 m1 w w1)(h:MP y1 m1 m' w1 w'):MP y m m' w w':=by
 obtain⟨y',h1,h2⟩:=h;exact⟨y',h1,u.trans h2⟩
theorem Mc:(Tryz.prog.info? 149).map (λi=>(i.zero,i.size,i.bytes))=some (some (.agg #[.int .i64 0,.int .i64 0,.string ⟨#[]⟩]),3,32):=by kernel_rfl
theorem T_(W:World)(a b:Nat)(s:ByteArray):∀(j:Nat) (u:Value),(oh [(a,b,s)])[j]?=some u->(W.alloc (.cells #[.int .i64 a,.int .i64 b,.string s] 149)).drew.cell? ((⟨W.heap.size,0,none⟩:Addr).add j)=some u:=by
 intro j u hj;have hh:=bV W (.cells #[.int .i64 a,.int .i64 b,.string s] 149);have hadd:(⟨W.heap.size,0,none⟩:Addr).add j=⟨W.heap.size,0+j,none⟩:=by unfold Addr.add;split<;>simp_all
 rw[hadd,Nat.zero_add];have hh':(W.alloc (.cells #[.int .i64 a,.int .i64 b,.string s] 149)).drew.heap[W.heap.size]?=some (.cells #[.int .i64 a,.int .i64 b,.string s] 149):=hh
 match j,hj with
 |0,hj=>exact(aJ _ _ 0 _ _ _ hh').trans hj
 |1,hj=>exact(aJ _ _ 1 _ _ _ hh').trans hj
 |2,hj=>exact(aJ _ _ 2 _ _ _ hh').trans hj
 |j+3,hj=>simp[oh]at hj
def flV(f:Nat×Nat×ByteArray):Value:=.agg #[.int .i64 f.1,.int .i64 f.2.1,.string f.2.2]
theorem KI(h:MM y m w)(i:Nat)(hi:i<m.aT.length)(hl:m.aT.length<=1000)(f:Nat×Nat×ByteArray)(hf:m.aT[i]?=some f):Calls Tryz.prog 63 #[.pointer (some ⟨y.G,0,none⟩),.int .i64 i] w λe w'=>e=.returned (flV f)∧MP y m {m with aT:=m.aT.eraseIdx i} w w':=by
 have hb0:Below w.heap.size w (w.alloc (.cells #[.int .i64 0,.int .i64 0,.string ⟨#[]⟩] 149)):=bC;have hC:=bV w (.cells #[.int .i64 0,.int .i64 0,.string ⟨#[]⟩] 149);have h1:=h.later hb0;obtain⟨g,cap,BH,_⟩:=bZ h.aT (by omega);have hgl:g<w.heap.size:=(h.aT.lt g (by rw[BH];rfl)).2;have hlt:=λk (hk:wE y m k)=>h.lt hk;obtain⟨a,b,s⟩:=f;obtain⟨q0,q1,q2⟩:=FH hf;dsimp only at q0 q1 q2;have hil:(i:Int)<(m.aT.length:Int):=by omega
 have hiw:wrap64 ((i:Int)+1)=(i:Int)+1:=by unfold wrap64;omega
 have hFl:oh (m.aT.eraseIdx i)=(oh m.aT).take (i * 3)++(oh m.aT).drop ((i+1)* 3):=by
  rw[List.eraseIdx_eq_take_drop_succ,uI,IZ,UO]
 have hln:(m.aT.eraseIdx i).length=m.aT.length - 1:=by rw[List.length_eraseIdx,aI hi]
 unfold flV;dsimp only;clear h;go_enter Tryz.func63,Tryz.ntmps63;go_upto_region 1 with(fail);generalize World.alloc _ _=W1 at hb0 hC h1 ⊢;have hr1:=h1.aT;rw[BH]at hr1;have c2:=h1.cell.2.2.1;rw[BH]at c2;have d0:=(hr1.cellAt (i * 3) (by omega)).trans q0;have d1:=(hr1.cellAt (i * 3+1) (by omega)).trans q1;have d2:=(hr1.cellAt (i * 3+2) (by omega)).trans q2;have hb1:Below W1.heap.size W1 (W1.alloc (.cells #[.int .i64 a,.int .i64 b,.string s] 149)):=bC;have hD:=bV W1 (.cells #[.int .i64 a,.int .i64 b,.string s] 149);have h2:=h1.later hb1;have hC2:=(hb1.block _ (aG hC)).trans hC;have hb2:=hb0.trans (hb1.mono hb0.size);have Tv:=aG hC;clear h1 hr1 hb0 hb1 hC q0 q1 q2;go_upto_region 2 with(fail);generalize World.alloc _ _=W2 at hD h2 hC2 hb2 ⊢;generalize W1.heap.size=D at hD Tv ⊢;clear c2 d0 d1 d2;have hr2:=h2.aT;have c2:=h2.cell.2.2.1;have f2:=h2.cell.2.2.2 2;have HX:=hide (DF.uJ 0 g m.aT.length cap i (oh m.aT) W2 (by rw[<-BH];exact hr2) hi (by omega) (JL _));have HF:Hid (∀w7:World,w7.ownsRow 0 149 3 (.slice (some ⟨g,0,none⟩) (m.aT.length - 1) cap) (m.aT.length - 1) ((oh m.aT).take (i * 3)++(oh m.aT).drop ((i+1)* 3))->W2.grownBy w7 (some g)->(w7.cell? ⟨y.G,2,none⟩=some y.av∧w7.frozen? ⟨y.G,2,none⟩=false)∧(∃y',MM y' {m with aT:=m.aT.eraseIdx i} (w7.setCell ⟨y.G,2,none⟩ (.slice (some ⟨g,0,none⟩) (m.aT.length - 1) cap))∧MU y m y' {m with aT:=m.aT.eraseIdx i} w (w7.setCell ⟨y.G,2,none⟩ (.slice (some ⟨g,0,none⟩) (m.aT.length - 1) cap))∧∀k,wE y' {m with aT:=m.aT.eraseIdx i} k->k<w.heap.size)∧(w7.setCell ⟨y.G,2,none⟩ (.slice (some ⟨g,0,none⟩) (m.aT.length - 1) cap)).heap[w.heap.size]?=some (.cells #[.int .i64 0,.int .i64 0,.string ⟨#[]⟩] 149)∧(w7.setCell ⟨y.G,2,none⟩ (.slice (some ⟨g,0,none⟩) (m.aT.length - 1) cap)).heap[D]?=some (.cells #[.int .i64 a,.int .i64 b,.string s] 149)):=by
  intro w7 ho hg;rw[<-hFl,<-hln]at ho;obtain⟨k1,k2,k3⟩:=h2.fly ho (by rw[BH];exact hg) (by rw[BH];exact .inl rfl);have hsz:=hg.size;have hgG:w7.grownBy (w7.setCell ⟨y.G,2,none⟩ (.slice (some ⟨g,0,none⟩) (m.aT.eraseIdx i).length cap)) (some y.G):=ah (aC _ (some y.G)) 2 _;have hwG:W2.heap[y.G]?=_:=h2.blk;have hxg:∀k,k<W2.heap.size->k≠y.G->k≠g->(w7.setCell ⟨y.G,2,none⟩ (.slice (some ⟨g,0,none⟩) (m.aT.eraseIdx i).length cap)).heap[k]?=W2.heap[k]?:=λk hk e1 e2=>(hgG.block k (fZ hk hsz) λe=>e1 (Option.some.inj e)).trans (hg.block k hk λe=>e2 (Option.some.inj e));rw[hln]at k2 k3 hxg;refine⟨k1,⟨_,k2,k3.pre hb2,λk hk=> ?_⟩,(hxg _ (aG hC2) (λe=> ?_) λe=> ?_).trans hC2,(hxg _ (aG hD) (λe=> ?_) λe=> ?_).trans hD⟩
  ·rcases hk with hk|hk|hk|hk
   ·exact hlt k (.inl hk)
   ·exact hlt k (.inr (.inl hk))
   ·cases hk;exact hgl
   ·exact hlt k (.inr (.inr (.inr hk)))
  ·rw[e,h2.blk]at hC2;cases hC2
  ·omega
  ·rw[e,h2.blk]at hD;cases hD
  ·omega
 clear h2 hr2 hFl hln hC2 hD;rw[BH]at c2;go_wp2_with fail;refine aU HX.out ?_;rintro e w7 ⟨rfl,ig,gQ⟩;obtain⟨⟨g1,g2⟩,hm,OT,hDw⟩:=HF.out _ ig gQ;rw[BH]at g1;have z0:=aJ _ _ 0 _ _ _ OT;have z1:=aJ _ _ 1 _ _ _ OT;have z2:=aJ _ _ 2 _ _ _ OT;have y0:=ng _ w.heap.size 0 _ _ OT;have y1:=ng _ w.heap.size 1 _ _ OT;have y2:=ng _ w.heap.size 2 _ _ OT;have u0:=aJ _ _ 0 _ _ _ hDw;have u1:=aJ _ _ 1 _ _ _ hDw;have u2:=aJ _ _ 2 _ _ _ hDw;clear HX HF ig gQ c2;go_upto_region 3 with(fail);generalize World.setCell _ _ _=W3 at hm OT hDw z0 z1 z2 y0 y1 y2 u0 u1 u2 ⊢;simp at z0 z1 z2 u0 u1 u2;have gM:(((W3.setCell ⟨w.heap.size,0,none⟩ (.int .i64 a)).setCell ⟨w.heap.size,1,none⟩ (.int .i64 b)).setCell ⟨w.heap.size,2,none⟩ (.string s)).heap[w.heap.size]?=some (.cells #[.int .i64 a,.int .i64 b,.string s] 149):=by
  simp[World.setCell,d_,OT]
 have iY:W3.grownBy (((W3.setCell ⟨w.heap.size,0,none⟩ (.int .i64 a)).setCell ⟨w.heap.size,1,none⟩ (.int .i64 b)).setCell ⟨w.heap.size,2,none⟩ (.string s)) (some w.heap.size):=ah (ah (ah (aC W3 (some w.heap.size)) 0 _) 1 _) 2 _;have hm7:MP y m {m with aT:=m.aT.eraseIdx i} w (((W3.setCell ⟨w.heap.size,0,none⟩ (.int .i64 a)).setCell ⟨w.heap.size,1,none⟩ (.int .i64 b)).setCell ⟨w.heap.size,2,none⟩ (.string s)):=by
  obtain⟨y',k1,k2,k3⟩:=hm;have hno:∀k,wE y' {m with aT:=m.aT.eraseIdx i} k->some k≠some w.heap.size:=λk hk e=>by
   cases e;have:=k3 _ hk;omega
  refine⟨y',k1.kept λk hk=>iY.block k (k1.lt hk) (hno k hk),⟨aW k2.fx iY (λj hj e=>by cases e;omega),λk hk=>(k2.sub k hk).imp_right λh=>⟨h.1,fZ h.2 iY.size⟩,k2.G,k2.n,k2.sv,k2.B⟩⟩
 clear hm OT hDw iY;go_wp2_with fail;generalize World.setCell _ _ _=W7 at gM hm7 ⊢;have p0:W7.cell? ⟨w.heap.size,0,none⟩=some (.int .i64 a):=aJ _ _ 0 _ _ _ gM;have p1:W7.cell? ⟨w.heap.size,1,none⟩=some (.int .i64 b):=aJ _ _ 1 _ _ _ gM;have p2:W7.cell? ⟨w.heap.size,2,none⟩=some (.string s):=aJ _ _ 2 _ _ _ gM;exact bodyPost_ret (v:=.agg #[.int .i64 a,.int .i64 b,.string s]) (by simp[results,Tryz.results63,go_sem,p0,p1,p2]) rfl ⟨rfl,hm7⟩
theorem IX(h:MM y m w)(hl:m.aT.length<=500)(f:Nat×Nat×ByteArray):Calls Tryz.prog 64 #[.pointer (some ⟨y.G,0,none⟩),flV f] w λe w'=>e=.returned (.tuple #[])∧MP y m (m.launch f) w w':=by
 obtain⟨i0,hi,hz0,hz1,hz2⟩:=info_parts Mc;obtain⟨a,b,s⟩:=f;have hb0:Below w.heap.size w (w.alloc (.cells #[.int .i64 a,.int .i64 b,.string s] 149)):=bC;have hC:=bV w (.cells #[.int .i64 a,.int .i64 b,.string s] 149);have h1:=h.later hb0;unfold flV;dsimp only;go_enter Tryz.func64,Tryz.ntmps64;go_upto_region 1 with(fail);generalize World.alloc _ _=W1 at hb0 hC h1 ⊢;have hkb:∀o,Below W1.heap.size W1 (W1.alloc o).drew:=λo=>((aV _ _).alloc (aB _) o).drew;have hrow:=λo=>(h1.later (hkb o)).aT;have hcf:=T_ W1 a b s;have hcm:=λo=>(h1.later (hkb o)).cell.2.2.1;have hc1:=h1.cell.2.2.1;have t0:W1.cell? ⟨w.heap.size,0,none⟩=some (.int .i64 a):=aJ _ _ 0 _ _ _ hC;have t1:W1.cell? ⟨w.heap.size,1,none⟩=some (.int .i64 b):=aJ _ _ 1 _ _ _ hC;have t2:W1.cell? ⟨w.heap.size,2,none⟩=some (.string s):=aJ _ _ 2 _ _ _ hC;have HF:Hid (∀v7 w7,w7.ownsRow 0 149 3 v7 (m.aT.length+1) (oh m.aT++oh [(a,b,s)])->(W1.alloc (.cells #[.int .i64 a,.int .i64 b,.string s] 149)).drew.grownBy w7 y.av.ownBlock->(v7.ownBlock=y.av.ownBlock∨v7.ownBlock=some (W1.alloc (.cells #[.int .i64 a,.int .i64 b,.string s] 149)).drew.heap.size)->(w7.cell? ⟨y.G,2,none⟩=some y.av∧w7.frozen? ⟨y.G,2,none⟩=false)∧MM {y with av:=v7} {m with aT:=m.aT++ [(a,b,s)]} (w7.setCell ⟨y.G,2,none⟩ v7)∧MU y m {y with av:=v7} {m with aT:=m.aT++ [(a,b,s)]} w (w7.setCell ⟨y.G,2,none⟩ v7)):=by
  intro v7 w7 ho hg hv;rw[<-uI,show m.aT.length+1=(m.aT++ [(a,b,s)]).length by simp]at ho;obtain⟨q1,q2,q3⟩:=(h1.later (hkb _)).fly ho hg hv;exact⟨q1,q2,(q3.pre (hkb _)).pre hb0⟩
 have hlm:m.aT.length+1<=maxLen:=by unfold maxLen;omega
 have hl2:(m.aT.length+1)* 32<=140737488355328:=by omega
 have zl:m.launch (a,b,s)=if 48<m.aT.length+1 then {m with aT:=(m.aT++ [(a,b,s)]).eraseIdx 0}else {m with aT:=m.aT++ [(a,b,s)]}:=by
  unfold aM.launch;simp only[bU,dZ,List.length_nil,List.eraseIdx_zero];split<;>rfl
 replace zl:=hide zl;clear h h1 hC hkb;generalize w.heap.size=C at t0 t1 t2 ⊢;go_cut []from 4 to 13 (λWc=>∃v7,MM {y with av:=v7} {m with aT:=m.aT++ [(a,b,s)]} Wc∧MU y m {y with av:=v7} {m with aT:=m.aT++ [(a,b,s)]} w Wc)
 case first=>
  go_region_law (refine gW rfl (.tmp 8) (.tmp 10) 45 rfl 0 149 i0 (.agg #[.int .i64 0,.int .i64 0,.string ⟨#[]⟩]) 3 32 Tryz.underlying45 hi hz0 hz1 hz2 rfl (by decide) y.av m.aT.length (oh m.aT) (by simp[Act.eval]) (hrow _) ⟨_,0,none⟩ 1 1 (oh [(a,b,s)]) (by simp[Act.eval]) rfl (hcf) (JL _) hlm hl2 (dm _) ?_;intro v7 w7 ig gQ hv7;obtain⟨⟨g1,g2⟩,hm⟩:=HF.out _ _ ig gQ hv7;obtain⟨Qc,Ua,rfl,_⟩:=ax ig)
  all_goals
   clear gQ ig;go_wp2_with fail;go_meet;exact⟨_,hm⟩
 case rest=>
  obtain⟨v7,hm,hu⟩:=hcut;have c2:=hm.cell.2.2.1;obtain⟨ao,cc,hv,_⟩:=ax hm.aT;dsimp only at c2 hv;rw[hv]at c2;have hlen:(m.aT++ [(a,b,s)]).length=m.aT.length+1:=by simp
  have HL:=λ(h48:48<m.aT.length+1)=>KI hm 0 (by dsimp only;omega) (by dsimp only;omega) ((m.aT++ [(a,b,s)])[0]'(by omega)) (bS (by dsimp only;omega));rw[hlen]at c2;replace HL:=hide HL;have hl':=zl.out;clear zl HF hrow hcf hcm hc1 t0 t1 t2;by_cases h48:48<m.aT.length+1
  ·rw[aI h48]at hl';have h48':(48:Int)<(m.aT.length:Int)+1:=by omega
   have HL':=hide (HL.out h48);replace hl':=hide hl';clear hm HL;go_wp2_with fail;refine aU HL'.out ?_;rintro e w3 ⟨rfl,hp⟩;have hfin:=MP.comp hu hp;clear hp hu HL';go_wp2;go_returns;exact⟨rfl,by rw[hl'.out];exact hfin⟩
  ·rw[ay h48]at hl';have h48':¬(48:Int)<(m.aT.length:Int)+1:=by omega
   have hfin:MP y m {m with aT:=m.aT++ [(a,b,s)]} w wc:=⟨_,hm,hu⟩;replace hl':=hide hl';clear hm HL hu;go_wp2;go_returns;exact⟨rfl,by rw[hl'.out];exact hfin⟩
variable{aO aF:List (Int×ByteArray)}{aP:List Int}{y:MG}{m:aM}{b:Nat}{v:Value}{W W':World}
structure KO where
 aH:Value
 bO:Value
 bP:Value
def xE(x:Ev×KO):List Value:=[.int .i64 x.1.node,.int .i64 x.1.err,.string (strOfNums (bD x.1.o.bg)),.bool x.1.o.bB,x.2.aH,x.2.bO,x.2.bP]
def EvC(L:List (Ev×KO)):List Value:=L.flatMap xE
def EvB(v:KO)(k:Nat):Prop:=v.aH.ownBlock=some k∨v.bO.ownBlock=some k∨v.bP.ownBlock=some k
structure gL(b:Nat)(v:Value)(L:List (Ev×KO))(W:World):Prop where
 row:W.ownsRow b 54 7 v L.length (EvC L)
 out:∀x∈L,iH b x.1.o.aF x.1.o.aO x.1.o.aP x.2.aH x.2.bO x.2.bP W
 ap:L.Pairwise λx y=>∀k,EvB x.2 k->¬EvB y.2 k
theorem Bz(a b:List (Ev×KO)):EvC (a++b)=EvC a++EvC b:=by simp[EvC]
theorem iH.lt{v:KO}(h:iH b aF aO aP v.aH v.bO v.bP W){k:Nat}(hk:EvB v k):b<=k∧k<W.heap.size:=by
 rcases hk with hk|hk|hk
 ·exact h.aH.lt k hk
 ·exact h.bO.lt k hk
 ·exact h.bP.lt k hk
theorem ZA{L:List (Ev×KO)}(h:∀x∈L,x.2.aH.oneCell'=true∧x.2.bO.oneCell'=true∧x.2.bP.oneCell'=true):∀u∈EvC L,u.oneCell'=true:=by
 intro u hu;obtain⟨x,hx,hu⟩:=List.mem_flatMap.1 hu;obtain⟨h1,h2,h3⟩:=h x hx;simp only[xE,fE,List.not_mem_nil,or_false]at hu;rcases hu with rfl|rfl|rfl|rfl|rfl|rfl|rfl<;>first|rfl|assumption
theorem row_one{base e size n:Nat}{xs:List Value}(h:W.ownsRow base e size v n xs):v.oneCell'=true:=by
 rcases h.2 with⟨rfl,_⟩|⟨g,cap,cur,rfl,_⟩<;>rfl
theorem gL.one{L:List (Ev×KO)}(h:gL b v L W):∀u∈EvC L,u.oneCell'=true:=ZA λx hx=>⟨row_one (h.out x hx).aH,row_one (h.out x hx).bO,row_one (h.out x hx).bP⟩
def evK:List Nat:=[54,77,56,195]
theorem gL.at{L:List (Ev×KO)}(h:gL b v L W)(he:∀(k:Nat) (c:Array Value) (t:Nat),t∈evK->W.heap[k]?=some (Obj.cells c t (0,0))->W'.heap[k]?=W.heap[k]?):gL b v L W':=
 ⟨bQ h.row λk hk=>by
  obtain⟨c,hc⟩:=aS h.row hk;exact he k c 54 (by decide) hc,λx hx=>(h.out x hx).at λk c t ht hk=>he k c t (by
   simp only[fE,List.not_mem_nil,or_false]at ht;simp only[evK,fE,List.not_mem_nil,or_false];rcases ht with rfl|rfl|rfl<;>decide) hk,h.ap⟩
theorem gL.nil(b:Nat)(W:World):gL b (.slice none 0 0) [] W:=⟨⟨rfl,.inl ⟨rfl,rfl⟩⟩,λ_ h=>(by cases h),List.Pairwise.nil⟩
theorem MM.notE(h:MM y m W){k:Nat}{c:Array Value}{t:Nat}(ht:t∈evK)(hk:W.heap[k]?=some (Obj.cells c t (0,0))):¬wE y m k:=h.not hk (by
 simp only[evK,fE,List.not_mem_nil,or_false]at ht;rcases ht with rfl|rfl|rfl|rfl<;>decide)
theorem gL.mesh{L:List (Ev×KO)}(h:gL b v L W)(hm:MM y m W)(hf:Fx (wE y m) W W'):gL b v L W':=h.at λk _ _ ht hk=>hf.block k (aG hk) (hm.notE ht hk)
theorem iH.mesh{aH bO bP:Value}(h:iH b aF aO aP aH bO bP W)(hm:MM y m W)(hf:Fx (wE y m) W W'):iH b aF aO aP aH bO bP W':=h.at λk _ _ ht hk=>hf.block k (aG hk) (hm.notE (by
 simp only[fE,List.not_mem_nil,or_false]at ht;simp only[evK,fE,List.not_mem_nil,or_false];rcases ht with rfl|rfl|rfl<;>decide) hk)
theorem gL.later{L:List (Ev×KO)}(h:gL b v L W)(hb:Below W.heap.size W W'):gL b v L W':=h.at λk _ _ _ hk=>hb.block k (aG hk)
theorem gL.lower{b':Nat}{L:List (Ev×KO)}(h:gL b v L W)(hb:b'<=b):gL b' v L W:=⟨ownsRow_base_a h.row hb,λx hx=>(h.out x hx).lower hb,h.ap⟩
theorem gL.append{c:Nat}{v2 v':Value}{L L2:List (Ev×KO)}(h:gL b v L W)(h2:gL c v2 L2 W)(hbc:b<=c)(hlt:∀x∈L,∀k,EvB x.2 k->k<c)(ho:W'.ownsRow b 54 7 v' (L.length+L2.length) (EvC L++EvC L2))(hg:W.grownBy W' v.ownBlock):gL b v' (L++L2) W':=by
 have hk:∀(k:Nat) (cs:Array Value) (t:Nat),t∈([77,56,195]:List Nat)->W.heap[k]?=some (Obj.cells cs t (0,0))->W'.heap[k]?=W.heap[k]?:=λk cs t ht hk=>hg.block k (aG hk) λe=>by
  obtain⟨c',hc'⟩:=aS h.row e.symm;rw[hk]at hc';cases hc';exact absurd ht (by decide)
 refine⟨by rw[bU,Bz];exact ho,λx hx=> ?_,List.pairwise_append.2 ⟨h.ap,h2.ap,λx hx z hz k e1 e2=> ?_⟩⟩
 ·rcases fu.1 hx with hx|hx
  ·exact(h.out x hx).at hk
  ·exact((h2.out x hx).lower hbc).at hk
 ·have q1:=hlt x hx k e1;have q2:=((h2.out z hz).lt e2).1;omega
theorem Md:(Tryz.prog.info? 54).map (λi=>(i.zero,i.size,i.bytes))=some (some (.agg #[.int .i64 0,.int .i64 0,.string ⟨#[]⟩,.bool false,.slice none 0 0,.slice none 0 0,.slice none 0 0]),7,112):=by kernel_rfl
theorem EY{x:Ev×KO}(hb:b<=W.heap.size)(ho:iH b x.1.o.aF x.1.o.aO x.1.o.aP x.2.aH x.2.bO x.2.bP W):gL b (.slice (some ⟨W.heap.size,0,none⟩) 1 1) [x] (W.alloc (.cells (xE x).toArray 54)):=by
 refine⟨⟨rfl,.inr ⟨W.heap.size,1,_,rfl,hb,bV _ _,aB _,by decide,rfl,?_⟩⟩,λz hz=> ?_,List.pairwise_singleton _ _⟩
 ·simp[EvC,xE]
 ·rw[fM]at hz;subst hz;exact ho.later (bC)
variable{y:MG}{m m':aM}{W W':World}
theorem MM.call(h:MM y m W){i:Nat}{x:SG}{s:eB}{z z':St}{o:Value}(h1:y.L[i]?=some x)(h2:m.S[i]?=some s)(hz:s.nd=some z)(c:BD x.N x.g z z' W o W'):
  ∃aH bO bP,o=jg z'.bH z'.bB aH bO bP∧iH W.heap.size z'.aF z'.aO z'.aP aH bO bP W'∧MP y m (m.put i {s with nd:=some z'}) W W':=by
 obtain⟨g',dX,aH,bO,bP,rfl,nn,ht,r1,r2,r3,fx,sub⟩:=c;have hst:=h.st i x s h1 h2;obtain⟨n0,_⟩:=hst.nd z hz;have hB:¬Ft x.N x.g z x.B:=λhk=>by
  obtain⟨o,ho,hK⟩:=n0.kind hk;rw[hst.blk]at ho;cases ho;exact hK.not (by decide)
 have hJ:∀k,x.jv.ownBlock=some k->¬Ft x.N x.g z k:=λk hk hf=>by
  obtain⟨o,ho,hK⟩:=n0.kind hf;obtain⟨cc,hc⟩:=aS hst.row hk;rw[hc]at ho;cases ho;exact hK.not (by decide)
 have hN:x.N=x.N:=rfl;refine⟨aH,bO,bP,rfl,⟨r1,r2,r3⟩,?_⟩;have ht:=h.turn (W':=W') (x':={x with g:=g',TL:=dX}) (s':={s with nd:=some z'}) h1 h2 (fx.mono λk hk=> .inr (.inr ⟨z,hz,hk⟩)) ⟨?_,hst.hl,?_,λu hu=>by cases hu;exact⟨nn,ht⟩⟩ rfl λk hk=> ?_
 ·exact⟨_,ht.1,ht.2⟩
 ·rw[show FJ {x with g:=g',TL:=dX} {s with nd:=some z'}=FJ x s by
   unfold FJ;rw[hz];rfl]
  exact(fx.block _ (aG hst.blk) hB).trans hst.blk
 ·exact bQ hst.row λk hk=>fx.block k (hst.row.lt k hk).2 (hJ k hk)
 ·rcases hk with hk|hk|⟨u,hu,hk⟩
  ·exact .inl (.inl hk)
  ·exact .inl (.inr (.inl hk))
  ·cases hu;rcases sub k hk with h|h
   ·exact .inl (.inr (.inr ⟨z,hz,h⟩))
   ·exact .inr h
theorem MM.Zd(h:MM y m W){i:Nat}{x:SG}{s s':eB}(h1:y.L[i]?=some x)(h2:m.S[i]?=some s)(c:nG x s s' W W'):MP y m (m.put i s') W W':=by
 obtain⟨x',b1,m1,f1,u1⟩:=c;have ht:=h.turn h1 h2 f1 m1 b1 u1;exact⟨_,ht.1,ht.2⟩
theorem MU.at{y':MG}{w w':World}(u:MU y m y' m' w w'){i:Nat}{x x':SG}(h1:y.L[i]?=some x)(h2:y'.L[i]?=some x'):x'.B=x.B:=by
 have e1:(y.L.map (·.B))[i]?=some x.B:=by rw[l9,h1];rfl
 have e2:(y'.L.map (·.B))[i]?=some x'.B:=by rw[l9,h2];rfl
 rw[<-u.B,e2]at e1;exact Option.some.inj e1
def jW(m:aM)(i:Nat)(t:Int)(j:Nat):Bool:=(m.at' i).hrs.getD j false&&(decide (t=0)||decide (t=(m.at' j).addr))
def jC(m:aM)(i:Nat)(f:Int×ByteArray)(k:Nat):aM:=((List.range k).filter (jW m i f.1)).foldl (λm j=>m.launch (i,j,f.2)) m
theorem xR(m:aM)(i:Nat)(f:Int×ByteArray)(k:Nat):jC m i f (k+1)=if jW m i f.1 k then(jC m i f k).launch (i,k,f.2)else jC m i f k:=by
 unfold jC;rw[List.range_succ,List.filter_append,List.foldl_append];cases h:jW m i f.1 k<;>simp[h]
theorem o7(m:aM)(i:Nat)(f:Int×ByteArray):jC m i f m.S.length=m.cO i f:=rfl
theorem vP(i:Nat)(b:ByteArray):∀(l:List Nat) (m:aM),(l.foldl (λm j=>m.launch (i,j,b)) m).S=m.S∧(l.foldl (λm j=>m.launch (i,j,b)) m).now=m.now
 | [],m=>⟨rfl,rfl⟩
 |a::l,m=>by
  rw[gZ];exact vP i b l (m.launch (i,a,b))
theorem oq(m:aM)(i:Nat)(f:Int×ByteArray)(k:Nat):(jC m i f k).S=m.S∧(jC m i f k).now=m.now:=vP _ _ _ _
theorem dR{i:Nat}{s:eB}(h:m.S[i]?=some s):m.at' i=s:=by
 unfold aM.at';rw[List.getD_eq_getElem?_getD,h];rfl
theorem adf(h:m'.S=m.S)(i:Nat):m'.at' i=m.at' i:=by
 unfold aM.at';rw[h]
theorem Aj(m:aM)(f:Nat×Nat×ByteArray)(h:m.aT.length<=48):(m.launch f).aT.length<=48:=by
 unfold aM.launch;dsimp only;split
 ·rename_i h1;rw[List.length_tail];rw[bU]at h1 ⊢;simp only[dZ,List.length_nil]at h1 ⊢;omega
 ·rename_i h1;omega
theorem Di(i:Nat)(b:ByteArray):∀(l:List Nat) (m:aM),m.aT.length<=48->(l.foldl (λm j=>m.launch (i,j,b)) m).aT.length<=48
 | [],_,h=>h
 |a::l,m,h=>by
  rw[gZ];exact Di i b l _ (Aj m _ h)
theorem zO(m:aM)(i:Nat)(f:Int×ByteArray)(k:Nat)(h:m.aT.length<=48):(jC m i f k).aT.length<=48:=Di _ _ _ _ h
open Go.MuLone
variable{N:Nat}{s:St}{w:World}
theorem X4(fq:Int){A:List Rt}(hA:∀y∈A,y.Ok):∀x∈n_ fq A,0<=x.1∧x.1<4294967296∧0<=x.2∧x.2<4294967296:=by
 intro x hx;obtain⟨y,hy,e⟩:=List.mem_filterMap.1 hx;unfold Ci at e;split at e
 ·cases e;have h1:=(hA y hy).dest;have h2:=uz (hA y hy).seq;unfold a_ at h1 h2;dsimp only;omega
 ·cases e
theorem PD{B:Nat}{g:bI}{TL:List Hp.Tm}(n:Nd N B g s TL w)(fq:Int):
  Calls Tryz.prog 138 #[.pointer (some ⟨g.x.T,0,none⟩),.int .u32 fq] w λe w'=>∃ao c,e=.returned (.slice ao (n_ fq s.A).length c)∧bF w' ao (n_ fq s.A)∧lT N B g s {s with A:=s.A.map (dD fq 0)} TL w w':=by
 refine(KV fq n.nn.cr.tb (S:=mZ g.x.T g.M g.ff g.gg s.A) (λ_ h=>h) (λk hk=>n.nn.cr.tb.lt hk)).mono ?_;rintro e w' ⟨v,xB,rfl,h1,h2,h3,h4⟩;obtain⟨ao,c,rfl,hH⟩:=Cy h1 (X4 fq n.nn.cr.tb.ok);exact⟨ao,c,rfl,hH,n.wI ⟨g.M,g.ff,xB,by rw[<-n.nn.eq.self];exact h2,λk hk=> .inl (h3 k hk)⟩ h4⟩
theorem VJ(A:List Rt)(f:Rt->Rt)(hf:∀y,(f y).dest=y.dest):∀y∈A,∃z∈A.map f,z.dest=y.dest:=λy hy=>⟨f y,dW.2 ⟨y,hy,rfl⟩,hf y⟩
theorem UG{g:bI}{TL:List Hp.Tm}(n:Nn N g s TL w){k:Int}(hI:s.Inv k)(hT:dV s TL)(now fq:Int)(di:s.now<=now∧now<=4611686018427387904):
  Calls Tryz.prog 100 #[.pointer (some ⟨N,0,none⟩),.int .u64 now,.int .u32 fq] w λe w'=>∃o,e=.returned o∧Hid ((s.brk now fq).Inv (k+1))∧BD N g s (s.brk now fq) w o w':=by
 have hA:=n.cr.tb.ok;have hl:=n.cr.tb.len;have hb0:Below w.heap.size w (w.alloc jy):=bC;have hC0:(w.alloc jy).heap[w.heap.size]?=some jy:=bV _ _;have kJ:¬Ft N g s w.heap.size:=λh=>by have:=n.lt h;omega
 have hs0:(w.alloc jy).heap.size=w.heap.size+1:=by simp
 have n0:=n.later hb0;have hM:=(qN hI).2 now di hA hl;obtain⟨s3,hs3⟩:∃z,s.locked.begin now=z:=⟨_,rfl⟩;rw[hs3]at hM;have Hu:Hid (s3.lk=1):=by show _=_;rw[<-hs3];rfl
 have MF:Hid (s3.Q=s.Q):=by show _=_;rw[<-hs3];rfl
 have yg:Hid (s3.now=now):=by show _=_;rw[<-hs3];rfl
 have SK:Hid (s3.me=s.me):=by show _=_;rw[<-hs3];rfl
 replace hM:=hide hM;dsimp only[jy]at hb0 hC0 hs0 n0
 go_enter_defers Tryz.func100,Tryz.ntmps100
 go_upto_region 1 with(fail);generalize World.alloc _ _=W1 at hb0 hC0 hs0 n0 ⊢;obtain⟨c0,f0⟩:=n0.LX;rw[hI.lk]at c0;go_wp2_with fail;refine aU (lock_free nN ⟨N,0,none⟩ W1 c0 f0) ?_;rintro e w2 ⟨rfl,rfl⟩;obtain⟨n2,hg2⟩:=n0.l6 1;have hf2:Fx (Ft N g s) w (W1.setCell ⟨N,0,none⟩ (.int .i32 1)):=aW (Fx.below hb0) hg2 (λi _ e=>by cases e;exact .inl (.inl rfl));have hC2:=(hg2.block w.heap.size (by omega) (λe=>kJ (by cases e;exact .inl (.inl rfl)))).trans hC0;have hs2:w.heap.size+1<=(W1.setCell ⟨N,0,none⟩ (.int .i32 1)).heap.size:=by
  have:=hg2.size;omega
 have hcn:=hI.cnt;have HB:=hide (zw n2 now ⟨hI.dom.mb,hI.dom.on,hI.dom.own⟩ ⟨hcn.1,by dsimp only;omega⟩);rw[show({s with lk:=1}:St).begin now=s3 from hs3]at HB;have hF1:Hid (∀k,Ft N ({g with x:={g.x with lk:=1}}:bI) ({s with lk:=1}:St) k->Ft N g s k):=λk h=>h;replace hs3:=hide hs3;clear n0 hC0 hs0 hb0 c0 f0 hg2 hA hl hcn;generalize ({g with x:={g.x with lk:=1}}:bI)=g1 at n2 HB hF1;generalize ({s with lk:=1}:St)=s1 at n2 HB hF1;generalize World.setCell _ _ _=W2 at n2 hf2 hC2 hs2 HB ⊢;go_wp2_with fail;refine aU HB.out ?_;rintro e w3 ⟨g3,rfl,n3,u3,YO,t3⟩;clear t3;clear HB;have Tg:Hid (dV s3 TL):=by
  show dV _ _;unfold dV;rw[MF.out];exact hT
 have HR:=hide (PD n3 fq);have hbl:=rE fq s3.A;have hA8:=n3.nn.cr.tb.len;obtain⟨c2,c3,c4,c7,c0⟩:=n3.cell;obtain⟨s4,hs4⟩:∃z,({s3 with A:=s3.A.map (dD fq 0)}:St)=z:=⟨_,rfl⟩;have he4:Hid (Eff 0 s3 s4):=by
  show Eff 0 s3 s4;rw[<-hs4];exact qc s3 (VJ _ _ (gB fq 0))
 rw[hs4]at HR;replace hs4:=hide hs4;have Hw:Hid (s4.aF.length<=1000000):=by
  show _<=_;have:=he4.out.aF;have:=hM.out.aF;omega
 clear YO n2 n3;go_wp2_with fail;refine aU HR.out ?_;rintro e w4 ⟨ao,c,rfl,hH,g4,n4,u4,t4⟩;have HL:=hide (Uz n4 0 ao c (n_ fq s3.A) (by omega) hH Hw.out);have pW:=u3.trans u4;clear HR c2 c3 c4 c7 c0 n4 u4 hH u3;go_wp2_with fail;refine aU HL.out ?_;rintro e w5 ⟨rfl,g5,n5,u5,t5⟩;obtain⟨s5,hs5⟩:∃z,s4.lose 0 (n_ fq s3.A)=z:=⟨_,rfl⟩;have he5:Hid (Eff 1 s4 s5):=by
  show Eff 1 s4 s5;rw[<-hs5];exact rD _ _ _
 rw[hs5]at n5 u5;have Xi:Hid (dV s5 TL):=by
  show dV _ _;unfold dV;rw[<-hs5,<-hs4.out];exact Tg.out
 have nZ:Hid (s5.Mid k 2):=vE (vE hM.out he4.out) he5.out;have EC:Hid (s5.lk=1):=(he5.out.lk.trans he4.out.lk).trans Hu.out;have yH:=pW.trans u5;replace hs5:=hide hs5;clear HL u5 pW he4 he5 Hw hbl hA8;have MH:=hide (mE nZ.out (by omega) n5.nn.cr.tb.ok n5.nn.cr.tb.len);have M9:=hide (oQ n5 nZ.out.dom (by have:=nZ.out.cnt;omega) (by have:=nZ.out.bg;omega) nZ.out.bd nZ.out.seq);go_wp2_with fail;refine aU M9.out ?_;rintro e w6 ⟨g6,rfl,n6,u6,t6⟩;obtain⟨s6,hs6⟩:∃z,s5.finish=z:=⟨_,rfl⟩;have EB:s6.lk=1:=by rw[<-hs6,(aR s5).lk];exact EC.out
 have Xh:Hid (dV s6 TL):=by
  show dV _ _;unfold dV;rw[<-hs6,(aR s5).Q];exact Xi.out
 have jV:Hid (s.brk now fq=s6.freed):=by
  show _=_;rw[<-hs6];unfold St.brk St.broken;rw[hs3.out];dsimp only;rw[hs4.out,hs5.out]
 rw[hs6]at n6 u6 MH ⊢;have nI:=yH.trans u6;clear M9 hs6 u6 n5 yH;have ER:=nI.toFx (aB _);have nQ:∀k,Ft N g6 s6 k->Ft N g s k∨(w.heap.size<=k∧k<w6.heap.size):=λk hk=>(nI.sub k hk).elim (λh=> .inl (hF1.out k h)) λh=> .inr ⟨by omega,h.2⟩;have gX:=(ER.block w.heap.size (by omega) (λh=>kJ (hF1.out _ h))).trans hC2;have kP:¬Ft N g6 s6 w.heap.size:=λh=>(nI.sub _ h).elim (λh=>kJ (hF1.out _ h)) (by omega);have Mk:=hf2.trans ER (λi _ h=>hF1.out i h);have r1:=ownsRow_base_a n6.ac.aH (show w.heap.size<=W2.heap.size+1 by omega);have r2:=ownsRow_base_a n6.ac.bO (show w.heap.size<=W2.heap.size+1 by omega);have r3:=ownsRow_base_a n6.ac.bP (show w.heap.size<=W2.heap.size+1 by omega);have m6:=n6.nn;obtain⟨af,kf,hf,_⟩:=ax r1;obtain⟨ac,kc,hc,_⟩:=ax r2;obtain⟨ad,kd,hdd,_⟩:=ax r3;rw[hf]at r1;rw[hc]at r2;rw[hdd]at r3;rw[hf,hc,hdd];simp only[jg];clear n6 hf hc hdd nI ER hf2 hC2;generalize hjj:s6.bH=jj;replace hjj:=hide hjj;obtain⟨z0,z1,z2,z3,z4⟩:=cells5 gX;obtain⟨y0,y1,y2,y3,y4⟩:=yw gX;have iY:=ah (ah (ah (ah (ah (aC w6 (some w.heap.size)) 0 (.string jj)) 1 (.bool s6.bB)) 2 (.slice af s6.aF.length kf)) 3 (.slice ac s6.aO.length kc)) 4 (.slice ad s6.aP.length kd);have gM:(((((w6.setCell ⟨w.heap.size,0,none⟩ (.string jj)).setCell ⟨w.heap.size,1,none⟩ (.bool s6.bB)).setCell ⟨w.heap.size,2,none⟩ (.slice af s6.aF.length kf)).setCell ⟨w.heap.size,3,none⟩ (.slice ac s6.aO.length kc)).setCell ⟨w.heap.size,4,none⟩ (.slice ad s6.aP.length kd)).heap[w.heap.size]?=some (.cells #[.string jj,.bool s6.bB,.slice af s6.aF.length kf,.slice ac s6.aO.length kc,.slice ad s6.aP.length kd] 52):=by
  simp[World.setCell,d_,gX]
 obtain⟨r1,r2,r3⟩:=sN iY gX r1 r2 r3 (by decide);have m7:=m6.kept λk hk=>iY.block k (m6.lt hk) (λe=>kP (by cases e;exact hk));have pJ:=aW Mk iY (λi hi e=>by cases e;omega);have kG:=λk hk=>(nQ k hk).imp_right λh=>(⟨h.1,fZ h.2 iY.size⟩:w.heap.size<=k∧_);clear m6 iY Mk gX nQ;go_wp2_with fail;generalize World.setCell _ _ _=W7 at gM r1 r2 r3 m7 pJ kG ⊢;obtain⟨p0,p1,p2,p3,p4⟩:=cells5 gM;obtain⟨c0,f0⟩:=m7.LX;rw[EB]at c0;refine leaves_cons (f:=50) (args:=#[.pointer (some ⟨N,0,none⟩)]) (by simp) (by simp[go_sem]) ?_;refine(unlock_deferred nN ⟨N,0,none⟩ .returning W7 c0 f0).mono ?_;rintro e u' w'' ⟨rfl,rfl,rfl⟩;obtain⟨m8,lF⟩:=m7.l6 0;have BK:N≠w.heap.size:=λe=>kP (by rw[<-e];exact .inl (.inl rfl));have g_:=(lF.block w.heap.size (aG gM) (λe=>by cases e;exact BK rfl)).trans gM;obtain⟨r1,r2,r3⟩:=sN lF m7.cr.nd r1 r2 r3 (by decide);have yh:=aW pJ lF (λi hi e=>by cases e;exact .inl (.inl rfl));have nP:=λk hk=>(kG k hk).imp_right λh=>(⟨h.1,fZ h.2 lF.size⟩:w.heap.size<=k∧_);clear p0 p1 p2 p3 p4 c0 f0 lF m7 pJ kG gM;generalize World.setCell _ _ _=W8 at g_ r1 r2 r3 m8 yh nP ⊢;obtain⟨p0,p1,p2,p3,p4⟩:=cells5 g_;refine⟨.agg #[.string jj,.bool s6.bB,.slice af s6.aF.length kf,.slice ac s6.aO.length kc,.slice ad s6.aP.length kd],by simp[results,Tryz.results100,go_sem,p0,p1,p2,p3,p4],_,rfl,?_⟩;rw[jV.out];refine⟨MH,_,TL,.slice af s6.aF.length kf,.slice ac s6.aO.length kc,.slice ad s6.aP.length kd,?_,m8,Xh.out,r1,r2,r3,yh,nP⟩;rw[<-hjj.out];rfl
theorem tF{P:Program}{w:World}{ops:Array Oper}{rest:List Oper}{o:Oper}{a:Act}{Q:Exit->Act->World->Prop}(hg:o.guard=none)(s x:Operand)(t:TypeId)(hop:o.op=Op.call {callee:=Callee.builtin Builtin.append,args:=#[s,x],argTypes:=#[t,t]})
  (base:Nat) (e:TypeId) (i:TypeInfo) (z:Value) (size bytes:Nat) (h1:P.underlying t=some (.slice e)) (h2:P.info? e=some i) (h3:i.zero=some z) (h4:i.size=size) (h5:i.bytes=bytes) (h6:z.cells.size=size) (h7:0<size)
  (v:Value) (n:Nat) (xs:List Value) (hs:a.eval s=v) (hown:w.ownsRow base e size v n xs)
  (MR:Nat) (v2:Value) (m:Nat) (ys:List Value) (hx:a.eval x=v2) (hown2:w.ownsRow MR e size v2 m ys) (h1c:∀u∈ys,u.oneCell'=true)
  (b1:n+m<=maxLen) (b2:(n+m)* bytes<=140737488355328) (hbase:base<=w.heap.size)
  (hK:∀v' w',w'.ownsRow base e size v' (n+m) (xs++ys)->w.grownBy w' v.ownBlock->wpList P ops Q rest (a.put o.dst v') w'):
  wpList P ops Q (o::rest) a w:=by
 refine wpList_plain hg λK hKK=> ?_;have h:=kS (ops:=ops) (E:=True) (K:=K) (Q:=Q) hg s x t hop base e i z size bytes h1 h2 h3 h4 h5 h6 h7 v n xs hs hown MR v2 m ys hx hown2 h1c b1 b2 hbase λv' w' k1 k2=>hKK _ _ (hK v' w' k1 k2);have hw:Region.wanted o (yielded ops a.tmps)=true:=by simp[Region.wanted,hg]
 rw[aI hw]at h;exact h
theorem pE{l h:Nat}(hh:h<l):l - (intOf (.int .i64 ((h:Int)+1))).toNat<l - (intOf (.int .i64 (h:Int))).toNat:=by
 simp[intOf];omega
def jK(y:MG)(m m':aM)(evs:List Ev)(b:Nat)(w:World)(e:Ending)(w':World):Prop:=∃v L,e=.returned v∧L.map (·.1)=evs∧gL b v L w'∧MP y m m' w w'
theorem yG{y:MG}{m:aM}{w:World}(h:MM y m w)(i:Nat)(hi:i<m.S.length)(hn:m.S.length<=6)(ha:m.aT.length<=48)(f:Int×ByteArray)
  (hI:∀z,(m.at' i).nd=some z->∃k,z.Inv k∧z.now<=m.now) (di:m.now<=4611686018427387904)
  (HD:f.1≠0->∀z,((m.cO i f).at' i).nd=some z->∀y1 w1 b aH bO bP,MM y1 ((m.cO i f).put i {(m.cO i f).at' i with nd:=some (z.brk m.now f.1)}) w1->b<=w1.heap.size->iH b (z.brk m.now f.1).aF (z.brk m.now f.1).aO (z.brk m.now f.1).aP aH bO bP w1->
   Calls Tryz.prog 36 #[.pointer (some ⟨y1.G,0,none⟩),.int .i64 i,jg (z.brk m.now f.1).bH (z.brk m.now f.1).bB aH bO bP] w1 (jK y1 ((m.cO i f).put i {(m.cO i f).at' i with nd:=some (z.brk m.now f.1)}) (((m.cO i f).put i {(m.cO i f).at' i with nd:=some (z.brk m.now f.1)}).Ch i (z.brk m.now f.1).ot).1 (((m.cO i f).put i {(m.cO i f).at' i with nd:=some (z.brk m.now f.1)}).Ch i (z.brk m.now f.1).ot).2 b w1)):
  Calls Tryz.prog 67 #[.pointer (some ⟨y.G,0,none⟩),.int .i64 i,.agg #[.int .u32 f.1,.string f.2]] w (jK y m (m.iX i f).1 (m.iX i f).2 w.heap.size w):=by
 obtain⟨t,s⟩:=f;dsimp only at HD ⊢;have hb0:Below w.heap.size w (w.alloc (.cells #[.int .u32 t,.string s] 77)):=bC;have hC:=bV w (.cells #[.int .u32 t,.string s] 77);have h1:=h.later hb0;obtain⟨xi,si,g0,c0,e1,e2,e3,e4,p0⟩:=h1.get hi;obtain⟨q0,q1,q2,fz⟩:=h1.cell;rw[e4]at q1;have hin:(i:Int)<(m.S.length:Int):=by omega
 have hlt:=λk (hk:wE y m k)=>h.lt hk;clear h;go_enter Tryz.func67,Tryz.ntmps67;go_upto_region 1 with(fail);generalize World.alloc _ _=W1 at hb0 hC h1 p0 q0 q1 q2 fz ⊢;generalize lZ:w.heap.size=C at hC ⊢;have hst:Hid (∀(k:Nat) (hv:Value),True):=λ_ _=>trivial;have qW:Hid (∃y',MM y' (jC m i (t,s) 0) W1∧MU y m y' (jC m i (t,s) 0) w W1∧W1.heap[C]?=some (.cells #[.int .u32 t,.string s] 77)):=⟨y,h1,(MU.refl _ _ _).pre hb0,hC⟩;clear q0 q2 fz;go_upto_region 4 with(fail);clear p0 q1 hb0 hC;go_loopw [8,23] (λhv iv wr=>∃k:Nat,k<=m.S.length∧iv=.int .i64 k∧hv=.bool (!((List.range k).filter (jW m i t)).isEmpty)∧Hid (∃y',MM y' (jC m i (t,s) k) wr∧MU y m y' (jC m i (t,s) k) w wr∧wr.heap[C]?=some (.cells #[.int .u32 t,.string s] 77))) (λ_ iv _=>m.S.length - (intOf iv).toNat)
 case atStart=>exact⟨0,dm _,rfl,rfl,qW⟩
 case round=>
  clear qW h1;obtain⟨k,hk,rfl,rfl,hr⟩:=hrel;by_cases hkl:k<m.S.length
  ·have hki:(k:Int)<(m.S.length:Int):=by omega
   obtain⟨y',hm,hu,Dh⟩:=hr.out;have hS:=(oq m i (t,s) k).1;obtain⟨xk,sk,g,c,a1,a2,a3,a4,d0⟩:=hm.get (i:=k) (by rw[hS];exact hkl);obtain⟨xj,sj,g',c',b1,b2,b3,b4,_⟩:=hm.get (i:=i) (by rw[hS];exact hi);have hgg:g=g0:=by
    have h5:=a4;rw[hu.sv,e4]at h5;injection h5 with h5 _ _;injection h5 with h5;injection h5 with h5 _ _;exact h5.symm
   subst hgg;have hjB:xj.B=xi.B:=hu.at e1 b1;have hjs:sj=si:=by
    rw[hS,e2]at b2;exact(Option.some.inj b2).symm
   subst hjs;obtain⟨_,_,_,_,_,hh,_⟩:=(hm.st i xj sj b1 b2).cell;rw[hjB]at hh;have hhl:=(hm.st i xj sj b1 b2).hl;have YG:k<sj.hrs.length:=by omega
   have hcell:=hh k _ (bS YG);have hcA:=(hm.st k xk sk a1 a2).cell.1;have t0:wr.cell? ⟨C,0,none⟩=some (.int .u32 t):=aJ _ _ 0 _ _ _ Dh;have t1:wr.cell? ⟨C,1,none⟩=some (.string s):=aJ _ _ 1 _ _ _ Dh;have Tj:jW m i t k=(sj.hrs[k]&&(decide (t=0)||decide (t=sk.addr))):=by
    unfold jW;rw[e3,List.getD_eq_getElem?_getD,bS YG,<-adf hS k,a3];rfl
   generalize sj.hrs[k]=hb at hcell Tj;have afu:(k:Int)<6:=by omega
   have hL:Hid (∀q,jW m i t k=true->Calls Tryz.prog 64 #[.pointer (some ⟨y.G,0,none⟩),.agg #[.int .i64 i,.int .i64 k,.string s]] (wr.drewN q) λe w'=>e=.returned (.tuple #[])∧∃y',MM y' (jC m i (t,s) (k+1)) w'∧MU y m y' (jC m i (t,s) (k+1)) w w'∧w'.heap[C]?=some (.cells #[.int .u32 t,.string s] 77)):=λq hp=>by
    have S9:Below wr.heap.size wr (wr.drewN q):=mh wr q;have hl:=IX (hm.later S9) (by have:=zO m i (t,s) k ha;omega) (i,k,s);rw[hu.G]at hl;refine hl.mono ?_;rintro e w2 ⟨rfl,y2,hm2,hu2⟩;rw[xR,aI hp];have hCq:(wr.drewN q).heap[C]?=some (.cells #[.int .u32 t,.string s] 77):=(S9.block C (aG Dh)).trans Dh;exact⟨rfl,y2,hm2,(hu.post S9).trans hu2,(hu2.fx.block C (aG hCq) ((hm.later S9).notE (by decide) hCq)).trans hCq⟩
   have hN:Hid (∀q,jW m i t k=false->∃y',MM y' (jC m i (t,s) (k+1)) (wr.drewN q)∧MU y m y' (jC m i (t,s) (k+1)) w (wr.drewN q)∧(wr.drewN q).heap[C]?=some (.cells #[.int .u32 t,.string s] 77)):=λq hp=>by
    have S9:Below wr.heap.size wr (wr.drewN q):=mh wr q;rw[xR,ay (by rw[hp];simp)];exact⟨y',hm.later S9,hu.post S9,(S9.block C (aG Dh)).trans Dh⟩
   have hw64:wrap64 ((k:Int)+1)=(k:Int)+1:=by unfold wrap64;omega
   have hfl:Hid (∀b,jW m i t k=b->(!((List.range (k+1)).filter (jW m i t)).isEmpty)=(b||!((List.range k).filter (jW m i t)).isEmpty)):=by
    intro b hb;rw[List.range_succ,List.filter_append];cases b
    ·simp[hb]
    ·simp[hb]
   obtain⟨pk,hpk⟩:∃b,jW m i t k=b:=⟨_,rfl⟩;rw[hpk]at Tj hL hN hfl;replace hfl:=hide (hfl.out _ rfl);clear hr hm hu Dh a1 a2 a3 a4 b1 b2 b3 b4 hjB hh hhl YG hS e2 e3 e4 hpk;generalize (!((List.range k).filter (jW m i t)).isEmpty)=hv at hfl ⊢;obtain⟨hv2,Sl⟩:∃b,(!((List.range (k+1)).filter (jW m i t)).isEmpty)=b:=⟨_,rfl⟩;rw[Sl]at hfl;replace Sl:=hide Sl;go_upto_region 6 with(fail);go_cut [47]from 28 to 47 (λv W=>v=.bool pk∧∃q,W=wr.drewN q)
   case first=>
    clear hL hN hfl;cases hb
    ·obtain rfl:pk=false:=by rw[Tj];rfl
     clear Tj hw64;go_quiet (fail);go_wp2_with fail;go_meet;exact⟨rfl,_,rfl⟩
    ·by_cases h0:t=0
     ·obtain rfl:pk=true:=by rw[Tj];simp[h0]
      subst h0;clear Tj hw64;go_quiet (fail);go_wp2_with fail;go_meet;exact⟨rfl,_,rfl⟩
     ·have h0':(t==0)=false:=by simpa using h0
      by_cases h2:t=sk.addr
      ·obtain rfl:pk=true:=by rw[Tj];simp[h2]
       subst h2;clear Tj hw64;go_quiet (fail);go_wp2_with fail;go_meet;exact⟨by simp,_,rfl⟩
      ·obtain rfl:pk=false:=by rw[Tj];simp[h0,h2]
       have h2':(t==sk.addr)=false:=by simpa using h2
       clear Tj hw64;go_quiet (fail);go_wp2_with fail;go_meet;exact⟨by simp,_,rfl⟩
   case rest=>
    obtain⟨rfl,q,rfl⟩:=hcut;clear Tj;have hk1:k+1<=m.S.length:=by omega
    have hme:=pE hkl;cases pk
    ·have hr2:=hide (hN.out q rfl);have Sm:=hfl.out;rw[Bool.false_or]at Sm;subst Sm;clear hL hN hfl t0 t1 hcell hcA d0;generalize World.drewN _ _=W5 at hr2 ⊢;go_wp2;go_roundw
     case rel=>exact⟨k+1,hk1,by go_num,by rw[Sl.out],hr2⟩
     case measure=>exact hme
    ·have hL2:=hide (hL.out q rfl);have Sm:=hfl.out;rw[Bool.true_or]at Sm;subst Sm;have S9:Below wr.heap.size wr (wr.drewN q):=mh wr q;have t1':(wr.drewN q).cell? ⟨C,1,none⟩=some (.string s):=(S9.cell (World.block_lt_of_cell? _ _ t1)).trans t1;clear hL hN hfl t0 t1 hcell hcA d0 S9;generalize World.drewN _ _=W5 at hL2 t1' ⊢;go_wp2_with fail;refine aU hL2.out ?_;rintro e w2 ⟨rfl,hr2⟩;replace hr2:=hide hr2;clear hL2 t1';go_wp2;go_roundw
     case rel=>exact⟨k+1,hk1,by go_num,by rw[Sl.out],hr2⟩
     case measure=>exact hme
  ·obtain rfl:k=m.S.length:=by omega
   obtain⟨y',hm,hu,Dh⟩:=hr.out;rw[o7]at hm hu;have hS:(m.cO i (t,s)).S=m.S:=(oq m i (t,s) m.S.length).1;have BK:(m.cO i (t,s)).now=m.now:=(oq m i (t,s) m.S.length).2;obtain⟨xj,sj,g',c',b1,b2,b3,b4,_⟩:=hm.get (i:=i) (by rw[hS];exact hi);have hjB:xj.B=xi.B:=hu.at e1 b1;have hc2:=(hm.st i xj sj b1 b2).cell.2.2.1;rw[hjB]at hc2;have hheard:(List.range m.S.length).filter (jW m i t)=m.heard i t:=rfl;rw[hheard];have t0:wr.cell? ⟨C,0,none⟩=some (.int .u32 t):=aJ _ _ 0 _ _ _ Dh;have hlow:w.heap.size<=wr.heap.size:=hu.fx.size;by_cases hh:m.heard i t≠ []∨t=0
   ·have ho:m.iX i (t,s)=(m.cO i (t,s),[]):=by
     unfold aM.iX;rw[aI hh]
    have hfin:jK y m (m.iX i (t,s)).1 (m.iX i (t,s)).2 w.heap.size w (.returned (.slice none 0 0)) wr:=by
     rw[ho];exact⟨_,[],rfl,rfl,gL.nil _ _,y',hm,hu⟩
    clear hr hm hu Dh HD ho b1 b2 b3 b4 hlow hheard;cases he:(m.heard i t).isEmpty
    ·clear t0 hc2 hh;go_wp2;go_ret;exact hfin
    ·obtain rfl:t=0:=by
      rcases hh with hh|hh
      ·exact absurd (List.isEmpty_iff.1 he) hh
      ·exact hh
     clear hc2 hh;go_wp2;go_ret;exact hfin
   ·simp only[not_or,Classical.not_not]at hh;obtain⟨hh,h0⟩:=hh;have he:(m.heard i t).isEmpty=true:=List.isEmpty_iff.2 hh;have h0':(t==0)=false:=by simpa using h0
    cases hnd:sj.nd with
    |none=>
     have ho:m.iX i (t,s)=(m.cO i (t,s),[]):=by
      unfold aM.iX;rw[ay (by simp[hh,h0]),b3,hnd]
     have hfin:jK y m (m.iX i (t,s)).1 (m.iX i (t,s)).2 w.heap.size w (.returned (.slice none 0 0)) wr:=by
      rw[ho];exact⟨_,[],rfl,rfl,gL.nil _ _,y',hm,hu⟩
     rw[hnd]at hc2;unfold Oi at hc2;clear hr hm hu Dh HD ho b1 b2 b3 b4 hlow hheard lZ;rw[he];go_wp2;go_ret;exact hfin
    |some z=>
     have hz3:((m.cO i (t,s)).at' i).nd=some z:=by rw[b3];exact hnd
     obtain⟨k,hIk,hzn⟩:=hI z (by rw[<-adf hS i];exact hz3);have ho:m.iX i (t,s)=((m.cO i (t,s)).put i {(m.cO i (t,s)).at' i with nd:=some (z.brk m.now t)}).Ch i (z.brk m.now t).ot:=by
      unfold aM.iX;rw[ay (by simp[hh,h0]),hz3]
     rw[hnd]at hc2;unfold Oi at hc2;have HD':=HD h0 z hz3;have hd1:Below wr.heap.size wr wr.drew:=(aV _ _).drew;have hm1:=hm.later hd1;obtain⟨n1,tm1⟩:=(hm1.st i xj sj b1 b2).nd z hnd;have HB:=UG n1 hIk tm1 m.now t ⟨hzn,di⟩;have HB2:Hid (Calls Tryz.prog 100 #[.pointer (some ⟨xj.N,0,none⟩),.int .u64 m.now,.int .u32 t] wr.drew λe w2=>∃aH bO bP,e=.returned (jg (z.brk m.now t).bH (z.brk m.now t).bB aH bO bP)∧iH wr.heap.size (z.brk m.now t).aF (z.brk m.now t).aO (z.brk m.now t).aP aH bO bP w2∧wr.heap.size<=w2.heap.size∧∃y2,MM y2 ((m.cO i (t,s)).put i {(m.cO i (t,s)).at' i with nd:=some (z.brk m.now t)}) w2∧MU y m y2 ((m.cO i (t,s)).put i {(m.cO i (t,s)).at' i with nd:=some (z.brk m.now t)}) w w2):=by
      refine HB.mono ?_;rintro e w2 ⟨o,rfl,_,hcp⟩;obtain⟨aH,bO,bP,rfl,hor,y2,hm2,hu2⟩:=hm1.call b1 b2 hnd hcp;rw[b3];exact⟨aH,bO,bP,rfl,hor,hu2.fx.size,y2,hm2,(hu.post hd1).trans hu2⟩
     have c0:=hm.cell.1;rw[hu.G,BK]at c0;obtain⟨m2,SL⟩:∃m2,(m.cO i (t,s)).put i {(m.cO i (t,s)).at' i with nd:=some (z.brk m.now t)}=m2:=⟨_,rfl⟩;rw[SL]at HD' HB2 ho;obtain⟨zb,hzb⟩:∃zb,z.brk m.now t=zb:=⟨_,rfl⟩;rw[hzb]at HD' HB2 ho;replace ho:=hide ho;replace HD':=hide HD';obtain⟨N,Tk⟩:∃N,xj.N=N:=⟨_,rfl⟩;rw[Tk]at hc2 HB2;clear HD HB hm1 n1 tm1 hr hm hu Dh b1 b2 b3 b4 hheard hz3 hIk hzn SL hzb Tk hd1 hS BK hjB e1 e2 e3 e4;rw[he];go_upto_region 12 with(fail);go_region_with(first
      |(go_at_call 36;refine Ve.out.mono ?_;rintro e w3 ⟨v,L,rfl,hL,hev,hp3⟩)
      |(go_at_call 100;refine HB2.out.mono ?_;rintro e w2 ⟨aH,bO,bP,rfl,hor,hsz,y2,hm2,hu2⟩;have Ve:=HD'.out _ _ _ _ _ _ hm2 hsz hor;rw[hu2.G]at Ve;replace Ve:=hide Ve))
     all_goals
      have hfin:=hide (show jK y m (m.iX i (t,s)).1 (m.iX i (t,s)).2 w.heap.size w (.returned v) w3 from by rw[ho.out];exact⟨v,L,rfl,hL,hev.lower hlow,MP.comp hu2 hp3⟩);clear Ve hev hp3 hu2 hm2 hor HB2 HD';go_wp2;go_ret;exact hfin.out
def uD(φ:aM->Int×ByteArray->aM×List Ev)(z:aM×List Ev)(f:Int×ByteArray):aM×List Ev:=((φ z.1 f).1,z.2++(φ z.1 f).2)
def jO(φ:aM->Int×ByteArray->aM×List Ev)(m:aM)(i:Nat)(o:Ot)(k:Nat):aM×List Ev:=(o.aF.take k).foldl (uD φ) (m.put i ((m.at' i).write o).1,[⟨i,0,o⟩])
theorem Dm(φ:aM->Int×ByteArray->aM×List Ev)(m:aM)(i:Nat)(o:Ot){k:Nat}{f:Int×ByteArray}(h:o.aF[k]?=some f):jO φ m i o (k+1)=uD φ (jO φ m i o k) f:=by
 unfold jO;rw[List.take_add_one,h,List.foldl_append];rfl
theorem AY{φ:aM->Int×ByteArray->aM×List Ev}(hφ:∀m f,(φ m f).2.length<=1)(m:aM)(i:Nat)(o:Ot):∀k,k<=o.aF.length->(jO φ m i o k).2.length<=1+k
 |0,_=>by
  unfold jO;simp
 |k+1,hk=>by
  rw[Dm φ m i o (bS (by omega))];have h1:=AY hφ m i o k (by omega);have h2:=hφ (jO φ m i o k).1 o.aF[k];unfold uD;rw[bU];omega
theorem vU(φ:aM->Int×ByteArray->aM×List Ev)(m:aM)(i:Nat)(o:Ot)(h1:o.idle=false)(h2:((m.at' i).write o).2=true):m.jH φ i o=jO φ m i o o.aF.length:=by
 unfold aM.jH jO;rw[ay (by simp[h1]),aI h2,List.take_length];rfl
theorem zi(o:Ot):o.idle=(decide (o.bg=[])&&!o.bB&&decide (o.aF.length+o.aO.length+o.aP.length=0)):=by
 unfold Ot.idle;cases o.bg<;>cases o.aF<;>cases o.aO<;>cases o.aP<;>cases o.bB<;>simp
theorem XC{b:Nat}{aF aO:List (Int×ByteArray)}{aP:List Int}{a:Option Addr}{n c:Nat}{bO bP:Value}{W:World}(h:iH b aF aO aP (.slice a n c) bO bP W)(hn:n=aF.length){k:Nat}{f:Int×ByteArray}(hf:aF[k]?=some f):∃g,a=some ⟨g,0,none⟩∧W.cell? ⟨g,k * 2,none⟩=some (.int .u32 f.1)∧W.cell? ⟨g,k * 2+1,none⟩=some (.string f.2):=by
 subst hn;have hk:=(fO.1 hf).1;obtain⟨g,cap,e,_⟩:=bZ h.aH (by omega);cases e;have hat:∀i u,i<2->([.int .u32 f.1,.string f.2]:List Value)[i]?=some u->(uH aF)[k * 2+i]?=some u:=λi u hi hu=>(jR (λx:Int×ByteArray=>([Value.int .u32 x.1,Value.string x.2]:List Value)) 2 (by decide) (λ_=>rfl) aF k i hi hf).trans hu;exact⟨g,rfl,(h.aH.cellAt (k * 2) (by omega)).trans (hat 0 _ (by decide) rfl),(h.aH.cellAt (k * 2+1) (by omega)).trans (hat 1 _ (by decide) rfl)⟩
theorem Y0{y:MG}{m:aM}{w:World}(h:MM y m w)(i:Nat)(hi:i<m.S.length)(_:m.S.length<=6)(φ:aM->Int×ByteArray->aM×List Ev)(o:Ot)(aH bO bP:Value)(b:Nat)(hor:iH b o.aF o.aO o.aP aH bO bP w)(hb:b<=w.heap.size)
  (hbd:qg o.bg) (hnw:o.bg.length<=50000) (hfr:o.aF.length<=100000∧o.aO.length<=100000∧o.aP.length<=100000) (hjl:(m.at' i).bH.length<=1000000) (hwh:0<=(m.at' i).whole) (hφ:∀m f,(φ m f).2.length<=1)
  (HS:∀k f,o.aF[k]?=some f->o.idle=false->((m.at' i).write o).2=true->∀y1 w1,MM y1 (jO φ m i o k).1 w1->Calls Tryz.prog 67 #[.pointer (some ⟨y1.G,0,none⟩),.int .i64 i,.agg #[.int .u32 f.1,.string f.2]] w1 (jK y1 (jO φ m i o k).1 (φ (jO φ m i o k).1 f).1 (φ (jO φ m i o k).1 f).2 w1.heap.size w1)):
  Calls Tryz.prog 36 #[.pointer (some ⟨y.G,0,none⟩),.int .i64 i,jg (strOfNums (bD o.bg)) o.bB aH bO bP] w (jK y m (m.jH φ i o).1 (m.jH φ i o).2 b w):=by
 obtain⟨i0,hi0,hz0,hz1,hz2⟩:=info_parts Md;obtain⟨af,kf,rfl,_⟩:=ax hor.aH;obtain⟨ac,kc,rfl,_⟩:=ax hor.bO;obtain⟨ad,kd,rfl,_⟩:=ax hor.bP;obtain⟨j1,j2⟩:=G9 hbd;obtain⟨j,hj⟩:∃j,strOfNums (bD o.bg)=j:=⟨_,rfl⟩;have hidle:=zi o;have hjz:decide (o.bg=[])=decide (j.size=0):=by
  rw[<-hj,j2];cases o.bg<;>simp
 rw[hjz]at hidle;rw[hj];have hb0:Below w.heap.size w (w.alloc (.cells #[.string j,.bool o.bB,.slice af o.aF.length kf,.slice ac o.aO.length kc,.slice ad o.aP.length kd] 52)):=bC;have hC:=bV w (.cells #[.string j,.bool o.bB,.slice af o.aF.length kf,.slice ac o.aO.length kc,.slice ad o.aP.length kd] 52);have h1:=h.later hb0;have ho1:=hor.later hb0;unfold jg;go_enter Tryz.func36,Tryz.ntmps36;go_upto_region 1 with(fail);generalize World.alloc _ _=W1 at hb0 hC h1 ho1 ⊢;have HN:=hide (BX j o.bB af ac ad o.aF.length kf o.aO.length kc o.aP.length kd (by omega) W1);rw[<-hidle]at HN;unfold jg at HN;have hlow:=hb0.size;obtain⟨C,lZ⟩:∃C,w.heap.size=C:=⟨_,rfl⟩;have hC0:w.heap.size<=C:=by omega
 rw[lZ]at hC;have t0:W1.cell? ⟨C,0,none⟩=some (.string j):=aJ _ _ 0 _ _ _ hC;have t1:W1.cell? ⟨C,1,none⟩=some (.bool o.bB):=aJ _ _ 1 _ _ _ hC;have t2:W1.cell? ⟨C,2,none⟩=some (.slice af o.aF.length kf):=aJ _ _ 2 _ _ _ hC;have t3:W1.cell? ⟨C,3,none⟩=some (.slice ac o.aO.length kc):=aJ _ _ 3 _ _ _ hC;have t4:W1.cell? ⟨C,4,none⟩=some (.slice ad o.aP.length kd):=aJ _ _ 4 _ _ _ hC;rw[lZ];clear lZ h hor;go_wp2_with fail;refine aU HN.out ?_;rintro e w2 ⟨rfl,hb2⟩;have h2:=h1.later hb2;have ho2:=ho1.later hb2;have hC2:=(hb2.block _ (aG hC)).trans hC;have hbb:=hb0.trans (hb2.mono hb0.size);have ae8:=hbb.size;clear HN h1 ho1 hC t0 t1 t2 t3 t4 hb0 hb2 hlow;cases hid:o.idle
 ·have t0:w2.cell? ⟨C,0,none⟩=some (.string j):=aJ _ _ 0 _ _ _ hC2;have t1:w2.cell? ⟨C,1,none⟩=some (.bool o.bB):=aJ _ _ 1 _ _ _ hC2;have t2:w2.cell? ⟨C,2,none⟩=some (.slice af o.aF.length kf):=aJ _ _ 2 _ _ _ hC2;have t3:w2.cell? ⟨C,3,none⟩=some (.slice ac o.aO.length kc):=aJ _ _ 3 _ _ _ hC2;have t4:w2.cell? ⟨C,4,none⟩=some (.slice ad o.aP.length kd):=aJ _ _ 4 _ _ _ hC2;obtain⟨x,s,g,c,e1,e2,e3,e4,p0⟩:=h2.get hi;have q1:=h2.cell.2.1;rw[e4]at q1;have hin:(i:Int)<(m.S.length:Int):=by omega
  rw[e3]at hjl hwh HS;have hall:=vU φ m i o hid;have hno:(s.write o).2=false->m.jH φ i o=(m.put i (s.write o).1,[⟨i,0,Ot.none⟩]):=λe=>by
   unfold aM.jH;rw[ay (by simp[hid]),ay (by rw[e3,e];simp),e3]
  rw[e3]at hall;have hd1:Below w2.heap.size w2 w2.drew:=(aV _ _).drew;have hmd:=h2.later hd1;have HW:=IE (hmd.st i x s e1 e2) o (.slice af o.aF.length kf) (.slice ac o.aO.length kc) (.slice ad o.aP.length kd) hbd hnw hjl hwh;rw[hj]at HW;have HW2:Hid (Calls Tryz.prog 62 #[.pointer (some ⟨x.B,0,none⟩),.agg #[.string j,.bool o.bB,.slice af o.aF.length kf,.slice ac o.aO.length kc,.slice ad o.aP.length kd]] w2.drew λe w'=>e=.returned (.bool (s.write o).2)∧∃y',MM y' (m.put i (s.write o).1) w'∧MU y m y' (m.put i (s.write o).1) w w'∧iH b o.aF o.aO o.aP (.slice af o.aF.length kf) (.slice ac o.aO.length kc) (.slice ad o.aP.length kd) w'∧w'.heap[C]?=some (.cells #[.string j,.bool o.bB,.slice af o.aF.length kf,.slice ac o.aO.length kc,.slice ad o.aP.length kd] 52)):=by
   refine HW.mono ?_;rintro e w' ⟨rfl,hp⟩;obtain⟨y',hm',hu'⟩:=hmd.Zd e1 e2 hp;exact⟨rfl,y',hm',((MU.refl y m w).post hbb).trans (hu'.pre hd1),(ho2.later hd1).mesh hmd hu'.fx,(hu'.fx.block C (aG hC2) (hmd.not hC2 (by decide))).trans hC2⟩
  obtain⟨s1,hs1⟩:∃s1,(s.write o).1=s1:=⟨_,rfl⟩;obtain⟨ok,hok⟩:∃ok,(s.write o).2=ok:=⟨_,rfl⟩;rw[hs1,hok]at HW2 hno;rw[hok]at HS hall;have W_:Hid (jO φ m i o 0=(m.put i s1,[⟨i,0,o⟩])):=by
   show _=_;unfold jO;rw[e3,hs1];rfl
  clear HW hs1 hok e1 e2 e3 e4 h2 ho2 hd1 hmd hjl hwh hbd hnw j1 j2 hjz hidle hbb;go_upto_region 3 with(fail);go_cut [21]from 12 to 21 (λv W=>v=.bool (!ok)∧∃y',MM y' (m.put i s1) W∧MU y m y' (m.put i s1) w W∧iH b o.aF o.aO o.aP (.slice af o.aF.length kf) (.slice ac o.aO.length kc) (.slice ad o.aP.length kd) W∧W.heap[C]?=some (.cells #[.string j,.bool o.bB,.slice af o.aF.length kf,.slice ac o.aO.length kc,.slice ad o.aP.length kd] 52))
  case first=>
   clear HS hno hall W_ hC2;go_region_with(go_at_call 62;refine HW2.out.mono ?_;rintro e w3 ⟨rfl,hfin⟩)
   all_goals
    clear HW2;go_wp2_with fail;go_meet;exact⟨by cases ok<;>rfl,hfin⟩
  case rest=>
   obtain⟨rfl,y',hm,hu,ho,Dh⟩:=hcut;clear HW2 hC2 t0 t1 t2 t3 t4 p0 q1;have acw:w.heap.size<=wc.heap.size:=hu.fx.size;cases ok
   ·have hev:=EY (b:=b) (W:=wc) (x:=(⟨i,0,Ot.none⟩,⟨.slice none 0 0,.slice none 0 0,.slice none 0 0⟩)) (by omega) ⟨⟨rfl,.inl ⟨rfl,rfl⟩⟩,⟨rfl,.inl ⟨rfl,rfl⟩⟩,⟨rfl,.inl ⟨rfl,rfl⟩⟩⟩;have hb5:Below wc.heap.size wc (wc.alloc (.cells (xE (⟨i,0,Ot.none⟩,⟨.slice none 0 0,.slice none 0 0,.slice none 0 0⟩)).toArray 54)):=bC;have hfin:jK y m (m.jH φ i o).1 (m.jH φ i o).2 b w (.returned (.slice (some ⟨wc.heap.size,0,none⟩) 1 1)) (wc.alloc (.cells (xE (⟨i,0,Ot.none⟩,⟨.slice none 0 0,.slice none 0 0,.slice none 0 0⟩)).toArray 54)):=by
     rw[hno rfl];exact⟨_,_,rfl,rfl,hev,y',hm.later hb5,hu.post hb5⟩
    have nE:(xE (⟨i,0,Ot.none⟩,⟨.slice none 0 0,.slice none 0 0,.slice none 0 0⟩)).toArray=#[.int .i64 i,.int .i64 0,.string ⟨#[]⟩,.bool false,.slice none 0 0,.slice none 0 0,.slice none 0 0]:=rfl;rw[nE]at hfin;clear hev hb5 hno HS hall W_ hm hu ho Dh nE;go_wp2;go_ret;exact hfin
   ·have hev:=EY (b:=b) (W:=wc) (x:=(⟨i,0,o⟩,⟨.slice af o.aF.length kf,.slice ac o.aO.length kc,.slice ad o.aP.length kd⟩)) (by omega) ho;have nE:(xE (⟨i,0,o⟩,⟨.slice af o.aF.length kf,.slice ac o.aO.length kc,.slice ad o.aP.length kd⟩)).toArray=#[.int .i64 i,.int .i64 0,.string j,.bool o.bB,.slice af o.aF.length kf,.slice ac o.aO.length kc,.slice ad o.aP.length kd]:=by
     rw[<-hj];rfl
    rw[nE]at hev;have hb5:Below wc.heap.size wc (wc.alloc (.cells #[.int .i64 i,.int .i64 0,.string j,.bool o.bB,.slice af o.aF.length kf,.slice ac o.aO.length kc,.slice ad o.aP.length kd] 54)):=bC;have qW:Hid (∃y' L,MM y' (jO φ m i o 0).1 (wc.alloc (.cells #[.int .i64 i,.int .i64 0,.string j,.bool o.bB,.slice af o.aF.length kf,.slice ac o.aO.length kc,.slice ad o.aP.length kd] 54))∧MU y m y' (jO φ m i o 0).1 w (wc.alloc (.cells #[.int .i64 i,.int .i64 0,.string j,.bool o.bB,.slice af o.aF.length kf,.slice ac o.aO.length kc,.slice ad o.aP.length kd] 54))∧gL b (.slice (some ⟨wc.heap.size,0,none⟩) 1 1) L (wc.alloc (.cells #[.int .i64 i,.int .i64 0,.string j,.bool o.bB,.slice af o.aF.length kf,.slice ac o.aO.length kc,.slice ad o.aP.length kd] 54))∧L.map (·.1)=(jO φ m i o 0).2∧(wc.alloc (.cells #[.int .i64 i,.int .i64 0,.string j,.bool o.bB,.slice af o.aF.length kf,.slice ac o.aO.length kc,.slice ad o.aP.length kd] 54)).ownsRow w.heap.size 54 7 (.slice (some ⟨wc.heap.size,0,none⟩) 1 1) L.length (EvC L)∧iH b o.aF o.aO o.aP (.slice af o.aF.length kf) (.slice ac o.aO.length kc) (.slice ad o.aP.length kd) (wc.alloc (.cells #[.int .i64 i,.int .i64 0,.string j,.bool o.bB,.slice af o.aF.length kf,.slice ac o.aO.length kc,.slice ad o.aP.length kd] 54))):=by
     show ∃y' L,_;rw[W_.out];refine⟨y',_,hm.later hb5,hu.post hb5,hev,rfl,⟨rfl,.inr ⟨wc.heap.size,1,_,rfl,acw,bV _ _,aB _,by decide,rfl,?_⟩⟩,ho.later hb5⟩;rw[<-hj];rfl
    have t0:wc.cell? ⟨C,0,none⟩=some (.string j):=aJ _ _ 0 _ _ _ Dh;have t1:wc.cell? ⟨C,1,none⟩=some (.bool o.bB):=aJ _ _ 1 _ _ _ Dh;have t2:wc.cell? ⟨C,2,none⟩=some (.slice af o.aF.length kf):=aJ _ _ 2 _ _ _ Dh;have t3:wc.cell? ⟨C,3,none⟩=some (.slice ac o.aO.length kc):=aJ _ _ 3 _ _ _ Dh;have t4:wc.cell? ⟨C,4,none⟩=some (.slice ad o.aP.length kd):=aJ _ _ 4 _ _ _ Dh;have YJ:=hide (hall rfl);have HS2:=hide (λk f hf=>HS k f hf hid rfl);clear hev hb5 hno HS hall W_ hm hu ho Dh nE hj hid;have u2:(wc.alloc (.cells #[.int .i64 i,.int .i64 0,.string j,.bool o.bB,.slice af o.aF.length kf,.slice ac o.aO.length kc,.slice ad o.aP.length kd] 54)).cell? ⟨C,2,none⟩=some (.slice af o.aF.length kf):=((bC:Below wc.heap.size wc _).cell (World.block_lt_of_cell? _ _ t2)).trans t2;go_upto_region 6 with(fail);generalize World.alloc _ _=W5 at qW u2 ⊢;generalize wc.heap.size=E at qW ⊢;clear t0 t1 t2 t3 t4;go_wp2_with fail;go_loopw [7,32] (λev iv wr=>∃k:Nat,k<=o.aF.length∧iv=.int .i64 k∧Hid (∃y' L,MM y' (jO φ m i o k).1 wr∧MU y m y' (jO φ m i o k).1 w wr∧gL b ev L wr∧L.map (·.1)=(jO φ m i o k).2∧wr.ownsRow w.heap.size 54 7 ev L.length (EvC L)∧iH b o.aF o.aO o.aP (.slice af o.aF.length kf) (.slice ac o.aO.length kc) (.slice ad o.aP.length kd) wr)) (λ_ iv _=>o.aF.length - (intOf iv).toNat)
    case atStart=>exact⟨0,dm _,rfl,qW⟩
    case round=>
     clear qW;obtain⟨k,hk,rfl,hr⟩:=hrel;by_cases hkl:k<o.aF.length
     ·have hki:(k:Int)<(o.aF.length:Int):=by omega
      obtain⟨y1,L,hm,hu,hev,hL,hrw,ho⟩:=hr.out;obtain⟨f,hf⟩:∃f,o.aF[k]?=some f:=⟨_,bS hkl⟩;obtain⟨g5,rfl,d0,d1⟩:=XC ho rfl hf;have hbx:Below wr.heap.size wr (wr.alloc (.cells #[.int .u32 f.1,.string f.2] 77)):=bC;have hm1:=hm.later hbx;have hHS:=HS2.out k f hf y1 _ hm1;rw[hu.G]at hHS;have hlen:=AY hφ m i o k hk;rw[<-hL,gY]at hlen;have adB:=hφ (jO φ m i o k).1 f;have hsucc:=Dm φ m i o hf;have acG:=hev.later hbx;have ho1:=ho.later hbx;have hu1:=hu.post hbx;have aaI:Hid (Calls Tryz.prog 67 #[.pointer (some ⟨y.G,0,none⟩),.int .i64 i,.agg #[.int .u32 f.1,.string f.2]] (wr.alloc (.cells #[.int .u32 f.1,.string f.2] 77)) λe w3=>∃v2 L2 n2,e=.returned v2∧L2.length=n2∧n2<=1∧w3.ownsRow w.heap.size 54 7 u7 L.length (EvC L)∧w3.ownsRow wr.heap.size 54 7 v2 n2 (EvC L2)∧(∀u∈EvC L2,u.oneCell'=true)∧w.heap.size<=w3.heap.size∧∀v' w',w'.ownsRow w.heap.size 54 7 v' (L.length+n2) (EvC L++EvC L2)->w3.grownBy w' u7.ownBlock->∃y' L,MM y' (jO φ m i o (k+1)).1 w'∧MU y m y' (jO φ m i o (k+1)).1 w w'∧gL b v' L w'∧L.map (·.1)=(jO φ m i o (k+1)).2∧w'.ownsRow w.heap.size 54 7 v' L.length (EvC L)∧iH b o.aF o.aO o.aP (.slice (some ⟨g5,0,none⟩) o.aF.length kf) (.slice ac o.aO.length kc) (.slice ad o.aP.length kd) w'):=by
       refine hHS.mono ?_;rintro e w3 ⟨v2,L2,rfl,hL2,nE,y2,hm2,hu2⟩;have hl2:L2.length<=1:=by
        have:=congrArg List.length hL2;rw[gY]at this;omega
       have aaq:=acG.mesh hm1 hu2.fx;have how:=ho1.mesh hm1 hu2.fx;have hz1:=hbx.size;have hz2:=hu2.fx.size;have hz3:=(hu1.trans hu2).fx.size;have hz0:=hu.fx.size;have hrw3:w3.ownsRow w.heap.size 54 7 u7 L.length (EvC L):=bQ (bQ hrw λk5 hk5=>hbx.block k5 (hrw.lt k5 hk5).2) λk5 hk5=>by
        obtain⟨cc,OL⟩:=aS hrw hk5;have hc6:=(hbx.block k5 (aG OL)).trans OL;exact hu2.fx.block k5 (aG hc6) (hm1.notE (by decide) hc6)
       refine⟨v2,L2,_,rfl,rfl,hl2,hrw3,(nE.lower hz1).row,nE.one,hz3,λv' w' ho' hg'=> ?_⟩;have hbE:∀k5,wE y2 (φ (jO φ m i o k).1 f).1 k5->w'.heap[k5]?=w3.heap[k5]?:=λk5 hk5=>hg'.block k5 (hm2.lt hk5) λe5=>by
        obtain⟨cc,OL⟩:=aS aaq.row e5.symm;exact hm2.notE (by decide) OL hk5
       rw[hsucc];refine⟨y2,L++L2,hm2.kept hbE,⟨aW (hu1.trans hu2).fx hg' (λj5 hj5 e5=> ?_),λk5 hk5=>((hu1.trans hu2).sub k5 hk5).imp_right λh=>⟨h.1,fZ h.2 hg'.size⟩,(hu1.trans hu2).G,(hu1.trans hu2).n,(hu1.trans hu2).sv,(hu1.trans hu2).B⟩,?_,?_,by rw[bU,Bz];exact ho',how.at λk5 c5 t5 ht5 hk5=>hg'.block k5 (aG hk5) λe5=> ?_⟩
       ·have:=(hrw.lt j5 e5).1;omega
       ·exact aaq.append nE (by omega) (λx hx k5 hk5=>by have:=(hev.out x hx).lt hk5;omega) (ownsRow_base_a ho' hb) hg'
       ·rw[List.map_append,hL,hL2];rfl
       ·obtain⟨cc,OL⟩:=aS aaq.row e5.symm;rw[hk5]at OL;cases OL;exact absurd ht5 (by decide)
      have Hl:Hid (∀n2,n2<=1->L.length+n2<=maxLen∧(L.length+n2)* 112<=140737488355328):=λn2 h2=>by unfold maxLen;omega
      have hme:=pE hkl;have hk1:k+1<=o.aF.length:=by omega
      have hw64:wrap64 ((k:Int)+1)=(k:Int)+1:=by unfold wrap64;omega
      obtain⟨f1,f2⟩:=f;dsimp only at d0 d1 aaI;clear hr hm hu hev hL ho hm1 hHS hlen adB hsucc acG ho1 hu1 hf hbx hrw hfr hb;go_wp2_with fail;refine aU aaI.out ?_;rintro e w3 ⟨v2,L2,n2,rfl,hn2,ad3,hr1,hr2,h1c,hbw,hnx⟩;replace hnx:=hide hnx;replace hn2:=hide hn2;obtain⟨aak,aaj⟩:=Hl.out n2 ad3;clear aaI Hl;go_wp2_with(at_builtin;refine tF rfl _ _ 29 rfl w.heap.size 54 i0 (.agg #[.int .i64 0,.int .i64 0,.string ⟨#[]⟩,.bool false,.slice none 0 0,.slice none 0 0,.slice none 0 0]) 7 112 Tryz.underlying29 hi0 hz0 hz1 hz2 rfl (by decide) u7 L.length (EvC L) rfl hr1 wr.heap.size v2 n2 (EvC L2) rfl hr2 h1c aak aaj hbw ?_);intro v7 w7 ig gQ;have zk:=hide (hnx.out v7 w7 ig gQ);clear hnx ig gQ hr1 hr2 h1c d0 d1;go_wp2;try rw[hw64]
      go_roundw
      case rel=>
       first
        |exact⟨k+1,hk1,by go_num,zk⟩
        |exact⟨_,_,⟨k+1,hk1,by go_num,zk⟩,rfl⟩
        |((repeat apply Exists.intro);refine⟨⟨k+1,hk1,by go_num,zk⟩,rfl⟩)
      case measure=>exact hme
     ·obtain rfl:k=o.aF.length:=by omega
      obtain⟨y1,L,hm,hu,hev,hL,hrw,ho⟩:=hr.out;have hfin:jK y m (m.jH φ i o).1 (m.jH φ i o).2 b w (.returned u7) wr:=by
       rw[YJ.out];exact⟨u7,L,rfl,hL,hev,y1,hm,hu⟩
      clear hr hm hu hev hL ho HS2 YJ hrw;go_wp2;go_ret;exact hfin
 ·have hfin:jK y m (m.jH φ i o).1 (m.jH φ i o).2 b w (.returned (.slice none 0 0)) w2:=by
   unfold aM.jH;rw[aI (by rw[hid])];exact⟨_,[],rfl,rfl,gL.nil _ _,y,h2,(MU.refl y m w).post hbb⟩
  clear h2 ho2 hC2 HS hbb;go_wp2;go_ret;exact hfin
end Go.Proofs.YtakaadcpaeiccabGreat
