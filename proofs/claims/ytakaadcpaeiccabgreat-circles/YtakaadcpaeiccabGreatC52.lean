import Derived.Test.YtakaadcpaeiccabGreatC51
set_option maxHeartbeats 4000000
set_option maxRecDepth 100000
namespace Go.Proofs.YtakaadcpaeiccabGreat
open Go.RowKit Go.Maps
theorem tV(a b:List(Nat×Nat×ByteArray)):oD(a++b)=oD a++oD b:=by simp [oD]
theorem Av(L:List(Nat×Nat×ByteArray)):(oD L).length=L.length * 3:=qN(fun f:Nat×Nat×ByteArray=>([Value.int .i64 f.1,.int .i64 f.2.1,.string f.2.2]:List Value))3(fun _=>rfl)L
theorem Q8(L:List(Nat×Nat×ByteArray)):∀u∈oD L,u.oneCell'=true:=by
 intro u hu;obtain⟨x,_,hx⟩:=List.mem_flatMap.1 hu;simp only [List.mem_cons,List.not_mem_nil,or_false]at hx;rcases hx with rfl|rfl|rfl<;>rfl
theorem EB {L:List(Nat×Nat×ByteArray)} {k:Nat} {x:Nat×Nat×ByteArray}(h:L[k]?=some x):(oD L)[k * 3]?=some(.int .i64 x.1)∧(oD L)[k * 3+1]?=some(.int .i64 x.2.1)∧(oD L)[k * 3+2]?=some(.string x.2.2):=by
 have hf:=fun i hi=>jT(fun f:Nat×Nat×ByteArray=>([Value.int .i64 f.1,.int .i64 f.2.1,.string f.2.2]:List Value))3(by decide)(fun _=>rfl)L k i hi h;exact⟨hf 0(by decide),hf 1(by decide),hf 2(by decide)⟩
theorem Hy(L:List(Nat×Nat×ByteArray))(k:Nat):oD(L.take k)=(oD L).take(k * 3):=by
 induction L generalizing k with
 |nil=>simp [oD]
 |cons a L ih=>
  cases k with
  |zero=>simp [oD]
  |succ k=>
   rw [List.take_succ_cons];show [_,_,_]++oD(L.take k)=(([_,_,_]:List Value)++oD L).take((k+1)* 3);rw [ih,show(k+1)* 3=k * 3+1+1+1 by omega];rfl
theorem UH(L:List(Nat×Nat×ByteArray))(k:Nat):oD(L.drop k)=(oD L).drop(k * 3):=by
 have h:=tV(L.take k)(L.drop k);rw [List.take_append_drop,Hy]at h;by_cases hk:k≤L.length
 ·have hl:((oD L).take(k * 3)).length=k * 3:=by rw [List.length_take,Av];omega
  have h2:(oD L).drop(k * 3)=((oD L).take(k * 3)++oD(L.drop k)).drop(k * 3):=by rw [←h]
  rw [h2,List.drop_append,hl,Nat.sub_self,List.drop_zero,(List.drop_eq_nil_of_le(by omega):((oD L).take(k * 3)).drop(k * 3)=[]),List.nil_append]
 ·rw [List.drop_eq_nil_of_le(by omega),List.drop_eq_nil_of_le(by rw [Av];omega)];rfl
theorem MM.fly {y:MG} {m:aK} {W:World}(h:MM y m W) {v7:Value} {w7:World} {F:List(Nat×Nat×ByteArray)}(ho:w7.ownsRow 0 149 3 v7 F.length(oD F))(hg:W.grownBy w7 y.av.ownBlock)(hv:v7.ownBlock=y.av.ownBlock∨v7.ownBlock=some W.heap.size):
  (w7.cell?⟨y.G,2,none⟩=some y.av∧w7.frozen?⟨y.G,2,none⟩=false)∧MM {y with av:=v7} {m with bG:=F}(w7.setCell⟨y.G,2,none⟩v7)∧MU y m {y with av:=v7} {m with bG:=F}W(w7.setCell⟨y.G,2,none⟩v7):=by
 have hne:y.av.ownBlock≠some y.G:=aA h.bG h.blk(fun c e=>(by cases e));have hblk:=hg.block _(aD h.blk)fun e=>hne e.symm;obtain⟨_,_,c2,fz⟩:=h.cell;have Gw:=hblk.trans h.blk;have hg2:w7.grownBy(w7.setCell⟨y.G,2,none⟩v7)(some y.G):=aa(aC _(some y.G))2 _;have hsz:=hg.size;have hkeep:∀k,k<W.heap.size→k≠y.G→y.av.ownBlock≠some k→(w7.setCell⟨y.G,2,none⟩v7).heap[k]?=W.heap[k]?:=fun k hk h1 h2=>(hg2.block k(by omega)fun e=>h1(Option.some.inj e)).trans(hg.block k hk fun e=>h2 e.symm);have hf:Fx(oz y m)W(w7.setCell⟨y.G,2,none⟩v7):=aT(Fx.grown hg fun k e=> .inr(.inr(.inl e)))hg2 fun i _ e=>by cases e;exact .inl rfl
 refine⟨⟨(World.cell?_of_block(a:=⟨y.G,2,none⟩)hblk).trans c2,(World.frozen?_of_block(a:=⟨y.G,2,none⟩)hblk).trans(fz 2)⟩,⟨?_,?_,ho.kept hg2(.inr(aA ho Gw(fun c e=>(by cases e)))),h.len,fun i x s h1 h2=>(h.st i x s h1 h2).kept fun k hk=> ?_,h.ap⟩,hf,fun k hk=> ?_,rfl,rfl,rfl,rfl⟩
 ·simp [World.setCell,Array.getElem?_modify,Gw]
 ·refine bD h.yD fun k hk=>hkeep k(h.yD.lt k hk).2(fun e=> ?_)fun e=> ?_
  ·subst e;exact aA h.yD h.blk(fun c e=>(by cases e))hk
  ·rcases bX h.yD h.bG(by decide)with q|q
   ·rw [q]at hk;cases hk
   ·exact q(hk.trans e.symm)
 ·obtain⟨q1,_,q3⟩:=h.own h1 h2 hk;exact hkeep k((h.st i x s h1 h2).lt hk)q1 q3
 ·rcases hk with hk|hk|hk|hk
  ·exact .inl(.inl hk)
  ·exact .inl(.inr(.inl hk))
  ·rcases hv with e|e
   ·exact .inl(.inr(.inr(.inl(by rw [←e];exact hk))))
   ·have h1:=(ho.lt k hk).2;rw [show({y with av:=v7}:MG).av=v7 from rfl,e]at hk;cases hk;exact .inr⟨Nat.le_refl _,by simpa using h1⟩
  ·exact .inl(.inr(.inr(.inr hk)))
theorem MM.drew {y:MG} {m:aK} {W:World}(h:MM y m W):MM y m W.drew:=h.kept fun _ _=>rfl
theorem MU.pre {y y':MG} {m m':aK} {w w1 w':World}(hb:Below w.heap.size w w1)(h:MU y m y' m' w1 w'):MU y m y' m' w w':=(MU.below hb).trans h
theorem MU.post {y y':MG} {m m':aK} {w w1 w':World}(h:MU y m y' m' w w1)(hb:Below w1.heap.size w1 w'):MU y m y' m' w w':=h.trans(MU.below hb)
def MP(y:MG)(m m':aK)(w w':World):Prop:=∃y',MM y' m' w'∧MU y m y' m' w w'
theorem MP.pre {y:MG} {m m':aK} {w w1 w':World}(hb:Below w.heap.size w w1)(h:MP y m m' w1 w'):MP y m m' w w':=by
 obtain⟨y',h1,h2⟩:=h;exact⟨y',h1,h2.pre hb⟩
theorem MP.post {y:MG} {m m':aK} {w w1 w':World}(h:MP y m m' w w1)(hb:Below w1.heap.size w1 w'):MP y m m' w w':=by
 obtain⟨y',h1,h2⟩:=h;exact⟨y',h1.later hb,h2.post hb⟩
theorem MP.refl {y:MG} {m:aK} {w:World}(h:MM y m w):MP y m m w w:=⟨y,h,MU.refl _ _ _⟩
theorem MP.comp {y y1:MG} {m m1 m':aK} {w w1 w':World}(u:MU y m y1 m1 w w1)(h:MP y1 m1 m' w1 w'):MP y m m' w w':=by
 obtain⟨y',h1,h2⟩:=h;exact⟨y',h1,u.trans h2⟩
theorem WS:(Tryz.prog.info? 149).map(fun i=>(i.zero,i.size,i.bytes))=some(some(.agg #[.int .i64 0,.int .i64 0,.string⟨#[]⟩]),3,32):=by kernel_rfl
theorem TV(W:World)(a b:Nat)(s:ByteArray):∀(j:Nat)(u:Value),(oD [(a,b,s)])[j]?=some u→(W.alloc(.cells #[.int .i64 a,.int .i64 b,.string s]149)).drew.cell?((⟨W.heap.size,0,none⟩:Addr).add j)=some u:=by
 intro j u hj;have hh:=heap_alloc_new W(.cells #[.int .i64 a,.int .i64 b,.string s]149);have hadd:(⟨W.heap.size,0,none⟩:Addr).add j=⟨W.heap.size,0+j,none⟩:=by unfold Addr.add;split<;>simp_all
 rw [hadd,Nat.zero_add];have hh':(W.alloc(.cells #[.int .i64 a,.int .i64 b,.string s]149)).drew.heap[W.heap.size]?=some(.cells #[.int .i64 a,.int .i64 b,.string s]149):=hh
 match j,hj with
 |0,hj=>exact(cell_of_row _ _ 0 _ _ _ hh').trans hj
 |1,hj=>exact(cell_of_row _ _ 1 _ _ _ hh').trans hj
 |2,hj=>exact(cell_of_row _ _ 2 _ _ _ hh').trans hj
 |j+3,hj=>simp [oD]at hj
def flV(f:Nat×Nat×ByteArray):Value:=.agg #[.int .i64 f.1,.int .i64 f.2.1,.string f.2.2]
theorem J6 {y:MG} {m:aK} {w:World}(h:MM y m w)(i:Nat)(hi:i<m.bG.length)(hl:m.bG.length≤1000)(f:Nat×Nat×ByteArray)(hf:m.bG[i]?=some f):Calls Tryz.prog 63 #[.pointer(some⟨y.G,0,none⟩),.int .i64 i]w fun e w'=>e=.returned(flV f)∧MP y m {m with bG:=m.bG.eraseIdx i}w w':=by
 have hb0:Below w.heap.size w(w.alloc(.cells #[.int .i64 0,.int .i64 0,.string⟨#[]⟩]149)):=(Below.refl _ _).alloc(Nat.le_refl _)_;have hC:=heap_alloc_new w(.cells #[.int .i64 0,.int .i64 0,.string⟨#[]⟩]149);have h1:=h.later hb0;obtain⟨g,cap,AJ,_⟩:=bS h.bG(by omega);have hgl:g<w.heap.size:=(h.bG.lt g(by rw [AJ];rfl)).2;have hlt:=fun k(hk:oz y m k)=>h.lt hk;obtain⟨a,b,s⟩:=f;obtain⟨q0,q1,q2⟩:=EB hf;dsimp only at q0 q1 q2;have hil:(i:Int)<(m.bG.length:Int):=by omega
 have hiw:wrap64((i:Int)+1)=(i:Int)+1:=by unfold wrap64;omega
 have hFl:oD(m.bG.eraseIdx i)=(oD m.bG).take(i * 3)++(oD m.bG).drop((i+1)* 3):=by
  rw [List.zQ,tV,Hy,UH]
 have hln:(m.bG.eraseIdx i).length=m.bG.length - 1:=by rw [List.pK,if_pos hi]
 unfold flV;dsimp only;clear h;go_enter Tryz.func63,Tryz.ntmps63
 go_upto_region 1 with(fail)
 generalize World.alloc _ _=W1 at hb0 hC h1 ⊢;have hr1:=h1.bG;rw [AJ]at hr1;have c2:=h1.cell.2.2.1;rw [AJ]at c2;have d0:=(hr1.cellAt(i * 3)(by omega)).trans q0;have d1:=(hr1.cellAt(i * 3+1)(by omega)).trans q1;have d2:=(hr1.cellAt(i * 3+2)(by omega)).trans q2;have hb1:Below W1.heap.size W1(W1.alloc(.cells #[.int .i64 a,.int .i64 b,.string s]149)):=(Below.refl _ _).alloc(Nat.le_refl _)_;have hD:=heap_alloc_new W1(.cells #[.int .i64 a,.int .i64 b,.string s]149);have h2:=h1.later hb1;have hC2:=(hb1.block _(aD hC)).trans hC;have hb2:=hb0.trans(hb1.mono hb0.size);have Tk:=aD hC;clear h1 hr1 hb0 hb1 hC q0 q1 q2;go_upto_region 2 with(fail)
 generalize World.alloc _ _=W2 at hD h2 hC2 hb2 ⊢;generalize W1.heap.size=D at hD Tk ⊢;clear c2 d0 d1 d2;have hr2:=h2.bG;have c2:=h2.cell.2.2.1;have f2:=h2.cell.2.2.2 2;have HX:=hide(DF.tX 0 g m.bG.length cap i(oD m.bG)W2(by rw [←AJ];exact hr2)hi(by omega)(Q8 _));have HF:Hid(∀w7:World,w7.ownsRow 0 149 3(.slice(some⟨g,0,none⟩)(m.bG.length - 1)cap)(m.bG.length - 1)((oD m.bG).take(i * 3)++(oD m.bG).drop((i+1)* 3))→W2.grownBy w7(some g)→(w7.cell?⟨y.G,2,none⟩=some y.av∧w7.frozen?⟨y.G,2,none⟩=false)∧(∃y',MM y' {m with bG:=m.bG.eraseIdx i}(w7.setCell⟨y.G,2,none⟩(.slice(some⟨g,0,none⟩)(m.bG.length - 1)cap))∧MU y m y' {m with bG:=m.bG.eraseIdx i}w(w7.setCell⟨y.G,2,none⟩(.slice(some⟨g,0,none⟩)(m.bG.length - 1)cap))∧∀k,oz y' {m with bG:=m.bG.eraseIdx i}k→k<w.heap.size)∧(w7.setCell⟨y.G,2,none⟩(.slice(some⟨g,0,none⟩)(m.bG.length - 1)cap)).heap[w.heap.size]?=some(.cells #[.int .i64 0,.int .i64 0,.string⟨#[]⟩]149)∧(w7.setCell⟨y.G,2,none⟩(.slice(some⟨g,0,none⟩)(m.bG.length - 1)cap)).heap[D]?=some(.cells #[.int .i64 a,.int .i64 b,.string s]149)):=by
  intro w7 ho hg;rw [←hFl,←hln]at ho;obtain⟨k1,k2,k3⟩:=h2.fly ho(by rw [AJ];exact hg)(by rw [AJ];exact .inl rfl);have hsz:=hg.size;have hgG:w7.grownBy(w7.setCell⟨y.G,2,none⟩(.slice(some⟨g,0,none⟩)(m.bG.eraseIdx i).length cap))(some y.G):=aa(aC _(some y.G))2 _;have hwG:W2.heap[y.G]?=_:=h2.blk;have hxg:∀k,k<W2.heap.size→k≠y.G→k≠g→(w7.setCell⟨y.G,2,none⟩(.slice(some⟨g,0,none⟩)(m.bG.eraseIdx i).length cap)).heap[k]?=W2.heap[k]?:=fun k hk e1 e2=>(hgG.block k(Nat.lt_of_lt_of_le hk hsz)fun e=>e1(Option.some.inj e)).trans(hg.block k hk fun e=>e2(Option.some.inj e));rw [hln]at k2 k3 hxg;refine⟨k1,⟨_,k2,k3.pre hb2,fun k hk=> ?_⟩,(hxg _(aD hC2)(fun e=> ?_)fun e=> ?_).trans hC2,(hxg _(aD hD)(fun e=> ?_)fun e=> ?_).trans hD⟩
  ·rcases hk with hk|hk|hk|hk
   ·exact hlt k(.inl hk)
   ·exact hlt k(.inr(.inl hk))
   ·cases hk;exact hgl
   ·exact hlt k(.inr(.inr(.inr hk)))
  ·rw [e,h2.blk]at hC2;cases hC2
  ·omega
  ·rw [e,h2.blk]at hD;cases hD
  ·omega
 clear h2 hr2 hFl hln hC2 hD;rw [AJ]at c2;go_wp2_with fail
 refine Calls.mono HX.out ?_;rintro e w7⟨rfl,gP,eu⟩;obtain⟨⟨g1,g2⟩,hm,Oz,hDw⟩:=HF.out _ gP eu;rw [AJ]at g1;have z0:=cell_of_row _ _ 0 _ _ _ Oz;have z1:=cell_of_row _ _ 1 _ _ _ Oz;have z2:=cell_of_row _ _ 2 _ _ _ Oz;have y0:=frozen_of_row _ w.heap.size 0 _ _ Oz;have y1:=frozen_of_row _ w.heap.size 1 _ _ Oz;have y2:=frozen_of_row _ w.heap.size 2 _ _ Oz;have u0:=cell_of_row _ _ 0 _ _ _ hDw;have u1:=cell_of_row _ _ 1 _ _ _ hDw;have u2:=cell_of_row _ _ 2 _ _ _ hDw;clear HX HF gP eu c2;go_upto_region 3 with(fail)
 generalize World.setCell _ _ _=W3 at hm Oz hDw z0 z1 z2 y0 y1 y2 u0 u1 u2 ⊢;simp at z0 z1 z2 u0 u1 u2;have dI:(((W3.setCell⟨w.heap.size,0,none⟩(.int .i64 a)).setCell⟨w.heap.size,1,none⟩(.int .i64 b)).setCell⟨w.heap.size,2,none⟩(.string s)).heap[w.heap.size]?=some(.cells #[.int .i64 a,.int .i64 b,.string s]149):=by
  simp [World.setCell,Array.getElem?_modify,Oz]
 have gB:W3.grownBy(((W3.setCell⟨w.heap.size,0,none⟩(.int .i64 a)).setCell⟨w.heap.size,1,none⟩(.int .i64 b)).setCell⟨w.heap.size,2,none⟩(.string s))(some w.heap.size):=aa(aa(aa(aC W3(some w.heap.size))0 _)1 _)2 _;have UY:MP y m {m with bG:=m.bG.eraseIdx i}w(((W3.setCell⟨w.heap.size,0,none⟩(.int .i64 a)).setCell⟨w.heap.size,1,none⟩(.int .i64 b)).setCell⟨w.heap.size,2,none⟩(.string s)):=by
  obtain⟨y',k1,k2,k3⟩:=hm;have hno:∀k,oz y' {m with bG:=m.bG.eraseIdx i}k→some k≠some w.heap.size:=fun k hk e=>by
   cases e;have:=k3 _ hk;omega
  refine⟨y',k1.kept fun k hk=>gB.block k(k1.lt hk)(hno k hk),⟨aT k2.fx gB(fun j hj e=>by cases e;omega),fun k hk=>(k2.sub k hk).dh fun h=>⟨h.1,Nat.lt_of_lt_of_le h.2 gB.size⟩,k2.G,k2.n,k2.sv,k2.B⟩⟩
 clear hm Oz hDw gB;go_wp2_with fail
 generalize World.setCell _ _ _=W7 at dI UY ⊢;have p0:W7.cell?⟨w.heap.size,0,none⟩=some(.int .i64 a):=cell_of_row _ _ 0 _ _ _ dI;have p1:W7.cell?⟨w.heap.size,1,none⟩=some(.int .i64 b):=cell_of_row _ _ 1 _ _ _ dI;have p2:W7.cell?⟨w.heap.size,2,none⟩=some(.string s):=cell_of_row _ _ 2 _ _ _ dI;exact bodyPost_ret(v:=.agg #[.int .i64 a,.int .i64 b,.string s])(by simp [results,Tryz.results63,go_sem,p0,p1,p2])rfl⟨rfl,UY⟩
theorem Hq {y:MG} {m:aK} {w:World}(h:MM y m w)(hl:m.bG.length≤500)(f:Nat×Nat×ByteArray):Calls Tryz.prog 64 #[.pointer(some⟨y.G,0,none⟩),flV f]w fun e w'=>e=.returned(.tuple #[])∧MP y m(m.eG f)w w':=by
 obtain⟨i0,hi,hz0,hz1,hz2⟩:=info_parts WS;obtain⟨a,b,s⟩:=f;have hb0:Below w.heap.size w(w.alloc(.cells #[.int .i64 a,.int .i64 b,.string s]149)):=(Below.refl _ _).alloc(Nat.le_refl _)_;have hC:=heap_alloc_new w(.cells #[.int .i64 a,.int .i64 b,.string s]149);have h1:=h.later hb0;unfold flV;dsimp only;go_enter Tryz.func64,Tryz.ntmps64
 go_upto_region 1 with(fail)
 generalize World.alloc _ _=W1 at hb0 hC h1 ⊢;have hkb:∀o,Below W1.heap.size W1(W1.alloc o).drew:=fun o=>((Below.refl _ _).alloc(Nat.le_refl _)o).drew;have hrow:=fun o=>(h1.later(hkb o)).bG;have hcf:=TV W1 a b s;have hcm:=fun o=>(h1.later(hkb o)).cell.2.2.1;have hc1:=h1.cell.2.2.1;have t0:W1.cell?⟨w.heap.size,0,none⟩=some(.int .i64 a):=cell_of_row _ _ 0 _ _ _ hC;have t1:W1.cell?⟨w.heap.size,1,none⟩=some(.int .i64 b):=cell_of_row _ _ 1 _ _ _ hC;have t2:W1.cell?⟨w.heap.size,2,none⟩=some(.string s):=cell_of_row _ _ 2 _ _ _ hC;have HF:Hid(∀v7 w7,w7.ownsRow 0 149 3 v7(m.bG.length+1)(oD m.bG++oD [(a,b,s)])→(W1.alloc(.cells #[.int .i64 a,.int .i64 b,.string s]149)).drew.grownBy w7 y.av.ownBlock→(v7.ownBlock=y.av.ownBlock∨v7.ownBlock=some(W1.alloc(.cells #[.int .i64 a,.int .i64 b,.string s]149)).drew.heap.size)→(w7.cell?⟨y.G,2,none⟩=some y.av∧w7.frozen?⟨y.G,2,none⟩=false)∧MM {y with av:=v7} {m with bG:=m.bG++ [(a,b,s)]}(w7.setCell⟨y.G,2,none⟩v7)∧MU y m {y with av:=v7} {m with bG:=m.bG++ [(a,b,s)]}w(w7.setCell⟨y.G,2,none⟩v7)):=by
  intro v7 w7 ho hg hv;rw [←tV,show m.bG.length+1=(m.bG++ [(a,b,s)]).length by simp]at ho;obtain⟨q1,q2,q3⟩:=(h1.later(hkb _)).fly ho hg hv;exact⟨q1,q2,(q3.pre(hkb _)).pre hb0⟩
 have hlm:m.bG.length+1≤maxLen:=by unfold maxLen;omega
 have hl2:(m.bG.length+1)* 32≤140737488355328:=by omega
 have yh:m.eG(a,b,s)=if 48<m.bG.length+1 then {m with bG:=(m.bG++ [(a,b,s)]).eraseIdx 0}else {m with bG:=m.bG++ [(a,b,s)]}:=by
  unfold aK.eG;simp only [List.length_append,List.length_cons,List.length_nil,List.U7];split<;>rfl
 replace yh:=hide yh;clear h h1 hC hkb;generalize w.heap.size=C at t0 t1 t2 ⊢;go_cut []from 4 to 13(fun Wc=>∃v7,MM {y with av:=v7} {m with bG:=m.bG++ [(a,b,s)]}Wc∧MU y m {y with av:=v7} {m with bG:=m.bG++ [(a,b,s)]}w Wc)
 case first=>
  go_region_law(refine gz rfl(.tmp 8)(.tmp 10)45 rfl 0 149 i0(.agg #[.int .i64 0,.int .i64 0,.string⟨#[]⟩])3 32 Tryz.underlying45 hi hz0 hz1 hz2 rfl(by decide)y.av m.bG.length(oD m.bG)(by simp [Act.eval])(hrow _)⟨_,0,none⟩1 1(oD [(a,b,s)])(by simp [Act.eval])rfl(hcf)(Q8 _)hlm hl2(Nat.zero_le _) ?_;intro v7 w7 gP eu hv7;obtain⟨⟨g1,g2⟩,hm⟩:=HF.out _ _ gP eu hv7;obtain⟨PS,TW,rfl,_⟩:=ak gP)
  all_goals
   clear eu gP;go_wp2_with fail
   go_meet
   exact⟨_,hm⟩
 case rest=>
  obtain⟨v7,hm,hu⟩:=hcut;have c2:=hm.cell.2.2.1;obtain⟨ao,cc,hv,_⟩:=ak hm.bG;dsimp only at c2 hv;rw [hv]at c2;have hlen:(m.bG++ [(a,b,s)]).length=m.bG.length+1:=by simp
  have HL:=fun(h48:48<m.bG.length+1)=>J6 hm 0(by dsimp only;omega)(by dsimp only;omega)((m.bG++ [(a,b,s)])[0]'(by omega))(List.getElem?_eq_getElem(by dsimp only;omega));rw [hlen]at c2;replace HL:=hide HL;have hl':=yh.out;clear yh HF hrow hcf hcm hc1 t0 t1 t2;by_cases h48:48<m.bG.length+1
  ·rw [if_pos h48]at hl';have h48':(48:Int)<(m.bG.length:Int)+1:=by omega
   have HL':=hide(HL.out h48);replace hl':=hide hl';clear hm HL;go_wp2_with fail
   refine Calls.mono HL'.out ?_;rintro e w3⟨rfl,hp⟩;have hfin:=MP.comp hu hp;clear hp hu HL';go_wp2
   go_returns
   exact⟨rfl,by rw [hl'.out];exact hfin⟩
  ·rw [if_neg h48]at hl';have h48':¬(48:Int)<(m.bG.length:Int)+1:=by omega
   have hfin:MP y m {m with bG:=m.bG++ [(a,b,s)]}w wc:=⟨_,hm,hu⟩;replace hl':=hide hl';clear hm HL hu;go_wp2
   go_returns
   exact⟨rfl,by rw [hl'.out];exact hfin⟩
structure MH where
 aI:Value
 bH:Value
 bI:Value
def zP(x:Ev×MH):List Value:=[.int .i64 x.1.node,.int .i64 x.1.err,.string(strOfNums(bn x.1.o.a_)),.bool x.1.o.aZ,x.2.aI,x.2.bH,x.2.bI]
def EvC(L:List(Ev×MH)):List Value:=L.flatMap zP
def EvB(v:MH)(k:Nat):Prop:=v.aI.ownBlock=some k∨v.bH.ownBlock=some k∨v.bI.ownBlock=some k
structure gH(b:Nat)(v:Value)(L:List(Ev×MH))(W:World):Prop where
 row:W.ownsRow b 54 7 v L.length(EvC L)
 out:∀x∈L,h_ b x.1.o.aH x.1.o.aR x.1.o.aN x.2.aI x.2.bH x.2.bI W
 ap:L.Pairwise fun x y=>∀k,EvB x.2 k→¬EvB y.2 k
theorem Aw(a b:List(Ev×MH)):EvC(a++b)=EvC a++EvC b:=by simp [EvC]
theorem h_.lt {b:Nat} {aH aR:List(Int×ByteArray)} {aN:List Int} {v:MH} {W:World}(h:h_ b aH aR aN v.aI v.bH v.bI W) {k:Nat}(hk:EvB v k):b≤k∧k<W.heap.size:=by
 rcases hk with hk|hk|hk
 ·exact h.aI.lt k hk
 ·exact h.bH.lt k hk
 ·exact h.bI.lt k hk
theorem ZK {L:List(Ev×MH)}(h:∀x∈L,x.2.aI.oneCell'=true∧x.2.bH.oneCell'=true∧x.2.bI.oneCell'=true):∀u∈EvC L,u.oneCell'=true:=by
 intro u hu;obtain⟨x,hx,hu⟩:=List.mem_flatMap.1 hu;obtain⟨h1,h2,h3⟩:=h x hx;simp only [zP,List.mem_cons,List.not_mem_nil,or_false]at hu;rcases hu with rfl|rfl|rfl|rfl|rfl|rfl|rfl<;>first|rfl|assumption
theorem row_one {W:World} {base e size n:Nat} {v:Value} {xs:List Value}(h:W.ownsRow base e size v n xs):v.oneCell'=true:=by
 rcases h.2 with⟨rfl,_⟩|⟨g,cap,cur,rfl,_⟩<;>rfl
theorem gH.one {b:Nat} {v:Value} {L:List(Ev×MH)} {W:World}(h:gH b v L W):∀u∈EvC L,u.oneCell'=true:=ZK fun x hx=>⟨row_one(h.out x hx).aI,row_one(h.out x hx).bH,row_one(h.out x hx).bI⟩
def evK:List Nat:=[54,77,56,195]
theorem gH.at {b:Nat} {v:Value} {L:List(Ev×MH)} {W W':World}(h:gH b v L W)(he:∀(k:Nat)(c:Array Value)(t:Nat),t∈evK→W.heap[k]?=some(Obj.cells c t(0,0))→W'.heap[k]?=W.heap[k]?):gH b v L W':=
 ⟨bD h.row fun k hk=>by
  obtain⟨c,hc⟩:=aP h.row hk;exact he k c 54(by decide)hc,fun x hx=>(h.out x hx).at fun k c t ht hk=>he k c t(by
   simp only [List.mem_cons,List.not_mem_nil,or_false]at ht;simp only [evK,List.mem_cons,List.not_mem_nil,or_false];rcases ht with rfl|rfl|rfl<;>decide)hk,h.ap⟩
theorem gH.nil(b:Nat)(W:World):gH b(.slice none 0 0) []W:=⟨⟨rfl,.inl⟨rfl,rfl⟩⟩,fun _ h=>(by cases h),List.Pairwise.nil⟩
theorem MM.notE {y:MG} {m:aK} {W:World}(h:MM y m W) {k:Nat} {c:Array Value} {t:Nat}(ht:t∈evK)(hk:W.heap[k]?=some(Obj.cells c t(0,0))):¬oz y m k:=h.not hk(by
 simp only [evK,List.mem_cons,List.not_mem_nil,or_false]at ht;rcases ht with rfl|rfl|rfl|rfl<;>decide)
theorem gH.mesh {b:Nat} {v:Value} {L:List(Ev×MH)} {y:MG} {m:aK} {W W':World}(h:gH b v L W)(hm:MM y m W)(hf:Fx(oz y m)W W'):gH b v L W':=h.at fun k _ _ ht hk=>hf.block k(aD hk)(hm.notE ht hk)
theorem h_.mesh {b:Nat} {aH aR:List(Int×ByteArray)} {aN:List Int} {aI bH bI:Value} {y:MG} {m:aK} {W W':World}(h:h_ b aH aR aN aI bH bI W)(hm:MM y m W)(hf:Fx(oz y m)W W'):h_ b aH aR aN aI bH bI W':=h.at fun k _ _ ht hk=>hf.block k(aD hk)(hm.notE(by
 simp only [List.mem_cons,List.not_mem_nil,or_false]at ht;simp only [evK,List.mem_cons,List.not_mem_nil,or_false];rcases ht with rfl|rfl|rfl<;>decide)hk)
theorem gH.later {b:Nat} {v:Value} {L:List(Ev×MH)} {W W':World}(h:gH b v L W)(hb:Below W.heap.size W W'):gH b v L W':=h.at fun k _ _ _ hk=>hb.block k(aD hk)
theorem gH.lower {b b':Nat} {v:Value} {L:List(Ev×MH)} {W:World}(h:gH b v L W)(hb:b'≤b):gH b' v L W:=⟨ownsRow_base_a h.row hb,fun x hx=>(h.out x hx).lower hb,h.ap⟩
theorem gH.append {b c:Nat} {v v2 v':Value} {L L2:List(Ev×MH)} {W W':World}(h:gH b v L W)(h2:gH c v2 L2 W)(hbc:b≤c)(hlt:∀x∈L,∀k,EvB x.2 k→k<c)(ho:W'.ownsRow b 54 7 v'(L.length+L2.length)(EvC L++EvC L2))(hg:W.grownBy W' v.ownBlock):gH b v'(L++L2)W':=by
 have hk:∀(k:Nat)(cs:Array Value)(t:Nat),t∈([77,56,195]:List Nat)→W.heap[k]?=some(Obj.cells cs t(0,0))→W'.heap[k]?=W.heap[k]?:=fun k cs t ht hk=>hg.block k(aD hk)fun e=>by
  obtain⟨c',hc'⟩:=aP h.row e.symm;rw [hk]at hc';cases hc';exact absurd ht(by decide)
 refine⟨by rw [List.length_append,Aw];exact ho,fun x hx=> ?_,List.eU.2⟨h.ap,h2.ap,fun x hx z hz k e1 e2=> ?_⟩⟩
 ·rcases List.mem_append.1 hx with hx|hx
  ·exact(h.out x hx).at hk
  ·exact((h2.out x hx).lower hbc).at hk
 ·have q1:=hlt x hx k e1;have q2:=((h2.out z hz).lt e2).1;omega
theorem LA:(Tryz.prog.info? 54).map(fun i=>(i.zero,i.size,i.bytes))=some(some(.agg #[.int .i64 0,.int .i64 0,.string⟨#[]⟩,.bool false,.slice none 0 0,.slice none 0 0,.slice none 0 0]),7,112):=by kernel_rfl
theorem D8 {b:Nat} {W:World} {x:Ev×MH}(hb:b≤W.heap.size)(ho:h_ b x.1.o.aH x.1.o.aR x.1.o.aN x.2.aI x.2.bH x.2.bI W):gH b(.slice(some⟨W.heap.size,0,none⟩)1 1) [x](W.alloc(.cells(zP x).toArray 54)):=by
 refine⟨⟨rfl,.inr⟨W.heap.size,1,_,rfl,hb,heap_alloc_new _ _,Nat.le_refl _,by decide,rfl,?_⟩⟩,fun z hz=> ?_,List.gV _ _⟩
 ·simp [EvC,zP]
 ·rw [List.mem_singleton]at hz;subst hz;exact ho.later((Below.refl _ _).alloc(Nat.le_refl _)_)
theorem MM.call {y:MG} {m:aK} {W W':World}(h:MM y m W) {i:Nat} {x:SG} {s:bi} {z z':St} {o:Value}(h1:y.L[i]?=some x)(h2:m.S[i]?=some s)(hz:s.nd=some z)(c:Az x.N x.g z z' W o W'):
  ∃aI bH bI,o=iE z'.aY z'.aZ aI bH bI∧h_ W.heap.size z'.aH z'.aR z'.aN aI bH bI W'∧MP y m(m.put i {s with nd:=some z'})W W':=by
 obtain⟨g',dO,aI,bH,bI,rfl,nn,ht,r1,r2,r3,fx,sub⟩:=c;have hst:=h.st i x s h1 h2;obtain⟨n0,_⟩:=hst.nd z hz;have hB:¬Ft x.N x.g z x.B:=fun hk=>by
  obtain⟨o,ho,hK⟩:=n0.kind hk;rw [hst.blk]at ho;cases ho;exact hK.not(by decide)
 have hJ:∀k,x.jv.ownBlock=some k→¬Ft x.N x.g z k:=fun k hk hf=>by
  obtain⟨o,ho,hK⟩:=n0.kind hf;obtain⟨cc,hc⟩:=aP hst.row hk;rw [hc]at ho;cases ho;exact hK.not(by decide)
 have hN:x.N=x.N:=rfl;refine⟨aI,bH,bI,rfl,⟨r1,r2,r3⟩,?_⟩;have ht:=h.turn(W':=W')(x':={x with g:=g',TL:=dO})(s':={s with nd:=some z'})h1 h2(fx.mono fun k hk=> .inr(.inr⟨z,hz,hk⟩))⟨?_,hst.hl,?_,fun u hu=>by cases hu;exact⟨nn,ht⟩⟩rfl fun k hk=> ?_
 ·exact⟨_,ht.1,ht.2⟩
 ·rw [show ED {x with g:=g',TL:=dO} {s with nd:=some z'}=ED x s by
   unfold ED;rw [hz];rfl]
  exact(fx.block _(aD hst.blk)hB).trans hst.blk
 ·exact bD hst.row fun k hk=>fx.block k(hst.row.lt k hk).2(hJ k hk)
 ·rcases hk with hk|hk|⟨u,hu,hk⟩
  ·exact .inl(.inl hk)
  ·exact .inl(.inr(.inl hk))
  ·cases hu;rcases sub k hk with h|h
   ·exact .inl(.inr(.inr⟨z,hz,h⟩))
   ·exact .inr h
theorem MM.Zm {y:MG} {m:aK} {W W':World}(h:MM y m W) {i:Nat} {x:SG} {s s':bi}(h1:y.L[i]?=some x)(h2:m.S[i]?=some s)(c:mG x s s' W W'):MP y m(m.put i s')W W':=by
 obtain⟨x',b1,m1,f1,u1⟩:=c;have ht:=h.turn h1 h2 f1 m1 b1 u1;exact⟨_,ht.1,ht.2⟩
theorem MU.at {y y':MG} {m m':aK} {w w':World}(u:MU y m y' m' w w') {i:Nat} {x x':SG}(h1:y.L[i]?=some x)(h2:y'.L[i]?=some x'):x'.B=x.B:=by
 have e1:(y.L.map(·.B))[i]?=some x.B:=by rw [List.getElem?_map,h1];rfl
 have e2:(y'.L.map(·.B))[i]?=some x'.B:=by rw [List.getElem?_map,h2];rfl
 rw [←u.B,e2]at e1;exact Option.some.inj e1
def jq(m:aK)(i:Nat)(t:Int)(j:Nat):Bool:=(m.at' i).hrs.getD j false&&(decide(t=0)||decide(t=(m.at' j).addr))
def iP(m:aK)(i:Nat)(f:Int×ByteArray)(k:Nat):aK:=((List.range k).filter(jq m i f.1)).foldl(fun m j=>m.eG(i,j,f.2))m
theorem wN(m:aK)(i:Nat)(f:Int×ByteArray)(k:Nat):iP m i f(k+1)=if jq m i f.1 k then(iP m i f k).eG(i,k,f.2)else iP m i f k:=by
 unfold iP;rw [List.range_succ,List.filter_append,List.foldl_append];cases h:jq m i f.1 k<;>simp [h]
theorem oM(m:aK)(i:Nat)(f:Int×ByteArray):iP m i f m.S.length=m.bR i f:=rfl
theorem uT(i:Nat)(b:ByteArray):∀(l:List Nat)(m:aK),(l.foldl(fun m j=>m.eG(i,j,b))m).S=m.S∧(l.foldl(fun m j=>m.eG(i,j,b))m).now=m.now
 | [],m=>⟨rfl,rfl⟩
 |a::l,m=>by
  rw [List.foldl_cons];exact uT i b l(m.eG(i,a,b))
theorem nR(m:aK)(i:Nat)(f:Int×ByteArray)(k:Nat):(iP m i f k).S=m.S∧(iP m i f k).now=m.now:=uT _ _ _ _
theorem eB {m:aK} {i:Nat} {s:bi}(h:m.S[i]?=some s):m.at' i=s:=by
 unfold aK.at';rw [List.getD_eq_getElem?_getD,h];rfl
theorem adC {m m':aK}(h:m'.S=m.S)(i:Nat):m'.at' i=m.at' i:=by
 unfold aK.at';rw [h]
theorem zo(m:aK)(f:Nat×Nat×ByteArray)(h:m.bG.length≤48):(m.eG f).bG.length≤48:=by
 unfold aK.eG;dsimp only;split
 ·rename_i h1;rw [List.mP];rw [List.length_append]at h1 ⊢;simp only [List.length_cons,List.length_nil]at h1 ⊢;omega
 ·rename_i h1;omega
theorem Cg(i:Nat)(b:ByteArray):∀(l:List Nat)(m:aK),m.bG.length≤48→(l.foldl(fun m j=>m.eG(i,j,b))m).bG.length≤48
 | [],_,h=>h
 |a::l,m,h=>by
  rw [List.foldl_cons];exact Cg i b l _(zo m _ h)
theorem yK(m:aK)(i:Nat)(f:Int×ByteArray)(k:Nat)(h:m.bG.length≤48):(iP m i f k).bG.length≤48:=Cg _ _ _ _ h
end Go.Proofs.YtakaadcpaeiccabGreat
