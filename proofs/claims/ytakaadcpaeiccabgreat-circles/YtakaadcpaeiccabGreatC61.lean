import Derived.Test.YtakaadcpaeiccabGreatC60
set_option maxHeartbeats 8000000
set_option maxRecDepth 100000
namespace Go.Proofs.YtakaadcpaeiccabGreat
open Go.RowKit Go.Maps
theorem jR {m:aK} {a:Int}(h:m.has a=true):∃i:Nat,a=i∧i<m.S.length:=by
 unfold aK.has at h;rw [Bool.and_eq_true,tN,tN]at h;exact⟨a.toNat,(Int.toNat_of_nonneg h.1).symm,by omega⟩
theorem kR {m:aK} {a:Int}(h:m.runs a=true):∃i:Nat,a=i∧i<m.S.length:=jR(Bool.and_eq_true_iff.1 h).1
theorem VF {κ:Int} {q:Nat} {now:Int} {s:bi}(h:Bg κ q now s):Bg κ q now s.stop:=
 ⟨h.addr,h.a0,h.jb,h.jl,Int.le_refl _,fun _ hz=>(by cases hz),fun _ hz=>(by cases hz)⟩
theorem Vq {κ:Int} {q:Nat} {now:Int} {s:bi}(h:Bg κ q now s)(n:Int):Bg κ q now {s with tears:=true,whole:=max 0 n}:=
 ⟨h.addr,h.a0,h.jb,h.jl,Int.le_max_left _ _,fun z hz=>(h.nd z hz).up(Int.le_refl _)(Nat.le_refl _)(Int.le_refl _)rfl,h.jn⟩
theorem iC.put' {κ:Int} {q:Nat} {m:aK}(h:iC κ q m)(i:Nat) {s:bi}(hs:Bg κ q m.now s):iC κ q(m.put i s):=by
 refine⟨by rw [(gK _ _ _).1,List.length_set];exact h.n,h.bG,h.now,fun u hu=> ?_⟩;rw [(gK _ _ _).1]at hu;rcases List.mem_or_eq_of_mem_set hu with hu|rfl
 ·exact h.st u hu
 ·exact hs
theorem WI {κ:Int} {q:Nat} {m:aK}(h:iC κ q m)(a b:Nat)(ha:a<m.S.length)(hb:b<m.S.length)(on:Bool):iC κ q(m.link a b on):=by
 have hs:∀(m:aK),iC κ q m→∀c,c<m.S.length→∀L:List Bool,iC κ q(m.put c {m.at' c with hrs:=L}):=fun m hm c hc L=>by
  refine hm.put' c ?_;have h2:=hm.at(List.getElem?_eq_getElem hc);rw [←eB(List.getElem?_eq_getElem hc)]at h2;exact⟨h2.addr,h2.a0,h2.jb,h2.jl,h2.wh,fun z hz=>(h2.nd z hz).up(Int.le_refl _)(Nat.le_refl _)(Int.le_refl _)rfl,h2.jn⟩
 unfold aK.link;split
 ·exact h
 ·exact hs _(hs m h a ha _)b(by rw [(gK _ _ _).1,List.length_set];exact hb)_
@[reducible] def SBo (G g i B D : Nat) (now : Int) (sv : Value) (W : World) : Prop :=
 (W.cell?⟨G,0,none⟩=some(.int .u64 now)∧W.cell?⟨G,1,none⟩=some sv∧W.cell?⟨g,i,none⟩=some(.pointer(some⟨B,0,none⟩))∧W.cell?⟨D,1,none⟩=some(.int .i64 i))∧G<W.heap.size∧g<W.heap.size∧D<W.heap.size
theorem SBo.keep {G g i B D:Nat} {now:Int} {sv:Value} {W W':World}(h:SBo G g i B D now sv W)(hz:W.heap.size≤W'.heap.size)(hb:∀k,k=G∨k=g∨k=D→W'.heap[k]?=W.heap[k]?):SBo G g i B D now sv W':=by
 obtain⟨⟨c0,c1,c2,c3⟩,h1,h2,h3⟩:=h;exact⟨⟨(World.cell?_of_block(a:=⟨G,0,none⟩)(hb _(.inl rfl))).trans c0,(World.cell?_of_block(a:=⟨G,1,none⟩)(hb _(.inl rfl))).trans c1,(World.cell?_of_block(a:=⟨g,i,none⟩)(hb _(.inr(.inl rfl)))).trans c2,(World.cell?_of_block(a:=⟨D,1,none⟩)(hb _(.inr(.inr rfl)))).trans c3⟩,Nat.lt_of_lt_of_le h1 hz,Nat.lt_of_lt_of_le h2 hz,Nat.lt_of_lt_of_le h3 hz⟩
theorem afw {y:MG} {m:aK} {w:World}(h:MM y m w) {κ:Int} {q:Nat}(hok:iC κ q m)(Gg:0≤κ∧κ≤90000000000)(hq:q≤4990)(fq:m.now+60000≤4611686018427387904)(hfl:qa m)(o:Op)(ht:o.dS=8→o.txt.size≤65536)(hbt:∀i:Nat,o.a=i→i<m.S.length→(m.at' i).nd=none→EC(m.at' i)m.now∧Bn κ q(m.put i {m.at' i with nd:=some(St.new(m.at' i).addr(m.at' i).aY m.now)})i(St.new(m.at' i).addr(m.at' i).aY m.now)):
  Calls Tryz.prog 11 #[.pointer(some⟨y.G,0,none⟩),UR o]w fun e w'=>iV y m(m.step o).1(m.step o).2 w.heap.size w e w'∧iC(κ+1000000)(q+1)(m.step o).1:=by
 have hb0:Below w.heap.size w(w.alloc(.cells #[.int .i64 o.dS,.int .i64 o.a,.int .i64 o.b,.int .i64 o.n,.bool o.on,.string o.txt]28)):=(Below.refl _ _).alloc(Nat.le_refl _)_;have hC:=heap_alloc_new w(.cells #[.int .i64 o.dS,.int .i64 o.a,.int .i64 o.b,.int .i64 o.n,.bool o.on,.string o.txt]28);have h1:=h.later hb0;have HM:=hide fun W(hW:MM y m W)=>adK hW o;have hstep:∀r,m.may o=true→r=(if o.dS=1 then(m.link o.a.toNat o.b.toNat o.on,[])else if o.dS=2 then m.send o.a.toNat o.b.toNat o.txt else if o.dS=3 then m.tick o.n else if o.dS=4∨o.dS=5∨o.dS=6∨o.dS=7 then m.flight o else if o.dS=8 then m.hear o.a.toNat o.b.toNat o.txt else if o.dS=9 then(m.put o.a.toNat(m.at' o.a.toNat).stop,[])else if o.dS=10 then(m.put o.a.toNat {m.at' o.a.toNat with tears:=true,whole:=max 0 o.n},[])else if o.dS=11 then m.JK o.a.toNat else(m,[]))→m.step o=r:=by
  intro r hm hr;rw [hr];unfold aK.step;rw [if_neg(by rw [hm];decide)]
 cases l_:m.may o with
 |false=>
  have ho:m.step o=(m,[⟨0,5,Ot.none⟩]):=by
   unfold aK.step;rw [if_pos(by rw [l_];rfl)]
  rw [ho];have hfin:Hid(∀wc,Below w.heap.size w wc→iV y m m [⟨0,5,Ot.none⟩]w.heap.size w(.returned(.slice(some⟨wc.heap.size,0,none⟩)1 1))(wc.alloc(.cells #[.int .i64 0,.int .i64 5,.string⟨#[]⟩,.bool false,.slice none 0 0,.slice none 0 0,.slice none 0 0]54))∧iC(κ+1000000)(q+1)m):=by
   intro wc hb;have hev:=D8(b:=w.heap.size)(W:=wc)(x:=(⟨0,5,Ot.none⟩,⟨.slice none 0 0,.slice none 0 0,.slice none 0 0⟩))hb.size⟨⟨rfl,.inl⟨rfl,rfl⟩⟩,⟨rfl,.inl⟨rfl,rfl⟩⟩,⟨rfl,.inl⟨rfl,rfl⟩⟩⟩;exact⟨⟨_,_,rfl,rfl,hev,(MP.refl h).post(hb.alloc hb.size _)⟩,hok.up(by omega)(Nat.le_succ _)⟩
  rw [l_]at HM;obtain⟨dS,a,b,n,on,txt⟩:=o;unfold UR at HM ⊢;dsimp only at hb0 hC h1 HM ⊢;clear hstep hok hfl h ho hbt;go_enter Tryz.func11,Tryz.ntmps11
  go_upto_region 1 with(fail)
  generalize World.alloc _ _=W1 at hb0 hC h1 ⊢;have Tk:=aD hC;have t0:W1.cell?⟨w.heap.size,0,none⟩=some(.int .i64 dS):=cell_of_row _ _ 0 _ _ _ hC;have t1:W1.cell?⟨w.heap.size,1,none⟩=some(.int .i64 a):=cell_of_row _ _ 1 _ _ _ hC;have t2:W1.cell?⟨w.heap.size,2,none⟩=some(.int .i64 b):=cell_of_row _ _ 2 _ _ _ hC;have t3:W1.cell?⟨w.heap.size,3,none⟩=some(.int .i64 n):=cell_of_row _ _ 3 _ _ _ hC;have t4:W1.cell?⟨w.heap.size,4,none⟩=some(.bool on):=cell_of_row _ _ 4 _ _ _ hC;have t5:W1.cell?⟨w.heap.size,5,none⟩=some(.string txt):=cell_of_row _ _ 5 _ _ _ hC;go_upto_region 2 with(go_at_call 28;refine(HM.out W1 h1).mono ?_;rintro e w2⟨rfl,hb2⟩)
  have hfn:=hide(hfin.out _(hb0.trans(hb2.mono(Nat.le_of_lt Tk))));clear hfin HM hb0 hb2 hC t0 t1 t2 t3 t4 t5;go_wp2
  go_ret
  exact hfn.out
 |true=>
  rw [l_]at HM;obtain⟨dS,a,b,n,on,txt⟩:=o;unfold UR at HM ⊢;dsimp only at hb0 hC h1 HM ht hstep hbt ⊢;replace ht:=hide ht;have hstep:=fun r=>hstep r l_;obtain⟨r,hr⟩:∃r,m.step⟨dS,a,b,n,on,txt⟩=r:=⟨_,rfl⟩;rw [hr]at hstep ⊢;clear hr;go_enter Tryz.func11,Tryz.ntmps11
  go_upto_region 1 with(fail)
  generalize World.alloc _ _=W1 at hb0 hC h1 ⊢;have Tk:=aD hC;have t0:W1.cell?⟨w.heap.size,0,none⟩=some(.int .i64 dS):=cell_of_row _ _ 0 _ _ _ hC;have t1:W1.cell?⟨w.heap.size,1,none⟩=some(.int .i64 a):=cell_of_row _ _ 1 _ _ _ hC;have t2:W1.cell?⟨w.heap.size,2,none⟩=some(.int .i64 b):=cell_of_row _ _ 2 _ _ _ hC;have t3:W1.cell?⟨w.heap.size,3,none⟩=some(.int .i64 n):=cell_of_row _ _ 3 _ _ _ hC;have t4:W1.cell?⟨w.heap.size,4,none⟩=some(.bool on):=cell_of_row _ _ 4 _ _ _ hC;have t5:W1.cell?⟨w.heap.size,5,none⟩=some(.string txt):=cell_of_row _ _ 5 _ _ _ hC;replace l_:=hide l_;replace hstep:=hide hstep;go_upto_region 3 with(go_at_call 28;refine(HM.out W1 h1).mono ?_;rintro e w2⟨rfl,hb2⟩)
  have hC2:=(hb2.block _ Tk).trans hC;clear t0 t1 t2 t3 t4 t5;have t0:w2.cell?⟨w.heap.size,0,none⟩=some(.int .i64 dS):=cell_of_row _ _ 0 _ _ _ hC2;have t1:w2.cell?⟨w.heap.size,1,none⟩=some(.int .i64 a):=cell_of_row _ _ 1 _ _ _ hC2;have t2:w2.cell?⟨w.heap.size,2,none⟩=some(.int .i64 b):=cell_of_row _ _ 2 _ _ _ hC2;have t3:w2.cell?⟨w.heap.size,3,none⟩=some(.int .i64 n):=cell_of_row _ _ 3 _ _ _ hC2;have t4:w2.cell?⟨w.heap.size,4,none⟩=some(.bool on):=cell_of_row _ _ 4 _ _ _ hC2;have t5:w2.cell?⟨w.heap.size,5,none⟩=some(.string txt):=cell_of_row _ _ 5 _ _ _ hC2;have hm2:=h1.later hb2;have hb3:=hb0.trans(hb2.mono(Nat.le_of_lt Tk));have HF:=hide fun(e:Ending)w4(hp:iV y m r.1 r.2 w2.heap.size w2 e w4)=>(show iV y m r.1 r.2 w.heap.size w e w4 by
   obtain⟨v,L,rfl,hL,hev,hmp⟩:=hp;exact⟨v,L,rfl,hL,hev.lower hb3.size,hmp.pre hb3⟩)
  have HE:=hide fun w4(he: []=r.2)(hp:MP y m r.1 w2 w4)=>(show iV y m r.1 r.2 w.heap.size w(.returned(.slice none 0 0))w4 from⟨_,[],rfl,he,gH.nil _ _,hp.pre hb3⟩);have HQ:=hide fun md(hk:iC κ q md)=>(show iC(κ+1000000)(q+1)md from hk.up(by omega)(Nat.le_succ _));clear HM hb0 hb2 hC h1 h Tk hb3;by_cases d1:dS=1
  ·subst d1;have hm:=l_.out;unfold aK.may at hm;dsimp only at hm;rw [if_pos rfl,Bool.and_eq_true]at hm;obtain⟨i,rfl,hi⟩:=jR hm.1;obtain⟨j,rfl,hj⟩:=jR hm.2;have er:=(hstep.out(m.link i j on,[])(by rw [if_pos rfl];simp only [Int.toNat_natCast])).symm;have Ij:m.link i j on=r.1:=congrArg Prod.fst er;have YV:=hide(show []=r.2 from congrArg Prod.snd er);have HX:=abH hm2 i j hi hj hok.n on;have hk:=HQ.out _(WI hok i j hi hj on);rw [Ij]at HX hk;replace HX:=hide HX;replace hk:=hide hk;clear hm l_ hstep hok hfl hbt hm2 HF HQ er Ij;go_wp2_with(go_at_call 29;refine HX.out.mono ?_;rintro e w4⟨rfl,hmp⟩;have hfin:=hide(HE.out _ YV.out hmp);clear hmp)
   go_ret
   exact⟨hfin.out,hk.out⟩
  by_cases d2:dS=2
  ·subst d2;have hm:=l_.out;unfold aK.may at hm;dsimp only at hm;rw [if_neg(by decide),if_pos(.inl rfl),Bool.and_eq_true]at hm;obtain⟨i,rfl,hi⟩:=kR hm.1;obtain⟨j,rfl,hj⟩:=jR hm.2;have er:=(hstep.out(m.send i j txt)(by rw [if_neg(by decide),if_pos rfl];simp only [Int.toNat_natCast])).symm;have HX:=abG hm2 hok Gg(by omega)i j hi hj txt hm.1;rw [er]at HX;replace HX:=hide HX;clear hm l_ hstep hok hfl hbt hm2 HE HQ er;go_wp2_with(go_at_call 30;refine HX.out.mono ?_;rintro e w4⟨⟨v,L,rfl,hL,hev,hmp⟩,hmk⟩;have hfin:=hide(HF.out _ _⟨v,L,rfl,hL,hev,hmp⟩);replace hmk:=hide(hmk.up(show κ+200000≤κ+1000000 by omega)(Nat.le_refl _));clear hL hev hmp)
   go_ret
   exact⟨hfin.out,hmk.out⟩
  by_cases d3:dS=3
  ·subst d3;have er:=(hstep.out(m.tick n)(by rw [if_neg(by decide),if_neg(by decide),if_pos rfl])).symm;have HX:=abF hm2 hok Gg hq n fq;rw [er]at HX;replace HX:=hide HX;clear l_ hstep hok hfl hbt hm2 HE HQ er;go_wp2_with(go_at_call 31;refine HX.out.mono ?_;rintro e w4⟨⟨v,L,rfl,hL,hev,hmp⟩,hmk⟩;have hfin:=hide(HF.out _ _⟨v,L,rfl,hL,hev,hmp⟩);replace hmk:=hide(hmk.up(Int.le_refl _)(Nat.le_succ q));clear hL hev hmp)
   go_ret
   exact⟨hfin.out,hmk.out⟩
  by_cases d4:dS=4∨dS=5∨dS=6∨dS=7
  ·have er:=(hstep.out(m.flight⟨dS,a,b,n,on,txt⟩)(by rw [if_neg d1,if_neg d2,if_neg d3,if_pos d4])).symm;have HX:=UB hm2 hok Gg hfl⟨dS,a,b,n,on,txt⟩d4;rw [er]at HX;unfold UR at HX;dsimp only at HX;replace HX:=hide HX;clear l_ hstep hok hfl hbt hm2 HE HQ er d1 d2 d3;rcases d4 with rfl|rfl|rfl|rfl;all_goals
    go_wp2_with(go_at_call 32;refine HX.out.mono ?_;rintro e w4⟨⟨v,L,rfl,hL,hev,hmp⟩,hmk⟩;have hfin:=hide(HF.out _ _⟨v,L,rfl,hL,hev,hmp⟩);replace hmk:=hide(hmk.up(show κ+200000≤κ+1000000 by omega)(Nat.le_succ q));clear hL hev hmp)
    go_ret
    exact⟨hfin.out,hmk.out⟩
  by_cases d8:dS=8
  ·subst d8;have hm:=l_.out;unfold aK.may at hm;dsimp only at hm;rw [if_neg(by decide),if_pos(.inr rfl),Bool.and_eq_true]at hm;obtain⟨i,rfl,hi⟩:=kR hm.1;obtain⟨j,rfl,hj⟩:=jR hm.2;have er:=(hstep.out(m.hear i j txt)(by rw [if_neg(by decide),if_neg(by decide),if_neg(by decide),if_neg(by decide),if_pos rfl];simp only [Int.toNat_natCast])).symm;have HX:=Uz hm2 hok Gg i j hi hj txt(ht.out rfl);rw [er]at HX;replace HX:=hide HX;clear hm l_ hstep hok hfl hbt hm2 HE HQ er d4;go_wp2_with(go_at_call 33;refine HX.out.mono ?_;rintro e w4⟨⟨v,L,rfl,hL,hev,hmp⟩,hmk⟩;have hfin:=hide(HF.out _ _⟨v,L,rfl,hL,hev,hmp⟩);replace hmk:=hide(hmk.up(show κ+200000≤κ+1000000 by omega)(Nat.le_succ q));clear hL hev hmp)
   go_ret
   exact⟨hfin.out,hmk.out⟩
  by_cases d9:dS=9
  ·subst d9;have hm:=l_.out;unfold aK.may at hm;dsimp only at hm;rw [if_neg(by decide),if_neg(by decide),if_pos(.inl rfl)]at hm;obtain⟨i,rfl,hi⟩:=kR hm;have er:=(hstep.out(m.put i(m.at' i).stop,[])(by rw [if_neg(by decide),if_neg(by decide),if_neg(by decide),if_neg(by decide),if_neg(by decide),if_pos rfl];simp only [Int.toNat_natCast])).symm;have Ij:m.put i(m.at' i).stop=r.1:=congrArg Prod.fst er;have YV:=hide(show []=r.2 from congrArg Prod.snd er);obtain⟨x,s,g,c,e1,e2,e3,e4,p0⟩:=hm2.get hi;rw [e3]at Ij;have hmd:=hm2.drew;have HX:=hide((Eo(hmd.st i x s e1 e2)).mono fun e w4 hp=>show e=.returned(.tuple #[])∧MP y m r.1 w2 w4 by
    rw [←Ij];exact⟨hp.1,(hmd.Zm e1 e2 hp.2).pre(Below.refl _ _).drew⟩)
   have hk:=HQ.out _(hok.put' i(VF(hok.at e2)));rw [Ij]at hk;replace hk:=hide hk;obtain⟨_,q1,_,_⟩:=hm2.cell;rw [e4]at q1;have hin:(i:Int)<(m.S.length:Int):=by omega
   clear hm l_ hstep hok hfl hbt hm2 HF HQ er Ij d4 hmd e1 e2 e3 e4;go_upto_region 18 with(fail)
   go_region_with(go_at_call 34;refine HX.out.mono ?_;rintro e w4⟨rfl,hmp⟩;have hfin:=hide(HE.out _ YV.out hmp);clear hmp)
   all_goals
    go_wp2
    go_ret
    exact⟨hfin.out,hk.out⟩
  by_cases d10:dS=10
  ·subst d10;have hm:=l_.out;unfold aK.may at hm;dsimp only at hm;rw [if_neg(by decide),if_neg(by decide),if_pos(.inr rfl)]at hm;obtain⟨i,rfl,hi⟩:=kR hm;have er:=(hstep.out(m.put i {m.at' i with tears:=true,whole:=max 0 n},[])(by rw [if_neg(by decide),if_neg(by decide),if_neg(by decide),if_neg(by decide),if_neg(by decide),if_neg(by decide),if_pos rfl];simp only [Int.toNat_natCast])).symm;have Ij:m.put i {m.at' i with tears:=true,whole:=max 0 n}=r.1:=congrArg Prod.fst er;have YV:=hide(show []=r.2 from congrArg Prod.snd er);obtain⟨x,s,g,c,e1,e2,e3,e4,p0⟩:=hm2.get hi;rw [e3]at Ij;have hmd:=hm2.drew;have HX:=hide((X9(hmd.st i x s e1 e2)n).mono fun e w4 hp=>show e=.returned(.tuple #[])∧MP y m r.1 w2 w4 by
    rw [←Ij];exact⟨hp.1,(hmd.Zm e1 e2 hp.2).pre(Below.refl _ _).drew⟩)
   have hk:=HQ.out _(hok.put' i(Vq(hok.at e2)n));rw [Ij]at hk;replace hk:=hide hk;obtain⟨_,q1,_,_⟩:=hm2.cell;rw [e4]at q1;have hin:(i:Int)<(m.S.length:Int):=by omega
   clear hm l_ hstep hok hfl hbt hm2 HF HQ er Ij d4 hmd e1 e2 e3 e4;go_upto_region 20 with(fail)
   go_region_with(go_at_call 35;refine HX.out.mono ?_;rintro e w4⟨rfl,hmp⟩;have hfin:=hide(HE.out _ YV.out hmp);clear hmp)
   all_goals
    go_wp2
    go_ret
    exact⟨hfin.out,hk.out⟩
  by_cases d11:dS=11
  ·subst d11;have hm:=l_.out;unfold aK.may at hm;dsimp only at hm;rw [if_neg(by decide),if_neg(by decide),if_neg(by decide),if_pos rfl,Bool.and_eq_true]at hm;obtain⟨i,rfl,hi⟩:=jR hm.1;obtain⟨x,s,g,c,e1,e2,e3,e4,p0⟩:=hm2.get hi;have hnd:(m.at' i).nd=none:=by
    have h5:=hm.2;unfold aK.runs at h5;rw [hm.1,Int.toNat_natCast]at h5;cases hn:(m.at' i).nd with
    |none=>rfl
    |some v=>
     rw [hn]at h5;cases h5
   obtain⟨SV,hdk⟩:=hbt i rfl hi hnd;have er:=(hstep.out(m.JK i)(by rw [if_neg(by decide),if_neg(by decide),if_neg(by decide),if_neg(by decide),if_neg(by decide),if_neg(by decide),if_neg(by decide),if_pos rfl];simp only [Int.toNat_natCast])).symm;unfold aK.JK at er;rw [e3]at hnd SV hdk er;rw [Ad e2]at er;have hHB:=fun W(hW:mf x s W)=>Mq hW hnd m.now SV;obtain⟨z,hz⟩:∃z,St.new s.addr s.aY m.now=z:=⟨_,rfl⟩;rw [hz]at hdk er hHB;obtain⟨m',hm'⟩:∃m',m.put i {s with nd:=some z}=m':=⟨_,rfl⟩;rw [hm']at hdk er;obtain⟨q0,q1,_,_⟩:=hm2.cell;rw [e4]at q1;have hin:(i:Int)<(m.S.length:Int):=by omega
   have hst:=hm2.st i x s e1 e2;have YS:=aD hm2.blk;have hgl:g<w2.heap.size:=World.block_lt_of_cell? _ _ p0;have hDl:w.heap.size<w2.heap.size:=World.block_lt_of_cell? _ _ t1;have hnF:∀k,k=y.G∨k=g∨k=w.heap.size→¬kJ x s k:=by
    intro k hk hF;obtain⟨o,ho,hK⟩:=hst.kind hF;rcases hk with rfl|rfl|rfl
    ·rw [hm2.blk]at ho;cases ho;exact hK.not(by decide)
    ·obtain⟨cc,hc⟩:=aP hm2.yD(k:=k)(by rw [e4];rfl);rw [hc]at ho;cases ho;exact hK.not(by decide)
    ·rw [hC2]at ho;cases ho;exact hK.not(by decide)
   have hS0:SBo y.G g i x.B w.heap.size m.now(.slice(some⟨g,0,none⟩)m.S.length c)w2:=⟨⟨q0,q1,p0,t1⟩,YS,hgl,hDl⟩;have hS:=hS0.keep(W':=w2.drew)(Nat.le_refl _)(fun _ _=>rfl);have hd1:Below w2.heap.size w2 w2.drew:=(Below.refl _ _).drew;have hmd:=hm2.drew;have HB2:=hide((hHB w2.drew(hmd.st i x s e1 e2)).mono fun e w4 hp=>show ∃aI bH bI y2,SBo y.G g i x.B w.heap.size m.now(.slice(some⟨g,0,none⟩)m.S.length c)w4∧e=.returned(iE z.aY z.aZ aI bH bI)∧h_ w2.heap.size z.aH z.aR z.aN aI bH bI w4∧w2.heap.size≤w4.heap.size∧MM y2 m' w4∧MU y m y2 m' w2 w4 by
    obtain⟨aI,bH,bI,he,hp,hor⟩:=hp;obtain⟨y2,h5,h6⟩:=hmd.Zm e1 e2 hp;rw [hm']at h5 h6;have h7:=hp;obtain⟨_,_,_,hfx,_⟩:=h7;have hsz:=hfx.size;exact⟨aI,bH,bI,y2,hS.keep hsz fun k hk=>hfx.block k(by rcases hk with rfl|rfl|rfl<;>assumption)(hnF k hk),he,hor,h6.fx.size,h5,h6.pre hd1⟩)
   obtain⟨B,hB⟩:∃B,x.B=B:=⟨_,rfl⟩;rw [hB]at HB2 hS;clear hm l_ hstep hok hfl hbt hm2 HE HQ d4 hmd e1 e2 e3 e4 SV hHB hz hm' hst YS hgl hDl hnF hS0 hB hd1;go_upto_region 22 with(fail)
   clear q0 q1 p0 t0 t1 t2 t3 t4 t5 hC2;refine jI(SBo y.G g i B w.heap.size m.now(.slice(some⟨g,0,none⟩)m.S.length c)) [16,17](by kernel_rfl)hS(fun hHeld=> ?_);refine aB(i:=0)(v:=?hv0)rfl(by kernel_rfl)(by kernel_rfl)(by kernel_rfl)(by kernel_rfl)(fun _ _ _ h=>h)(Or.inl⟨by rfl,?hy0⟩)hHeld ?hr0
   case hy0=>
    rintro w5⟨⟨q0,q1,p0,t1⟩,_⟩;go_simp
    try with_reducible rfl
   try simp only [Act.put,List.setIfInBounds_toArray,List.set_cons_zero,List.set_cons_succ]
   refine aB(i:=1)(v:=?hv1)rfl(by kernel_rfl)(by kernel_rfl)(by kernel_rfl)(by kernel_rfl)(fun _ _ _ h=>h)(Or.inl⟨by rfl,?hy1⟩)hHeld ?hr1
   case hy1=>
    rintro w5⟨⟨q0,q1,p0,t1⟩,_⟩;go_simp
    try with_reducible rfl
   try simp only [Act.put,List.setIfInBounds_toArray,List.set_cons_zero,List.set_cons_succ]
   refine aB(i:=2)(v:=?hv2)rfl(by kernel_rfl)(by kernel_rfl)(by kernel_rfl)(by kernel_rfl)(fun _ _ _ h=>h)(Or.inl⟨by rfl,?hy2⟩)hHeld ?hr2
   case hy2=>
    rintro w5⟨⟨q0,q1,p0,t1⟩,_⟩;go_simp
    try with_reducible rfl
   try simp only [Act.put,List.setIfInBounds_toArray,List.set_cons_zero,List.set_cons_succ]
   refine aB(i:=3)(v:=?hv3)rfl(by kernel_rfl)(by kernel_rfl)(by kernel_rfl)(by kernel_rfl)(fun _ _ _ h=>h)(Or.inl⟨by rfl,?hy3⟩)hHeld ?hr3
   case hy3=>
    rintro w5⟨⟨q0,q1,p0,t1⟩,_⟩;go_simp
    try with_reducible rfl
   try simp only [Act.put,List.setIfInBounds_toArray,List.set_cons_zero,List.set_cons_succ]
   refine aB(i:=4)(v:=?hv4)rfl(by kernel_rfl)(by kernel_rfl)(by kernel_rfl)(by kernel_rfl)(fun _ _ _ h=>h)(Or.inl⟨by rfl,?hy4⟩)hHeld ?hr4
   case hy4=>
    rintro w5⟨⟨q0,q1,p0,t1⟩,_⟩;go_simp
    try with_reducible rfl
   try simp only [Act.put,List.setIfInBounds_toArray,List.set_cons_zero,List.set_cons_succ]
   refine aB(i:=5)(v:=?hv5)rfl(by kernel_rfl)(by kernel_rfl)(by kernel_rfl)(by kernel_rfl)(fun _ _ _ h=>h)(Or.inl⟨by rfl,?hy5⟩)hHeld ?iq
   case hy5=>
    rintro w5⟨⟨q0,q1,p0,t1⟩,_⟩;go_simp
    try with_reducible rfl
   try simp only [Act.put,List.setIfInBounds_toArray,List.set_cons_zero,List.set_cons_succ]
   refine aB(i:=6)(v:=?hv6)rfl(by kernel_rfl)(by kernel_rfl)(by kernel_rfl)(by kernel_rfl)(fun _ _ _ h=>h)(Or.inl⟨by rfl,?hy6⟩)hHeld ?lw
   case hy6=>
    rintro w5⟨⟨q0,q1,p0,t1⟩,_⟩;go_simp
    try with_reducible rfl
   try simp only [Act.put,List.setIfInBounds_toArray,List.set_cons_zero,List.set_cons_succ]
   refine aB(i:=7)(v:=?hv7)rfl(by kernel_rfl)(by kernel_rfl)(by kernel_rfl)(by kernel_rfl)(fun _ _ _ h=>h)(Or.inl⟨by rfl,?hy7⟩)hHeld ?pO
   case hy7=>
    rintro w5⟨⟨q0,q1,p0,t1⟩,_⟩;go_simp
    try with_reducible rfl
   try simp only [Act.put,List.setIfInBounds_toArray,List.set_cons_zero,List.set_cons_succ]
   refine aB(i:=8)(v:=?hv8)rfl(by kernel_rfl)(by kernel_rfl)(by kernel_rfl)(by kernel_rfl)(fun _ _ _ h=>h)(Or.inl⟨by rfl,?hy8⟩)hHeld ?dJ
   case hy8=>
    rintro w5⟨⟨q0,q1,p0,t1⟩,_⟩;go_simp
    try with_reducible rfl
   try simp only [Act.put,List.setIfInBounds_toArray,List.set_cons_zero,List.set_cons_succ]
   refine aB(i:=9)(v:=?hv9)rfl(by kernel_rfl)(by kernel_rfl)(by kernel_rfl)(by kernel_rfl)(fun _ _ _ h=>h)(Or.inl⟨by rfl,?hy9⟩)hHeld ?fZ
   case hy9=>
    rintro w5⟨⟨q0,q1,p0,t1⟩,_⟩;go_simp
    try with_reducible rfl
   try simp only [Act.put,List.setIfInBounds_toArray,List.set_cons_zero,List.set_cons_succ]
   refine aB(i:=10)(v:=?aei)rfl(by kernel_rfl)(by kernel_rfl)(by kernel_rfl)(by kernel_rfl)(fun _ _ _ h=>h)(Or.inl⟨by rfl,?Z8⟩)hHeld ?aev
   case Z8=>
    rintro w5⟨⟨q0,q1,p0,t1⟩,_⟩;go_simp
    try with_reducible rfl
   try simp only [Act.put,List.setIfInBounds_toArray,List.set_cons_zero,List.set_cons_succ]
   refine aB(i:=11)(v:=?acg)rfl(by kernel_rfl)(by kernel_rfl)(by kernel_rfl)(by kernel_rfl)(fun _ _ _ h=>h)(Or.inl⟨by rfl,?RY⟩)hHeld ?acp
   case RY=>
    rintro w5⟨⟨q0,q1,p0,t1⟩,_⟩;go_simp
    try with_reducible rfl
   try simp only [Act.put,List.setIfInBounds_toArray,List.set_cons_zero,List.set_cons_succ]
   refine aB(i:=12)(v:=?acf)rfl(by kernel_rfl)(by kernel_rfl)(by kernel_rfl)(by kernel_rfl)(fun _ _ _ h=>h)(Or.inl⟨by rfl,?RX⟩)hHeld ?aco
   case RX=>
    rintro w5⟨⟨q0,q1,p0,t1⟩,_⟩;go_simp
    try with_reducible rfl
   try simp only [Act.put,List.setIfInBounds_toArray,List.set_cons_zero,List.set_cons_succ]
   refine aB(i:=13)(v:=?ace)rfl(by kernel_rfl)(by kernel_rfl)(by kernel_rfl)(by kernel_rfl)(fun _ _ _ h=>h)(Or.inl⟨by rfl,?RV⟩)hHeld ?acn
   case RV=>
    rintro w5⟨⟨q0,q1,p0,t1⟩,_⟩;go_simp
    try with_reducible rfl
   try simp only [Act.put,List.setIfInBounds_toArray,List.set_cons_zero,List.set_cons_succ]
   refine aB(i:=14)(v:=?aeh)rfl(by kernel_rfl)(by kernel_rfl)(by kernel_rfl)(by kernel_rfl)(fun _ _ _ h=>h)(Or.inl⟨by rfl,?Z7⟩)hHeld ?aeu
   case Z7=>
    rintro w5⟨⟨q0,q1,p0,t1⟩,_⟩;go_simp
    try with_reducible rfl
   try simp only [Act.put,List.setIfInBounds_toArray,List.set_cons_zero,List.set_cons_succ]
   refine df(i:=15)(by kernel_rfl)rfl(fun K2 hK2=> ?_);go_simp
   go_at_call 37
   refine HB2.out.mono ?_;rintro e w4⟨aI,bH,bI,y2,hS2,rfl,hor,hsz,A_,UV⟩;have UG:=Eu A_ hdk aI bH bI w2.heap.size hor hsz;rw [UV.G]at UG;go_simp
   refine hK2.out _ _(fun _=>hS2) ?_;clear hK2 K2 HB2;refine df(i:=16)(by kernel_rfl)rfl(fun K3 hK3=> ?_);replace UG:=hide UG;replace UV:=hide UV;replace hdk:=hide hdk;clear hor A_ hS2 hHeld hS;go_simp
   go_at_call 36
   refine UG.out.mono ?_;rintro e w6⟨v,L,rfl,hL,hev,y3,DI,Z9⟩;have hfin:=HF.out(.returned v)w6(by rw [←er];exact⟨v,L,rfl,hL,hev,y3,DI,UV.out.trans Z9⟩);have hk:=(Eb hdk.out).up(show κ+100000≤κ+1000000 by omega)(Nat.le_succ q);rw [er]at hk;have Oo:=hide(And.intro hfin hk);clear hL hev DI Z9 UG UV hdk HF hfin hk er;go_simp
   refine hK3.out _ _(fun h=>(h(by decide)).elim) ?_;clear hK3 K3;refine df(i:=17)(by kernel_rfl)rfl(fun K4 hK4=> ?_);go_simp
   refine hK4.out _ _(fun h=>(h(by decide)).elim) ?_;clear hK4 K4;refine jA(by kernel_rfl) ?_ _;go_wp2
   go_ret
   exact Oo.out
  ·have er:=(hstep.out(m,[])(by rw [if_neg d1,if_neg d2,if_neg d3,if_neg d4,if_neg d8,if_neg d9,if_neg d10,if_neg d11])).symm;have Ij:m=r.1:=congrArg Prod.fst er;have YV:=(show []=r.2 from congrArg Prod.snd er);have hfin:=HE.out w2 YV(by rw [←Ij];exact MP.refl hm2);have hk:=HQ.out _ hok;rw [Ij]at hk;have Oo:=hide(And.intro hfin hk);have d41:¬dS=4:=fun e=>d4(.inl e);have d42:¬dS=5:=fun e=>d4(.inr(.inl e));have d43:¬dS=6:=fun e=>d4(.inr(.inr(.inl e)));have d44:¬dS=7:=fun e=>d4(.inr(.inr(.inr e)));clear l_ hstep hok hfl hbt hm2 HF HQ HE er Ij YV d4 hk hfin;go_wp2
   go_ret
   exact Oo.out
theorem NQ(q own:Int)(f:Int→Option Int)(A:List Rt)(h:own<q):0<(bE q own f A).2.length:=by
 have h1:∀(A:List Rt)(st:(Int→Option Int)×List(Bool×Int×Int)),0<st.2.length→0<(A.foldl iY st).2.length:=by
  intro A
  induction A with
  |nil=>intro st hs;exact hs
  |cons y A ih=>
   intro st hs;rw [List.foldl_cons];refine ih _ ?_;unfold iY;split
   ·simp
   ·exact hs
 refine h1 A _ ?_;unfold o6;rw [if_pos h];exact Nat.succ_pos 0
theorem aaX {s:Int}(h:bg s):0<gr s:=by unfold bg gr at *;omega
theorem QE {me now:Int} {xs:List Int}(hbd:pW(jl xs)):0<(St.raw me xs now).write.a_.length:=by
 show 0<(([]:List(Bool×Int×Int))++(bE(gr((qb(jl xs)).getD 0))0 _ _).2).length;rw [List.nil_append];exact NQ _ _ _ _(aaX(Fw hbd))
theorem ab0 {me now:Int} {xs:List Int}(hbd:pW(jl xs)):(∀y∈(St.raw me xs now).A,y.Ok)∧(St.raw me xs now).A.length≤8:=by
 have hc:=Me hbd;have e:(St.raw me xs now).A=tY me((cmpL(jl xs)).take(cmpL(jl xs)).length):=by rw [List.take_length];rfl
 rw [e];refine⟨fun y hy=> ?_,KZ _ _ _⟩;obtain⟨j,x,_,hj,hp,rfl⟩:=Dj _ _ _ y hy;have hx1:x.1=false:=by
  unfold AC at hp;simp only [Bool.and_eq_true,Bool.not_eq_true']at hp;exact hp.1
 obtain⟨h1,h2⟩:=Rb hbd hc(List.mem_of_getElem? hj)hx1;exact KY h1 h2
theorem ZO {κ:Int} {q:Nat} {now:Int} {s:bi}(h:Bg κ q now s)(Gg:1≤κ)(fq:0≤now∧now≤4611686018427387904):Ye κ q now {s with nd:=some(St.new s.addr s.aY now)}(St.new s.addr s.aY now):=by
 have hbd:=RI h.jb;have hm:=KN h.addr hbd fq;obtain⟨hA,hl⟩:=ab0(me:=s.addr)(now:=now)hbd;have hi:=zw hm(by omega)rfl hA hl;have e:=aO(St.raw s.addr s.aY now);rw [St.tC];refine⟨RN hi(by omega),fun a ha=> ?_,e.me,by rw [e.now];exact Int.le_refl _,by rw [e.Q];exact Nat.zero_le _,by rw [e.A];exact hA,by rw [e.A];exact hl⟩;rw [e.Q]at ha;cases ha
theorem Dl {κ:Int} {q:Nat} {now:Int} {s:bi}(h:Bg κ q now s)(Gg:1≤κ)(fq:0≤now∧now≤4611686018427387904):G_ κ q now {s with nd:=some(St.new s.addr s.aY now)}(St.new s.addr s.aY now):=by
 have hbd:=RI h.jb;have hn:=QE(me:=s.addr)(now:=now)hbd;have hc:Kc 0(St.new s.addr s.aY now):=by
  rw [St.tC];exact zY(s:=St.raw s.addr s.aY now)rfl(.inr⟨rfl,hn⟩)
 have hnw:0<(St.new s.addr s.aY now).a_.length:=by
  rw [St.tC];unfold St.finish;split
  ·show 0<(St.cmp _).length;rw [yj];exact Nat.succ_pos _
  ·exact hn
 refine⟨h.addr,h.a0,h.jb,h.jl,h.wh,rfl,ZO h Gg fq,fun hr=> ?_,fun hr=>(hc.yes hr).1,?_⟩
 ·have hx:s.aY=[]:=by
   rw [St.tC]at hr;unfold St.finish at hr;split at hr
   ·cases hr
   ·have h5:decide(s.aY≠ [])=false:=hr;simpa using h5
  have:=hc.no hr;show 13 * (St.new s.addr s.aY now).cnt=((s.aY.length:Nat):Int)+_;rw [hx]at this ⊢;simp only [List.length_nil];omega
 ·cases hr:(St.new s.addr s.aY now).aZ with
  |false=>
   have:=hc.no hr;omega
  |true=>
   have:=hc.yes hr;omega
theorem TZ {κ:Int} {q:Nat} {m:aK}(hok:iC κ q m)(Gg:1≤κ) {i:Nat}(hi:i<m.S.length)(hfw:Yh(jl(m.at' i).aY)):EC(m.at' i)m.now∧Bn κ q(m.put i {m.at' i with nd:=some(St.new(m.at' i).addr(m.at' i).aY m.now)})i(St.new(m.at' i).addr(m.at' i).aY m.now):=by
 have hS:m.S[i]?=some(m.at' i):=by
  have h1:=List.getElem?_eq_getElem hi;rw [eB h1];exact h1
 have hs:=hok.at hS;refine⟨⟨hs.addr,hs.a0,hs.jb,by have:=hs.jl;omega,hfw,hok.now⟩,⟨by rw [(gK _ _ _).1,List.length_set];exact hok.n,hok.bG,hok.now,fun j u hu hne=> ?_,⟨{m.at' i with nd:=some(St.new(m.at' i).addr(m.at' i).aY m.now)},by rw [(gK _ _ _).1,List.getElem?_set_self hi],Dl hs Gg hok.now⟩⟩⟩;rw [(gK _ _ _).1,List.getElem?_set_ne(Ne.symm hne)]at hu;exact hok.at hu
end Go.Proofs.YtakaadcpaeiccabGreat
