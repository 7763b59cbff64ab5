import Derived.Test.YtakaadcpaeiccabGreatC17
set_option maxHeartbeats 4000000
set_option maxRecDepth 100000
namespace Go.Proofs.YtakaadcpaeiccabGreat
open Go.RowKit Go.Maps
theorem yG {W:World} {k:Nat} {o:Obj}(h:W.heap[k]?=some o):k<W.heap.size:=(Array.getElem?_eq_some_iff.1 h).1
theorem Jb {v:Value} {y:DataW Unit×List MemPlace}(h:Dt v=some y):∃c,v=wo c:=by
 obtain⟨m,h1,_⟩:=FR h;exact⟨m,h1⟩
theorem Tx {a b:Int×Int}(h:jr a=jr b):a=b:=by
 unfold jr at h;simp only [Value.agg.injEq,Array.mk.injEq,List.cons.injEq,Value.int.injEq,true_and,and_true]at h;exact Prod.ext h.1 h.2
def QB(B:Nat)(q:Int×Int)(W:World):Prop:=W.heap[B]?=some(fA q)
def Ho(B:Nat)(m:Int×Int)(W:World):Prop:=W.heap[B]?=some(l8 m)
theorem QB.cell {B:Nat} {q:Int×Int} {W:World}(h:QB B q W):W.cell?⟨B,0,none⟩=some(.int .u32 q.1)∧W.cell?⟨B,1,none⟩=some(.int .u32 q.2):=⟨cell_of_row _ _ 0 _ _ _ h,cell_of_row _ _ 1 _ _ _ h⟩
theorem QB.free {B:Nat} {q:Int×Int} {W:World}(h:QB B q W)(i:Nat):W.frozen?⟨B,i,none⟩=false:=by
 unfold World.frozen?;rw [show W.heap[(⟨B,i,none⟩:Addr).block]?=some(fA q)from h];try rfl
theorem Ho.cell {B:Nat} {q:Int×Int} {W:World}(h:Ho B q W):W.cell?⟨B,0,none⟩=some(.int .u64 q.1)∧W.cell?⟨B,1,none⟩=some(.int .i64 q.2):=⟨cell_of_row _ _ 0 _ _ _ h,cell_of_row _ _ 1 _ _ _ h⟩
theorem Ho.free {B:Nat} {q:Int×Int} {W:World}(h:Ho B q W)(i:Nat):W.frozen?⟨B,i,none⟩=false:=by
 unfold World.frozen?;rw [show W.heap[(⟨B,i,none⟩:Addr).block]?=some(l8 q)from h];try rfl
theorem QB.set {B:Nat} {q:Int×Int} {W:World}(h:QB B q W)(p:Int×Int):QB B p((W.setCell⟨B,0,none⟩(.int .u32 p.1)).setCell⟨B,1,none⟩(.int .u32 p.2)):=by
 unfold QB at h ⊢;simp [World.setCell,Array.getElem?_modify,h]
theorem Ho.set {B:Nat} {q:Int×Int} {W:World}(h:Ho B q W)(p:Int×Int):Ho B p((W.setCell⟨B,0,none⟩(.int .u64 p.1)).setCell⟨B,1,none⟩(.int .i64 p.2)):=by
 unfold Ho at h ⊢;simp [World.setCell,Array.getElem?_modify,h]
theorem oP {H:Type} {P:Program} {k:TypeId} {R:Value→Option(DataW H×List MemPlace)} {b r n:Nat} {D:DataW H} {left:Lit→Bool} {cnt:Nat} {W W':World}(h:W.ranges P k R b r n D left cnt)(hb:Below W.heap.size W W'):W'.ranges P k R b r n D left cnt:=
 h.kept(row:=none)⟨hb.os,hb.tape,hb.output,hb.size,fun i hi _=>hb.block i hi⟩(by simp)(by simp)
structure Pw(Ms r n w0:Nat)(D:DataW Unit)(E:List Mm)(wb:World)(left:Lit→Bool)(cnt:Nat)(an:Bool)(f l:Int×Int)(W:World):Prop where
 rg:W.ranges Tryz.prog 261 Dt Ms r n D left cnt
 fi:vB E left an f l
 r0:QB w0(0,0)W
 f0:QB(w0+1)f W
 l0:Ho(w0+2)l W
 be:Below w0 wb W
 sz:w0+4≤W.heap.size
theorem Pw.put {Ms r n w0:Nat} {D:DataW Unit} {E:List Mm} {wb:World} {left:Lit→Bool} {cnt:Nat} {f l:Int×Int} {W:World}(rg:W.ranges Tryz.prog 261 Dt Ms r n D left cnt)(r0:QB w0(0,0)W)(f0:QB(w0+1)f W)(l0:Ho(w0+2)l W)(be:Below w0 wb W)(sz:w0+4≤W.heap.size)(hr:r=w0+3)(hM:Ms<w0) {p m:Int×Int}(fi:vB E left true p m):
  Pw Ms r n w0 D E wb left cnt true p m((((W.setCell⟨w0+1,0,none⟩(.int .u32 p.1)).setCell⟨w0+1,1,none⟩(.int .u32 p.2)).setCell⟨w0+1+1,0,none⟩(.int .u64 m.1)).setCell⟨w0+1+1,1,none⟩(.int .i64 m.2)).drew:=by
 have hg1:W.grownBy((W.setCell⟨w0+1,0,none⟩(.int .u32 p.1)).setCell⟨w0+1,1,none⟩(.int .u32 p.2))(some(w0+1)):=aa(aa(aC _(some(w0+1)))0 _)1 _;have hf1:=f0.set p;have hr1:=rg.kept hg1(by simp;omega)(by simp;omega);have h01:QB w0(0,0)_:=(hg1.block w0(by omega)(by simp)).trans r0;have hl1:Ho(w0+2)l _:=(hg1.block(w0+2)(by omega)(by simp)).trans l0;have hb1:=be.grown hg1(by omega)(fun k e=>by cases e;omega);have hs1:=hg1.size;generalize((W.setCell⟨w0+1,0,none⟩(.int .u32 p.1)).setCell⟨w0+1,1,none⟩(.int .u32 p.2))=W1 at hf1 hr1 h01 hl1 hb1 hs1 ⊢;have hg2:W1.grownBy((W1.setCell⟨w0+1+1,0,none⟩(.int .u64 m.1)).setCell⟨w0+1+1,1,none⟩(.int .i64 m.2))(some(w0+1+1)):=aa(aa(aC _(some(w0+1+1)))0 _)1 _;have hl2:=hl1.set m;have hr2:=hr1.kept hg2(by simp;omega)(by simp;omega);have h02:QB w0(0,0)_:=(hg2.block w0(by omega)(by simp;omega)).trans h01;have hf2:QB(w0+1)p _:=(hg2.block(w0+1)(by omega)(by simp)).trans hf1;have hb2:=hb1.grown hg2(by omega)(fun k e=>by cases e;omega);have hs2:=hg2.size;exact⟨hr2,fi,h02,hf2,hl2,hb2.drew,Nat.le_trans sz(Nat.le_trans hs1 hs2)⟩
theorem GH(N:Nat)(x:lF)(e0:Mm)(E:List Mm)(w:World)(hN:ib N x w)(hs:∃g,kL w x.Ms g(e0::E).length∧(∀e∈e0::E,g e.key=some(e.dF,e.iJ))∧∀k m,vC k→g k=some m→∃e∈e0::E,e.key=k∧m=(e.dF,e.iJ))(hok:∀e∈e0::E,vC e.key∧0≤e.dF∧0≤e.iJ∧e.iJ<x.tn)(hasc:(e0::E).Pairwise fun a b=>a.dF≤b.dF∧a.iJ<b.iJ∧a.key≠b.key):
  Calls Tryz.prog 178 #[.pointer(some⟨N,8,none⟩)]w fun e w'=>e=.returned(jr e0.key)∧Below w.heap.size w w':=by
 obtain⟨g,hmq,h4,h5⟩:=hs;have aaP:=hmq.lt;obtain⟨D,h1,hsz,h3⟩:=hmq;have h3':=(show Hid _ from h3);have h5':=(show Hid _ from h5);have hhas:Hid(∀e∈e0::E,Maps.has D(gU e.key)=true):=by
  intro e he;rw [(h3 _(hok e he).1).1,h4 e he];rfl
 have hb3:Below w.heap.size w(((w.alloc(fA(0,0))).alloc(fA(0,0))).alloc(l8(0,0))):=(((Below.refl _ _).alloc(Nat.le_refl _)_).alloc(by simp)_).alloc(by simp;omega)_;have hR:QB w.heap.size(0,0)(((w.alloc(fA(0,0))).alloc(fA(0,0))).alloc(l8(0,0))):=
  (((Below.refl _((w.alloc(fA(0,0))).alloc(fA(0,0)))).alloc(Nat.le_refl _)_).block w.heap.size(by simp;omega)).trans((((Below.refl _(w.alloc(fA(0,0)))).alloc(Nat.le_refl _)_).block w.heap.size(by simp)).trans(heap_alloc_new w _))
 have hF:QB(w.heap.size+1)(0,0)(((w.alloc(fA(0,0))).alloc(fA(0,0))).alloc(l8(0,0))):=by
  have h1:=((Below.refl _((w.alloc(fA(0,0))).alloc(fA(0,0)))).alloc(Nat.le_refl _)(l8(0,0))).block(w.heap.size+1)(by simp);have h2:=heap_alloc_new(w.alloc(fA(0,0)))(fA(0,0));rw [World.size_alloc]at h2;exact h1.trans h2
 have hL:Ho(w.heap.size+2)(0,0)(((w.alloc(fA(0,0))).alloc(fA(0,0))).alloc(l8(0,0))):=by
  have:=heap_alloc_new((w.alloc(fA(0,0))).alloc(fA(0,0)))(l8(0,0));rw [World.size_alloc,World.size_alloc]at this;exact this
 have A8:(((w.alloc(fA(0,0))).alloc(fA(0,0))).alloc(l8(0,0))).heap.size=w.heap.size+3:=by simp
 have zI:=hN.later hb3;have U5:(((w.alloc(fA(0,0))).alloc(fA(0,0))).alloc(l8(0,0))).ownsMap Tryz.prog 261 Dt x.Ms(e0::E).length D:=by
  obtain⟨es,clock,hb,Ft,hs,hD⟩:=h1;exact⟨es,clock,(hb3.block _(yG hb)).trans hb,Ft,hs,hD⟩
 clear h3 h5 h1 hN h4 hsz;dsimp only [fA,l8]at hb3 hR hF hL zI U5 A8;go_enter Tryz.func178,Tryz.ntmps178
 go_upto_region 3 with(fail)
 generalize World.alloc(World.alloc(World.alloc _ _)_)_=W3 at hb3 hR hF hL zI U5 A8 ⊢;obtain⟨n0,n2,n3,n4,n5,n6,n7,n8,n9,n10⟩:=zI.cell;go_wp2_with(at_range;refine wpList_range_own _ rfl _ 111 rfl 261 279 qh Tryz.underlying111 _ x.Ms(e0::E).length _ rfl U5 ?_;intro w0 hrg0 hg0 hs0)
 go_frame
 generalize hnn:(e0::E).length=nn at hrg0;clear hnn;replace A8:=(show Hid _ from A8);generalize Ow:W3.heap.size=R3 at hrg0 ⊢;replace Ow:=(show Hid _ from Ow);go_loopw [5](fun av wr=>∃(left:Lit→Bool)(cnt:Nat)(an:Bool)(f l:Int×Int),av=.bool an∧Pw x.Ms R3 nn w.heap.size D(e0::E)w left cnt an f l wr)(fun _ wr=>wr.rangeLeft x.Ms R3)
 case atStart=>
  have hb:Below W3.heap.size W3 w0:=⟨hg0.os,hg0.tape,hg0.output,hg0.size,fun k hk=>hg0.block k hk(by simp)⟩;have afB:=A8.out;have aaN:=Ow.out;exact⟨_,_,false,(0,0),(0,0),rfl,hrg0,by unfold vB;rw [if_neg(by simp)];exact hhas.out,(hb.block _(by omega)).trans hR,(hb.block _(by omega)).trans hF,(hb.block _(by omega)).trans hL,hb3.trans(hb.mono hb3.size),by omega⟩
 case round=>
  clear hb3 hR hF hL zI U5 n0 n2 n3 n4 n5 n6 n7 n8 n9 n10 hrg0 hg0 hs0;obtain⟨left,cnt,an,f,l,rfl,hr⟩:=hrel;go_wp2_with(at_next;refine wpList_next_ranges _ rfl _ rfl 261 qh Dt jr wo(fun key kl hk=>by obtain⟨q,hq,_⟩:=F8 hk;exact⟨q,hq⟩)(fun v y hv=>Jb hv)x.Ms R3 nn _ _ _ rfl hr.rg ?_ ?_)
  ·intro hc0 hl0;obtain rfl:=hr.fi.done hl0 hasc;obtain⟨_,_,hr0,hf0,_,hbe,hsz⟩:=hr;obtain⟨c0,c1⟩:=hf0.cell;obtain⟨r0,r1⟩:=hr0.cell;have z0:=hr0.free 0;have z1:=hr0.free 1;have hst:=hr0.set e0.key;have hbs:Below w.heap.size w((wr.setCell⟨w.heap.size,0,none⟩(.int .u32 e0.key.1)).setCell⟨w.heap.size,1,none⟩(.int .u32 e0.key.2)):=(hbe.setCell(p:=⟨w.heap.size,0,none⟩)(Nat.le_refl _)_).setCell(p:=⟨w.heap.size,1,none⟩)(Nat.le_refl _)_;clear hr0 hf0 hbe;go_wp2
   generalize World.setCell _ _ _=W9 at hst hbs ⊢;obtain⟨p0,p1⟩:=hst.cell;exact bodyPost_ret(v:=jr e0.key)(by simp [results,Tryz.results178,go_sem,p0,p1,jr])rfl⟨rfl,hbs⟩
  ·intro q1 q2 m1 m2 kl yd yp w2 cnt2 hkey hlk hv hat hrg2 hlt hg2 hs2 hen;obtain⟨q',hq',hqo,rfl⟩:=F8 hkey;obtain rfl:(q1,q2)=q':=Tx hq';have h3x:=(h3'.out _ hqo).2;rw [hat]at h3x;rw [Dr]at hv;have kD:=congrArg Prod.fst(Option.some.inj hv);dsimp only at kD;rw [←kD]at h3x;have hsome:=(h3'.out _ hqo).1;rw [has_true_of_atKey hat]at hsome;obtain⟨mm,hmm⟩:=Option.isSome_iff_exists.1 hsome.symm;rw [hmm]at h3x;have hme:=GX h3x;simp only [Option.getD_some]at hme;subst hme;obtain⟨e,he,SF,hee⟩:=h5'.out _ _ hqo hmm;obtain⟨rfl,rfl⟩:=Prod.mk.injEq .. ▸hee;have hrl:=hr.rg.left_eq;obtain⟨_,hfi,hr0,hf0,hl0,hbe,hsz⟩:=hr;have aaN:=(show Hid(R3=w.heap.size+3)from by show _=_;rw [←Ow.out,A8.out]);have ae1:=aaN.out;have tH:∀k,k<w.heap.size+3→w2.heap[k]?=wr.heap[k]?:=fun k hk=>hg2.block k(by omega)(by intro e;cases e;omega);have hB2:Below w.heap.size w w2:=hbe.trans⟨hg2.os,hg2.tape,hg2.output,hg2.size,fun k hk=>tH k(by omega)⟩;have k0:QB w.heap.size(0,0)w2:=(tH _(by omega)).trans hr0;have kf:QB(w.heap.size+1)f w2:=(tH _(by omega)).trans hf0;have kl:Ho(w.heap.size+2)l w2:=(tH _(by omega)).trans hl0;have hb4:Below w2.heap.size w2((w2.alloc(fA(q1,q2))).alloc(l8(e.dF,e.iJ))):=((Below.refl _ _).alloc(Nat.le_refl _)_).alloc(by simp)_;have AL:QB w2.heap.size(q1,q2)((w2.alloc(fA(q1,q2))).alloc(l8(e.dF,e.iJ))):=(((Below.refl _(w2.alloc(fA(q1,q2)))).alloc(Nat.le_refl _)_).block _(by simp)).trans(heap_alloc_new w2 _);have Bb:Ho(w2.heap.size+1)(e.dF,e.iJ)((w2.alloc(fA(q1,q2))).alloc(l8(e.dF,e.iJ))):=by
    have:=heap_alloc_new(w2.alloc(fA(q1,q2)))(l8(e.dF,e.iJ));rw [World.size_alloc]at this;exact this
   have hme:Hid(cnt2<wr.rangeLeft x.Ms R3):=by
    show _<_;rw [hrl];exact hlt
   have Gl:=oP hrg2 hb4;have hs4:w.heap.size+4≤((w2.alloc(fA(q1,q2))).alloc(l8(e.dF,e.iJ))).heap.size:=by simp;omega
   have j0:QB w.heap.size(0,0)((w2.alloc(fA(q1,q2))).alloc(l8(e.dF,e.iJ))):=(hb4.block _(by omega)).trans k0;have jf:QB(w.heap.size+1)f((w2.alloc(fA(q1,q2))).alloc(l8(e.dF,e.iJ))):=(hb4.block _(by omega)).trans kf;have jl:Ho(w.heap.size+2)l((w2.alloc(fA(q1,q2))).alloc(l8(e.dF,e.iJ))):=(hb4.block _(by omega)).trans kl;have hB4:=hB2.trans(hb4.mono hB2.size);have hl2:w.heap.size+4≤w2.heap.size:=by omega
   clear ae1 k0 kf kl hb4 hrg2 hB2 hg2 tH hs2 hr0 hf0 hl0 hbe hat hv kD h3x hmm hsome hkey hq';dsimp only [jr,wo]at hen;dsimp only [jr,wo];dsimp only [fA,l8]at AL Bb Gl hs4 j0 jf jl hB4;go_upto_region 6 with(fail)
   generalize World.alloc(World.alloc _ _)_=W4 at AL Bb Gl hs4 j0 jf jl hB4 ⊢;generalize w2.heap.size=C at AL Bb hl2 ⊢;have aaj:∀z∈e0::E,vC z.key:=fun z hz=>(hok z hz).1;have hput:Hid(∀W5,Below W4.heap.size W4 W5→(if an then(if e.dF=l.1 then e.iJ<l.2 else e.dF<l.1)else True)→Pw x.Ms R3 nn w.heap.size D(e0::E)w(fun z=>left z&&!z.sameKey(gU(q1,q2)))cnt2 true(q1,q2)(e.dF,e.iJ)((((W5.setCell⟨w.heap.size+1,0,none⟩(.int .u32 q1)).setCell⟨w.heap.size+1,1,none⟩(.int .u32 q2)).setCell⟨w.heap.size+1+1,0,none⟩(.int .u64 e.dF)).setCell⟨w.heap.size+1+1,1,none⟩(.int .i64 e.iJ)).drew):=fun W5 h5 hc=>by
    have hz5:=h5.size;refine Pw.put(p:=(q1,q2))(m:=(e.dF,e.iJ))(oP Gl h5)((h5.block _(by omega)).trans j0)((h5.block _(by omega)).trans jf)((h5.block _(by omega)).trans jl)(hB4.trans(h5.mono hB4.size))(by omega)aaN.out aaP ?_;rw [←SF];refine hfi.yes aaj hasc he(by rw [SF];exact hlk)fun h=> ?_;rw [if_pos h]at hc;exact hc
   have hkeep:Hid(∀W5,Below W4.heap.size W4 W5→an=true→¬(if e.dF=l.1 then e.iJ<l.2 else e.dF<l.1)→Pw x.Ms R3 nn w.heap.size D(e0::E)w(fun z=>left z&&!z.sameKey(gU(q1,q2)))cnt2 true f l W5):=fun W5 h5 ha hc=>by
    subst ha;have hz5:=h5.size;refine⟨oP Gl h5,?_,(h5.block _(by omega)).trans j0,(h5.block _(by omega)).trans jf,(h5.block _(by omega)).trans jl,hB4.trans(h5.mono hB4.size),by omega⟩;rw [←SF];exact hfi.no aaj hasc he hc
   have hcl:Hid(∀W5,Below W4.heap.size W4 W5→QB C(q1,q2)W5∧Ho(C+1)(e.dF,e.iJ)W5∧QB(w.heap.size+1)f W5∧Ho(w.heap.size+2)l W5):=fun W5 h5=>
    ⟨(h5.block _(yG AL)).trans AL,(h5.block _(yG Bb)).trans Bb,(h5.block _(by omega)).trans jf,(h5.block _(by omega)).trans jl⟩
   clear aaj hfi Gl j0 jf jl hB4 hs4 hasc AL Bb;cases an
   ·obtain⟨AL,Bb,jf,jl⟩:=hcl.out W4(Below.refl _ _);obtain⟨a0,a1⟩:=AL.cell;obtain⟨b0,b1⟩:=Bb.cell;obtain⟨d0,d1⟩:=jf.cell;obtain⟨g0,g1⟩:=jl.cell;have y0:=jf.free 0;have y1:=jf.free 1;have y2:=jl.free 0;have y3:=jl.free 1;dsimp only at a0 a1 b0 b1;have hF:=hput.out W4(Below.refl _ _)(by simp);clear hput hkeep hcl AL Bb jf jl;go_wp2_with fail
    go_region
    generalize World.drew _=W9 at hF ⊢;go_wp2_with fail
    go_roundw
    case rel=>exact⟨_,cnt2,true,_,_,rfl,hF⟩
    case measure=>rw [hF.rg.left_eq];exact hme.out
   ·obtain⟨AL,Bb,jf,jl⟩:=hcl.out W4(Below.refl _ _);obtain⟨a0,a1⟩:=AL.cell;obtain⟨b0,b1⟩:=Bb.cell;obtain⟨d0,d1⟩:=jf.cell;obtain⟨g0,g1⟩:=jl.cell;dsimp only at a0 a1 b0 b1;clear AL Bb jf jl;go_wp2_with fail
    refine Calls.mono(Jc(e.dF,e.iJ)l W4) ?_;rintro r W5⟨rfl,hb5⟩;clear a0 a1 b0 b1 d0 d1 g0 g1;obtain⟨AL,Bb,jf,jl⟩:=hcl.out W5 hb5;obtain⟨a0,a1⟩:=AL.cell;obtain⟨b0,b1⟩:=Bb.cell;obtain⟨d0,d1⟩:=jf.cell;obtain⟨g0,g1⟩:=jl.cell;have y0:=jf.free 0;have y1:=jf.free 1;have y2:=jl.free 0;have y3:=jl.free 1;dsimp only at a0 a1 b0 b1;by_cases hc:(if e.dF=l.1 then e.iJ<l.2 else e.dF<l.1)
    ·have hF:=hput.out W5 hb5(by rw [if_pos trivial];exact hc);have hbt:(if e.dF=l.1 then decide(e.iJ<l.2)else decide(e.dF<l.1))=true:=by
      split at hc<;>simp_all
     dsimp only;rw [hbt];clear hput hkeep hcl AL Bb jf jl hc hbt;go_wp2_with fail
     go_region
     generalize World.drew _=W9 at hF ⊢;go_wp2_with fail
     go_roundw
     case rel=>exact⟨_,cnt2,true,_,_,rfl,hF⟩
     case measure=>rw [hF.rg.left_eq];exact hme.out
    ·have hF:=hkeep.out W5 hb5 trivial hc;have hbt:(if e.dF=l.1 then decide(e.iJ<l.2)else decide(e.dF<l.1))=false:=by
      split at hc<;>simp_all
     dsimp only;rw [hbt];clear hput hkeep hcl AL Bb jf jl hc hbt;go_wp2_with fail
     go_roundw
     case rel=>exact⟨_,cnt2,true,_,_,rfl,hF⟩
     case measure=>rw [hF.rg.left_eq];exact hme.out
theorem zN {α:Type}(p:α→Bool):∀l:List α,(l.filter p).length+(l.filter fun x=>!p x).length=l.length
 | []=>rfl
 |x::l=>by
  have:=zN p l;cases h:p x<;>simp [h]<;>omega
theorem wI.put {Ms:Nat} {tn:Int} {E:List Mm} {W W':World} {g:Int×Int→Option(Int×Int)}(h:wI Ms tn E W)(h2:∀e∈E,g e.key=some(e.dF,e.iJ))(h3:∀k m,vC k→g k=some m→∃e∈E,e.key=k∧m=(e.dF,e.iJ)) {q:Int×Int}(hq:vC q) {dF:Int}(h0:0≤dF)(hm:∀e∈E,e.dF≤dF)
  (hM:kL W' Ms(qg g q(some(dF,tn)))(if(g q).isSome then E.length else E.length+1)):
  ∃g',kL W' Ms g'(dU E q dF tn).length∧(∀e∈dU E q dF tn,g' e.key=some(e.dF,e.iJ))∧(∀k m,vC k→g' k=some m→∃e∈dU E q dF tn,e.key=k∧m=(e.dF,e.iJ))∧(∀e∈dU E q dF tn,vC e.key∧0≤e.dF∧0≤e.iJ∧e.iJ<tn+1)∧(dU E q dF tn).Pairwise(fun a b=>a.dF≤b.dF∧a.iJ<b.iJ∧a.key≠b.key)∧(dU E q dF tn).length≤17:=by
 have hk:(⟨q.1,q.2,dF,tn⟩:Mm).key=q:=rfl;have htn:=h.tn0;have hmem:∀e,e∈dU E q dF tn ↔ (e∈E∧e.key≠q)∨e=⟨q.1,q.2,dF,tn⟩:=by
  intro e;unfold dU;simp [List.mem_append,List.mem_filter]
 have hfl:(E.filter fun e=>!decide(e.key=q)).length≤E.length:=List.length_filter_le ..;have hlen:(dU E q dF tn).length=if(g q).isSome then E.length else E.length+1:=by
  unfold dU;rw [List.length_append,List.length_singleton];cases hg:g q with
  |none=>
   have:E.filter(fun e=>!decide(e.key=q))=E:=List.filter_eq_self.2 fun e he=>by
    have:e.key≠q:=fun hc=>by
     have:=h2 e he;rw [hc,hg]at this;cases this
    simp [this]
   rw [this];simp
  |some m=>
   obtain⟨e,he,SF,_⟩:=h3 q m hq hg;have hcount:(E.filter fun e=>decide(e.key=q)).length=1:=by
    have hnd:(E.filter fun e=>decide(e.key=q)).Pairwise(fun a b=>a.key≠b.key):=(h.wC.imp fun h=>h.2.2).filter _;have hall:∀z∈E.filter(fun e=>decide(e.key=q)),z.key=q:=fun z hz=>by simpa using(List.mem_filter.1 hz).2
    have hin:e∈E.filter(fun e=>decide(e.key=q)):=List.mem_filter.2⟨he,by simpa using SF⟩;generalize E.filter(fun e=>decide(e.key=q))=F at hnd hall hin ⊢
    match F,hnd,hall,hin with
    | [],_,_,hin=>simp at hin
    | [_],_,_,_=>rfl
    |a::b::r,hnd,hall,_=>
     exfalso;have h1:=(List.pairwise_cons.1 hnd).1 b(List.mem_cons_self ..);exact h1((hall a(List.mem_cons_self ..)).trans(hall b(List.mem_cons_of_mem _(List.mem_cons_self ..))).symm)
   have hsum:=zN(fun e:Mm=>decide(e.key=q))E;simp only [Option.gN,if_true];omega
 refine⟨_,by rw [hlen];exact hM,fun e he=> ?_,fun k m hk hg=> ?_,fun e he=> ?_,?_,by rw [hlen];have:=h.len;split<;>omega⟩
 ·rcases(hmem e).1 he with⟨he,hne⟩|rfl
  ·simp only [qg,if_neg hne];exact h2 e he
  ·simp [qg,Mm.key]
 ·unfold qg at hg;split at hg
  ·rename_i hkq;subst hkq;exact⟨_,(hmem _).2(.inr rfl),rfl,(Option.some.inj hg).symm⟩
  ·rename_i hkq;obtain⟨e,he,SF,hm⟩:=h3 k m hk hg;exact⟨e,(hmem e).2(.inl⟨he,by rw [SF];exact hkq⟩),SF,hm⟩
 ·rcases(hmem e).1 he with⟨he,_⟩|rfl
  ·have:=h.ok e he;exact⟨this.1,this.2.1,this.2.2.1,by omega⟩
  ·exact⟨hq,h0,htn,by dsimp only;omega⟩
 ·unfold dU;refine List.eU.2⟨h.wC.filter _,by simp,fun a ha b hb=> ?_⟩;rw [List.mem_singleton]at hb;subst hb;obtain⟨ha1,ha2⟩:=List.mem_filter.1 ha;have:=h.ok a ha1;exact⟨hm a ha1,this.2.2.2,by show a.key≠q;simpa using ha2⟩
theorem VK {Ms:Nat} {tn:Int} {e0:Mm} {E:List Mm} {W':World} {g:Int×Int→Option(Int×Int)}(h2:∀e∈e0::E,g e.key=some(e.dF,e.iJ))(h3:∀k m,vC k→g k=some m→∃e∈e0::E,e.key=k∧m=(e.dF,e.iJ))(hok:∀e∈e0::E,vC e.key∧0≤e.dF∧0≤e.iJ∧e.iJ<tn)(ha:(e0::E).Pairwise fun a b=>a.dF≤b.dF∧a.iJ<b.iJ∧a.key≠b.key)(hl:(e0::E).length≤17)(ht:0≤tn)
  (hM:kL W' Ms(qg g e0.key none)((e0::E).length - 1)):wI Ms tn E W':=by
 have hp:=List.pairwise_cons.1 ha;refine⟨⟨_,hM,fun e he=> ?_,fun k m hk hg=> ?_⟩,fun e he=>hok e(List.mem_cons_of_mem _ he),hp.2,by simpa using hl,ht⟩
 ·have:=(hp.1 e he).2.2;simp only [qg,if_neg(Ne.symm this)];exact h2 e(List.mem_cons_of_mem _ he)
 ·unfold qg at hg;split at hg
  ·cases hg
  ·rename_i hne;obtain⟨e,he,SF,hm⟩:=h3 k m hk hg;rcases List.mem_cons.1 he with rfl|he
   ·exact absurd SF.symm hne
   ·exact⟨e,he,SF,hm⟩
theorem EY(N:Nat)(x:lF)(E:List Mm)(q:Int×Int)(hq:vC q)(dF:Int)(h0:0≤dF)(hm:∀e∈E,e.dF≤dF)(htn:x.tn≤4611686018427387904)(w:World)(hN:ib N x w)(hs:wI x.Ms x.tn E w):
  Calls Tryz.prog 156 #[.pointer(some⟨N,8,none⟩),jr q,.int .u64 dF]w fun e w'=>e=.returned(.tuple #[])∧ib N {x with tn:=x.tn+1}w'∧wI x.Ms(x.tn+1)(dR E q dF x.tn)w'∧Fx(fun k=>k=N∨k=x.Ms)w w':=by
 obtain⟨g,h1,h2,h3⟩:=hs.map;have afU:=hs.len;have afK:=hs.tn0;have hNM:N≠x.Ms:=fun e=>by
  obtain⟨es,cl,hM⟩:=hs.obj;rw [←e,show w.heap[N]?=_ from hN]at hM;cases hM
 have hb0:Below w.heap.size w(w.alloc(fA q)):=(Below.refl _ _).alloc(Nat.le_refl _)_;have hC:=heap_alloc_new w(fA q);have hN1:=hN.later hb0;have hg1:=h1.block(hb0.block _ h1.lt);have hF1:Fx(fun k=>k=N∨k=x.Ms)w(w.alloc(fA q)):=Fx.below hb0;have Tk:w.heap.size<(w.alloc(fA q)).heap.size:=by simp
 have hne:w.heap.size≠N∧w.heap.size≠x.Ms:=⟨fun e=>by have:=hN.lt;omega,fun e=>by have:=hs.lt;omega⟩;have HP:=(show Hid _ from fun W' hM=>wI.put(W':=W')hs h2 h3 hq h0 hm hM);clear hs hN h1 h2 h3 hm;dsimp only [fA]at hb0 hC hN1 hg1 hF1 Tk;dsimp only [jr];have hsa:Hid(dR E q dF x.tn=if 16<(dU E q dF x.tn).length then(dU E q dF x.tn).tail else dU E q dF x.tn):=rfl;generalize dR E q dF x.tn=R at hsa ⊢;go_enter Tryz.func156,Tryz.ntmps156
 go_upto_region 1 with(fail)
 generalize World.alloc _ _=W1 at hb0 hC hN1 hg1 hF1 Tk ⊢;generalize w.heap.size=C at hC Tk hne ⊢;obtain⟨n0,n2,n3,n4,n5,n6,n7,n8,n9,n10⟩:=hN1.cell;have c0:W1.cell?⟨C,0,none⟩=some(.int .u32 q.1):=cell_of_row _ _ 0 _ _ _ hC;have c1:W1.cell?⟨C,1,none⟩=some(.int .u32 q.2):=cell_of_row _ _ 1 _ _ _ hC;obtain⟨W3,hr3,nW,Oi⟩:=(show kL W1.drew _ _ _ from hg1).put(by unfold maxLen;omega)hq(dF,x.tn);dsimp only [jr,wo]at hr3;have SB:W1.grownBy W3(some x.Ms):=⟨Oi.os,Oi.tape,Oi.output,Oi.size,Oi.block⟩;have zI:=hN1.kept SB(by simpa using Ne.symm hNM);have xm:=hF1.trans(Fx.grown(S:=fun k=>k=x.Ms)SB(fun k e=>by cases e;rfl))(fun i _ h=> .inr h);have hP3:=HP.out W3 nW;clear hg1 hN1 hF1 nW HP hC hb0;go_region
 clear n0 n2 n3 n4 n5 n6 n7 n8 n9 n10 c0 c1 hr3 Oi SB;obtain⟨g',k1,k2,k3,k4,k5,k6⟩:=hP3;generalize dU E q dF x.tn=L at k1 k2 k3 k4 k5 k6 hsa;obtain⟨n0,n2,n3,n4,n5,n6,n7,n8,n9,n10⟩:=zI.cell;have f9:=zI.free 9;have hg4:W3.grownBy(W3.setCell⟨N,9,none⟩(.int .i64(x.tn+1)))(some N):=aa(aC _(some N))9 _;have AP:=zI.abQ(x.tn+1);have k14:=k1.block(hg4.block _ k1.lt(by simpa using Ne.symm hNM));have rW:=xm.trans(Fx.grown(S:=fun k=>k=N)hg4(fun k e=>by cases e;rfl))(fun i _ h=> .inl h);have hwr:wrap64(x.tn+1)=x.tn+1:=by unfold wrap64;omega
 clear zI k1 xm hg4;go_upto_region 3 with(fail)
 generalize World.setCell _ _ _=W4 at AP k14 rW ⊢;clear n0 n2 n3 n4 n5 n6 n7 n8 n9 n10 f9 hwr;obtain⟨n0,n2,n3,n4,n5,n6,n7,n8,n9,n10⟩:=AP.cell;have hlen:=fun ty=>k14.len ty;generalize hnl:L.length=nl at hlen;replace hnl:=(show Hid _ from hnl);by_cases hl:16<L.length
 ·have hlb:decide((16:Int)<(nl:Int))=true:=decide_eq_true(by have:=hnl.out;omega);have hR:=hsa.out;rw [if_pos hl]at hR;subst hR;obtain⟨e0,L',rfl⟩:∃e0 L',L=e0::L':=by
   cases L with
   |nil=>simp at hl
   |cons a b=>exact⟨a,b,rfl⟩
  have HF:Hid(∀W5,Below W4.heap.size W4 W5→Calls Tryz.prog 178 #[.pointer(some⟨N,8,none⟩)]W5 fun e w'=>e=.returned(jr e0.key)∧Below W4.heap.size W4 w'):=by
   intro W5 h5;refine(GH N {x with tn:=x.tn+1}e0 L' W5(AP.later h5)⟨_,k14.block(h5.block _ k14.lt),k2,k3⟩k4 k5).mono ?_;rintro e w'⟨rfl,hb⟩;exact⟨rfl,h5.trans(hb.mono h5.size)⟩
  have HD:Hid(∀W5,Below W4.heap.size W4 W5→W5.cell?⟨N,8,none⟩=some(.map(some x.Ms))∧∃W6,(Builtin.delete_ #[111,261]0 #[.map(some x.Ms),jr e0.key]).run Tryz.prog W5=.ok(.tuple #[])W6∧W6.cell?⟨N,8,none⟩=some(.map(some x.Ms))∧ib N {x with tn:=x.tn+1}W6∧wI x.Ms(x.tn+1)L' W6∧Fx(fun k=>k=N∨k=x.Ms)w W6):=by
   intro W5 h5;have nE:=k14.block(h5.block _ k14.lt);obtain⟨W6,lw,DI,fB⟩:=nE.del(k4 e0(List.mem_cons_self ..)).1 0(by rw [k2 e0(List.mem_cons_self ..)];rfl);have PO:=(AP.later h5).kept fB(by simpa using Ne.symm hNM);exact⟨(AP.later h5).cell.2.2.2.2.2.1,W6,lw,PO.cell.2.2.2.2.2.1,PO,VK k2 k3 k4 k5 k6(by omega)DI,(rW.trans(Fx.below(S:=fun _=>False)h5)(fun _ _ h=>h.elim)).trans(Fx.grown(S:=fun k=>k=x.Ms)fB(fun k e=>by cases e;rfl))(fun i _ h=> .inr h)⟩
  clear AP k14 rW k2 k3 k4 k5 k6 hl;dsimp only [jr]at HF HD;go_wp2_with fail
  go_region_law(first
   |(go_simp;go_at_call 178;refine(HF.out _(by first|exact Below.refl _ _|exact(Below.refl _ _).drew|exact below_drewN(Below.refl _ _)_)).mono ?_;rintro e w5⟨rfl,hb5⟩;obtain⟨Oq,W6,lw,hc6,PO,Xe,U3⟩:=HD.out _ hb5))
  all_goals
   go_wp2
   go_returns
   exact⟨rfl,PO,Xe,U3⟩
 ·have hlb:decide((16:Int)<(nl:Int))=false:=decide_eq_false(by have:=hnl.out;omega);have hR:=hsa.out;rw [if_neg hl]at hR;replace hR:=(show Hid _ from hR);have hfin:wI x.Ms(x.tn+1)L W4:=⟨⟨g',k14,k2,k3⟩,k4,k5,by omega,by omega⟩;clear k14 k2 k3 k4 k5 k6 hl;go_wp2
  go_returns
  exact⟨rfl,AP,hR.out▸hfin,rW⟩
end Go.Proofs.YtakaadcpaeiccabGreat
