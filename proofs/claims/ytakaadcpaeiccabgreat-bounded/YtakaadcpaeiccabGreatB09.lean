import Derived.Test.YtakaadcpaeiccabGreatB08
set_option maxHeartbeats 4000000
set_option maxRecDepth 100000
namespace Go.Proofs.YtakaadcpaeiccabGreat
open Go.RowKit Go.Maps
variable{tn:Int}{q:Int×Int}{E:List Mm}{left:Lit->Bool}{B Ms n r:Nat}{W W':World}
theorem yg{k:Nat}{o:Obj}(h:W.heap[k]?=some o):k<W.heap.size:=(gN.1 h).1
theorem Ig{v:Value}{y:DataW Unit×List MemPlace}(h:CQ v=some y):∃c,v=vN c:=by
 obtain⟨m,h1,_⟩:=Ff h;exact⟨m,h1⟩
theorem QY{a b:Int×Int}(h:jC a=jC b):a=b:=by
 unfold jC at h;simp only[Value.agg.injEq,Array.mk.injEq,List.cons.injEq,Value.int.injEq,true_and,and_true]at h;exact Prod.ext h.1 h.2
def QB(B:Nat)(q:Int×Int)(W:World):Prop:=W.heap[B]?=some (fo q)
def Gu(B:Nat)(m:Int×Int)(W:World):Prop:=W.heap[B]?=some (lZ m)
theorem QB.cell(h:QB B q W):W.cell? ⟨B,0,none⟩=some (.int .u32 q.1)∧W.cell? ⟨B,1,none⟩=some (.int .u32 q.2):=⟨aF _ _ 0 _ _ _ h,aF _ _ 1 _ _ _ h⟩
theorem QB.free(h:QB B q W)(i:Nat):W.frozen? ⟨B,i,none⟩=false:=by
 unfold World.frozen?;rw[show W.heap[(⟨B,i,none⟩:Addr).block]?=some (fo q)from h];try rfl
theorem Gu.cell(h:Gu B q W):W.cell? ⟨B,0,none⟩=some (.int .u64 q.1)∧W.cell? ⟨B,1,none⟩=some (.int .i64 q.2):=⟨aF _ _ 0 _ _ _ h,aF _ _ 1 _ _ _ h⟩
theorem Gu.free(h:Gu B q W)(i:Nat):W.frozen? ⟨B,i,none⟩=false:=by
 unfold World.frozen?;rw[show W.heap[(⟨B,i,none⟩:Addr).block]?=some (lZ q)from h];try rfl
theorem QB.set(h:QB B q W)(p:Int×Int):QB B p ((W.setCell ⟨B,0,none⟩ (.int .u32 p.1)).setCell ⟨B,1,none⟩ (.int .u32 p.2)):=by
 unfold QB at h ⊢;simp[World.setCell,dM,h]
theorem Gu.set(h:Gu B q W)(p:Int×Int):Gu B p ((W.setCell ⟨B,0,none⟩ (.int .u64 p.1)).setCell ⟨B,1,none⟩ (.int .i64 p.2)):=by
 unfold Gu at h ⊢;simp[World.setCell,dM,h]
theorem oo{H:Type}{P:Program}{k:TypeId}{R:Value->Option (DataW H×List MemPlace)}{b:Nat}{D:DataW H}{cnt:Nat}(h:W.ranges P k R b r n D left cnt)(hb:Below W.heap.size W W'):W'.ranges P k R b r n D left cnt:=
 h.kept (row:=none) ⟨hb.os,hb.tape,hb.output,hb.size,λi hi _=>hb.block i hi⟩ (by simp) (by simp)
structure NN(Ms r n w0:Nat)(D:DataW Unit)(E:List Mm)(wb:World)(left:Lit->Bool)(cnt:Nat)(an:Bool)(f l:Int×Int)(W:World):Prop where
 rg:W.ranges Tryz.prog 261 CQ Ms r n D left cnt
 fi:uS E left an f l
 r0:QB w0 (0,0) W
 f0:QB (w0+1) f W
 l0:Gu (w0+2) l W
 be:Below w0 wb W
 sz:w0+4<=W.heap.size
theorem NN.put{w0:Nat}{D:DataW Unit}{wb:World}{cnt:Nat}{f l:Int×Int}(rg:W.ranges Tryz.prog 261 CQ Ms r n D left cnt)(r0:QB w0 (0,0) W)(f0:QB (w0+1) f W)(l0:Gu (w0+2) l W)(be:Below w0 wb W)(sz:w0+4<=W.heap.size)(hr:r=w0+3)(hM:Ms<w0){p m:Int×Int}(fi:uS E left true p m):
  NN Ms r n w0 D E wb left cnt true p m ((((W.setCell ⟨w0+1,0,none⟩ (.int .u32 p.1)).setCell ⟨w0+1,1,none⟩ (.int .u32 p.2)).setCell ⟨w0+1+1,0,none⟩ (.int .u64 m.1)).setCell ⟨w0+1+1,1,none⟩ (.int .i64 m.2)).drew:=by
 have hg1:W.grownBy ((W.setCell ⟨w0+1,0,none⟩ (.int .u32 p.1)).setCell ⟨w0+1,1,none⟩ (.int .u32 p.2)) (some (w0+1)):=ah (ah (ay _ (some (w0+1))) 0 _) 1 _;have hf1:=f0.set p;have hr1:=rg.kept hg1 (by simp;omega) (by simp;omega);have h01:QB w0 (0,0) _:=(hg1.block w0 (by omega) (by simp)).trans r0;have hl1:Gu (w0+2) l _:=(hg1.block (w0+2) (by omega) (by simp)).trans l0;have hb1:=be.grown hg1 (by omega) (λk e=>by cases e;omega);have hs1:=hg1.size;generalize ((W.setCell ⟨w0+1,0,none⟩ (.int .u32 p.1)).setCell ⟨w0+1,1,none⟩ (.int .u32 p.2))=W1 at hf1 hr1 h01 hl1 hb1 hs1 ⊢;have hg2:W1.grownBy ((W1.setCell ⟨w0+1+1,0,none⟩ (.int .u64 m.1)).setCell ⟨w0+1+1,1,none⟩ (.int .i64 m.2)) (some (w0+1+1)):=ah (ah (ay _ (some (w0+1+1))) 0 _) 1 _;have hl2:=hl1.set m;have hr2:=hr1.kept hg2 (by simp;omega) (by simp;omega);have h02:QB w0 (0,0) _:=(hg2.block w0 (by omega) (by simp;omega)).trans h01;have hf2:QB (w0+1) p _:=(hg2.block (w0+1) (by omega) (by simp)).trans hf1;have hb2:=hb1.grown hg2 (by omega) (λk e=>by cases e;omega);have hs2:=hg2.size;exact⟨hr2,fi,h02,hf2,hl2,hb2.drew,dF sz (dF hs1 hs2)⟩
theorem FZ(N:Nat)(x:l8)(e0:Mm)(E:List Mm)(w:World)(hN:gW N x w)(hs:∃g,kD w x.Ms g (e0::E).length∧(∀e∈e0::E,g e.key=some (e.dw,e.iF))∧∀k m,uT k->g k=some m->∃e∈e0::E,e.key=k∧m=(e.dw,e.iF))(hok:∀e∈e0::E,uT e.key∧0<=e.dw∧0<=e.iF∧e.iF<x.tn)(hasc:(e0::E).Pairwise λa b=>a.dw<=b.dw∧a.iF<b.iF∧a.key≠b.key):
  Calls Tryz.prog 178 #[.pointer (some ⟨N,8,none⟩)] w λe w'=>e=.returned (jC e0.key)∧Below w.heap.size w w':=by
 obtain⟨g,hmq,h4,h5⟩:=hs;have YC:=hmq.lt;obtain⟨D,h1,hsz,h3⟩:=hmq;have h3':=(show Hid _ from h3);have h5':=(show Hid _ from h5);have hhas:Hid (∀e∈e0::E,Maps.has D (gP e.key)=true):=by
  intro e he;rw[(h3 _ (hok e he).1).1,h4 e he];rfl
 have hb3:Below w.heap.size w (((w.alloc (fo (0,0))).alloc (fo (0,0))).alloc (lZ (0,0))):=((bn).alloc (by simp) _).alloc (by simp;omega) _;have hR:QB w.heap.size (0,0) (((w.alloc (fo (0,0))).alloc (fo (0,0))).alloc (lZ (0,0))):=
  (((aR _ ((w.alloc (fo (0,0))).alloc (fo (0,0)))).alloc (aA _) _).block w.heap.size (by simp;omega)).trans ((((aR _ (w.alloc (fo (0,0)))).alloc (aA _) _).block w.heap.size (by simp)).trans (bO w _))
 have hF:QB (w.heap.size+1) (0,0) (((w.alloc (fo (0,0))).alloc (fo (0,0))).alloc (lZ (0,0))):=by
  have h1:=((aR _ ((w.alloc (fo (0,0))).alloc (fo (0,0)))).alloc (aA _) (lZ (0,0))).block (w.heap.size+1) (by simp);have h2:=bO (w.alloc (fo (0,0))) (fo (0,0));rw[World.size_alloc]at h2;exact h1.trans h2
 have hL:Gu (w.heap.size+2) (0,0) (((w.alloc (fo (0,0))).alloc (fo (0,0))).alloc (lZ (0,0))):=by
  have:=bO ((w.alloc (fo (0,0))).alloc (fo (0,0))) (lZ (0,0));rw[World.size_alloc,World.size_alloc]at this;exact this
 have Aw:(((w.alloc (fo (0,0))).alloc (fo (0,0))).alloc (lZ (0,0))).heap.size=w.heap.size+3:=by simp
 have zm:=hN.later hb3;have Sq:(((w.alloc (fo (0,0))).alloc (fo (0,0))).alloc (lZ (0,0))).ownsMap Tryz.prog 261 CQ x.Ms (e0::E).length D:=by
  obtain⟨es,clock,hb,Ft,hs,hD⟩:=h1;exact⟨es,clock,(hb3.block _ (yg hb)).trans hb,Ft,hs,hD⟩
 clear h3 h5 h1 hN h4 hsz;dsimp only[fo,lZ]at hb3 hR hF hL zm Sq Aw;go_enter Tryz.func178,Tryz.ntmps178;go_upto_region 3 with(fail);generalize World.alloc (World.alloc (World.alloc _ _) _) _=W3 at hb3 hR hF hL zm Sq Aw ⊢;obtain⟨n0,n2,n3,n4,n5,n6,n7,n8,n9,n10⟩:=zm.cell;go_wp2_with(at_range;refine wpList_range_own _ rfl _ 111 rfl 261 279 pq Tryz.underlying111 _ x.Ms (e0::E).length _ rfl Sq ?_;intro w0 hrg0 hg0 hs0);go_frame;generalize hnn:(e0::E).length=nn at hrg0;clear hnn;replace Aw:=(show Hid _ from Aw);generalize MO:W3.heap.size=R3 at hrg0 ⊢;replace MO:=(show Hid _ from MO);go_loopw [5] (λav wr=>∃(left:Lit->Bool) (cnt:Nat) (an:Bool) (f l:Int×Int),av=.bool an∧NN x.Ms R3 nn w.heap.size D (e0::E) w left cnt an f l wr) (λ_ wr=>wr.rangeLeft x.Ms R3)
 case atStart=>
  have hb:Below W3.heap.size W3 w0:=⟨hg0.os,hg0.tape,hg0.output,hg0.size,λk hk=>hg0.block k hk (by simp)⟩;have ady:=Aw.out;have YA:=MO.out;exact⟨_,_,false,(0,0),(0,0),rfl,hrg0,by unfold uS;rw[aD (by simp)];exact hhas.out,(hb.block _ (by omega)).trans hR,(hb.block _ (by omega)).trans hF,(hb.block _ (by omega)).trans hL,hb3.trans (hb.mono hb3.size),by omega⟩
 case round=>
  clear hb3 hR hF hL zm Sq n0 n2 n3 n4 n5 n6 n7 n8 n9 n10 hrg0 hg0 hs0;obtain⟨left,cnt,an,f,l,rfl,hr⟩:=hrel;go_wp2_with(at_next;refine wpList_next_ranges _ rfl _ rfl 261 pq CQ jC vN (λkey kl hk=>by obtain⟨q,hq,_⟩:=Fy hk;exact⟨q,hq⟩) (λv y hv=>Ig hv) x.Ms R3 nn _ _ _ rfl hr.rg ?_ ?_)
  ·intro hc0 hl0;obtain rfl:=hr.fi.done hl0 hasc;obtain⟨_,_,hr0,hf0,_,hbe,hsz⟩:=hr;obtain⟨c0,c1⟩:=hf0.cell;obtain⟨r0,r1⟩:=hr0.cell;have z0:=hr0.free 0;have z1:=hr0.free 1;have hst:=hr0.set e0.key;have hbs:Below w.heap.size w ((wr.setCell ⟨w.heap.size,0,none⟩ (.int .u32 e0.key.1)).setCell ⟨w.heap.size,1,none⟩ (.int .u32 e0.key.2)):=(hbe.setCell (p:=⟨w.heap.size,0,none⟩) (aA _) _).setCell (p:=⟨w.heap.size,1,none⟩) (aA _) _;clear hr0 hf0 hbe;go_wp2;generalize World.setCell _ _ _=W9 at hst hbs ⊢;obtain⟨p0,p1⟩:=hst.cell;exact bodyPost_ret (v:=jC e0.key) (by simp[results,Tryz.results178,go_sem,p0,p1,jC]) rfl ⟨rfl,hbs⟩
  ·intro q1 q2 m1 m2 kl yd yp w2 cnt2 hkey hlk hv hat hrg2 hlt hg2 hs2 hen;obtain⟨q',hq',hqo,rfl⟩:=Fy hkey;obtain rfl:(q1,q2)=q':=QY hq';have h3x:=(h3'.out _ hqo).2;rw[hat]at h3x;rw[CP]at hv;have kS:=congrArg Prod.fst (Option.some.inj hv);dsimp only at kS;rw[<-kS]at h3x;have hsome:=(h3'.out _ hqo).1;rw[has_true_of_atKey hat]at hsome;obtain⟨mm,hmm⟩:=Option.isSome_iff_exists.1 hsome.symm;rw[hmm]at h3x;have hme:=Gc h3x;simp only[Option.getD_some]at hme;subst hme;obtain⟨e,he,hek,hee⟩:=h5'.out _ _ hqo hmm;obtain⟨rfl,rfl⟩:=Prod.mk.injEq .. ▸hee;have hrl:=hr.rg.left_eq;obtain⟨_,hfi,hr0,hf0,hl0,hbe,hsz⟩:=hr;have YA:=(show Hid (R3=w.heap.size+3)from by show _=_;rw[<-MO.out,Aw.out]);have acR:=YA.out;have rZ:∀k,k<w.heap.size+3->w2.heap[k]?=wr.heap[k]?:=λk hk=>hg2.block k (by omega) (by intro e;cases e;omega);have hB2:Below w.heap.size w w2:=hbe.trans ⟨hg2.os,hg2.tape,hg2.output,hg2.size,λk hk=>rZ k (by omega)⟩;have k0:QB w.heap.size (0,0) w2:=(rZ _ (by omega)).trans hr0;have kf:QB (w.heap.size+1) f w2:=(rZ _ (by omega)).trans hf0;have kl:Gu (w.heap.size+2) l w2:=(rZ _ (by omega)).trans hl0;have hb4:Below w2.heap.size w2 ((w2.alloc (fo (q1,q2))).alloc (lZ (e.dw,e.iF))):=(bn).alloc (by simp) _;have Ah:QB w2.heap.size (q1,q2) ((w2.alloc (fo (q1,q2))).alloc (lZ (e.dw,e.iF))):=(((aR _ (w2.alloc (fo (q1,q2)))).alloc (aA _) _).block _ (by simp)).trans (bO w2 _);have AB:Gu (w2.heap.size+1) (e.dw,e.iF) ((w2.alloc (fo (q1,q2))).alloc (lZ (e.dw,e.iF))):=by
    have:=bO (w2.alloc (fo (q1,q2))) (lZ (e.dw,e.iF));rw[World.size_alloc]at this;exact this
   have hme:Hid (cnt2<wr.rangeLeft x.Ms R3):=by
    show _<_;rw[hrl];exact hlt
   have FI:=oo hrg2 hb4;have hs4:w.heap.size+4<=((w2.alloc (fo (q1,q2))).alloc (lZ (e.dw,e.iF))).heap.size:=by simp;omega
   have j0:QB w.heap.size (0,0) ((w2.alloc (fo (q1,q2))).alloc (lZ (e.dw,e.iF))):=(hb4.block _ (by omega)).trans k0;have jf:QB (w.heap.size+1) f ((w2.alloc (fo (q1,q2))).alloc (lZ (e.dw,e.iF))):=(hb4.block _ (by omega)).trans kf;have jl:Gu (w.heap.size+2) l ((w2.alloc (fo (q1,q2))).alloc (lZ (e.dw,e.iF))):=(hb4.block _ (by omega)).trans kl;have hB4:=hB2.trans (hb4.mono hB2.size);have hl2:w.heap.size+4<=w2.heap.size:=by omega
   clear acR k0 kf kl hb4 hrg2 hB2 hg2 rZ hs2 hr0 hf0 hl0 hbe hat hv kS h3x hmm hsome hkey hq';dsimp only[jC,vN]at hen;dsimp only[jC,vN];dsimp only[fo,lZ]at Ah AB FI hs4 j0 jf jl hB4;go_upto_region 6 with(fail);generalize World.alloc (World.alloc _ _) _=W4 at Ah AB FI hs4 j0 jf jl hB4 ⊢;generalize w2.heap.size=C at Ah AB hl2 ⊢;have X0:∀z∈e0::E,uT z.key:=λz hz=>(hok z hz).1;have hput:Hid (∀W5,Below W4.heap.size W4 W5->(if an then(if e.dw=l.1 then e.iF<l.2 else e.dw<l.1)else True)->NN x.Ms R3 nn w.heap.size D (e0::E) w (λz=>left z&&!z.sameKey (gP (q1,q2))) cnt2 true (q1,q2) (e.dw,e.iF) ((((W5.setCell ⟨w.heap.size+1,0,none⟩ (.int .u32 q1)).setCell ⟨w.heap.size+1,1,none⟩ (.int .u32 q2)).setCell ⟨w.heap.size+1+1,0,none⟩ (.int .u64 e.dw)).setCell ⟨w.heap.size+1+1,1,none⟩ (.int .i64 e.iF)).drew):=λW5 h5 hc=>by
    have hz5:=h5.size;refine NN.put (p:=(q1,q2)) (m:=(e.dw,e.iF)) (oo FI h5) ((h5.block _ (by omega)).trans j0) ((h5.block _ (by omega)).trans jf) ((h5.block _ (by omega)).trans jl) (hB4.trans (h5.mono hB4.size)) (by omega) YA.out YC ?_;rw[<-hek];refine hfi.yes X0 hasc he (by rw[hek];exact hlk) λh=> ?_;rw[aO h]at hc;exact hc
   have hkeep:Hid (∀W5,Below W4.heap.size W4 W5->an=true->¬(if e.dw=l.1 then e.iF<l.2 else e.dw<l.1)->NN x.Ms R3 nn w.heap.size D (e0::E) w (λz=>left z&&!z.sameKey (gP (q1,q2))) cnt2 true f l W5):=λW5 h5 ha hc=>by
    subst ha;have hz5:=h5.size;refine⟨oo FI h5,?_,(h5.block _ (by omega)).trans j0,(h5.block _ (by omega)).trans jf,(h5.block _ (by omega)).trans jl,hB4.trans (h5.mono hB4.size),by omega⟩;rw[<-hek];exact hfi.no X0 hasc he hc
   have hcl:Hid (∀W5,Below W4.heap.size W4 W5->QB C (q1,q2) W5∧Gu (C+1) (e.dw,e.iF) W5∧QB (w.heap.size+1) f W5∧Gu (w.heap.size+2) l W5):=λW5 h5=>
    ⟨(h5.block _ (yg Ah)).trans Ah,(h5.block _ (yg AB)).trans AB,(h5.block _ (by omega)).trans jf,(h5.block _ (by omega)).trans jl⟩
   clear X0 hfi FI j0 jf jl hB4 hs4 hasc Ah AB;cases an
   ·obtain⟨Ah,AB,jf,jl⟩:=hcl.out W4 (aR _ _);obtain⟨a0,a1⟩:=Ah.cell;obtain⟨b0,b1⟩:=AB.cell;obtain⟨d0,d1⟩:=jf.cell;obtain⟨g0,g1⟩:=jl.cell;have y0:=jf.free 0;have y1:=jf.free 1;have y2:=jl.free 0;have y3:=jl.free 1;dsimp only at a0 a1 b0 b1;have hF:=hput.out W4 (aR _ _) (by simp);clear hput hkeep hcl Ah AB jf jl;go_wp2_with fail;go_region
    generalize World.drew _=W9 at hF ⊢;go_wp2_with fail;go_roundw
    case rel=>exact⟨_,cnt2,true,_,_,rfl,hF⟩
    case measure=>rw[hF.rg.left_eq];exact hme.out
   ·obtain⟨Ah,AB,jf,jl⟩:=hcl.out W4 (aR _ _);obtain⟨a0,a1⟩:=Ah.cell;obtain⟨b0,b1⟩:=AB.cell;obtain⟨d0,d1⟩:=jf.cell;obtain⟨g0,g1⟩:=jl.cell;dsimp only at a0 a1 b0 b1;clear Ah AB jf jl;go_wp2_with fail;refine aN (Ih (e.dw,e.iF) l W4) ?_;rintro r W5 ⟨rfl,hb5⟩;clear a0 a1 b0 b1 d0 d1 g0 g1;obtain⟨Ah,AB,jf,jl⟩:=hcl.out W5 hb5;obtain⟨a0,a1⟩:=Ah.cell;obtain⟨b0,b1⟩:=AB.cell;obtain⟨d0,d1⟩:=jf.cell;obtain⟨g0,g1⟩:=jl.cell;have y0:=jf.free 0;have y1:=jf.free 1;have y2:=jl.free 0;have y3:=jl.free 1;dsimp only at a0 a1 b0 b1;by_cases hc:(if e.dw=l.1 then e.iF<l.2 else e.dw<l.1)
    ·have hF:=hput.out W5 hb5 (by rw[aO trivial];exact hc);have hbt:(if e.dw=l.1 then decide (e.iF<l.2)else decide (e.dw<l.1))=true:=by
      split at hc<;>simp_all
     dsimp only;rw[hbt];clear hput hkeep hcl Ah AB jf jl hc hbt;go_wp2_with fail;go_region
     generalize World.drew _=W9 at hF ⊢;go_wp2_with fail;go_roundw
     case rel=>exact⟨_,cnt2,true,_,_,rfl,hF⟩
     case measure=>rw[hF.rg.left_eq];exact hme.out
    ·have hF:=hkeep.out W5 hb5 trivial hc;have hbt:(if e.dw=l.1 then decide (e.iF<l.2)else decide (e.dw<l.1))=false:=by
      split at hc<;>simp_all
     dsimp only;rw[hbt];clear hput hkeep hcl Ah AB jf jl hc hbt;go_wp2_with fail;go_roundw
     case rel=>exact⟨_,cnt2,true,_,_,rfl,hF⟩
     case measure=>rw[hF.rg.left_eq];exact hme.out
theorem zw{α:Type}(p:α->Bool):∀l:List α,(l.filter p).length+(l.filter λx=>!p x).length=l.length
 | []=>rfl
 |x::l=>by
  have:=zw p l;cases h:p x<;>simp[h]<;>omega
theorem vU.put{g:Int×Int->Option (Int×Int)}(h:vU Ms tn E W)(h2:∀e∈E,g e.key=some (e.dw,e.iF))(h3:∀k m,uT k->g k=some m->∃e∈E,e.key=k∧m=(e.dw,e.iF)){q:Int×Int}(hq:uT q){dw:Int}(h0:0<=dw)(hm:∀e∈E,e.dw<=dw)
  (hM:kD W' Ms (o_ g q (some (dw,tn))) (if (g q).isSome then E.length else E.length+1)):
  ∃g',kD W' Ms g' (dQ E q dw tn).length∧(∀e∈dQ E q dw tn,g' e.key=some (e.dw,e.iF))∧(∀k m,uT k->g' k=some m->∃e∈dQ E q dw tn,e.key=k∧m=(e.dw,e.iF))∧(∀e∈dQ E q dw tn,uT e.key∧0<=e.dw∧0<=e.iF∧e.iF<tn+1)∧(dQ E q dw tn).Pairwise (λa b=>a.dw<=b.dw∧a.iF<b.iF∧a.key≠b.key)∧(dQ E q dw tn).length<=17:=by
 have hk:(⟨q.1,q.2,dw,tn⟩:Mm).key=q:=rfl;have htn:=h.tn0;have hmem:∀e,e∈dQ E q dw tn ↔ (e∈E∧e.key≠q)∨e=⟨q.1,q.2,dw,tn⟩:=by
  intro e;unfold dQ;simp[List.mem_append,List.mem_filter]
 have hfl:(E.filter λe=>!decide (e.key=q)).length<=E.length:=List.length_filter_le ..;have hlen:(dQ E q dw tn).length=if (g q).isSome then E.length else E.length+1:=by
  unfold dQ;rw[bZ,List.length_singleton];cases hg:g q with
  |none=>
   have:E.filter (λe=>!decide (e.key=q))=E:=List.filter_eq_self.2 λe he=>by
    have:e.key≠q:=λhc=>by
     have:=h2 e he;rw[hc,hg]at this;cases this
    simp[this]
   rw[this];simp
  |some m=>
   obtain⟨e,he,hek,_⟩:=h3 q m hq hg;have hcount:(E.filter λe=>decide (e.key=q)).length=1:=by
    have hnd:(E.filter λe=>decide (e.key=q)).Pairwise (λa b=>a.key≠b.key):=(h.vQ.imp λh=>h.2.2).filter _;have hall:∀z∈E.filter (λe=>decide (e.key=q)),z.key=q:=λz hz=>by simpa using(List.mem_filter.1 hz).2
    have hin:e∈E.filter (λe=>decide (e.key=q)):=List.mem_filter.2 ⟨he,by simpa using hek⟩;generalize E.filter (λe=>decide (e.key=q))=F at hnd hall hin ⊢
    match F,hnd,hall,hin with
    | [],_,_,hin=>simp at hin
    | [_],_,_,_=>rfl
    |a::b::r,hnd,hall,_=>
     exfalso;have h1:=(List.pairwise_cons.1 hnd).1 b (jo ..);exact h1 ((hall a (jo ..)).trans (hall b (kU _ (jo ..))).symm)
   have hsum:=zw (λe:Mm=>decide (e.key=q)) E;simp only[Option.isSome_some,if_true];omega
 refine⟨_,by rw[hlen];exact hM,λe he=> ?_,λk m hk hg=> ?_,λe he=> ?_,?_,by rw[hlen];have:=h.len;split<;>omega⟩
 ·rcases(hmem e).1 he with⟨he,hne⟩|rfl
  ·simp only[o_,aD hne];exact h2 e he
  ·simp[o_,Mm.key]
 ·unfold o_ at hg;split at hg
  ·rename_i hkq;subst hkq;exact⟨_,(hmem _).2 (.inr rfl),rfl,(Option.some.inj hg).symm⟩
  ·rename_i hkq;obtain⟨e,he,hek,hm⟩:=h3 k m hk hg;exact⟨e,(hmem e).2 (.inl ⟨he,by rw[hek];exact hkq⟩),hek,hm⟩
 ·rcases(hmem e).1 he with⟨he,_⟩|rfl
  ·have:=h.ok e he;exact⟨this.1,this.2.1,this.2.2.1,by omega⟩
  ·exact⟨hq,h0,htn,by dsimp only;omega⟩
 ·unfold dQ;refine List.pairwise_append.2 ⟨h.vQ.filter _,by simp,λa ha b hb=> ?_⟩;rw[fD]at hb;subst hb;obtain⟨ha1,ha2⟩:=List.mem_filter.1 ha;have:=h.ok a ha1;exact⟨hm a ha1,this.2.2.2,by show a.key≠q;simpa using ha2⟩
theorem Tz{e0:Mm}{g:Int×Int->Option (Int×Int)}(h2:∀e∈e0::E,g e.key=some (e.dw,e.iF))(h3:∀k m,uT k->g k=some m->∃e∈e0::E,e.key=k∧m=(e.dw,e.iF))(hok:∀e∈e0::E,uT e.key∧0<=e.dw∧0<=e.iF∧e.iF<tn)(ha:(e0::E).Pairwise λa b=>a.dw<=b.dw∧a.iF<b.iF∧a.key≠b.key)(hl:(e0::E).length<=17)(ht:0<=tn)
  (hM:kD W' Ms (o_ g e0.key none) ((e0::E).length - 1)):vU Ms tn E W':=by
 have hp:=List.pairwise_cons.1 ha;refine⟨⟨_,hM,λe he=> ?_,λk m hk hg=> ?_⟩,λe he=>hok e (kU _ he),hp.2,by simpa using hl,ht⟩
 ·have:=(hp.1 e he).2.2;simp only[o_,aD (Ne.symm this)];exact h2 e (kU _ he)
 ·unfold o_ at hg;split at hg
  ·cases hg
  ·rename_i hne;obtain⟨e,he,hek,hm⟩:=h3 k m hk hg;rcases eF.1 he with rfl|he
   ·exact absurd hek.symm hne
   ·exact⟨e,he,hek,hm⟩
theorem Eu(N:Nat)(x:l8)(E:List Mm)(q:Int×Int)(hq:uT q)(dw:Int)(h0:0<=dw)(hm:∀e∈E,e.dw<=dw)(htn:x.tn<=4611686018427387904)(w:World)(hN:gW N x w)(hs:vU x.Ms x.tn E w):
  Calls Tryz.prog 156 #[.pointer (some ⟨N,8,none⟩),jC q,.int .u64 dw] w λe w'=>e=.returned (.tuple #[])∧gW N {x with tn:=x.tn+1} w'∧vU x.Ms (x.tn+1) (dK E q dw x.tn) w'∧Fx (λk=>k=N∨k=x.Ms) w w':=by
 obtain⟨g,h1,h2,h3⟩:=hs.map;have adS:=hs.len;have adH:=hs.tn0;have hNM:N≠x.Ms:=λe=>by
  obtain⟨es,cl,hM⟩:=hs.obj;rw[<-e,show w.heap[N]?=_ from hN]at hM;cases hM
 have hb0:Below w.heap.size w (w.alloc (fo q)):=bn;have hC:=bO w (fo q);have hN1:=hN.later hb0;have hg1:=h1.block (hb0.block _ h1.lt);have hF1:Fx (λk=>k=N∨k=x.Ms) w (w.alloc (fo q)):=Fx.below hb0;have QO:w.heap.size<(w.alloc (fo q)).heap.size:=by simp
 have hne:w.heap.size≠N∧w.heap.size≠x.Ms:=⟨λe=>by have:=hN.lt;omega,λe=>by have:=hs.lt;omega⟩;have HP:=(show Hid _ from λW' hM=>vU.put (W':=W') hs h2 h3 hq h0 hm hM);clear hs hN h1 h2 h3 hm;dsimp only[fo]at hb0 hC hN1 hg1 hF1 QO;dsimp only[jC];have hsa:Hid (dK E q dw x.tn=if 16<(dQ E q dw x.tn).length then(dQ E q dw x.tn).tail else dQ E q dw x.tn):=rfl;generalize dK E q dw x.tn=R at hsa ⊢;go_enter Tryz.func156,Tryz.ntmps156;go_upto_region 1 with(fail);generalize World.alloc _ _=W1 at hb0 hC hN1 hg1 hF1 QO ⊢;generalize w.heap.size=C at hC QO hne ⊢;obtain⟨n0,n2,n3,n4,n5,n6,n7,n8,n9,n10⟩:=hN1.cell;have c0:W1.cell? ⟨C,0,none⟩=some (.int .u32 q.1):=aF _ _ 0 _ _ _ hC;have c1:W1.cell? ⟨C,1,none⟩=some (.int .u32 q.2):=aF _ _ 1 _ _ _ hC;obtain⟨W3,hr3,nO,MF⟩:=(show kD W1.drew _ _ _ from hg1).put (by unfold maxLen;omega) hq (dw,x.tn);dsimp only[jC,vN]at hr3;have Qx:W1.grownBy W3 (some x.Ms):=⟨MF.os,MF.tape,MF.output,MF.size,MF.block⟩;have zm:=hN1.kept Qx (by simpa using Ne.symm hNM);have wJ:=hF1.trans (Fx.grown (S:=λk=>k=x.Ms) Qx (λk e=>by cases e;rfl)) (λi _ h=> .inr h);have hP3:=HP.out W3 nO;clear hg1 hN1 hF1 nO HP hC hb0;go_region
 clear n0 n2 n3 n4 n5 n6 n7 n8 n9 n10 c0 c1 hr3 MF Qx;obtain⟨g',k1,k2,k3,k4,k5,k6⟩:=hP3;generalize dQ E q dw x.tn=L at k1 k2 k3 k4 k5 k6 hsa;obtain⟨n0,n2,n3,n4,n5,n6,n7,n8,n9,n10⟩:=zm.cell;have f9:=zm.free 9;have hg4:W3.grownBy (W3.setCell ⟨N,9,none⟩ (.int .i64 (x.tn+1))) (some N):=ah (ay _ (some N)) 9 _;have Aj:=zm.aac (x.tn+1);have k14:=k1.block (hg4.block _ k1.lt (by simpa using Ne.symm hNM));have qU:=wJ.trans (Fx.grown (S:=λk=>k=N) hg4 (λk e=>by cases e;rfl)) (λi _ h=> .inl h);have hwr:wrap64 (x.tn+1)=x.tn+1:=by unfold wrap64;omega
 clear zm k1 wJ hg4;go_upto_region 3 with(fail);generalize World.setCell _ _ _=W4 at Aj k14 qU ⊢;clear n0 n2 n3 n4 n5 n6 n7 n8 n9 n10 f9 hwr;obtain⟨n0,n2,n3,n4,n5,n6,n7,n8,n9,n10⟩:=Aj.cell;have hlen:=λty=>k14.len ty;generalize hnl:L.length=nl at hlen;replace hnl:=(show Hid _ from hnl);by_cases hl:16<L.length
 ·have hlb:decide ((16:Int)<(nl:Int))=true:=eX (by have:=hnl.out;omega);have hR:=hsa.out;rw[aO hl]at hR;subst hR;obtain⟨e0,L',rfl⟩:∃e0 L',L=e0::L':=by
   cases L with
   |nil=>simp at hl
   |cons a b=>exact⟨a,b,rfl⟩
  have HF:Hid (∀W5,Below W4.heap.size W4 W5->Calls Tryz.prog 178 #[.pointer (some ⟨N,8,none⟩)] W5 λe w'=>e=.returned (jC e0.key)∧Below W4.heap.size W4 w'):=by
   intro W5 h5;refine(FZ N {x with tn:=x.tn+1} e0 L' W5 (Aj.later h5) ⟨_,k14.block (h5.block _ k14.lt),k2,k3⟩ k4 k5).mono ?_;rintro e w' ⟨rfl,hb⟩;exact⟨rfl,h5.trans (hb.mono h5.size)⟩
  have HD:Hid (∀W5,Below W4.heap.size W4 W5->W5.cell? ⟨N,8,none⟩=some (.map (some x.Ms))∧∃W6,(Builtin.delete_ #[111,261] 0 #[.map (some x.Ms),jC e0.key]).run Tryz.prog W5=.ok (.tuple #[]) W6∧W6.cell? ⟨N,8,none⟩=some (.map (some x.Ms))∧gW N {x with tn:=x.tn+1} W6∧vU x.Ms (x.tn+1) L' W6∧Fx (λk=>k=N∨k=x.Ms) w W6):=by
   intro W5 h5;have m_:=k14.block (h5.block _ k14.lt);obtain⟨W6,rY,MC,iN⟩:=m_.del (k4 e0 (jo ..)).1 0 (by rw[k2 e0 (jo ..)];rfl);have NW:=(Aj.later h5).kept iN (by simpa using Ne.symm hNM);exact⟨(Aj.later h5).cell.2.2.2.2.2.1,W6,rY,NW.cell.2.2.2.2.2.1,NW,Tz k2 k3 k4 k5 k6 (by omega) MC,(qU.trans (Fx.below (S:=λ_=>False) h5) (λ_ _ h=>h.elim)).trans (Fx.grown (S:=λk=>k=x.Ms) iN (λk e=>by cases e;rfl)) (λi _ h=> .inr h)⟩
  clear Aj k14 qU k2 k3 k4 k5 k6 hl;dsimp only[jC]at HF HD;go_wp2_with fail;go_region_law (first
   |(go_simp;go_at_call 178;refine(HF.out _ (by first|exact aR _ _|exact(aR _ _).drew|exact below_drewN (aR _ _) _)).mono ?_;rintro e w5 ⟨rfl,hb5⟩;obtain⟨ML,W6,rY,hc6,NW,UM,Sm⟩:=HD.out _ hb5))
  all_goals
   go_wp2;go_returns;exact⟨rfl,NW,UM,Sm⟩
 ·have hlb:decide ((16:Int)<(nl:Int))=false:=dL (by have:=hnl.out;omega);have hR:=hsa.out;rw[aD hl]at hR;replace hR:=(show Hid _ from hR);have hfin:vU x.Ms (x.tn+1) L W4:=⟨⟨g',k14,k2,k3⟩,k4,k5,by omega,by omega⟩;clear k14 k2 k3 k4 k5 k6 hl;go_wp2;go_returns;exact⟨rfl,Aj,hR.out▸hfin,qU⟩
open Hp
variable{last:Int}{f:Int->Option Nat}{M T:Nat}{v:Value}{W:World}
def PI(h:List Tm)(f:Int->Option Nat):Prop:=
 (∀i x,h[i]?=some x->f x.2.1=some i)∧∀k i,f k=some i->∃x,h[i]?=some x∧x.2.1=k
theorem PI.sw{h:List Tm}(p:PI h f){i j:Nat}(hi:i<h.length)(hj:j<h.length):
  PI (sw h i j) (upd (upd f (at' h j).2.1 (some i)) (at' h i).2.1 (some j)):=by
 have pi:=p.1 i _ (iU hi);have pj:=p.1 j _ (iU hj);have hs:=wR hi hj;constructor
 ·intro k x hx;have hk:k<h.length:=by
   rcases Nat.lt_or_ge k (Hp.sw h i j).length with a|a
   ·rw[dx]at a;exact a
   ·rw[List.getElem?_eq_none a]at hx;cases hx
  have e:=qC hx;rw[hs]at e;by_cases h1:k=j
  ·rw[aO h1]at e;rw[<-e,h1];simp[upd]
  ·rw[aD h1]at e;by_cases h2:k=i
   ·rw[aO h2]at e;rw[<-e,h2];unfold upd;by_cases h3:(at' h j).2.1=(at' h i).2.1
    ·rw[h3,pi]at pj;cases pj;exact absurd h2 h1
    ·rw[aD h3,aO rfl]
   ·rw[aD h2]at e;have pk:=p.1 k _ (iU hk);rw[e]at pk;unfold upd;by_cases h3:x.2.1=(at' h i).2.1
    ·rw[h3,pi]at pk;cases pk;exact absurd rfl h2
    ·rw[aD h3];by_cases h4:x.2.1=(at' h j).2.1
     ·rw[h4,pj]at pk;cases pk;exact absurd rfl h1
     ·rw[aD h4,pk]
 ·intro k n hn;unfold upd at hn;have hl:(Hp.sw h i j).length=h.length:=dx h i j;by_cases h1:k=(at' h i).2.1
  ·rw[aO h1]at hn;cases hn;exact⟨_,iU (by omega),by rw[hs,aO rfl,h1]⟩
  ·rw[aD h1]at hn;by_cases h2:k=(at' h j).2.1
   ·rw[aO h2]at hn;cases hn;refine⟨_,iU (by omega),?_⟩;rw[hs,aO rfl];by_cases h3:i=j
    ·subst h3;exact absurd h2 h1
    ·rw[aD h3,h2]
   ·rw[aD h2]at hn;obtain⟨x,hx,hk⟩:=p.2 k n hn;have hnl:n<h.length:=by
     rcases Nat.lt_or_ge n h.length with a|a
     ·exact a
     ·rw[List.getElem?_eq_none a]at hx;cases hx
    refine⟨x,?_,hk⟩;rw[iU (by omega),hs];have e:=qC hx;rw[aD (by rintro rfl;rw[e]at h2;exact h2 hk.symm),aD (by rintro rfl;rw[e]at h1;exact h1 hk.symm),e]
theorem PI.add{h:List Tm}(p:PI h f){x:Tm}(hx:f x.2.1=none):PI (h++ [x]) (upd f x.2.1 (some h.length)):=by
 constructor
 ·intro i y hy;unfold upd;by_cases hi:i<h.length
  ·rw[List.getElem?_append_left hi]at hy;have:=p.1 i y hy;rw[aD (λe=>by rw[e,hx]at this;cases this),this]
  ·rw[List.getElem?_append_right (by omega)]at hy;have:i - h.length=0:=by
    rcases Nat.eq_zero_or_pos (i - h.length)with a|a
    ·exact a
    ·rw[List.getElem?_eq_none (by simp;omega)]at hy;cases hy
   rw[this]at hy;simp at hy;subst hy;rw[aO rfl]
   congr 1
   omega
 ·intro k i hk;unfold upd at hk;by_cases e:k=x.2.1
  ·rw[aO e]at hk;cases hk;exact⟨x,by simp,e.symm⟩
  ·rw[aD e]at hk;obtain⟨y,hy,he⟩:=p.2 k i hk;have hi:i<h.length:=by
    rcases Nat.lt_or_ge i h.length with a|a
    ·exact a
    ·rw[List.getElem?_eq_none a]at hy;cases hy
   exact⟨y,by rw[List.getElem?_append_left hi];exact hy,he⟩
theorem PI.cut{h:List Tm}(p:PI h f){n:Nat}(hn:h.length=n+1):PI (h.take n) (upd f (at' h n).2.1 none):=by
 have pn:=p.1 n _ (iU (by omega));constructor
 ·intro i x hx;rw[List.getElem?_take]at hx;split at hx
  ·rename_i hi;have pi:=p.1 i x hx;unfold upd;rw[aD (λe=>by rw[e,pn]at pi;cases pi;omega),pi]
  ·cases hx
 ·intro k i hk;unfold upd at hk;split at hk
  ·cases hk
  ·rename_i e;obtain⟨x,hx,he⟩:=p.2 k i hk;refine⟨x,?_,he⟩;rw[List.getElem?_take];split
   ·exact hx
   ·rename_i hi;have hil:i<h.length:=by
     rcases Nat.lt_or_ge i h.length with a|a
     ·exact a
     ·rw[List.getElem?_eq_none a]at hx;cases hx
    obtain rfl:i=n:=by omega
    rw[qC hx]at e;exact absurd he.symm e
def JC(x:Tm):List Value:=[.int .u64 x.1,.int .i64 x.2.1,.int .i64 x.2.2]
def TC(h:List Tm):List Value:=h.flatMap JC
theorem nT(h:List Tm):(TC h).length=h.length * 3:=qd JC 3 (λ_=>rfl) h
theorem qW{h:List Tm}{i:Nat}(hi:i<h.length):(TC h)[i * 3]?=some (.int .u64 (at' h i).1)∧(TC h)[i * 3+1]?=some (.int .i64 (at' h i).2.1)∧(TC h)[i * 3+2]?=some (.int .i64 (at' h i).2.2):=
 ⟨jW JC 3 (by decide) (λ_=>rfl) h i 0 (by decide) (iU hi),jW JC 3 (by decide) (λ_=>rfl) h i 1 (by decide) (iU hi),jW JC 3 (by decide) (λ_=>rfl) h i 2 (by decide) (iU hi)⟩
theorem Nw(a b:List Tm):TC (a++b)=TC a++TC b:=by simp[TC]
def TOk(x:Tm):Prop:=(0<=x.1∧x.1<18446744073709551616)∧nX x.2.1∧nX x.2.2
def uO(T M:Nat)(last:Int)(v:Value)(W:World):Prop:=W.heap[T]?=some (.cells #[v,.map (some M),.int .i64 last] 165)
theorem uO.cell(h:uO T M last v W):
  W.cell? ⟨T,0,none⟩=some v∧W.cell? ⟨T,1,none⟩=some (.map (some M))∧W.cell? ⟨T,2,none⟩=some (.int .i64 last):=
 ⟨aF W T 0 _ _ _ h,aF W T 1 _ _ _ h,aF W T 2 _ _ _ h⟩
theorem uO.free(h:uO T M last v W)(i:Nat):W.frozen? ⟨T,i,none⟩=false:=by
 unfold uO at h;simp[World.frozen?,h]
theorem uO.lt(h:uO T M last v W):T<W.heap.size:=(gN.1 h).1
structure TR(base T M:Nat)(last:Int)(h:List Tm)(v:Value)(W:World):Prop where
 blk:uO T M last v W
 row:W.ownsRow base 254 3 v h.length (TC h)
 map:∃f,j3 W M f h.length∧PI h f
 ok:∀x∈h,TOk x
 bT:base<=T
 bM:base<=M
theorem TR.shape{base:Nat}{h:List Tm}(r:TR base T M last h v W)(h0:0<h.length):∃g cap,v=.slice (some ⟨g,0,none⟩) h.length cap∧base<=g:=by
 refine bS r.row h0
theorem TR.apart{base:Nat}{h:List Tm}(r:TR base T M last h v W):T≠M∧some T≠v.ownBlock∧some M≠v.ownBlock:=by
 have hb:=r.blk;obtain⟨f,⟨D,⟨es,clock,hm,_⟩,_⟩,_⟩:=r.map;refine⟨?_,?_,?_⟩
 ·rintro rfl;unfold uO at hb;rw[hb]at hm;cases hm
 ·intro e;rcases r.row.2 with⟨rfl,_⟩|⟨g,cap,cur,rfl,_,hg,_⟩
  ·simp[Value.ownBlock]at e
  ·simp[Value.ownBlock]at e;subst e;unfold uO at hb;rw[hb]at hg;simp at hg
 ·intro e;rcases r.row.2 with⟨rfl,_⟩|⟨g,cap,cur,rfl,_,hg,_⟩
  ·simp[Value.ownBlock]at e
  ·simp[Value.ownBlock]at e;subst e;rw[hm]at hg;cases hg
structure Fr(T M:Nat)(v:Value)(W W':World):Prop where
 os:W'.os=W.os
 tape:W'.tape=W.tape
 output:W'.output=W.output
 size:W.heap.size<=W'.heap.size
 block:∀k,k<W.heap.size->k≠T->k≠M->some k≠v.ownBlock->W'.heap[k]?=W.heap[k]?
theorem Fr.refl(T M:Nat)(v:Value)(W:World):Fr T M v W W:=⟨rfl,rfl,rfl,aA _,λ_ _ _ _ _=>rfl⟩
theorem Fr.trans{v':Value}{W1 W2:World}(a:Fr T M v W W1)(b:Fr T M v' W1 W2)(hv:v'.ownBlock=v.ownBlock∨∀k,v'.ownBlock=some k->W.heap.size<=k):Fr T M v W W2:=by
 refine⟨b.os.trans a.os,b.tape.trans a.tape,b.output.trans a.output,dF a.size b.size,λk hk h1 h2 h3=> ?_⟩;rw[b.block k (fB hk a.size) h1 h2 ?_]
 ·exact a.block k hk h1 h2 h3
 ·rcases hv with hv|hv
  ·rw[hv];exact h3
  ·intro e;have:=hv k e.symm;omega
theorem Fr.grown{W':World}{r:Option Nat}(h:W.grownBy W' r)(hr:r=none∨r=some T∨r=some M∨r=v.ownBlock):Fr T M v W W':=by
 refine⟨h.os,h.tape,h.output,h.size,λk hk h1 h2 h3=>h.block k hk ?_⟩;rcases hr with rfl|rfl|rfl|rfl
 ·simp
 ·simpa using h1
 ·simpa using h2
 ·exact h3
open Hp
variable{last:Int}{M T:Nat}{r:Option Nat}{v:Value}{A B W:World}
theorem zR:∀(h:List Tm) (i:Nat) (x:Tm),(((TC h).set (i * 3) (.int .u64 x.1)).set (i * 3+1) (.int .i64 x.2.1)).set (i * 3+2) (.int .i64 x.2.2)=TC (h.set i x)
 | [],i,x=>by simp[TC]
 |a::h,0,x=>by simp[TC,JC]
 |a::h,i+1,x=>by
  have ih:=zR h i x;simp only[TC,List.flatMap_cons,List.set_cons_succ]at ih ⊢;rw[<-ih];simp only[JC,List.cons_append,List.nil_append,show(i+1)* 3=i * 3+1+1+1 by omega,List.set_cons_succ]
theorem uO.kept{W':World}(h:uO T M last v W)(hg:W.grownBy W' r)(hne:some T≠r):uO T M last v W':=(hg.block T h.lt hne).trans h
theorem dS{g:Nat}(h:A.grownBy B (some g))(j:Nat)(v:Value):A.grownBy (B.setCell ⟨g,j,none⟩ v) (some g):=
 ⟨h.os,h.tape,h.output,by simpa using h.size,λi hi hne=>(kV B ⟨g,j,none⟩ v i (λe=>hne (by rw[e]))).trans (h.block i hi hne)⟩
theorem zq(h:A.grownBy B r):A.grownBy B.drew r:=⟨h.os,h.tape,h.output,h.size,h.block⟩
theorem lM(A:World)(r:Option Nat):A.grownBy A r:=⟨rfl,rfl,rfl,aA _,λ_ _ _=>rfl⟩
theorem JU{base:Nat}{h:List Tm}(r:TR base T M last h v W){i:Nat}(hi:i<h.length):nX (at' h i).2.1:=
 (r.ok _ (jY (iU hi))).2.1
theorem Tk(base T M:Nat)(last:Int)(h:List Tm)(v:Value)(w:World)(r:TR base T M last h v w)(i j:Nat)(hi:i<h.length)(hj:j<h.length)(hij:i≠j)(hn:h.length<=1000000):
  Calls Tryz.prog 174 #[.pointer (some ⟨T,0,none⟩),.int .i64 i,.int .i64 j] w λe w'=>e=.returned (.tuple #[])∧TR base T M last (sw h i j) v w'∧Fr T M v w w':=by
 obtain⟨g,cap,rfl,hg⟩:=r.shape (by omega);obtain⟨c0,c1,c2⟩:=r.blk.cell;have ai:=qW hi;have aj:=qW hj;have hl:=nT h;have i0:=(r.row.cellAt (i * 3) (by omega)).trans ai.1;have i1:=(r.row.cellAt (i * 3+1) (by omega)).trans ai.2.1;have i2:=(r.row.cellAt (i * 3+2) (by omega)).trans ai.2.2;have j0:=(r.row.cellAt (j * 3) (by omega)).trans aj.1;have j1:=(r.row.cellAt (j * 3+1) (by omega)).trans aj.2.1;have j2:=(r.row.cellAt (j * 3+2) (by omega)).trans aj.2.2;have f0:=r.row.frozenAt (i * 3);have f1:=r.row.frozenAt (i * 3+1);have f2:=r.row.frozenAt (i * 3+2);have f3:=r.row.frozenAt (j * 3);have f4:=r.row.frozenAt (j * 3+1);have f5:=r.row.frozenAt (j * 3+2);have hin:(i:Int)<(h.length:Int):=by omega
 have hjn:(j:Int)<(h.length:Int):=by omega
 have n00:¬i * 3=j * 3:=by omega
 have n01:¬i * 3=j * 3+1:=by omega
 have n02:¬i * 3=j * 3+2:=by omega
 have n10:¬i * 3+1=j * 3:=by omega
 have n11:¬i * 3+1=j * 3+1:=by omega
 have n12:¬i * 3+1=j * 3+2:=by omega
 have n20:¬i * 3+2=j * 3:=by omega
 have n21:¬i * 3+2=j * 3+1:=by omega
 have n22:¬i * 3+2=j * 3+2:=by omega
 have hTg:¬T=g:=λe=>r.apart.2.1 (by rw[e];rfl);generalize hx:at' h i=x at i0 i1 i2;generalize hy:at' h j=y at j0 j1 j2;have hx':=(show Hid _ from hx);have hy':=(show Hid _ from hy);clear hx hy ai aj hl;obtain⟨f,hm,hp⟩:=r.map;have hap:=r.apart;have hidx:=JU r hi;have Yd:=JU r hj;rw[hx'.out]at hidx;rw[hy'.out]at Yd;have Qw:nX (i:Int):=by unfold nX;omega
 have acD:nX (j:Int):=by unfold nX;omega
 have hpi:=hp.1 i _ (iU hi);have hpj:=hp.1 j _ (iU hj);have FJ:=hp.sw hi hj;rw[hx'.out]at hpi FJ;rw[hy'.out]at hpj FJ;have hrow:(((((((w.setCell ⟨g,i * 3,none⟩ (.int .u64 y.1)).setCell ⟨g,i * 3+1,none⟩ (.int .i64 y.2.1)).setCell ⟨g,i * 3+2,none⟩ (.int .i64 y.2.2)).setCell ⟨g,j * 3,none⟩ (.int .u64 x.1)).setCell ⟨g,j * 3+1,none⟩ (.int .i64 x.2.1)).setCell ⟨g,j * 3+2,none⟩ (.int .i64 x.2.2)).drew).ownsRow base 254 3 (.slice (some ⟨g,0,none⟩) h.length cap) h.length (TC (Hp.sw h i j)):=by
  have e:=((((((r.row.stored (i * 3) (.int .u64 y.1)).1.stored (i * 3+1) (.int .i64 y.2.1)).1.stored (i * 3+2) (.int .i64 y.2.2)).1.stored (j * 3) (.int .u64 x.1)).1.stored (j * 3+1) (.int .i64 x.2.1)).1.stored (j * 3+2) (.int .i64 x.2.2)).1;rw[zR,zR]at e;have es:(h.set i y).set j x=Hp.sw h i j:=by
   unfold Hp.sw;rw[hx'.out,hy'.out]
  rw[es]at e;exact e.drew
 have hgr:w.grownBy (((((((w.setCell ⟨g,i * 3,none⟩ (.int .u64 y.1)).setCell ⟨g,i * 3+1,none⟩ (.int .i64 y.2.1)).setCell ⟨g,i * 3+2,none⟩ (.int .i64 y.2.2)).setCell ⟨g,j * 3,none⟩ (.int .u64 x.1)).setCell ⟨g,j * 3+1,none⟩ (.int .i64 x.2.1)).setCell ⟨g,j * 3+2,none⟩ (.int .i64 x.2.2)).drew) (some g):=by
  have e:=dS (dS (dS (dS (dS (dS (lM w (some g)) (i * 3) (.int .u64 y.1)) (i * 3+1) (.int .i64 y.2.1)) (i * 3+2) (.int .i64 y.2.2)) (j * 3) (.int .u64 x.1)) (j * 3+1) (.int .i64 x.2.1)) (j * 3+2) (.int .i64 x.2.2);exact zq e
 have hTn:some T≠(some g:Option Nat):=hap.2.1;have Sk:some M≠(some g:Option Nat):=hap.2.2;have hB1:=r.blk.kept hgr hTn;have hm1:=hm.kept hgr Sk;have hat:=wR hi hj;rw[hx'.out,hy'.out]at hat;have ZK:i<(Hp.sw h i j).length:=by rw[dx];exact hi
 have hlj:j<(Hp.sw h i j).length:=by rw[dx];exact hj
 have ti:=qW ZK;have tj:=qW hlj;rw[hat,aD hij,aO rfl]at ti;rw[hat,aO rfl]at tj;have Yn:=r.bT;have Yo:=r.bM;have hok:∀z∈Hp.sw h i j,TOk z:=λz hz=>r.ok z ((tu hi hj).mem_iff.1 hz);have hmt:T≠M:=hap.1;generalize hH:h.length=n at hin hjn c0 hn hrow hB1 hm1;have UY:=(show Hid _ from hH);clear hH r hm hp hap hx' hy' hat;obtain⟨x0,x1,x2⟩:=x;obtain⟨y0,y1,y2⟩:=y;dsimp only at i0 i1 i2 j0 j1 j2 hrow hgr hB1 hm1 hidx Yd hpi hpj FJ ti tj;go_enter Tryz.func174,Tryz.ntmps174;go_wp2_with fail;go_region
 clear i0 i1 i2 j0 j1 j2 c0 c1 c2 f0 f1 f2 f3 f4 f5 n00 n01 n02 n10 n11 n12 n20 n21 n22;generalize World.drew _=W1 at hrow hgr hB1 hm1 ⊢;have hl3:n * 3=h.length * 3:=by rw[UY.out]
 have d1:=(hrow.cellAt (i * 3+1) (by omega)).trans ti.2.1;obtain⟨b0,b1,b2⟩:=hB1.cell;obtain⟨W2,hr2,hm2,hg2⟩:=(show j3 W1.drew M f n from hm1).put (by unfold maxLen;omega) Yd Qw;go_wp2_with fail;go_region
 have rZ:W1.grownBy W2 (some M):=⟨hg2.os,hg2.tape,hg2.output,hg2.size,hg2.block⟩;rw[hpj]at hm2;simp only[Option.isSome_some,if_true]at hm2;have hB2:=hB1.kept rZ (by simpa using hmt);have hrow2:=hrow.kept rZ (by simpa[Value.ownBlock]using Sk.symm);have hF2:=(Fr.grown (T:=T) (M:=M) (v:=.slice (some ⟨g,0,none⟩) n cap) hgr (.inr (.inr (.inr rfl)))).trans (Fr.grown (T:=T) (M:=M) (v:=.slice (some ⟨g,0,none⟩) n cap) rZ (.inr (.inr (.inl rfl)))) (.inl rfl);clear hrow hB1 hm1 hr2 hgr hg2 rZ b0 b1 b2 d1 ti;have d1:=(hrow2.cellAt (j * 3+1) (by omega)).trans tj.2.1;obtain⟨b0,b1,b2⟩:=hB2.cell;obtain⟨W3,hr3,nO,hg3⟩:=(show j3 W2.drew M _ n from hm2).put (by unfold maxLen;omega) hidx acD;go_wp2_with fail;go_region
 have hg3':W2.grownBy W3 (some M):=⟨hg3.os,hg3.tape,hg3.output,hg3.size,hg3.block⟩;have hsome:(upd f y1 (some i) x1).isSome=true:=by
  unfold upd;split
  ·rfl
  ·rw[hpi];rfl
 rw[hsome]at nO;simp only[if_true]at nO;have hB3:=hB2.kept hg3' (by simpa using hmt);have hrow3:=hrow2.kept hg3' (by simpa[Value.ownBlock]using Sk.symm);have wJ:=hF2.trans (Fr.grown (T:=T) (M:=M) (v:=.slice (some ⟨g,0,none⟩) n cap) hg3' (.inr (.inr (.inl rfl)))) (.inl rfl);clear hrow2 hB2 hm2 hr3 hF2 hg3 hg3' b0 b1 b2 d1 tj;go_wp2;go_returns;have hls:(Hp.sw h i j).length=n:=by rw[dx];exact UY.out
 rw[<-hls]at hrow3 nO hB3 wJ ⊢;exact⟨rfl,⟨hB3,hrow3,⟨_,nO,FJ⟩,hok,Yn,Yo⟩,wJ⟩
theorem swap_eq(base T M:Nat)(last:Int)(h:List Tm)(v:Value)(w:World)(r:TR base T M last h v w)(i:Nat)(hi:i<h.length)(hn:h.length<=1000000):
  Calls Tryz.prog 174 #[.pointer (some ⟨T,0,none⟩),.int .i64 i,.int .i64 i] w λe w'=>e=.returned (.tuple #[])∧TR base T M last (sw h i i) v w'∧Fr T M v w w':=by
 obtain⟨g,cap,rfl,hg⟩:=r.shape (by omega);obtain⟨c0,c1,c2⟩:=r.blk.cell;have ai:=qW hi;have hl:=nT h;have i0:=(r.row.cellAt (i * 3) (by omega)).trans ai.1;have i1:=(r.row.cellAt (i * 3+1) (by omega)).trans ai.2.1;have i2:=(r.row.cellAt (i * 3+2) (by omega)).trans ai.2.2;have f0:=r.row.frozenAt (i * 3);have f1:=r.row.frozenAt (i * 3+1);have f2:=r.row.frozenAt (i * 3+2);have hin:(i:Int)<(h.length:Int):=by omega
 have hTg:¬T=g:=λe=>r.apart.2.1 (by rw[e];rfl);generalize hx:at' h i=x at i0 i1 i2;have hx':=(show Hid _ from hx);clear hx ai hl;obtain⟨f,hm,hp⟩:=r.map;have hap:=r.apart;have hidx:=JU r hi;rw[hx'.out]at hidx;have Qw:nX (i:Int):=by unfold nX;omega
 have hpi:=hp.1 i _ (iU hi);have FJ:=hp.sw hi hi;rw[hx'.out]at hpi FJ;have hrow:(((((((w.setCell ⟨g,i * 3,none⟩ (.int .u64 x.1)).setCell ⟨g,i * 3+1,none⟩ (.int .i64 x.2.1)).setCell ⟨g,i * 3+2,none⟩ (.int .i64 x.2.2)).setCell ⟨g,i * 3,none⟩ (.int .u64 x.1)).setCell ⟨g,i * 3+1,none⟩ (.int .i64 x.2.1)).setCell ⟨g,i * 3+2,none⟩ (.int .i64 x.2.2)).drew).ownsRow base 254 3 (.slice (some ⟨g,0,none⟩) h.length cap) h.length (TC (Hp.sw h i i)):=by
  have e:=((((((r.row.stored (i * 3) (.int .u64 x.1)).1.stored (i * 3+1) (.int .i64 x.2.1)).1.stored (i * 3+2) (.int .i64 x.2.2)).1.stored (i * 3) (.int .u64 x.1)).1.stored (i * 3+1) (.int .i64 x.2.1)).1.stored (i * 3+2) (.int .i64 x.2.2)).1;rw[zR,zR]at e;have es:(h.set i x).set i x=Hp.sw h i i:=by
   unfold Hp.sw;rw[hx'.out]
  rw[es]at e;exact e.drew
 have hgr:w.grownBy (((((((w.setCell ⟨g,i * 3,none⟩ (.int .u64 x.1)).setCell ⟨g,i * 3+1,none⟩ (.int .i64 x.2.1)).setCell ⟨g,i * 3+2,none⟩ (.int .i64 x.2.2)).setCell ⟨g,i * 3,none⟩ (.int .u64 x.1)).setCell ⟨g,i * 3+1,none⟩ (.int .i64 x.2.1)).setCell ⟨g,i * 3+2,none⟩ (.int .i64 x.2.2)).drew) (some g):=by
  have e:=dS (dS (dS (dS (dS (dS (lM w (some g)) (i * 3) (.int .u64 x.1)) (i * 3+1) (.int .i64 x.2.1)) (i * 3+2) (.int .i64 x.2.2)) (i * 3) (.int .u64 x.1)) (i * 3+1) (.int .i64 x.2.1)) (i * 3+2) (.int .i64 x.2.2);exact zq e
 have hTn:some T≠(some g:Option Nat):=hap.2.1;have Sk:some M≠(some g:Option Nat):=hap.2.2;have hB1:=r.blk.kept hgr hTn;have hm1:=hm.kept hgr Sk;have hat:=wR hi hi;rw[hx'.out]at hat;have ZK:i<(Hp.sw h i i).length:=by rw[dx];exact hi
 have ti:=qW ZK;rw[hat,aO rfl]at ti;have Yn:=r.bT;have Yo:=r.bM;have hok:∀z∈Hp.sw h i i,TOk z:=λz hz=>r.ok z ((tu hi hi).mem_iff.1 hz);have hmt:T≠M:=hap.1;generalize hH:h.length=n at hin c0 hn hrow hB1 hm1;have UY:=(show Hid _ from hH);clear hH r hm hp hap hx' hat;obtain⟨x0,x1,x2⟩:=x;dsimp only at i0 i1 i2 hrow hgr hB1 hm1 hidx hpi FJ ti;go_enter Tryz.func174,Tryz.ntmps174;go_wp2_with fail;go_region
 clear i0 i1 i2 c0 c1 c2 f0 f1 f2;generalize World.drew _=W1 at hrow hgr hB1 hm1 ⊢;have hl3:n * 3=h.length * 3:=by rw[UY.out]
 have d1:=(hrow.cellAt (i * 3+1) (by omega)).trans ti.2.1;obtain⟨b0,b1,b2⟩:=hB1.cell;obtain⟨W2,hr2,hm2,hg2⟩:=(show j3 W1.drew M f n from hm1).put (by unfold maxLen;omega) hidx Qw;go_wp2_with fail;go_region
 have rZ:W1.grownBy W2 (some M):=⟨hg2.os,hg2.tape,hg2.output,hg2.size,hg2.block⟩;rw[hpi]at hm2;simp only[Option.isSome_some,if_true]at hm2;have hB2:=hB1.kept rZ (by simpa using hmt);have hrow2:=hrow.kept rZ (by simpa[Value.ownBlock]using Sk.symm);have hF2:=(Fr.grown (T:=T) (M:=M) (v:=.slice (some ⟨g,0,none⟩) n cap) hgr (.inr (.inr (.inr rfl)))).trans (Fr.grown (T:=T) (M:=M) (v:=.slice (some ⟨g,0,none⟩) n cap) rZ (.inr (.inr (.inl rfl)))) (.inl rfl);clear hrow hB1 hm1 hr2 hgr hg2 rZ b0 b1 b2 d1;have d1:=(hrow2.cellAt (i * 3+1) (by omega)).trans ti.2.1;obtain⟨b0,b1,b2⟩:=hB2.cell;obtain⟨W3,hr3,nO,hg3⟩:=(show j3 W2.drew M _ n from hm2).put (by unfold maxLen;omega) hidx Qw;go_wp2_with fail;go_region
 have hg3':W2.grownBy W3 (some M):=⟨hg3.os,hg3.tape,hg3.output,hg3.size,hg3.block⟩;have hsome:(upd f x1 (some i) x1).isSome=true:=by
  simp[upd]
 rw[hsome]at nO;simp only[if_true]at nO;have hB3:=hB2.kept hg3' (by simpa using hmt);have hrow3:=hrow2.kept hg3' (by simpa[Value.ownBlock]using Sk.symm);have wJ:=hF2.trans (Fr.grown (T:=T) (M:=M) (v:=.slice (some ⟨g,0,none⟩) n cap) hg3' (.inr (.inr (.inl rfl)))) (.inl rfl);clear hrow2 hB2 hm2 hr3 hF2 hg3 hg3' b0 b1 b2 d1 ti;go_wp2;go_returns;have hls:(Hp.sw h i i).length=n:=by rw[dx];exact UY.out
 rw[<-hls]at hrow3 nO hB3 wJ ⊢;exact⟨rfl,⟨hB3,hrow3,⟨_,nO,FJ⟩,hok,Yn,Yo⟩,wJ⟩
theorem xY(base T M:Nat)(last:Int)(h:List Tm)(v:Value)(w:World)(r:TR base T M last h v w)(i j:Nat)(hi:i<h.length)(hj:j<h.length)(hn:h.length<=1000000):
  Calls Tryz.prog 174 #[.pointer (some ⟨T,0,none⟩),.int .i64 i,.int .i64 j] w λe w'=>e=.returned (.tuple #[])∧TR base T M last (sw h i j) v w'∧Fr T M v w w':=by
 by_cases hij:i=j
 ·subst hij;exact swap_eq base T M last h v w r i hi hn
 ·exact Tk base T M last h v w r i j hi hj hij hn
open Hp
variable{last:Int}{M T cap:Nat}{v:Value}{W W' w:World}
@[reducible] def Zz(x : Tm): Value := .agg #[.int .u64 x.1, .int .i64 x.2.1, .int .i64 x.2.2]
@[reducible] def lV(x : Tm): Obj := .cells #[.int .u64 x.1, .int .i64 x.2.1, .int .i64 x.2.2] 254
theorem BO(x y:Tm)(w:World):
  Calls Tryz.prog 194 #[Zz x,Zz y] w λe w'=>e=.returned (.bool (Gj x y))∧Below w.heap.size w w':=by
 obtain⟨x0,x1,x2⟩:=x;obtain⟨y0,y1,y2⟩:=y;have hB:Below w.heap.size w ((w.alloc (lV (x0,x1,x2))).alloc (lV (y0,y1,y2))):=(bn).alloc (by simp) _;dsimp only[lV]at hB;by_cases h:x0=y0
 ·subst h;have e:(x0 !=x0)=false:=by simp
  have ea:Hid (Gj (x0,x1,x2) (x0,y1,y2)=decide (x1<y1)):=by
   show _=_;simp[Gj]
  go_enter Tryz.func194,Tryz.ntmps194;go_wp2;all_goals (go_ret;exact⟨kL ea.out.symm,hB⟩)
 ·have e:(x0 !=y0)=true:=by simpa using h
  have ea:Hid (Gj (x0,x1,x2) (y0,y1,y2)=decide (x0<y0)):=by
   show _=_;simp[Gj,h]
  go_enter Tryz.func194,Tryz.ntmps194;go_wp2;all_goals (go_ret;exact⟨kL ea.out.symm,hB⟩)
theorem TR.later{base:Nat}{h:List Tm}(r:TR base T M last h v W)(hb:Below W.heap.size W W'):TR base T M last h v W':=by
 have hg:W.grownBy W' none:=⟨hb.os,hb.tape,hb.output,hb.size,λk hk _=>hb.block k hk⟩;obtain⟨f,hm,hp⟩:=r.map;exact⟨r.blk.kept hg (by simp),aJ r.row hb,⟨f,hm.kept hg (by simp),hp⟩,r.ok,r.bT,r.bM⟩
theorem TR.drew{base:Nat}{h:List Tm}(r:TR base T M last h v W):TR base T M last h v W.drew:=by
 obtain⟨f,hm,hp⟩:=r.map;exact⟨r.blk,r.row.drew,⟨f,hm,hp⟩,r.ok,r.bT,r.bM⟩
theorem Fr.later(a:Fr T M v w W)(hb:Below W.heap.size W W'):Fr T M v w W':=
 a.trans (Fr.grown (v:=v) (r:=none) ⟨hb.os,hb.tape,hb.output,hb.size,λk hk _=>hb.block k hk⟩ (.inl rfl)) (.inl rfl)
theorem Fr.drew(a:Fr T M v w W):Fr T M v w W.drew:=⟨a.os,a.tape,a.output,a.size,a.block⟩
@[reducible] def Two(T g n cap i j : Nat)(x y : Tm)(W : World): Prop :=
 W.cell? ⟨T,0,none⟩=some (.slice (some ⟨g,0,none⟩) n cap)∧
 W.cell? ⟨g,i * 3,none⟩=some (.int .u64 x.1)∧W.cell? ⟨g,i * 3+1,none⟩=some (.int .i64 x.2.1)∧W.cell? ⟨g,i * 3+2,none⟩=some (.int .i64 x.2.2)∧
 W.cell? ⟨g,j * 3,none⟩=some (.int .u64 y.1)∧W.cell? ⟨g,j * 3+1,none⟩=some (.int .i64 y.2.1)∧W.cell? ⟨g,j * 3+2,none⟩=some (.int .i64 y.2.2)
theorem Two.of{base:Nat}{h:List Tm}{g:Nat}(r:TR base T M last h (.slice (some ⟨g,0,none⟩) h.length cap) W){i j:Nat}(hi:i<h.length)(hj:j<h.length):Two T g h.length cap i j (at' h i) (at' h j) W:=by
 have ai:=qW hi;have aj:=qW hj;have hl:=nT h;exact⟨r.blk.cell.1,(r.row.cellAt (i * 3) (by omega)).trans ai.1,(r.row.cellAt (i * 3+1) (by omega)).trans ai.2.1,(r.row.cellAt (i * 3+2) (by omega)).trans ai.2.2,
  (r.row.cellAt (j * 3) (by omega)).trans aj.1,(r.row.cellAt (j * 3+1) (by omega)).trans aj.2.1,(r.row.cellAt (j * 3+2) (by omega)).trans aj.2.2⟩
theorem Two.later{g n i j:Nat}{x y:Tm}(h:Two T g n cap i j x y W)(hb:Below W.heap.size W W'):Two T g n cap i j x y W':=by
 have k:∀ {a:Addr} {u:Value},W.cell? a=some u->W'.cell? a=some u:=λ{a u} ha=>(hb.cell (World.block_lt_of_cell? W a ha)).trans ha;exact⟨k h.1,k h.2.1,k h.2.2.1,k h.2.2.2.1,k h.2.2.2.2.1,k h.2.2.2.2.2.1,k h.2.2.2.2.2.2⟩
theorem EF(base T M:Nat)(last:Int)(h:List Tm)(v:Value)(w:World)(r:TR base T M last h v w)(i:Nat)(hi:i<h.length)(hn:h.length<=1000000)(hb:Both h i):
  Calls Tryz.prog 175 #[.pointer (some ⟨T,0,none⟩),.int .i64 i] w λe w'=>e=.returned (.tuple #[])∧∃h',TR base T M last h' v w'∧Fr T M v w w'∧h'.Perm h∧Down h' i:=by
 obtain⟨g,cap,rfl,hg⟩:=r.shape (by omega);have hF:=Fr.refl T M (.slice (some ⟨g,0,none⟩) h.length cap) w;generalize hH:h.length=n at hi hn r hF;have UY:=(show Hid _ from hH);clear hH;go_enter Tryz.func175,Tryz.ntmps175;go_wp2_with fail;go_loopw [1] (λiv wr=>∃(k:Nat) (h1:List Tm),iv=.int .i64 k∧k<n∧h1.length=n∧TR base T M last h1 (.slice (some ⟨g,0,none⟩) n cap) wr∧Fr T M (.slice (some ⟨g,0,none⟩) n cap) w wr∧h1.Perm h∧((k=i∧Both h1 i)∨Up h1 k)) (λiv _=>(intOf iv).toNat)
 case atStart=>exact⟨i,h,rfl,hi,UY.out,r,hF,List.Perm.refl _,.inl ⟨rfl,hb⟩⟩
 case round=>
  clear r hF hb;obtain⟨k,h1,rfl,hk,hl,r1,hF1,hp1,hO⟩:=hrel;by_cases h0:0<k
  ·have hpk:=iQ h0;have hq:((k:Int) - 1)/ 2=((par k:Nat):Int):=by unfold par;omega
   have hS:Two T g n cap k (par k) (at' h1 k) (at' h1 (par k)) wr:=by
    have:=Two.of (g:=g) (cap:=cap) (by rw[hl];exact r1) (i:=k) (j:=par k) (by omega) (by omega);rw[hl]at this;exact this
   have U5:Both h1 k:=by
    rcases hO with⟨rfl,hB⟩|hU
    ·exact hB
    ·exact hU.both
   have hl':=(show Hid _ from hl);have hpn:((par k:Nat):Int)<(n:Int):=by omega
   have hkn:(k:Int)<(n:Int):=by omega
   clear hl;generalize hP:par k=P at hq hS hpk hpn;have hP':=(show Hid _ from hP);clear hP;go_wp2_with fail;go_region_held3 (Two T g n cap k P (at' h1 k) (at' h1 P)) (first|exact hS|assumption|exact Two.later (by assumption) hb2) ((go_at_call 194;refine(BO (at' h1 k) (at' h1 P) _).mono ?_;rintro e w2 ⟨rfl,hb2⟩))
   have r2:=r1.drew.later hb2;have hF2:=hF1.drew.later hb2;clear r1 hF1 hS hb2;cases hA:Gj (at' h1 k) (at' h1 P)
   ·have hDn:Down h1 i:=by
     have hOk:Ok h1 k:=by
      unfold Ok;rw[hP'.out];exact hA
     rcases hO with⟨rfl,hB⟩|hU
     ·exact hB.down (.inr hOk)
     ·exact(hU.done hOk).down i
    clear hA hO U5;go_wp2;go_returns;exact⟨rfl,h1,r2,hF2,hp1,hDn⟩
   ·have hUp:Up (sw h1 k P) P:=by
     have:=SF U5 h0 (by rw[hl'.out];exact hk) (by rw[hP'.out];exact hA);rw[hP'.out]at this;exact this
    clear hA hO U5;go_wp2_with fail;refine(xY base T M last h1 _ _ r2 k P (by rw[hl'.out];exact hk) (by rw[hl'.out];omega) (by rw[hl'.out];exact hn)).mono ?_;rintro e w3 ⟨rfl,r3,wJ⟩;have hp3:(sw h1 k P).Perm h:=(tu (by rw[hl'.out];exact hk) (by rw[hl'.out];omega)).trans hp1;have qU:=hF2.trans wJ (.inl rfl);have hl3:(sw h1 k P).length=n:=by rw[dx];exact hl'.out
    clear r2 hF2 wJ;generalize sw h1 k P=h3 at r3 hp3 hl3 hUp;have acz:=(show Hid _ from hl3);clear hl3;go_wp2;go_roundw
    case rel=>exact⟨P,h3,rfl,by omega,acz.out,r3,qU,hp3,.inr hUp⟩
    case measure=>simp[intOf];omega
  ·obtain rfl:k=0:=by omega
   have hDn:Down h1 i:=by
    rcases hO with⟨rfl,hB⟩|hU
    ·exact hB.down (.inl rfl)
    ·exact hU.top.down i
   clear hO h0;go_wp2;go_returns;exact⟨rfl,h1,r1,hF1,hp1,hDn⟩
open Hp
variable{F b k:Nat}
structure First(h:List Tm)(k b F:Nat):Prop where
 lt:F<h.length
 fst:F=k∨(0<F∧par F=k∧Gj (at' h F) (at' h k)=true)
 le:Le (at' h F) (at' h k)
 all:∀d,0<d->d<h.length->par d=k->d<b->Le (at' h F) (at' h d)
theorem First.start{h:List Tm}(hk:k<h.length):First h k (2 * k+1) k:=by
 refine⟨hk,.inl rfl,Le.refl _,λd h1 h2 h3 h4=> ?_⟩;unfold par at h3;omega
theorem First.stay{h:List Tm}(f:First h k b F)(ha:Gj (at' h b) (at' h F)=false):First h k (b+1) F:=by
 refine⟨f.lt,f.fst,f.le,λd h1 h2 h3 h4=> ?_⟩;by_cases e:d=b
 ·subst e;exact ha
 ·exact f.all d h1 h2 h3 (by omega)
theorem First.next{h:List Tm}(f:First h k b F)(hb:b<h.length)(hp:par b=k)(h0:0<b)(ha:Gj (at' h b) (at' h F)=true):First h k (b+1) b:=by
 have hle:=Le.of ha;have hlk:=hle.trans f.le;refine⟨hb,.inr ⟨h0,hp,?_⟩,hlk,λd h1 h2 h3 h4=> ?_⟩
 ·have:=f.le;rw[Le.iff]at this;rw[KL]at ha ⊢;omega
 ·by_cases e:d=b
  ·subst e;exact Le.refl _
  ·exact hle.trans (f.all d h1 h2 h3 (by omega))
theorem First.whole{h:List Tm}(f:First h k b F)(hb:2 * k+2<b∨h.length<=b):∀d,0<d->d<h.length->par d=k->Le (at' h F) (at' h d):=λd h1 h2 h3=>by
 refine f.all d h1 h2 h3 ?_;unfold par at h3;omega
theorem Om(base T M:Nat)(last:Int)(h:List Tm)(v:Value)(w:World)(r:TR base T M last h v w)(i:Nat)(hi:i<h.length)(hn:h.length<=1000000)(hb:Down h i):
  Calls Tryz.prog 176 #[.pointer (some ⟨T,0,none⟩),.int .i64 i] w λe w'=>e=.returned (.tuple #[])∧∃h',TR base T M last h' v w'∧Fr T M v w w'∧h'.Perm h∧Heap h':=by
 obtain⟨g,cap,rfl,hg⟩:=r.shape (by omega);have hF:=Fr.refl T M (.slice (some ⟨g,0,none⟩) h.length cap) w;generalize hH:h.length=n at hi hn r hF;have UY:=(show Hid _ from hH);clear hH;go_enter Tryz.func176,Tryz.ntmps176;go_wp2_with fail;go_loopw [1] (λiv wr=>∃(k:Nat) (h1:List Tm),iv=.int .i64 k∧k<n∧h1.length=n∧TR base T M last h1 (.slice (some ⟨g,0,none⟩) n cap) wr∧Fr T M (.slice (some ⟨g,0,none⟩) n cap) w wr∧h1.Perm h∧Down h1 k) (λiv _=>n - (intOf iv).toNat)
 case atStart=>exact⟨i,h,rfl,hi,UY.out,r,hF,List.Perm.refl _,hb⟩
 case round=>
  clear r hF hb;obtain⟨k,h1,rfl,hk,hl,r1,hF1,hp1,hD⟩:=hrel;have hf0:First h1 k (2 * k+1) k:=First.start (by omega);have hl':=(show Hid _ from hl);have Qw:(2:Int)* (k:Int)+2<=9223372036854775807:=by omega
  clear hl;go_wp2_with fail;go_loopw [4,5] (λfv bv wx=>∃(F b:Nat),fv=.int .i64 F∧bv=.int .i64 b∧2 * k+1<=b∧b<=2 * k+3∧First h1 k b F∧TR base T M last h1 (.slice (some ⟨g,0,none⟩) n cap) wx∧Fr T M (.slice (some ⟨g,0,none⟩) n cap) w wx) (λ_ bv _=>2 * k+3 - (intOf bv).toNat)
  case atStart=>exact⟨k,2 * k+1,rfl,by go_num,aA _,by omega,hf0,r1,hF1⟩
  case round=>
   clear hf0 r1 hF1;obtain⟨F,b,rfl,rfl,hb1,hb2,hf,rx,hFx⟩:=hrel;have hFn:F<n:=by have:=hf.lt;rw[hl'.out]at this;exact this
   have cT:=rx.blk.cell.1;by_cases hlt:b<=2 * k+2∧b<n
   ·obtain⟨hle,hbn⟩:=hlt;have hd1:decide ((b:Int)<=2 * (k:Int)+2)=true:=eX (by omega);have hd2:decide ((b:Int)<(n:Int))=true:=eX (by omega);have hbi:(b:Int)<(n:Int):=by omega
    have hFi:(F:Int)<(n:Int):=by omega
    have hS:Two T g n cap b F (at' h1 b) (at' h1 F) wr:=by
     have:=Two.of (g:=g) (cap:=cap) (by rw[hl'.out];exact rx) (i:=b) (j:=F) (by rw[hl'.out];exact hbn) (by rw[hl'.out];exact hFn);rw[hl'.out]at this;exact this
    go_wp2_with fail;go_region_held3 (Two T g n cap b F (at' h1 b) (at' h1 F)) (first|exact hS|assumption|exact Two.later (by assumption) hbx) ((go_at_call 194;refine(BO (at' h1 b) (at' h1 F) _).mono ?_;rintro e w2 ⟨rfl,hbx⟩))
    have r2:=rx.drew.later hbx;have hF2:=hFx.drew.later hbx;clear rx hFx hS hbx cT;cases hA:Gj (at' h1 b) (at' h1 F)
    ·have hf1:=hf.stay hA;clear hA hf;go_wp2;go_roundw
     case rel=>exact⟨F,b+1,rfl,by go_num,by omega,by omega,hf1,r2,hF2⟩
     case measure=>simp[intOf];omega
    ·have hf1:=hf.next (by rw[hl'.out];exact hbn) (by unfold par;omega) (by omega) hA;clear hA hf;go_wp2;go_roundw
     case rel=>exact⟨b,b+1,rfl,by go_num,by omega,by omega,hf1,r2,hF2⟩
     case measure=>simp[intOf];omega
   ·have hw:=hf.whole (by rw[hl'.out];omega);have hff:=hf.fst;have hd:(decide ((b:Int)<=2 * (k:Int)+2)=false)∨(decide ((b:Int)<=2 * (k:Int)+2)=true∧decide (b<n)=false):=by
     by_cases h2:b<=2 * k+2
     ·exact .inr ⟨eX (by omega),dL (by omega)⟩
     ·exact .inl (dL (by omega))
    by_cases hFk:F=k
    ·subst hFk;have hHp:Heap h1:=hD.done hw;clear hw hff hf hD hlt;rcases hd with hd|⟨hd,hd'⟩;all_goals
      clear hb1 hb2;go_upto_region 6 with(fail);clear hd;go_wp2;go_returns;exact⟨rfl,h1,rx,hFx,hp1,hHp⟩
    ·obtain⟨hF0,hpF,hA⟩:=hff.resolve_left hFk;have hDn:=Ng hD hF0 hf.lt hpF hA hw;have hkF:=iQ hF0;have adZ:((F:Int)==(k:Int))=false:=beq_eq_false_iff_ne.2 (by omega);have hp3:(sw h1 k F).Perm h:=(tu (by rw[hl'.out];exact hk) (by rw[hl'.out];exact hFn)).trans hp1;have hl3:Hid ((sw h1 k F).length=n):=by
      show _=_;rw[dx];exact hl'.out
     clear hw hff hf hD hlt hA;rcases hd with hd|⟨hd,hd'⟩;all_goals
      clear hb1 hb2;go_upto_region 6 with(fail);clear hd;go_wp2_with fail;refine(xY base T M last h1 _ _ rx k F (by rw[hl'.out];exact hk) (by rw[hl'.out];exact hFn) (by rw[hl'.out];exact hn)).mono ?_;rintro e w3 ⟨rfl,r3,wJ⟩;have qU:=hFx.trans wJ (.inl rfl);clear hFx wJ;go_wp2;go_roundw
      case rel=>exact⟨F,sw h1 k F,rfl,hFn,hl3.out,r3,qU,hp3,hDn⟩
      case measure=>simp[intOf];omega
open Hp
variable{last:Int}{B M T:Nat}{r:Option Nat}{v:Value}{W W':World}
theorem OA{base e size n cap g:Nat}{xs:List Value}(h:W.ownsRow base e size (.slice (some ⟨g,0,none⟩) n cap) n xs){m:Nat}(hm:m<=n):
  W.ownsRow base e size (.slice (some ⟨g,0,none⟩) m cap) m (xs.take (m * size)):=by
 have h1:=h.1;rcases h.2 with⟨he,_⟩|⟨g',cap',cur,he,k1,k2,k3,k4,k5,k6⟩
 ·cases he
 ·cases he;have hle:m * size<=n * size:=Nat.mul_le_mul_right _ hm;refine⟨by rw[List.length_take,h1];omega,.inr ⟨g,cap,cur,rfl,k1,k2,by omega,k4,k5,?_⟩⟩;rw[<-k6,List.take_take,Nat.min_eq_left hle]
theorem uO.set(h:uO T M last v W)(v':Value):uO T M last v' (W.setCell ⟨T,0,none⟩ v'):=by
 unfold uO at h ⊢;simp[World.setCell,dM,h]
def kR(B:Nat)(x:Tm)(W:World):Prop:=W.heap[B]?=some (lV x)
theorem kR.cell{x:Tm}(h:kR B x W):
  W.cell? ⟨B,0,none⟩=some (.int .u64 x.1)∧W.cell? ⟨B,1,none⟩=some (.int .i64 x.2.1)∧W.cell? ⟨B,2,none⟩=some (.int .i64 x.2.2):=
 ⟨aF W B 0 _ _ _ h,aF W B 1 _ _ _ h,aF W B 2 _ _ _ h⟩
theorem kR.free{x:Tm}(h:kR B x W)(i:Nat):W.frozen? ⟨B,i,none⟩=false:=by
 unfold kR at h;simp[World.frozen?,h]
theorem kR.lt{x:Tm}(h:kR B x W):B<W.heap.size:=(gN.1 h).1
theorem kR.new(x:Tm)(W:World):kR W.heap.size x (W.alloc (lV x)):=bO W _
theorem kR.fr{x:Tm}(h:kR B x W)(hf:Fr T M v W W')(h1:B≠T)(h2:B≠M)(h3:some B≠v.ownBlock):kR B x W':=(hf.block B h.lt h1 h2 h3).trans h
theorem kR.later{x:Tm}(h:kR B x W)(hb:Below W.heap.size W W'):kR B x W':=(hb.block B h.lt).trans h
theorem kR.grown{x:Tm}(h:kR B x W)(hg:W.grownBy W' r)(hr:some B≠r):kR B x W':=(hg.block B h.lt hr).trans h
@[reducible] def storeT(W : World)(B : Nat)(x : Tm): World := ((W.setCell ⟨B, 0, none⟩ (.int .u64 x.1)).setCell ⟨B, 1, none⟩ (.int .i64 x.2.1)).setCell ⟨B, 2, none⟩ (.int .i64 x.2.2)
theorem kR.store{x:Tm}(h:kR B x W)(y:Tm):kR B y (storeT W B y):=by
 unfold kR at h ⊢;simp[World.setCell,dM,h]
theorem Dj(W:World)(B:Nat)(y:Tm):W.grownBy (storeT W B y) (some B):=dS (dS (dS (lM W (some B)) 0 _) 1 _) 2 _
theorem TR.grown{base:Nat}{h:List Tm}(q:TR base T M last h v W)(hg:W.grownBy W' r)(h1:some T≠r)(h2:some M≠r)(h3:r=none∨r≠v.ownBlock):TR base T M last h v W':=by
 obtain⟨f,hm,hp⟩:=q.map;have h4:v.ownBlock=none∨v.ownBlock≠r:=by
  rcases h3 with rfl|h3
  ·cases v.ownBlock<;>simp
  ·exact .inr (Ne.symm h3)
 exact⟨q.blk.kept hg h1,q.row.kept hg h4,⟨f,hm.kept hg h2,hp⟩,q.ok,q.bT,q.bM⟩
theorem KO:∀(h:List Tm) (m:Nat),TC (h.take m)=(TC h).take (m * 3)
 | [],m=>by simp[TC]
 |a::h,0=>by simp[TC]
 |a::h,m+1=>by
  have ih:=KO h m;simp only[TC,List.take_succ_cons,List.flatMap_cons]at ih ⊢;rw[ih];simp[JC,show(m+1)* 3=m * 3+1+1+1 by omega]
theorem Ll(g n c k:Nat)(hk:k<=c)(W:World):(Instr.slice 163 (.slice (some ⟨g,0,none⟩) n c) none (some (.int .i64 k)) none).run Tryz.prog W=.ok (.slice (some ⟨g,0,none⟩) k c) W:=by
 have ht:Tryz.prog.underlying 163=some (.slice (Tryz.prog.elem 163)):=by simp[Program.elem,Tryz.underlying163]
 have hz:∀w,(Go.sizeOf (Tryz.prog.elem 163)).run Tryz.prog w=.ok 3 w:=by
  intro w;simp[go_sem,Program.elem,Tryz.underlying163]
 rw[run_slice_h W 163 _ _ _ ht .i64 _ (by omega) (by omega),hz];simp only[Result.andThen,sliced];rw[Nat.sub_zero,Nat.sub_zero,iO];split<;>simp[Addr.add]
theorem yA(base T M:Nat)(last:Int)(h:List Tm)(v:Value)(w:World)(r:TR base T M last h v w)(i:Nat)(hi:i<h.length)(hn:h.length<=1000000)(hb:Heap h):
  Calls Tryz.prog 149 #[.pointer (some ⟨T,0,none⟩),.int .i64 i] w λe w'=>e=.returned (Zz (at' h i))∧∃h' v',TR base T M last h' v' w'∧Fr T M v w w'∧v'.ownBlock=v.ownBlock∧(at' h i::h').Perm h∧Heap h':=by
 obtain⟨g,cap,rfl,hg⟩:=r.shape (by omega);have hT:=r.blk.lt;have hM:M<w.heap.size:=by
  obtain⟨_,hm0,_⟩:=r.map;exact hm0.lt
 have hgl:=(r.row.lt g rfl).2;have hb1:Below w.heap.size w (w.alloc (lV z)):=bn;have r1:=r.later hb1;have hR:=kR.new z w;have hF1:=(Fr.refl T M (.slice (some ⟨g,0,none⟩) h.length cap) w).later hb1;have cT:=r1.blk.cell.1;have hlen:(1:Int)<=(h.length:Int):=by omega
 have hap:=r.apart;have hidx:=JU r hi;have hTg:¬T=g:=λe=>hap.2.1 (by rw[e];rfl);have hMg:¬M=g:=λe=>hap.2.2 (by rw[e];rfl);have hq:(h.length:Int) - 1=((h.length - 1:Nat):Int):=by omega
 generalize hE:h.length - 1=E at hq;have hE':=(show Hid _ from hE);generalize hRR:w.heap.size=R at hR hT hM hgl;have aa7:=(show Hid _ from hRR);dsimp only[lV,z]at hb1 r1 hR hF1 cT;clear hE hRR r hb1;go_enter Tryz.func149,Tryz.ntmps149;go_wp2_with fail;rw[aa7.out];generalize World.alloc _ _=W1 at r1 hR hF1 cT ⊢;refine(xY base T M last h _ _ r1 i E hi (by have:=hE'.out;omega) hn).mono ?_;rintro e W2 ⟨rfl,r2,YG⟩;have hEl:E<h.length:=by have:=hE'.out;omega
 have abd:E<(sw h i E).length:=by rw[dx];exact hEl
 have hxE:at' (sw h i E) E=at' h i:=by rw[wR hi hEl,aO rfl]
 have Yx:=qW abd;rw[hxE]at Yx;have hTl:=nT (sw h i E);have hsl2:(sw h i E).length=h.length:=dx _ _ _;have hF2:=hF1.trans YG (.inl rfl);have QH:R≠T∧R≠M∧R≠g:=⟨by omega,by omega,by omega⟩;have hR2:=hR.fr YG QH.1 QH.2.1 (by simp only[Value.ownBlock];intro e;cases e;exact QH.2.2 rfl);have hrow2:=r2.row;rw[hsl2]at hrow2;have b3:E * 3+2<h.length * 3:=by omega
 have d0:=(hrow2.cellAt (E * 3) (Nat.lt_of_le_of_lt (by omega) b3)).trans Yx.1;have d1:=(hrow2.cellAt (E * 3+1) (Nat.lt_of_le_of_lt (by omega) b3)).trans Yx.2.1;have d2:=(hrow2.cellAt (E * 3+2) b3).trans Yx.2.2;have c0:=r2.blk.cell.1;have hEi:(E:Int)<(h.length:Int):=by omega
 have hbn:Below W2.heap.size W2 (W2.alloc (lV (at' h i))):=bn;have r3:=r2.later hbn;have MO:=hR2.later hbn;have wJ:=hF2.later hbn;have hG3:=kR.new (at' h i) W2;have hG0:R<W2.heap.size:=hR2.lt;have hTW:T<W2.heap.size:=by omega
 have hMW:M<W2.heap.size:=by omega
 have hgW:g<W2.heap.size:=by omega
 have aa1:E<=cap:=by
  rcases hrow2.2 with⟨he,_⟩|⟨_,_,_,he,_,_,k3,_⟩
  ·cases he
  ·cases he;omega
 have hsl:=Ll g h.length cap E aa1;clear b3 hrow2 r1 hR hF1 YG r2 hR2 hF2 Yx hTl hbn cT;generalize hGG:W2.heap.size=G at hG3 hG0 hTW hMW hgW;have ac5:=(show Hid _ from hGG);clear hGG;have cG:=hG3.cell;have b0:=r3.blk.cell.1;have fT:=r3.blk.free 0;have MI:(W2.alloc (lV (at' h i))).grownBy ((W2.alloc (lV (at' h i))).setCell ⟨T,0,none⟩ (.slice (some ⟨g,0,none⟩) E cap)) (some T):=dS (lM _ _) 0 _;have hB4:=r3.blk.set (.slice (some ⟨g,0,none⟩) E cap);have hrow3:=r3.row;rw[hsl2]at hrow3;have hrow4:=(OA hrow3 (Nat.le_of_lt hEl)).kept MI (.inr (by simp[Value.ownBlock];exact λe=>hTg e.symm));rw[<-KO]at hrow4;have hout:(sw h i E).take E=out h i:=by unfold out;rw[hE'.out]
 rw[hout]at hrow4;obtain⟨f,nO,hp3⟩:=r3.map;rw[hsl2]at nO;have Az:=nO.kept MI (by simpa using hap.1.symm);have hfE:=hp3.1 E _ (iU abd);rw[hxE]at hfE;have hp5:=hp3.cut (n:=E) (by rw[hsl2];have:=hE'.out;omega);rw[hout,hxE]at hp5;have aaD:∀y∈out h i,TOk y:=λy hy=>r3.ok y (by rw[<-hout]at hy;exact List.mem_of_mem_take hy);have Kv:=MO.grown MI (by simpa using QH.1);have hG4:=hG3.grown MI (by simp;omega);have qU:=wJ.trans (Fr.grown (T:=T) (M:=M) (v:=.slice (some ⟨g,0,none⟩) h.length cap) MI (.inr (.inl rfl))) (.inl rfl);have Yn:=r3.bT;have Yo:=r3.bM;have hperm:=O1 hi;have hol:(out h i).length=E:=by rw[ow];exact hE'.out
 clear MI r3 MO hG3 wJ hrow3 nO hp3;dsimp only[lV]at hB4 hrow4 Az Kv hG4 qU b0 fT cG;go_wp2_with fail;clear d0 d1 d2 c0 cG b0 fT hsl;rw[ac5.out];generalize World.setCell _ _ _=W4 at hB4 hrow4 Az Kv hG4 qU ⊢;obtain⟨_,b1,_⟩:=hB4.cell;obtain⟨_,g1,_⟩:=hG4.cell;obtain⟨W5,mQ,Yc,hg5⟩:=(show j3 W4.drew M f h.length from Az).del hidx 0 (by rw[hfE];rfl);go_region
 clear g1 b1;have MH:W4.grownBy W5 (some M):=⟨hg5.os,hg5.tape,hg5.output,hg5.size,hg5.block⟩;rw[hE'.out]at Yc;have r5:TR base T M last (out h i) (.slice (some ⟨g,0,none⟩) E cap) W5:=by
  refine⟨hB4.kept MH (by simpa using hap.1),?_,⟨_,?_,hp5⟩,aaD,Yn,Yo⟩
  ·rw[hol];exact hrow4.kept MH (.inr (by simp[Value.ownBlock];exact λe=>hMg e.symm))
  ·rw[hol];exact Yc
 have Sg:=Kv.grown MH (by simpa using QH.2.1);have hG5:=hG4.grown MH (by simp;omega);have ZT:=qU.trans (Fr.grown (T:=T) (M:=M) (v:=.slice (some ⟨g,0,none⟩) h.length cap) MH (.inr (.inr (.inl rfl)))) (.inl rfl);have hfin:∀(h7:List Tm) (W7:World),TR base T M last h7 (.slice (some ⟨g,0,none⟩) E cap) W7->kR R z W7->Fr T M (.slice (some ⟨g,0,none⟩) h.length cap) w W7->h7.Perm (out h i)->Heap h7->
   kR R (at' h i) (storeT W7 R (at' h i))∧∃h' v',TR base T M last h' v' (storeT W7 R (at' h i))∧Fr T M (.slice (some ⟨g,0,none⟩) h.length cap) w (storeT W7 R (at' h i))∧v'.ownBlock=(Value.slice (some ⟨g,0,none⟩) h.length cap).ownBlock∧(at' h i::h').Perm h∧Heap h':=by
  intro h7 W7 r7 ZM NY hp7 hH7;have hgs:=Dj W7 R (at' h i);refine⟨ZM.store _,h7,_,r7.grown hgs (by simp;omega) (by simp;omega) (.inr (by simp[Value.ownBlock];omega)),?_,rfl,(hp7.cons _).trans hperm,hH7⟩;refine⟨hgs.os.trans NY.os,hgs.tape.trans NY.tape,hgs.output.trans NY.output,dF NY.size hgs.size,λk hk h1 h2 h3=> ?_⟩;rw[hgs.block k (fB hk NY.size) (by rw[aa7.out]at hk;simp;omega)];exact NY.block k hk h1 h2 h3
 clear hB4 hrow4 Az Kv hG4 qU Yc mQ hg5 MH hp5 aaD hperm;by_cases hiE:i<E
 ·have hdi:decide (i<E)=true:=eX hiE;have U5:=O4 hb (show i<h.length - 1 by rw[hE'.out];exact hiE);go_wp2_with fail;refine(EF base T M last (out h i) _ _ r5 i (by rw[hol];exact hiE) (by omega) U5).mono ?_;rintro e W6 ⟨rfl,h6,r6,U0,ZI,hD6⟩;have hl6:h6.length=E:=by rw[ZI.length_eq];exact hol
  have hR6:=Sg.fr U0 QH.1 QH.2.1 (by simp only[Value.ownBlock];intro e;cases e;exact QH.2.2 rfl);have hG6:=hG5.fr U0 (by omega) (by omega) (by simp only[Value.ownBlock];intro e;cases e;omega);have Sm:=ZT.trans U0 (.inl rfl);clear r5 Sg hG5 ZT U0;go_wp2_with fail;refine(Om base T M last h6 _ _ r6 i (by omega) (by omega) hD6).mono ?_;rintro e W7 ⟨rfl,h7,r7,UZ,hp7,hH7⟩;have ZM:=hR6.fr UZ QH.1 QH.2.1 (by simp only[Value.ownBlock];intro e;cases e;exact QH.2.2 rfl);have hG7:=hG6.fr UZ (by omega) (by omega) (by simp only[Value.ownBlock];intro e;cases e;omega);have NY:=Sm.trans UZ (.inl rfl);have hend:=hfin h7 W7 r7 ZM NY (hp7.trans ZI) hH7;obtain⟨g0,g1,g2⟩:=hG7.cell;obtain⟨z0,z1,z2⟩:=ZM.cell;have zf:=ZM.free;have hRl:=ZM.lt;clear r6 hR6 hG6 Sm UZ hfin r7 NY hD6 ZI hp7 hH7 hl6;dsimp only[storeT,z]at hend z0 z1 z2;go_wp2;generalize World.setCell _ _ _=W8 at hend ⊢;obtain⟨QN,hrest⟩:=hend;obtain⟨q0,q1,q2⟩:=QN.cell;exact bodyPost_ret (v:=Zz (at' h i)) (by simp[results,Tryz.results149,go_sem,q0,q1,q2]) rfl ⟨rfl,hrest⟩
 ·have hdi:decide (i<E)=false:=dL hiE;have hHo:Heap (out h i):=by
   have:=O3 hb (by omega);rw[show h.length - 1=i by have:=hE'.out;omega]at this;exact this
  have hend:=hfin (out h i) W5 r5 Sg ZT (List.Perm.refl _) hHo;obtain⟨g0,g1,g2⟩:=hG5.cell;obtain⟨z0,z1,z2⟩:=Sg.cell;have zf:=Sg.free;have hRl:=Sg.lt;clear hfin r5 ZT hHo;dsimp only[storeT,z]at hend z0 z1 z2;go_wp2;generalize World.setCell _ _ _=W8 at hend ⊢;obtain⟨QN,hrest⟩:=hend;obtain⟨q0,q1,q2⟩:=QN.cell;exact bodyPost_ret (v:=Zz (at' h i)) (by simp[results,Tryz.results149,go_sem,q0,q1,q2]) rfl ⟨rfl,hrest⟩
end Go.Proofs.YtakaadcpaeiccabGreat
