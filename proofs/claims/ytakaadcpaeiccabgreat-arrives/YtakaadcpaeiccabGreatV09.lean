import Derived.Test.YtakaadcpaeiccabGreatV08
set_option maxHeartbeats 4000000
set_option maxRecDepth 100000
namespace Go.Proofs.YtakaadcpaeiccabGreat
open Go.RowKit Go.Maps
variable{tn:Int}{q:Int×Int}{E:List Mm}{left:Lit->Bool}{B Ms n r:Nat}{W W':World}
theorem zM{k:Nat}{o:Obj}(h:W.heap[k]?=some o):k<W.heap.size:=(iA.1 h).1
theorem JP{v:Value}{y:DataW Unit×List MemPlace}(h:Er v=some y):∃c,v=xG c:=by
 obtain⟨m,h1,_⟩:=GU h;exact⟨m,h1⟩
theorem TG{a b:Int×Int}(h:jX a=jX b):a=b:=by
 unfold jX at h;simp only[Value.agg.injEq,Array.mk.injEq,List.cons.injEq,Value.int.injEq,true_and,and_true]at h;exact Prod.ext h.1 h.2
def QB(B:Nat)(q:Int×Int)(W:World):Prop:=W.heap[B]?=some (fP q)
def IW(B:Nat)(m:Int×Int)(W:World):Prop:=W.heap[B]?=some (mU m)
theorem QB.cell(h:QB B q W):W.cell? ⟨B,0,none⟩=some (.int .u32 q.1)∧W.cell? ⟨B,1,none⟩=some (.int .u32 q.2):=⟨aJ _ _ 0 _ _ _ h,aJ _ _ 1 _ _ _ h⟩
theorem QB.free(h:QB B q W)(i:Nat):W.frozen? ⟨B,i,none⟩=false:=by
 unfold World.frozen?;rw[show W.heap[(⟨B,i,none⟩:Addr).block]?=some (fP q)from h];try rfl
theorem IW.cell(h:IW B q W):W.cell? ⟨B,0,none⟩=some (.int .u64 q.1)∧W.cell? ⟨B,1,none⟩=some (.int .i64 q.2):=⟨aJ _ _ 0 _ _ _ h,aJ _ _ 1 _ _ _ h⟩
theorem IW.free(h:IW B q W)(i:Nat):W.frozen? ⟨B,i,none⟩=false:=by
 unfold World.frozen?;rw[show W.heap[(⟨B,i,none⟩:Addr).block]?=some (mU q)from h];try rfl
theorem QB.set(h:QB B q W)(p:Int×Int):QB B p ((W.setCell ⟨B,0,none⟩ (.int .u32 p.1)).setCell ⟨B,1,none⟩ (.int .u32 p.2)):=by
 unfold QB at h ⊢;simp[World.setCell,d_,h]
theorem IW.set(h:IW B q W)(p:Int×Int):IW B p ((W.setCell ⟨B,0,none⟩ (.int .u64 p.1)).setCell ⟨B,1,none⟩ (.int .i64 p.2)):=by
 unfold IW at h ⊢;simp[World.setCell,d_,h]
theorem o9{H:Type}{P:Program}{k:TypeId}{R:Value->Option (DataW H×List MemPlace)}{b:Nat}{D:DataW H}{cnt:Nat}(h:W.ranges P k R b r n D left cnt)(hb:Below W.heap.size W W'):W'.ranges P k R b r n D left cnt:=
 h.kept (row:=none) ⟨hb.os,hb.tape,hb.output,hb.size,λi hi _=>hb.block i hi⟩ (by simp) (by simp)
structure PS(Ms r n w0:Nat)(D:DataW Unit)(E:List Mm)(wb:World)(left:Lit->Bool)(cnt:Nat)(an:Bool)(f l:Int×Int)(W:World):Prop where
 rg:W.ranges Tryz.prog 261 Er Ms r n D left cnt
 fi:wC E left an f l
 r0:QB w0 (0,0) W
 f0:QB (w0+1) f W
 l0:IW (w0+2) l W
 be:Below w0 wb W
 sz:w0+4<=W.heap.size
theorem PS.put{w0:Nat}{D:DataW Unit}{wb:World}{cnt:Nat}{f l:Int×Int}(rg:W.ranges Tryz.prog 261 Er Ms r n D left cnt)(r0:QB w0 (0,0) W)(f0:QB (w0+1) f W)(l0:IW (w0+2) l W)(be:Below w0 wb W)(sz:w0+4<=W.heap.size)(hr:r=w0+3)(hM:Ms<w0){p m:Int×Int}(fi:wC E left true p m):
  PS Ms r n w0 D E wb left cnt true p m ((((W.setCell ⟨w0+1,0,none⟩ (.int .u32 p.1)).setCell ⟨w0+1,1,none⟩ (.int .u32 p.2)).setCell ⟨w0+1+1,0,none⟩ (.int .u64 m.1)).setCell ⟨w0+1+1,1,none⟩ (.int .i64 m.2)).drew:=by
 have hg1:W.grownBy ((W.setCell ⟨w0+1,0,none⟩ (.int .u32 p.1)).setCell ⟨w0+1,1,none⟩ (.int .u32 p.2)) (some (w0+1)):=ah (ah (aC _ (some (w0+1))) 0 _) 1 _;have hf1:=f0.set p;have hr1:=rg.kept hg1 (by simp;omega) (by simp;omega);have h01:QB w0 (0,0) _:=(hg1.block w0 (by omega) (by simp)).trans r0;have hl1:IW (w0+2) l _:=(hg1.block (w0+2) (by omega) (by simp)).trans l0;have hb1:=be.grown hg1 (by omega) (λk e=>by cases e;omega);have hs1:=hg1.size;generalize ((W.setCell ⟨w0+1,0,none⟩ (.int .u32 p.1)).setCell ⟨w0+1,1,none⟩ (.int .u32 p.2))=W1 at hf1 hr1 h01 hl1 hb1 hs1 ⊢;have hg2:W1.grownBy ((W1.setCell ⟨w0+1+1,0,none⟩ (.int .u64 m.1)).setCell ⟨w0+1+1,1,none⟩ (.int .i64 m.2)) (some (w0+1+1)):=ah (ah (aC _ (some (w0+1+1))) 0 _) 1 _;have hl2:=hl1.set m;have hr2:=hr1.kept hg2 (by simp;omega) (by simp;omega);have h02:QB w0 (0,0) _:=(hg2.block w0 (by omega) (by simp;omega)).trans h01;have hf2:QB (w0+1) p _:=(hg2.block (w0+1) (by omega) (by simp)).trans hf1;have hb2:=hb1.grown hg2 (by omega) (λk e=>by cases e;omega);have hs2:=hg2.size;exact⟨hr2,fi,h02,hf2,hl2,hb2.drew,dN sz (dN hs1 hs2)⟩
theorem Ih(N:Nat)(x:mX)(e0:Mm)(E:List Mm)(w:World)(hN:iI N x w)(hs:∃g,lu w x.Ms g (e0::E).length∧(∀e∈e0::E,g e.key=some (e.dF,e.iM))∧∀k m,wD k->g k=some m->∃e∈e0::E,e.key=k∧m=(e.dF,e.iM))(hok:∀e∈e0::E,wD e.key∧0<=e.dF∧0<=e.iM∧e.iM<x.tn)(hasc:(e0::E).Pairwise λa b=>a.dF<=b.dF∧a.iM<b.iM∧a.key≠b.key):
  Calls Tryz.prog 178 #[.pointer (some ⟨N,8,none⟩)] w λe w'=>e=.returned (jX e0.key)∧Below w.heap.size w w':=by
 obtain⟨g,hmq,h4,h5⟩:=hs;have aaH:=hmq.lt;obtain⟨D,h1,hsz,h3⟩:=hmq;have h3':=(show Hid _ from h3);have h5':=(show Hid _ from h5);have hhas:Hid (∀e∈e0::E,Maps.has D (iC e.key)=true):=by
  intro e he;rw[(h3 _ (hok e he).1).1,h4 e he];rfl
 have hb3:Below w.heap.size w (((w.alloc (fP (0,0))).alloc (fP (0,0))).alloc (mU (0,0))):=((bC).alloc (by simp) _).alloc (by simp;omega) _;have hR:QB w.heap.size (0,0) (((w.alloc (fP (0,0))).alloc (fP (0,0))).alloc (mU (0,0))):=
  (((aV _ ((w.alloc (fP (0,0))).alloc (fP (0,0)))).alloc (aB _) _).block w.heap.size (by simp;omega)).trans ((((aV _ (w.alloc (fP (0,0)))).alloc (aB _) _).block w.heap.size (by simp)).trans (bV w _))
 have hF:QB (w.heap.size+1) (0,0) (((w.alloc (fP (0,0))).alloc (fP (0,0))).alloc (mU (0,0))):=by
  have h1:=((aV _ ((w.alloc (fP (0,0))).alloc (fP (0,0)))).alloc (aB _) (mU (0,0))).block (w.heap.size+1) (by simp);have h2:=bV (w.alloc (fP (0,0))) (fP (0,0));rw[World.size_alloc]at h2;exact h1.trans h2
 have hL:IW (w.heap.size+2) (0,0) (((w.alloc (fP (0,0))).alloc (fP (0,0))).alloc (mU (0,0))):=by
  have:=bV ((w.alloc (fP (0,0))).alloc (fP (0,0))) (mU (0,0));rw[World.size_alloc,World.size_alloc]at this;exact this
 have B_:(((w.alloc (fP (0,0))).alloc (fP (0,0))).alloc (mU (0,0))).heap.size=w.heap.size+3:=by simp
 have Az:=hN.later hb3;have U_:(((w.alloc (fP (0,0))).alloc (fP (0,0))).alloc (mU (0,0))).ownsMap Tryz.prog 261 Er x.Ms (e0::E).length D:=by
  obtain⟨es,clock,hb,Ft,hs,hD⟩:=h1;exact⟨es,clock,(hb3.block _ (zM hb)).trans hb,Ft,hs,hD⟩
 clear h3 h5 h1 hN h4 hsz;dsimp only[fP,mU]at hb3 hR hF hL Az U_ B_;go_enter Tryz.func178,Tryz.ntmps178;go_upto_region 3 with(fail);generalize World.alloc (World.alloc (World.alloc _ _) _) _=W3 at hb3 hR hF hL Az U_ B_ ⊢;obtain⟨n0,n2,n3,n4,n5,n6,n7,n8,n9,n10⟩:=Az.cell;go_wp2_with(at_range;refine wpList_range_own _ rfl _ 111 rfl 261 279 qC Tryz.underlying111 _ x.Ms (e0::E).length _ rfl U_ ?_;intro w0 hrg0 hg0 hs0);go_frame;generalize hnn:(e0::E).length=nn at hrg0;clear hnn;replace B_:=(show Hid _ from B_);generalize OO:W3.heap.size=R3 at hrg0 ⊢;replace OO:=(show Hid _ from OO);go_loopw [5] (λav wr=>∃(left:Lit->Bool) (cnt:Nat) (an:Bool) (f l:Int×Int),av=.bool an∧PS x.Ms R3 nn w.heap.size D (e0::E) w left cnt an f l wr) (λ_ wr=>wr.rangeLeft x.Ms R3)
 case atStart=>
  have hb:Below W3.heap.size W3 w0:=⟨hg0.os,hg0.tape,hg0.output,hg0.size,λk hk=>hg0.block k hk (by simp)⟩;have ae7:=B_.out;have aaF:=OO.out;exact⟨_,_,false,(0,0),(0,0),rfl,hrg0,by unfold wC;rw[ay (by simp)];exact hhas.out,(hb.block _ (by omega)).trans hR,(hb.block _ (by omega)).trans hF,(hb.block _ (by omega)).trans hL,hb3.trans (hb.mono hb3.size),by omega⟩
 case round=>
  clear hb3 hR hF hL Az U_ n0 n2 n3 n4 n5 n6 n7 n8 n9 n10 hrg0 hg0 hs0;obtain⟨left,cnt,an,f,l,rfl,hr⟩:=hrel;go_wp2_with(at_next;refine wpList_next_ranges _ rfl _ rfl 261 qC Er jX xG (λkey kl hk=>by obtain⟨q,hq,_⟩:=G8 hk;exact⟨q,hq⟩) (λv y hv=>JP hv) x.Ms R3 nn _ _ _ rfl hr.rg ?_ ?_)
  ·intro hc0 hl0;obtain rfl:=hr.fi.done hl0 hasc;obtain⟨_,_,hr0,hf0,_,hbe,hsz⟩:=hr;obtain⟨c0,c1⟩:=hf0.cell;obtain⟨r0,r1⟩:=hr0.cell;have z0:=hr0.free 0;have z1:=hr0.free 1;have hst:=hr0.set e0.key;have hbs:Below w.heap.size w ((wr.setCell ⟨w.heap.size,0,none⟩ (.int .u32 e0.key.1)).setCell ⟨w.heap.size,1,none⟩ (.int .u32 e0.key.2)):=(hbe.setCell (p:=⟨w.heap.size,0,none⟩) (aB _) _).setCell (p:=⟨w.heap.size,1,none⟩) (aB _) _;clear hr0 hf0 hbe;go_wp2;generalize World.setCell _ _ _=W9 at hst hbs ⊢;obtain⟨p0,p1⟩:=hst.cell;exact bodyPost_ret (v:=jX e0.key) (by simp[results,Tryz.results178,go_sem,p0,p1,jX]) rfl ⟨rfl,hbs⟩
  ·intro q1 q2 m1 m2 kl yd yp w2 cnt2 hkey hlk hv hat hrg2 hlt hg2 hs2 hen;obtain⟨q',hq',hqo,rfl⟩:=G8 hkey;obtain rfl:(q1,q2)=q':=TG hq';have h3x:=(h3'.out _ hqo).2;rw[hat]at h3x;rw[Ep]at hv;have lS:=congrArg Prod.fst (Option.some.inj hv);dsimp only at lS;rw[<-lS]at h3x;have hsome:=(h3'.out _ hqo).1;rw[has_true_of_atKey hat]at hsome;obtain⟨mm,hmm⟩:=Option.isSome_iff_exists.1 hsome.symm;rw[hmm]at h3x;have hme:=Iu h3x;simp only[Option.getD_some]at hme;subst hme;obtain⟨e,he,hek,hee⟩:=h5'.out _ _ hqo hmm;obtain⟨rfl,rfl⟩:=Prod.mk.injEq .. ▸hee;have hrl:=hr.rg.left_eq;obtain⟨_,hfi,hr0,hf0,hl0,hbe,hsz⟩:=hr;have aaF:=(show Hid (R3=w.heap.size+3)from by show _=_;rw[<-OO.out,B_.out]);have aew:=aaF.out;have uq:∀k,k<w.heap.size+3->w2.heap[k]?=wr.heap[k]?:=λk hk=>hg2.block k (by omega) (by intro e;cases e;omega);have hB2:Below w.heap.size w w2:=hbe.trans ⟨hg2.os,hg2.tape,hg2.output,hg2.size,λk hk=>uq k (by omega)⟩;have k0:QB w.heap.size (0,0) w2:=(uq _ (by omega)).trans hr0;have kf:QB (w.heap.size+1) f w2:=(uq _ (by omega)).trans hf0;have kl:IW (w.heap.size+2) l w2:=(uq _ (by omega)).trans hl0;have hb4:Below w2.heap.size w2 ((w2.alloc (fP (q1,q2))).alloc (mU (e.dF,e.iM))):=(bC).alloc (by simp) _;have BJ:QB w2.heap.size (q1,q2) ((w2.alloc (fP (q1,q2))).alloc (mU (e.dF,e.iM))):=(((aV _ (w2.alloc (fP (q1,q2)))).alloc (aB _) _).block _ (by simp)).trans (bV w2 _);have Ce:IW (w2.heap.size+1) (e.dF,e.iM) ((w2.alloc (fP (q1,q2))).alloc (mU (e.dF,e.iM))):=by
    have:=bV (w2.alloc (fP (q1,q2))) (mU (e.dF,e.iM));rw[World.size_alloc]at this;exact this
   have hme:Hid (cnt2<wr.rangeLeft x.Ms R3):=by
    show _<_;rw[hrl];exact hlt
   have Ho:=o9 hrg2 hb4;have hs4:w.heap.size+4<=((w2.alloc (fP (q1,q2))).alloc (mU (e.dF,e.iM))).heap.size:=by simp;omega
   have j0:QB w.heap.size (0,0) ((w2.alloc (fP (q1,q2))).alloc (mU (e.dF,e.iM))):=(hb4.block _ (by omega)).trans k0;have jf:QB (w.heap.size+1) f ((w2.alloc (fP (q1,q2))).alloc (mU (e.dF,e.iM))):=(hb4.block _ (by omega)).trans kf;have jl:IW (w.heap.size+2) l ((w2.alloc (fP (q1,q2))).alloc (mU (e.dF,e.iM))):=(hb4.block _ (by omega)).trans kl;have hB4:=hB2.trans (hb4.mono hB2.size);have hl2:w.heap.size+4<=w2.heap.size:=by omega
   clear aew k0 kf kl hb4 hrg2 hB2 hg2 uq hs2 hr0 hf0 hl0 hbe hat hv lS h3x hmm hsome hkey hq';dsimp only[jX,xG]at hen;dsimp only[jX,xG];dsimp only[fP,mU]at BJ Ce Ho hs4 j0 jf jl hB4;go_upto_region 6 with(fail);generalize World.alloc (World.alloc _ _) _=W4 at BJ Ce Ho hs4 j0 jf jl hB4 ⊢;generalize w2.heap.size=C at BJ Ce hl2 ⊢;have aad:∀z∈e0::E,wD z.key:=λz hz=>(hok z hz).1;have hput:Hid (∀W5,Below W4.heap.size W4 W5->(if an then(if e.dF=l.1 then e.iM<l.2 else e.dF<l.1)else True)->PS x.Ms R3 nn w.heap.size D (e0::E) w (λz=>left z&&!z.sameKey (iC (q1,q2))) cnt2 true (q1,q2) (e.dF,e.iM) ((((W5.setCell ⟨w.heap.size+1,0,none⟩ (.int .u32 q1)).setCell ⟨w.heap.size+1,1,none⟩ (.int .u32 q2)).setCell ⟨w.heap.size+1+1,0,none⟩ (.int .u64 e.dF)).setCell ⟨w.heap.size+1+1,1,none⟩ (.int .i64 e.iM)).drew):=λW5 h5 hc=>by
    have hz5:=h5.size;refine PS.put (p:=(q1,q2)) (m:=(e.dF,e.iM)) (o9 Ho h5) ((h5.block _ (by omega)).trans j0) ((h5.block _ (by omega)).trans jf) ((h5.block _ (by omega)).trans jl) (hB4.trans (h5.mono hB4.size)) (by omega) aaF.out aaH ?_;rw[<-hek];refine hfi.yes aad hasc he (by rw[hek];exact hlk) λh=> ?_;rw[aI h]at hc;exact hc
   have hkeep:Hid (∀W5,Below W4.heap.size W4 W5->an=true->¬(if e.dF=l.1 then e.iM<l.2 else e.dF<l.1)->PS x.Ms R3 nn w.heap.size D (e0::E) w (λz=>left z&&!z.sameKey (iC (q1,q2))) cnt2 true f l W5):=λW5 h5 ha hc=>by
    subst ha;have hz5:=h5.size;refine⟨o9 Ho h5,?_,(h5.block _ (by omega)).trans j0,(h5.block _ (by omega)).trans jf,(h5.block _ (by omega)).trans jl,hB4.trans (h5.mono hB4.size),by omega⟩;rw[<-hek];exact hfi.no aad hasc he hc
   have hcl:Hid (∀W5,Below W4.heap.size W4 W5->QB C (q1,q2) W5∧IW (C+1) (e.dF,e.iM) W5∧QB (w.heap.size+1) f W5∧IW (w.heap.size+2) l W5):=λW5 h5=>
    ⟨(h5.block _ (zM BJ)).trans BJ,(h5.block _ (zM Ce)).trans Ce,(h5.block _ (by omega)).trans jf,(h5.block _ (by omega)).trans jl⟩
   clear aad hfi Ho j0 jf jl hB4 hs4 hasc BJ Ce;cases an
   ·obtain⟨BJ,Ce,jf,jl⟩:=hcl.out W4 (aV _ _);obtain⟨a0,a1⟩:=BJ.cell;obtain⟨b0,b1⟩:=Ce.cell;obtain⟨d0,d1⟩:=jf.cell;obtain⟨g0,g1⟩:=jl.cell;have y0:=jf.free 0;have y1:=jf.free 1;have y2:=jl.free 0;have y3:=jl.free 1;dsimp only at a0 a1 b0 b1;have hF:=hput.out W4 (aV _ _) (by simp);clear hput hkeep hcl BJ Ce jf jl;go_wp2_with fail;go_region
    generalize World.drew _=W9 at hF ⊢;go_wp2_with fail;go_roundw
    case rel=>exact⟨_,cnt2,true,_,_,rfl,hF⟩
    case measure=>rw[hF.rg.left_eq];exact hme.out
   ·obtain⟨BJ,Ce,jf,jl⟩:=hcl.out W4 (aV _ _);obtain⟨a0,a1⟩:=BJ.cell;obtain⟨b0,b1⟩:=Ce.cell;obtain⟨d0,d1⟩:=jf.cell;obtain⟨g0,g1⟩:=jl.cell;dsimp only at a0 a1 b0 b1;clear BJ Ce jf jl;go_wp2_with fail;refine aU (JQ (e.dF,e.iM) l W4) ?_;rintro r W5 ⟨rfl,hb5⟩;clear a0 a1 b0 b1 d0 d1 g0 g1;obtain⟨BJ,Ce,jf,jl⟩:=hcl.out W5 hb5;obtain⟨a0,a1⟩:=BJ.cell;obtain⟨b0,b1⟩:=Ce.cell;obtain⟨d0,d1⟩:=jf.cell;obtain⟨g0,g1⟩:=jl.cell;have y0:=jf.free 0;have y1:=jf.free 1;have y2:=jl.free 0;have y3:=jl.free 1;dsimp only at a0 a1 b0 b1;by_cases hc:(if e.dF=l.1 then e.iM<l.2 else e.dF<l.1)
    ·have hF:=hput.out W5 hb5 (by rw[aI trivial];exact hc);have hbt:(if e.dF=l.1 then decide (e.iM<l.2)else decide (e.dF<l.1))=true:=by
      split at hc<;>simp_all
     dsimp only;rw[hbt];clear hput hkeep hcl BJ Ce jf jl hc hbt;go_wp2_with fail;go_region
     generalize World.drew _=W9 at hF ⊢;go_wp2_with fail;go_roundw
     case rel=>exact⟨_,cnt2,true,_,_,rfl,hF⟩
     case measure=>rw[hF.rg.left_eq];exact hme.out
    ·have hF:=hkeep.out W5 hb5 trivial hc;have hbt:(if e.dF=l.1 then decide (e.iM<l.2)else decide (e.dF<l.1))=false:=by
      split at hc<;>simp_all
     dsimp only;rw[hbt];clear hput hkeep hcl BJ Ce jf jl hc hbt;go_wp2_with fail;go_roundw
     case rel=>exact⟨_,cnt2,true,_,_,rfl,hF⟩
     case measure=>rw[hF.rg.left_eq];exact hme.out
theorem AO{α:Type}(p:α->Bool):∀l:List α,(l.filter p).length+(l.filter λx=>!p x).length=l.length
 | []=>rfl
 |x::l=>by
  have:=AO p l;cases h:p x<;>simp[h]<;>omega
theorem xN.put{g:Int×Int->Option (Int×Int)}(h:xN Ms tn E W)(h2:∀e∈E,g e.key=some (e.dF,e.iM))(h3:∀k m,wD k->g k=some m->∃e∈E,e.key=k∧m=(e.dF,e.iM)){q:Int×Int}(hq:wD q){dF:Int}(h0:0<=dF)(hm:∀e∈E,e.dF<=dF)
  (hM:lu W' Ms (qB g q (some (dF,tn))) (if (g q).isSome then E.length else E.length+1)):
  ∃g',lu W' Ms g' (dK E q dF tn).length∧(∀e∈dK E q dF tn,g' e.key=some (e.dF,e.iM))∧(∀k m,wD k->g' k=some m->∃e∈dK E q dF tn,e.key=k∧m=(e.dF,e.iM))∧(∀e∈dK E q dF tn,wD e.key∧0<=e.dF∧0<=e.iM∧e.iM<tn+1)∧(dK E q dF tn).Pairwise (λa b=>a.dF<=b.dF∧a.iM<b.iM∧a.key≠b.key)∧(dK E q dF tn).length<=17:=by
 have hk:(⟨q.1,q.2,dF,tn⟩:Mm).key=q:=rfl;have htn:=h.tn0;have hmem:∀e,e∈dK E q dF tn ↔ (e∈E∧e.key≠q)∨e=⟨q.1,q.2,dF,tn⟩:=by
  intro e;unfold dK;simp[List.mem_append,List.mem_filter]
 have hfl:(E.filter λe=>!decide (e.key=q)).length<=E.length:=List.length_filter_le ..;have hlen:(dK E q dF tn).length=if (g q).isSome then E.length else E.length+1:=by
  unfold dK;rw[bU,List.length_singleton];cases hg:g q with
  |none=>
   have:E.filter (λe=>!decide (e.key=q))=E:=List.filter_eq_self.2 λe he=>by
    have:e.key≠q:=λhc=>by
     have:=h2 e he;rw[hc,hg]at this;cases this
    simp[this]
   rw[this];simp
  |some m=>
   obtain⟨e,he,hek,_⟩:=h3 q m hq hg;have hcount:(E.filter λe=>decide (e.key=q)).length=1:=by
    have hnd:(E.filter λe=>decide (e.key=q)).Pairwise (λa b=>a.key≠b.key):=(h.yE.imp λh=>h.2.2).filter _;have hall:∀z∈E.filter (λe=>decide (e.key=q)),z.key=q:=λz hz=>by simpa using(List.mem_filter.1 hz).2
    have hin:e∈E.filter (λe=>decide (e.key=q)):=List.mem_filter.2 ⟨he,by simpa using hek⟩;generalize E.filter (λe=>decide (e.key=q))=F at hnd hall hin ⊢
    match F,hnd,hall,hin with
    | [],_,_,hin=>simp at hin
    | [_],_,_,_=>rfl
    |a::b::r,hnd,hall,_=>
     exfalso;have h1:=(List.pairwise_cons.1 hnd).1 b (jT ..);exact h1 ((hall a (jT ..)).trans (hall b (lU _ (jT ..))).symm)
   have hsum:=AO (λe:Mm=>decide (e.key=q)) E;simp only[Option.isSome_some,if_true];omega
 refine⟨_,by rw[hlen];exact hM,λe he=> ?_,λk m hk hg=> ?_,λe he=> ?_,?_,by rw[hlen];have:=h.len;split<;>omega⟩
 ·rcases(hmem e).1 he with⟨he,hne⟩|rfl
  ·simp only[qB,ay hne];exact h2 e he
  ·simp[qB,Mm.key]
 ·unfold qB at hg;split at hg
  ·rename_i hkq;subst hkq;exact⟨_,(hmem _).2 (.inr rfl),rfl,(Option.some.inj hg).symm⟩
  ·rename_i hkq;obtain⟨e,he,hek,hm⟩:=h3 k m hk hg;exact⟨e,(hmem e).2 (.inl ⟨he,by rw[hek];exact hkq⟩),hek,hm⟩
 ·rcases(hmem e).1 he with⟨he,_⟩|rfl
  ·have:=h.ok e he;exact⟨this.1,this.2.1,this.2.2.1,by omega⟩
  ·exact⟨hq,h0,htn,by dsimp only;omega⟩
 ·unfold dK;refine List.pairwise_append.2 ⟨h.yE.filter _,by simp,λa ha b hb=> ?_⟩;rw[fM]at hb;subst hb;obtain⟨ha1,ha2⟩:=List.mem_filter.1 ha;have:=h.ok a ha1;exact⟨hm a ha1,this.2.2.2,by show a.key≠q;simpa using ha2⟩
theorem VS{e0:Mm}{g:Int×Int->Option (Int×Int)}(h2:∀e∈e0::E,g e.key=some (e.dF,e.iM))(h3:∀k m,wD k->g k=some m->∃e∈e0::E,e.key=k∧m=(e.dF,e.iM))(hok:∀e∈e0::E,wD e.key∧0<=e.dF∧0<=e.iM∧e.iM<tn)(ha:(e0::E).Pairwise λa b=>a.dF<=b.dF∧a.iM<b.iM∧a.key≠b.key)(hl:(e0::E).length<=17)(ht:0<=tn)
  (hM:lu W' Ms (qB g e0.key none) ((e0::E).length - 1)):xN Ms tn E W':=by
 have hp:=List.pairwise_cons.1 ha;refine⟨⟨_,hM,λe he=> ?_,λk m hk hg=> ?_⟩,λe he=>hok e (lU _ he),hp.2,by simpa using hl,ht⟩
 ·have:=(hp.1 e he).2.2;simp only[qB,ay (Ne.symm this)];exact h2 e (lU _ he)
 ·unfold qB at hg;split at hg
  ·cases hg
  ·rename_i hne;obtain⟨e,he,hek,hm⟩:=h3 k m hk hg;rcases fE.1 he with rfl|he
   ·exact absurd hek.symm hne
   ·exact⟨e,he,hek,hm⟩
theorem F8(N:Nat)(x:mX)(E:List Mm)(q:Int×Int)(hq:wD q)(dF:Int)(h0:0<=dF)(hm:∀e∈E,e.dF<=dF)(htn:x.tn<=4611686018427387904)(w:World)(hN:iI N x w)(hs:xN x.Ms x.tn E w):
  Calls Tryz.prog 156 #[.pointer (some ⟨N,8,none⟩),jX q,.int .u64 dF] w λe w'=>e=.returned (.tuple #[])∧iI N {x with tn:=x.tn+1} w'∧xN x.Ms (x.tn+1) (dw E q dF x.tn) w'∧Fx (λk=>k=N∨k=x.Ms) w w':=by
 obtain⟨g,h1,h2,h3⟩:=hs.map;have aft:=hs.len;have afh:=hs.tn0;have hNM:N≠x.Ms:=λe=>by
  obtain⟨es,cl,hM⟩:=hs.obj;rw[<-e,show w.heap[N]?=_ from hN]at hM;cases hM
 have hb0:Below w.heap.size w (w.alloc (fP q)):=bC;have hC:=bV w (fP q);have hN1:=hN.later hb0;have hg1:=h1.block (hb0.block _ h1.lt);have hF1:Fx (λk=>k=N∨k=x.Ms) w (w.alloc (fP q)):=Fx.below hb0;have Tv:w.heap.size<(w.alloc (fP q)).heap.size:=by simp
 have hne:w.heap.size≠N∧w.heap.size≠x.Ms:=⟨λe=>by have:=hN.lt;omega,λe=>by have:=hs.lt;omega⟩;have HP:=(show Hid _ from λW' hM=>xN.put (W':=W') hs h2 h3 hq h0 hm hM);clear hs hN h1 h2 h3 hm;dsimp only[fP]at hb0 hC hN1 hg1 hF1 Tv;dsimp only[jX];have hsa:Hid (dw E q dF x.tn=if 16<(dK E q dF x.tn).length then(dK E q dF x.tn).tail else dK E q dF x.tn):=rfl;generalize dw E q dF x.tn=R at hsa ⊢;go_enter Tryz.func156,Tryz.ntmps156;go_upto_region 1 with(fail);generalize World.alloc _ _=W1 at hb0 hC hN1 hg1 hF1 Tv ⊢;generalize w.heap.size=C at hC Tv hne ⊢;obtain⟨n0,n2,n3,n4,n5,n6,n7,n8,n9,n10⟩:=hN1.cell;have c0:W1.cell? ⟨C,0,none⟩=some (.int .u32 q.1):=aJ _ _ 0 _ _ _ hC;have c1:W1.cell? ⟨C,1,none⟩=some (.int .u32 q.2):=aJ _ _ 1 _ _ _ hC;obtain⟨W3,hr3,oI,OE⟩:=(show lu W1.drew _ _ _ from hg1).put (by unfold maxLen;omega) hq (dF,x.tn);dsimp only[jX,xG]at hr3;have SX:W1.grownBy W3 (some x.Ms):=⟨OE.os,OE.tape,OE.output,OE.size,OE.block⟩;have Az:=hN1.kept SX (by simpa using Ne.symm hNM);have yo:=hF1.trans (Fx.grown (S:=λk=>k=x.Ms) SX (λk e=>by cases e;rfl)) (λi _ h=> .inr h);have hP3:=HP.out W3 oI;clear hg1 hN1 hF1 oI HP hC hb0;go_region
 clear n0 n2 n3 n4 n5 n6 n7 n8 n9 n10 c0 c1 hr3 OE SX;obtain⟨g',k1,k2,k3,k4,k5,k6⟩:=hP3;generalize dK E q dF x.tn=L at k1 k2 k3 k4 k5 k6 hsa;obtain⟨n0,n2,n3,n4,n5,n6,n7,n8,n9,n10⟩:=Az.cell;have f9:=Az.free 9;have hg4:W3.grownBy (W3.setCell ⟨N,9,none⟩ (.int .i64 (x.tn+1))) (some N):=ah (aC _ (some N)) 9 _;have BL:=Az.abH (x.tn+1);have k14:=k1.block (hg4.block _ k1.lt (by simpa using Ne.symm hNM));have sU:=yo.trans (Fx.grown (S:=λk=>k=N) hg4 (λk e=>by cases e;rfl)) (λi _ h=> .inl h);have hwr:wrap64 (x.tn+1)=x.tn+1:=by unfold wrap64;omega
 clear Az k1 yo hg4;go_upto_region 3 with(fail);generalize World.setCell _ _ _=W4 at BL k14 sU ⊢;clear n0 n2 n3 n4 n5 n6 n7 n8 n9 n10 f9 hwr;obtain⟨n0,n2,n3,n4,n5,n6,n7,n8,n9,n10⟩:=BL.cell;have hlen:=λty=>k14.len ty;generalize hnl:L.length=nl at hlen;replace hnl:=(show Hid _ from hnl);by_cases hl:16<L.length
 ·have hlb:decide ((16:Int)<(nl:Int))=true:=f_ (by have:=hnl.out;omega);have hR:=hsa.out;rw[aI hl]at hR;subst hR;obtain⟨e0,L',rfl⟩:∃e0 L',L=e0::L':=by
   cases L with
   |nil=>simp at hl
   |cons a b=>exact⟨a,b,rfl⟩
  have HF:Hid (∀W5,Below W4.heap.size W4 W5->Calls Tryz.prog 178 #[.pointer (some ⟨N,8,none⟩)] W5 λe w'=>e=.returned (jX e0.key)∧Below W4.heap.size W4 w'):=by
   intro W5 h5;refine(Ih N {x with tn:=x.tn+1} e0 L' W5 (BL.later h5) ⟨_,k14.block (h5.block _ k14.lt),k2,k3⟩ k4 k5).mono ?_;rintro e w' ⟨rfl,hb⟩;exact⟨rfl,h5.trans (hb.mono h5.size)⟩
  have HD:Hid (∀W5,Below W4.heap.size W4 W5->W5.cell? ⟨N,8,none⟩=some (.map (some x.Ms))∧∃W6,(Builtin.delete_ #[111,261] 0 #[.map (some x.Ms),jX e0.key]).run Tryz.prog W5=.ok (.tuple #[]) W6∧W6.cell? ⟨N,8,none⟩=some (.map (some x.Ms))∧iI N {x with tn:=x.tn+1} W6∧xN x.Ms (x.tn+1) L' W6∧Fx (λk=>k=N∨k=x.Ms) w W6):=by
   intro W5 h5;have nZ:=k14.block (h5.block _ k14.lt);obtain⟨W6,uo,OC,jB⟩:=nZ.del (k4 e0 (jT ..)).1 0 (by rw[k2 e0 (jT ..)];rfl);have P9:=(BL.later h5).kept jB (by simpa using Ne.symm hNM);exact⟨(BL.later h5).cell.2.2.2.2.2.1,W6,uo,P9.cell.2.2.2.2.2.1,P9,VS k2 k3 k4 k5 k6 (by omega) OC,(sU.trans (Fx.below (S:=λ_=>False) h5) (λ_ _ h=>h.elim)).trans (Fx.grown (S:=λk=>k=x.Ms) jB (λk e=>by cases e;rfl)) (λi _ h=> .inr h)⟩
  clear BL k14 sU k2 k3 k4 k5 k6 hl;dsimp only[jX]at HF HD;go_wp2_with fail;go_region_law (first
   |(go_simp;go_at_call 178;refine(HF.out _ (by first|exact aV _ _|exact(aV _ _).drew|exact below_drewN (aV _ _) _)).mono ?_;rintro e w5 ⟨rfl,hb5⟩;obtain⟨OL,W6,uo,hc6,P9,Xj,U7⟩:=HD.out _ hb5))
  all_goals
   go_wp2;go_returns;exact⟨rfl,P9,Xj,U7⟩
 ·have hlb:decide ((16:Int)<(nl:Int))=false:=eU (by have:=hnl.out;omega);have hR:=hsa.out;rw[ay hl]at hR;replace hR:=(show Hid _ from hR);have hfin:xN x.Ms (x.tn+1) L W4:=⟨⟨g',k14,k2,k3⟩,k4,k5,by omega,by omega⟩;clear k14 k2 k3 k4 k5 k6 hl;go_wp2;go_returns;exact⟨rfl,BL,hR.out▸hfin,sU⟩
open Hp
variable{f:Int->Option Nat}{M T:Nat}{v:Value}{W:World}
def PI(h:List Tm)(f:Int->Option Nat):Prop:=
 (∀i x,h[i]?=some x->f x.2.1=some i)∧∀k i,f k=some i->∃x,h[i]?=some x∧x.2.1=k
theorem PI.sw{h:List Tm}(p:PI h f){i j:Nat}(hi:i<h.length)(hj:j<h.length):
  PI (sw h i j) (upd (upd f (at' h j).2.1 (some i)) (at' h i).2.1 (some j)):=by
 have pi:=p.1 i _ (jI hi);have pj:=p.1 j _ (jI hj);have hs:=yD hi hj;constructor
 ·intro k x hx;have hk:k<h.length:=by
   rcases Nat.lt_or_ge k (Hp.sw h i j).length with a|a
   ·rw[dL]at a;exact a
   ·rw[List.getElem?_eq_none a]at hx;cases hx
  have e:=r_ hx;rw[hs]at e;by_cases h1:k=j
  ·rw[aI h1]at e;rw[<-e,h1];simp[upd]
  ·rw[ay h1]at e;by_cases h2:k=i
   ·rw[aI h2]at e;rw[<-e,h2];unfold upd;by_cases h3:(at' h j).2.1=(at' h i).2.1
    ·rw[h3,pi]at pj;cases pj;exact absurd h2 h1
    ·rw[ay h3,aI rfl]
   ·rw[ay h2]at e;have pk:=p.1 k _ (jI hk);rw[e]at pk;unfold upd;by_cases h3:x.2.1=(at' h i).2.1
    ·rw[h3,pi]at pk;cases pk;exact absurd rfl h2
    ·rw[ay h3];by_cases h4:x.2.1=(at' h j).2.1
     ·rw[h4,pj]at pk;cases pk;exact absurd rfl h1
     ·rw[ay h4,pk]
 ·intro k n hn;unfold upd at hn;have hl:(Hp.sw h i j).length=h.length:=dL h i j;by_cases h1:k=(at' h i).2.1
  ·rw[aI h1]at hn;cases hn;exact⟨_,jI (by omega),by rw[hs,aI rfl,h1]⟩
  ·rw[ay h1]at hn;by_cases h2:k=(at' h j).2.1
   ·rw[aI h2]at hn;cases hn;refine⟨_,jI (by omega),?_⟩;rw[hs,aI rfl];by_cases h3:i=j
    ·subst h3;exact absurd h2 h1
    ·rw[ay h3,h2]
   ·rw[ay h2]at hn;obtain⟨x,hx,hk⟩:=p.2 k n hn;have hnl:n<h.length:=by
     rcases Nat.lt_or_ge n h.length with a|a
     ·exact a
     ·rw[List.getElem?_eq_none a]at hx;cases hx
    refine⟨x,?_,hk⟩;rw[jI (by omega),hs];have e:=r_ hx;rw[ay (by rintro rfl;rw[e]at h2;exact h2 hk.symm),ay (by rintro rfl;rw[e]at h1;exact h1 hk.symm),e]
theorem PI.add{h:List Tm}(p:PI h f){x:Tm}(hx:f x.2.1=none):PI (h++ [x]) (upd f x.2.1 (some h.length)):=by
 constructor
 ·intro i y hy;unfold upd;by_cases hi:i<h.length
  ·rw[List.getElem?_append_left hi]at hy;have:=p.1 i y hy;rw[ay (λe=>by rw[e,hx]at this;cases this),this]
  ·rw[List.getElem?_append_right (by omega)]at hy;have:i - h.length=0:=by
    rcases Nat.eq_zero_or_pos (i - h.length)with a|a
    ·exact a
    ·rw[List.getElem?_eq_none (by simp;omega)]at hy;cases hy
   rw[this]at hy;simp at hy;subst hy;rw[aI rfl]
   congr 1
   omega
 ·intro k i hk;unfold upd at hk;by_cases e:k=x.2.1
  ·rw[aI e]at hk;cases hk;exact⟨x,by simp,e.symm⟩
  ·rw[ay e]at hk;obtain⟨y,hy,he⟩:=p.2 k i hk;have hi:i<h.length:=by
    rcases Nat.lt_or_ge i h.length with a|a
    ·exact a
    ·rw[List.getElem?_eq_none a]at hy;cases hy
   exact⟨y,by rw[List.getElem?_append_left hi];exact hy,he⟩
theorem PI.cut{h:List Tm}(p:PI h f){n:Nat}(hn:h.length=n+1):PI (h.take n) (upd f (at' h n).2.1 none):=by
 have pn:=p.1 n _ (jI (by omega));constructor
 ·intro i x hx;rw[List.getElem?_take]at hx;split at hx
  ·rename_i hi;have pi:=p.1 i x hx;unfold upd;rw[ay (λe=>by rw[e,pn]at pi;cases pi;omega),pi]
  ·cases hx
 ·intro k i hk;unfold upd at hk;split at hk
  ·cases hk
  ·rename_i e;obtain⟨x,hx,he⟩:=p.2 k i hk;refine⟨x,?_,he⟩;rw[List.getElem?_take];split
   ·exact hx
   ·rename_i hi;have hil:i<h.length:=by
     rcases Nat.lt_or_ge i h.length with a|a
     ·exact a
     ·rw[List.getElem?_eq_none a]at hx;cases hx
    obtain rfl:i=n:=by omega
    rw[r_ hx]at e;exact absurd he.symm e
def K6(x:Tm):List Value:=[.int .u64 x.1,.int .i64 x.2.1,.int .i64 x.2.2]
def TC(h:List Tm):List Value:=h.flatMap K6
theorem oO(h:List Tm):(TC h).length=h.length * 3:=rz K6 3 (λ_=>rfl) h
theorem sZ{h:List Tm}{i:Nat}(hi:i<h.length):(TC h)[i * 3]?=some (.int .u64 (at' h i).1)∧(TC h)[i * 3+1]?=some (.int .i64 (at' h i).2.1)∧(TC h)[i * 3+2]?=some (.int .i64 (at' h i).2.2):=
 ⟨jR K6 3 (by decide) (λ_=>rfl) h i 0 (by decide) (jI hi),jR K6 3 (by decide) (λ_=>rfl) h i 1 (by decide) (jI hi),jR K6 3 (by decide) (λ_=>rfl) h i 2 (by decide) (jI hi)⟩
theorem Pt(a b:List Tm):TC (a++b)=TC a++TC b:=by simp[TC]
def TOk(x:Tm):Prop:=(0<=x.1∧x.1<18446744073709551616)∧oV x.2.1∧oV x.2.2
def v_(T M:Nat)(last:Int)(v:Value)(W:World):Prop:=W.heap[T]?=some (.cells #[v,.map (some M),.int .i64 last] 165)
theorem v_.cell{last:Int}(h:v_ T M last v W):
  W.cell? ⟨T,0,none⟩=some v∧W.cell? ⟨T,1,none⟩=some (.map (some M))∧W.cell? ⟨T,2,none⟩=some (.int .i64 last):=
 ⟨aJ W T 0 _ _ _ h,aJ W T 1 _ _ _ h,aJ W T 2 _ _ _ h⟩
theorem v_.free{last:Int}(h:v_ T M last v W)(i:Nat):W.frozen? ⟨T,i,none⟩=false:=by
 unfold v_ at h;simp[World.frozen?,h]
theorem v_.lt{last:Int}(h:v_ T M last v W):T<W.heap.size:=(iA.1 h).1
structure TR(base T M:Nat)(last:Int)(h:List Tm)(v:Value)(W:World):Prop where
 blk:v_ T M last v W
 row:W.ownsRow base 254 3 v h.length (TC h)
 map:∃f,kQ W M f h.length∧PI h f
 ok:∀x∈h,TOk x
 bT:base<=T
 bM:base<=M
theorem TR.shape{base:Nat}{last:Int}{h:List Tm}(r:TR base T M last h v W)(h0:0<h.length):∃g cap,v=.slice (some ⟨g,0,none⟩) h.length cap∧base<=g:=by
 refine bZ r.row h0
theorem TR.apart{base:Nat}{last:Int}{h:List Tm}(r:TR base T M last h v W):T≠M∧some T≠v.ownBlock∧some M≠v.ownBlock:=by
 have hb:=r.blk;obtain⟨f,⟨D,⟨es,clock,hm,_⟩,_⟩,_⟩:=r.map;refine⟨?_,?_,?_⟩
 ·rintro rfl;unfold v_ at hb;rw[hb]at hm;cases hm
 ·intro e;rcases r.row.2 with⟨rfl,_⟩|⟨g,cap,cur,rfl,_,hg,_⟩
  ·simp[Value.ownBlock]at e
  ·simp[Value.ownBlock]at e;subst e;unfold v_ at hb;rw[hb]at hg;simp at hg
 ·intro e;rcases r.row.2 with⟨rfl,_⟩|⟨g,cap,cur,rfl,_,hg,_⟩
  ·simp[Value.ownBlock]at e
  ·simp[Value.ownBlock]at e;subst e;rw[hm]at hg;cases hg
structure Fr(T M:Nat)(v:Value)(W W':World):Prop where
 os:W'.os=W.os
 tape:W'.tape=W.tape
 output:W'.output=W.output
 size:W.heap.size<=W'.heap.size
 block:∀k,k<W.heap.size->k≠T->k≠M->some k≠v.ownBlock->W'.heap[k]?=W.heap[k]?
theorem Fr.refl(T M:Nat)(v:Value)(W:World):Fr T M v W W:=⟨rfl,rfl,rfl,aB _,λ_ _ _ _ _=>rfl⟩
theorem Fr.trans{v':Value}{W1 W2:World}(a:Fr T M v W W1)(b:Fr T M v' W1 W2)(hv:v'.ownBlock=v.ownBlock∨∀k,v'.ownBlock=some k->W.heap.size<=k):Fr T M v W W2:=by
 refine⟨b.os.trans a.os,b.tape.trans a.tape,b.output.trans a.output,dN a.size b.size,λk hk h1 h2 h3=> ?_⟩;rw[b.block k (fZ hk a.size) h1 h2 ?_]
 ·exact a.block k hk h1 h2 h3
 ·rcases hv with hv|hv
  ·rw[hv];exact h3
  ·intro e;have:=hv k e.symm;omega
theorem Fr.grown{W':World}{r:Option Nat}(h:W.grownBy W' r)(hr:r=none∨r=some T∨r=some M∨r=v.ownBlock):Fr T M v W W':=by
 refine⟨h.os,h.tape,h.output,h.size,λk hk h1 h2 h3=>h.block k hk ?_⟩;rcases hr with rfl|rfl|rfl|rfl
 ·simp
 ·simpa using h1
 ·simpa using h2
 ·exact h3
open Hp
variable{M T:Nat}{r:Option Nat}{v:Value}{A B W:World}
theorem Bg:∀(h:List Tm) (i:Nat) (x:Tm),(((TC h).set (i * 3) (.int .u64 x.1)).set (i * 3+1) (.int .i64 x.2.1)).set (i * 3+2) (.int .i64 x.2.2)=TC (h.set i x)
 | [],i,x=>by simp[TC]
 |a::h,0,x=>by simp[TC,K6]
 |a::h,i+1,x=>by
  have ih:=Bg h i x;simp only[TC,List.flatMap_cons,List.set_cons_succ]at ih ⊢;rw[<-ih];simp only[K6,List.cons_append,List.nil_append,show(i+1)* 3=i * 3+1+1+1 by omega,List.set_cons_succ]
theorem v_.kept{last:Int}{W':World}(h:v_ T M last v W)(hg:W.grownBy W' r)(hne:some T≠r):v_ T M last v W':=(hg.block T h.lt hne).trans h
theorem eF{g:Nat}(h:A.grownBy B (some g))(j:Nat)(v:Value):A.grownBy (B.setCell ⟨g,j,none⟩ v) (some g):=
 ⟨h.os,h.tape,h.output,by simpa using h.size,λi hi hne=>(lV B ⟨g,j,none⟩ v i (λe=>hne (by rw[e]))).trans (h.block i hi hne)⟩
theorem AJ(h:A.grownBy B r):A.grownBy B.drew r:=⟨h.os,h.tape,h.output,h.size,h.block⟩
theorem mF(A:World)(r:Option Nat):A.grownBy A r:=⟨rfl,rfl,rfl,aB _,λ_ _ _=>rfl⟩
theorem LA{base:Nat}{last:Int}{h:List Tm}(r:TR base T M last h v W){i:Nat}(hi:i<h.length):oV (at' h i).2.1:=
 (r.ok _ (iV (jI hi))).2.1
theorem VI(base T M:Nat)(last:Int)(h:List Tm)(v:Value)(w:World)(r:TR base T M last h v w)(i j:Nat)(hi:i<h.length)(hj:j<h.length)(hij:i≠j)(hn:h.length<=1000000):
  Calls Tryz.prog 174 #[.pointer (some ⟨T,0,none⟩),.int .i64 i,.int .i64 j] w λe w'=>e=.returned (.tuple #[])∧TR base T M last (sw h i j) v w'∧Fr T M v w w':=by
 obtain⟨g,cap,rfl,hg⟩:=r.shape (by omega);obtain⟨c0,c1,c2⟩:=r.blk.cell;have ai:=sZ hi;have aj:=sZ hj;have hl:=oO h;have i0:=(r.row.cellAt (i * 3) (by omega)).trans ai.1;have i1:=(r.row.cellAt (i * 3+1) (by omega)).trans ai.2.1;have i2:=(r.row.cellAt (i * 3+2) (by omega)).trans ai.2.2;have j0:=(r.row.cellAt (j * 3) (by omega)).trans aj.1;have j1:=(r.row.cellAt (j * 3+1) (by omega)).trans aj.2.1;have j2:=(r.row.cellAt (j * 3+2) (by omega)).trans aj.2.2;have f0:=r.row.frozenAt (i * 3);have f1:=r.row.frozenAt (i * 3+1);have f2:=r.row.frozenAt (i * 3+2);have f3:=r.row.frozenAt (j * 3);have f4:=r.row.frozenAt (j * 3+1);have f5:=r.row.frozenAt (j * 3+2);have hin:(i:Int)<(h.length:Int):=by omega
 have hjn:(j:Int)<(h.length:Int):=by omega
 have n00:¬i * 3=j * 3:=by omega
 have n01:¬i * 3=j * 3+1:=by omega
 have n02:¬i * 3=j * 3+2:=by omega
 have n10:¬i * 3+1=j * 3:=by omega
 have n11:¬i * 3+1=j * 3+1:=by omega
 have n12:¬i * 3+1=j * 3+2:=by omega
 have n20:¬i * 3+2=j * 3:=by omega
 have n21:¬i * 3+2=j * 3+1:=by omega
 have n22:¬i * 3+2=j * 3+2:=by omega
 have hTg:¬T=g:=λe=>r.apart.2.1 (by rw[e];rfl);generalize hx:at' h i=x at i0 i1 i2;generalize hy:at' h j=y at j0 j1 j2;have hx':=(show Hid _ from hx);have hy':=(show Hid _ from hy);clear hx hy ai aj hl;obtain⟨f,hm,hp⟩:=r.map;have hap:=r.apart;have hidx:=LA r hi;have aan:=LA r hj;rw[hx'.out]at hidx;rw[hy'.out]at aan;have SV:oV (i:Int):=by unfold oV;omega
 have aef:oV (j:Int):=by unfold oV;omega
 have hpi:=hp.1 i _ (jI hi);have hpj:=hp.1 j _ (jI hj);have Hq:=hp.sw hi hj;rw[hx'.out]at hpi Hq;rw[hy'.out]at hpj Hq;have hrow:(((((((w.setCell ⟨g,i * 3,none⟩ (.int .u64 y.1)).setCell ⟨g,i * 3+1,none⟩ (.int .i64 y.2.1)).setCell ⟨g,i * 3+2,none⟩ (.int .i64 y.2.2)).setCell ⟨g,j * 3,none⟩ (.int .u64 x.1)).setCell ⟨g,j * 3+1,none⟩ (.int .i64 x.2.1)).setCell ⟨g,j * 3+2,none⟩ (.int .i64 x.2.2)).drew).ownsRow base 254 3 (.slice (some ⟨g,0,none⟩) h.length cap) h.length (TC (Hp.sw h i j)):=by
  have e:=((((((r.row.stored (i * 3) (.int .u64 y.1)).1.stored (i * 3+1) (.int .i64 y.2.1)).1.stored (i * 3+2) (.int .i64 y.2.2)).1.stored (j * 3) (.int .u64 x.1)).1.stored (j * 3+1) (.int .i64 x.2.1)).1.stored (j * 3+2) (.int .i64 x.2.2)).1;rw[Bg,Bg]at e;have es:(h.set i y).set j x=Hp.sw h i j:=by
   unfold Hp.sw;rw[hx'.out,hy'.out]
  rw[es]at e;exact e.drew
 have hgr:w.grownBy (((((((w.setCell ⟨g,i * 3,none⟩ (.int .u64 y.1)).setCell ⟨g,i * 3+1,none⟩ (.int .i64 y.2.1)).setCell ⟨g,i * 3+2,none⟩ (.int .i64 y.2.2)).setCell ⟨g,j * 3,none⟩ (.int .u64 x.1)).setCell ⟨g,j * 3+1,none⟩ (.int .i64 x.2.1)).setCell ⟨g,j * 3+2,none⟩ (.int .i64 x.2.2)).drew) (some g):=by
  have e:=eF (eF (eF (eF (eF (eF (mF w (some g)) (i * 3) (.int .u64 y.1)) (i * 3+1) (.int .i64 y.2.1)) (i * 3+2) (.int .i64 y.2.2)) (j * 3) (.int .u64 x.1)) (j * 3+1) (.int .i64 x.2.1)) (j * 3+2) (.int .i64 x.2.2);exact AJ e
 have hTn:some T≠(some g:Option Nat):=hap.2.1;have U5:some M≠(some g:Option Nat):=hap.2.2;have hB1:=r.blk.kept hgr hTn;have hm1:=hm.kept hgr U5;have hat:=yD hi hj;rw[hx'.out,hy'.out]at hat;have hli:i<(Hp.sw h i j).length:=by rw[dL];exact hi
 have hlj:j<(Hp.sw h i j).length:=by rw[dL];exact hj
 have ti:=sZ hli;have tj:=sZ hlj;rw[hat,ay hij,aI rfl]at ti;rw[hat,aI rfl]at tj;have hbT:=r.bT;have hbM:=r.bM;have hok:∀z∈Hp.sw h i j,TOk z:=λz hz=>r.ok z ((uS hi hj).mem_iff.1 hz);have hmt:T≠M:=hap.1;generalize hH:h.length=n at hin hjn c0 hn hrow hB1 hm1;have Xq:=(show Hid _ from hH);clear hH r hm hp hap hx' hy' hat;obtain⟨x0,x1,x2⟩:=x;obtain⟨y0,y1,y2⟩:=y;dsimp only at i0 i1 i2 j0 j1 j2 hrow hgr hB1 hm1 hidx aan hpi hpj Hq ti tj;go_enter Tryz.func174,Tryz.ntmps174;go_wp2_with fail;go_region
 clear i0 i1 i2 j0 j1 j2 c0 c1 c2 f0 f1 f2 f3 f4 f5 n00 n01 n02 n10 n11 n12 n20 n21 n22;generalize World.drew _=W1 at hrow hgr hB1 hm1 ⊢;have hl3:n * 3=h.length * 3:=by rw[Xq.out]
 have d1:=(hrow.cellAt (i * 3+1) (by omega)).trans ti.2.1;obtain⟨b0,b1,b2⟩:=hB1.cell;obtain⟨W2,hr2,hm2,hg2⟩:=(show kQ W1.drew M f n from hm1).put (by unfold maxLen;omega) aan SV;go_wp2_with fail;go_region
 have uq:W1.grownBy W2 (some M):=⟨hg2.os,hg2.tape,hg2.output,hg2.size,hg2.block⟩;rw[hpj]at hm2;simp only[Option.isSome_some,if_true]at hm2;have hB2:=hB1.kept uq (by simpa using hmt);have hrow2:=hrow.kept uq (by simpa[Value.ownBlock]using U5.symm);have hF2:=(Fr.grown (T:=T) (M:=M) (v:=.slice (some ⟨g,0,none⟩) n cap) hgr (.inr (.inr (.inr rfl)))).trans (Fr.grown (T:=T) (M:=M) (v:=.slice (some ⟨g,0,none⟩) n cap) uq (.inr (.inr (.inl rfl)))) (.inl rfl);clear hrow hB1 hm1 hr2 hgr hg2 uq b0 b1 b2 d1 ti;have d1:=(hrow2.cellAt (j * 3+1) (by omega)).trans tj.2.1;obtain⟨b0,b1,b2⟩:=hB2.cell;obtain⟨W3,hr3,oI,hg3⟩:=(show kQ W2.drew M _ n from hm2).put (by unfold maxLen;omega) hidx aef;go_wp2_with fail;go_region
 have hg3':W2.grownBy W3 (some M):=⟨hg3.os,hg3.tape,hg3.output,hg3.size,hg3.block⟩;have hsome:(upd f y1 (some i) x1).isSome=true:=by
  unfold upd;split
  ·rfl
  ·rw[hpi];rfl
 rw[hsome]at oI;simp only[if_true]at oI;have hB3:=hB2.kept hg3' (by simpa using hmt);have hrow3:=hrow2.kept hg3' (by simpa[Value.ownBlock]using U5.symm);have yo:=hF2.trans (Fr.grown (T:=T) (M:=M) (v:=.slice (some ⟨g,0,none⟩) n cap) hg3' (.inr (.inr (.inl rfl)))) (.inl rfl);clear hrow2 hB2 hm2 hr3 hF2 hg3 hg3' b0 b1 b2 d1 tj;go_wp2;go_returns;have hls:(Hp.sw h i j).length=n:=by rw[dL];exact Xq.out
 rw[<-hls]at hrow3 oI hB3 yo ⊢;exact⟨rfl,⟨hB3,hrow3,⟨_,oI,Hq⟩,hok,hbT,hbM⟩,yo⟩
theorem swap_eq(base T M:Nat)(last:Int)(h:List Tm)(v:Value)(w:World)(r:TR base T M last h v w)(i:Nat)(hi:i<h.length)(hn:h.length<=1000000):
  Calls Tryz.prog 174 #[.pointer (some ⟨T,0,none⟩),.int .i64 i,.int .i64 i] w λe w'=>e=.returned (.tuple #[])∧TR base T M last (sw h i i) v w'∧Fr T M v w w':=by
 obtain⟨g,cap,rfl,hg⟩:=r.shape (by omega);obtain⟨c0,c1,c2⟩:=r.blk.cell;have ai:=sZ hi;have hl:=oO h;have i0:=(r.row.cellAt (i * 3) (by omega)).trans ai.1;have i1:=(r.row.cellAt (i * 3+1) (by omega)).trans ai.2.1;have i2:=(r.row.cellAt (i * 3+2) (by omega)).trans ai.2.2;have f0:=r.row.frozenAt (i * 3);have f1:=r.row.frozenAt (i * 3+1);have f2:=r.row.frozenAt (i * 3+2);have hin:(i:Int)<(h.length:Int):=by omega
 have hTg:¬T=g:=λe=>r.apart.2.1 (by rw[e];rfl);generalize hx:at' h i=x at i0 i1 i2;have hx':=(show Hid _ from hx);clear hx ai hl;obtain⟨f,hm,hp⟩:=r.map;have hap:=r.apart;have hidx:=LA r hi;rw[hx'.out]at hidx;have SV:oV (i:Int):=by unfold oV;omega
 have hpi:=hp.1 i _ (jI hi);have Hq:=hp.sw hi hi;rw[hx'.out]at hpi Hq;have hrow:(((((((w.setCell ⟨g,i * 3,none⟩ (.int .u64 x.1)).setCell ⟨g,i * 3+1,none⟩ (.int .i64 x.2.1)).setCell ⟨g,i * 3+2,none⟩ (.int .i64 x.2.2)).setCell ⟨g,i * 3,none⟩ (.int .u64 x.1)).setCell ⟨g,i * 3+1,none⟩ (.int .i64 x.2.1)).setCell ⟨g,i * 3+2,none⟩ (.int .i64 x.2.2)).drew).ownsRow base 254 3 (.slice (some ⟨g,0,none⟩) h.length cap) h.length (TC (Hp.sw h i i)):=by
  have e:=((((((r.row.stored (i * 3) (.int .u64 x.1)).1.stored (i * 3+1) (.int .i64 x.2.1)).1.stored (i * 3+2) (.int .i64 x.2.2)).1.stored (i * 3) (.int .u64 x.1)).1.stored (i * 3+1) (.int .i64 x.2.1)).1.stored (i * 3+2) (.int .i64 x.2.2)).1;rw[Bg,Bg]at e;have es:(h.set i x).set i x=Hp.sw h i i:=by
   unfold Hp.sw;rw[hx'.out]
  rw[es]at e;exact e.drew
 have hgr:w.grownBy (((((((w.setCell ⟨g,i * 3,none⟩ (.int .u64 x.1)).setCell ⟨g,i * 3+1,none⟩ (.int .i64 x.2.1)).setCell ⟨g,i * 3+2,none⟩ (.int .i64 x.2.2)).setCell ⟨g,i * 3,none⟩ (.int .u64 x.1)).setCell ⟨g,i * 3+1,none⟩ (.int .i64 x.2.1)).setCell ⟨g,i * 3+2,none⟩ (.int .i64 x.2.2)).drew) (some g):=by
  have e:=eF (eF (eF (eF (eF (eF (mF w (some g)) (i * 3) (.int .u64 x.1)) (i * 3+1) (.int .i64 x.2.1)) (i * 3+2) (.int .i64 x.2.2)) (i * 3) (.int .u64 x.1)) (i * 3+1) (.int .i64 x.2.1)) (i * 3+2) (.int .i64 x.2.2);exact AJ e
 have hTn:some T≠(some g:Option Nat):=hap.2.1;have U5:some M≠(some g:Option Nat):=hap.2.2;have hB1:=r.blk.kept hgr hTn;have hm1:=hm.kept hgr U5;have hat:=yD hi hi;rw[hx'.out]at hat;have hli:i<(Hp.sw h i i).length:=by rw[dL];exact hi
 have ti:=sZ hli;rw[hat,aI rfl]at ti;have hbT:=r.bT;have hbM:=r.bM;have hok:∀z∈Hp.sw h i i,TOk z:=λz hz=>r.ok z ((uS hi hi).mem_iff.1 hz);have hmt:T≠M:=hap.1;generalize hH:h.length=n at hin c0 hn hrow hB1 hm1;have Xq:=(show Hid _ from hH);clear hH r hm hp hap hx' hat;obtain⟨x0,x1,x2⟩:=x;dsimp only at i0 i1 i2 hrow hgr hB1 hm1 hidx hpi Hq ti;go_enter Tryz.func174,Tryz.ntmps174;go_wp2_with fail;go_region
 clear i0 i1 i2 c0 c1 c2 f0 f1 f2;generalize World.drew _=W1 at hrow hgr hB1 hm1 ⊢;have hl3:n * 3=h.length * 3:=by rw[Xq.out]
 have d1:=(hrow.cellAt (i * 3+1) (by omega)).trans ti.2.1;obtain⟨b0,b1,b2⟩:=hB1.cell;obtain⟨W2,hr2,hm2,hg2⟩:=(show kQ W1.drew M f n from hm1).put (by unfold maxLen;omega) hidx SV;go_wp2_with fail;go_region
 have uq:W1.grownBy W2 (some M):=⟨hg2.os,hg2.tape,hg2.output,hg2.size,hg2.block⟩;rw[hpi]at hm2;simp only[Option.isSome_some,if_true]at hm2;have hB2:=hB1.kept uq (by simpa using hmt);have hrow2:=hrow.kept uq (by simpa[Value.ownBlock]using U5.symm);have hF2:=(Fr.grown (T:=T) (M:=M) (v:=.slice (some ⟨g,0,none⟩) n cap) hgr (.inr (.inr (.inr rfl)))).trans (Fr.grown (T:=T) (M:=M) (v:=.slice (some ⟨g,0,none⟩) n cap) uq (.inr (.inr (.inl rfl)))) (.inl rfl);clear hrow hB1 hm1 hr2 hgr hg2 uq b0 b1 b2 d1;have d1:=(hrow2.cellAt (i * 3+1) (by omega)).trans ti.2.1;obtain⟨b0,b1,b2⟩:=hB2.cell;obtain⟨W3,hr3,oI,hg3⟩:=(show kQ W2.drew M _ n from hm2).put (by unfold maxLen;omega) hidx SV;go_wp2_with fail;go_region
 have hg3':W2.grownBy W3 (some M):=⟨hg3.os,hg3.tape,hg3.output,hg3.size,hg3.block⟩;have hsome:(upd f x1 (some i) x1).isSome=true:=by
  simp[upd]
 rw[hsome]at oI;simp only[if_true]at oI;have hB3:=hB2.kept hg3' (by simpa using hmt);have hrow3:=hrow2.kept hg3' (by simpa[Value.ownBlock]using U5.symm);have yo:=hF2.trans (Fr.grown (T:=T) (M:=M) (v:=.slice (some ⟨g,0,none⟩) n cap) hg3' (.inr (.inr (.inl rfl)))) (.inl rfl);clear hrow2 hB2 hm2 hr3 hF2 hg3 hg3' b0 b1 b2 d1 ti;go_wp2;go_returns;have hls:(Hp.sw h i i).length=n:=by rw[dL];exact Xq.out
 rw[<-hls]at hrow3 oI hB3 yo ⊢;exact⟨rfl,⟨hB3,hrow3,⟨_,oI,Hq⟩,hok,hbT,hbM⟩,yo⟩
theorem zI(base T M:Nat)(last:Int)(h:List Tm)(v:Value)(w:World)(r:TR base T M last h v w)(i j:Nat)(hi:i<h.length)(hj:j<h.length)(hn:h.length<=1000000):
  Calls Tryz.prog 174 #[.pointer (some ⟨T,0,none⟩),.int .i64 i,.int .i64 j] w λe w'=>e=.returned (.tuple #[])∧TR base T M last (sw h i j) v w'∧Fr T M v w w':=by
 by_cases hij:i=j
 ·subst hij;exact swap_eq base T M last h v w r i hi hn
 ·exact VI base T M last h v w r i j hi hj hij hn
open Hp
variable{M T cap:Nat}{v:Value}{W W' w:World}
@[reducible] def tmV(x : Tm): Value := .agg #[.int .u64 x.1, .int .i64 x.2.1, .int .i64 x.2.2]
@[reducible] def mM(x : Tm): Obj := .cells #[.int .u64 x.1, .int .i64 x.2.1, .int .i64 x.2.2] 254
theorem Dt(x y:Tm)(w:World):
  Calls Tryz.prog 194 #[tmV x,tmV y] w λe w'=>e=.returned (.bool (IC x y))∧Below w.heap.size w w':=by
 obtain⟨x0,x1,x2⟩:=x;obtain⟨y0,y1,y2⟩:=y;have hB:Below w.heap.size w ((w.alloc (mM (x0,x1,x2))).alloc (mM (y0,y1,y2))):=(bC).alloc (by simp) _;dsimp only[mM]at hB;by_cases h:x0=y0
 ·subst h;have e:(x0 !=x0)=false:=by simp
  have ea:Hid (IC (x0,x1,x2) (x0,y1,y2)=decide (x1<y1)):=by
   show _=_;simp[IC]
  go_enter Tryz.func194,Tryz.ntmps194;go_wp2;all_goals (go_ret;exact⟨lI ea.out.symm,hB⟩)
 ·have e:(x0 !=y0)=true:=by simpa using h
  have ea:Hid (IC (x0,x1,x2) (y0,y1,y2)=decide (x0<y0)):=by
   show _=_;simp[IC,h]
  go_enter Tryz.func194,Tryz.ntmps194;go_wp2;all_goals (go_ret;exact⟨lI ea.out.symm,hB⟩)
theorem TR.later{base:Nat}{last:Int}{h:List Tm}(r:TR base T M last h v W)(hb:Below W.heap.size W W'):TR base T M last h v W':=by
 have hg:W.grownBy W' none:=⟨hb.os,hb.tape,hb.output,hb.size,λk hk _=>hb.block k hk⟩;obtain⟨f,hm,hp⟩:=r.map;exact⟨r.blk.kept hg (by simp),aN r.row hb,⟨f,hm.kept hg (by simp),hp⟩,r.ok,r.bT,r.bM⟩
theorem TR.drew{base:Nat}{last:Int}{h:List Tm}(r:TR base T M last h v W):TR base T M last h v W.drew:=by
 obtain⟨f,hm,hp⟩:=r.map;exact⟨r.blk,r.row.drew,⟨f,hm,hp⟩,r.ok,r.bT,r.bM⟩
theorem Fr.later(a:Fr T M v w W)(hb:Below W.heap.size W W'):Fr T M v w W':=
 a.trans (Fr.grown (v:=v) (r:=none) ⟨hb.os,hb.tape,hb.output,hb.size,λk hk _=>hb.block k hk⟩ (.inl rfl)) (.inl rfl)
theorem Fr.drew(a:Fr T M v w W):Fr T M v w W.drew:=⟨a.os,a.tape,a.output,a.size,a.block⟩
@[reducible] def Two(T g n cap i j : Nat)(x y : Tm)(W : World): Prop :=
 W.cell? ⟨T,0,none⟩=some (.slice (some ⟨g,0,none⟩) n cap)∧
 W.cell? ⟨g,i * 3,none⟩=some (.int .u64 x.1)∧W.cell? ⟨g,i * 3+1,none⟩=some (.int .i64 x.2.1)∧W.cell? ⟨g,i * 3+2,none⟩=some (.int .i64 x.2.2)∧
 W.cell? ⟨g,j * 3,none⟩=some (.int .u64 y.1)∧W.cell? ⟨g,j * 3+1,none⟩=some (.int .i64 y.2.1)∧W.cell? ⟨g,j * 3+2,none⟩=some (.int .i64 y.2.2)
theorem Two.of{base:Nat}{last:Int}{h:List Tm}{g:Nat}(r:TR base T M last h (.slice (some ⟨g,0,none⟩) h.length cap) W){i j:Nat}(hi:i<h.length)(hj:j<h.length):Two T g h.length cap i j (at' h i) (at' h j) W:=by
 have ai:=sZ hi;have aj:=sZ hj;have hl:=oO h;exact⟨r.blk.cell.1,(r.row.cellAt (i * 3) (by omega)).trans ai.1,(r.row.cellAt (i * 3+1) (by omega)).trans ai.2.1,(r.row.cellAt (i * 3+2) (by omega)).trans ai.2.2,
  (r.row.cellAt (j * 3) (by omega)).trans aj.1,(r.row.cellAt (j * 3+1) (by omega)).trans aj.2.1,(r.row.cellAt (j * 3+2) (by omega)).trans aj.2.2⟩
theorem Two.later{g n i j:Nat}{x y:Tm}(h:Two T g n cap i j x y W)(hb:Below W.heap.size W W'):Two T g n cap i j x y W':=by
 have k:∀ {a:Addr} {u:Value},W.cell? a=some u->W'.cell? a=some u:=λ{a u} ha=>(hb.cell (World.block_lt_of_cell? W a ha)).trans ha;exact⟨k h.1,k h.2.1,k h.2.2.1,k h.2.2.2.1,k h.2.2.2.2.1,k h.2.2.2.2.2.1,k h.2.2.2.2.2.2⟩
theorem Gi(base T M:Nat)(last:Int)(h:List Tm)(v:Value)(w:World)(r:TR base T M last h v w)(i:Nat)(hi:i<h.length)(hn:h.length<=1000000)(hb:Both h i):
  Calls Tryz.prog 175 #[.pointer (some ⟨T,0,none⟩),.int .i64 i] w λe w'=>e=.returned (.tuple #[])∧∃h',TR base T M last h' v w'∧Fr T M v w w'∧h'.Perm h∧Down h' i:=by
 obtain⟨g,cap,rfl,hg⟩:=r.shape (by omega);have hF:=Fr.refl T M (.slice (some ⟨g,0,none⟩) h.length cap) w;generalize hH:h.length=n at hi hn r hF;have Xq:=(show Hid _ from hH);clear hH;go_enter Tryz.func175,Tryz.ntmps175;go_wp2_with fail;go_loopw [1] (λiv wr=>∃(k:Nat) (h1:List Tm),iv=.int .i64 k∧k<n∧h1.length=n∧TR base T M last h1 (.slice (some ⟨g,0,none⟩) n cap) wr∧Fr T M (.slice (some ⟨g,0,none⟩) n cap) w wr∧h1.Perm h∧((k=i∧Both h1 i)∨Up h1 k)) (λiv _=>(intOf iv).toNat)
 case atStart=>exact⟨i,h,rfl,hi,Xq.out,r,hF,List.Perm.refl _,.inl ⟨rfl,hb⟩⟩
 case round=>
  clear r hF hb;obtain⟨k,h1,rfl,hk,hl,r1,hF1,hp1,hO⟩:=hrel;by_cases h0:0<k
  ·have hpk:=jD h0;have hq:((k:Int) - 1)/ 2=((par k:Nat):Int):=by unfold par;omega
   have hS:Two T g n cap k (par k) (at' h1 k) (at' h1 (par k)) wr:=by
    have:=Two.of (g:=g) (cap:=cap) (by rw[hl];exact r1) (i:=k) (j:=par k) (by omega) (by omega);rw[hl]at this;exact this
   have Xy:Both h1 k:=by
    rcases hO with⟨rfl,hB⟩|hU
    ·exact hB
    ·exact hU.both
   have hl':=(show Hid _ from hl);have hpn:((par k:Nat):Int)<(n:Int):=by omega
   have hkn:(k:Int)<(n:Int):=by omega
   clear hl;generalize hP:par k=P at hq hS hpk hpn;have hP':=(show Hid _ from hP);clear hP;go_wp2_with fail;go_region_held3 (Two T g n cap k P (at' h1 k) (at' h1 P)) (first|exact hS|assumption|exact Two.later (by assumption) hb2) ((go_at_call 194;refine(Dt (at' h1 k) (at' h1 P) _).mono ?_;rintro e w2 ⟨rfl,hb2⟩))
   have r2:=r1.drew.later hb2;have hF2:=hF1.drew.later hb2;clear r1 hF1 hS hb2;cases hA:IC (at' h1 k) (at' h1 P)
   ·have hDn:Down h1 i:=by
     have hOk:Ok h1 k:=by
      unfold Ok;rw[hP'.out];exact hA
     rcases hO with⟨rfl,hB⟩|hU
     ·exact hB.down (.inr hOk)
     ·exact(hU.done hOk).down i
    clear hA hO Xy;go_wp2;go_returns;exact⟨rfl,h1,r2,hF2,hp1,hDn⟩
   ·have hUp:Up (sw h1 k P) P:=by
     have:=Vl Xy h0 (by rw[hl'.out];exact hk) (by rw[hP'.out];exact hA);rw[hP'.out]at this;exact this
    clear hA hO Xy;go_wp2_with fail;refine(zI base T M last h1 _ _ r2 k P (by rw[hl'.out];exact hk) (by rw[hl'.out];omega) (by rw[hl'.out];exact hn)).mono ?_;rintro e w3 ⟨rfl,r3,yo⟩;have hp3:(sw h1 k P).Perm h:=(uS (by rw[hl'.out];exact hk) (by rw[hl'.out];omega)).trans hp1;have sU:=hF2.trans yo (.inl rfl);have hl3:(sw h1 k P).length=n:=by rw[dL];exact hl'.out
    clear r2 hF2 yo;generalize sw h1 k P=h3 at r3 hp3 hl3 hUp;have aeb:=(show Hid _ from hl3);clear hl3;go_wp2;go_roundw
    case rel=>exact⟨P,h3,rfl,by omega,aeb.out,r3,sU,hp3,.inr hUp⟩
    case measure=>simp[intOf];omega
  ·obtain rfl:k=0:=by omega
   have hDn:Down h1 i:=by
    rcases hO with⟨rfl,hB⟩|hU
    ·exact hB.down (.inl rfl)
    ·exact hU.top.down i
   clear hO h0;go_wp2;go_returns;exact⟨rfl,h1,r1,hF1,hp1,hDn⟩
open Hp
variable{F b k:Nat}
structure First(h:List Tm)(k b F:Nat):Prop where
 lt:F<h.length
 fst:F=k∨(0<F∧par F=k∧IC (at' h F) (at' h k)=true)
 le:Le (at' h F) (at' h k)
 all:∀d,0<d->d<h.length->par d=k->d<b->Le (at' h F) (at' h d)
theorem First.start{h:List Tm}(hk:k<h.length):First h k (2 * k+1) k:=by
 refine⟨hk,.inl rfl,Le.refl _,λd h1 h2 h3 h4=> ?_⟩;unfold par at h3;omega
theorem First.stay{h:List Tm}(f:First h k b F)(ha:IC (at' h b) (at' h F)=false):First h k (b+1) F:=by
 refine⟨f.lt,f.fst,f.le,λd h1 h2 h3 h4=> ?_⟩;by_cases e:d=b
 ·subst e;exact ha
 ·exact f.all d h1 h2 h3 (by omega)
theorem First.next{h:List Tm}(f:First h k b F)(hb:b<h.length)(hp:par b=k)(h0:0<b)(ha:IC (at' h b) (at' h F)=true):First h k (b+1) b:=by
 have hle:=Le.of ha;have hlk:=hle.trans f.le;refine⟨hb,.inr ⟨h0,hp,?_⟩,hlk,λd h1 h2 h3 h4=> ?_⟩
 ·have:=f.le;rw[Le.iff]at this;rw[MW]at ha ⊢;omega
 ·by_cases e:d=b
  ·subst e;exact Le.refl _
  ·exact hle.trans (f.all d h1 h2 h3 (by omega))
theorem First.whole{h:List Tm}(f:First h k b F)(hb:2 * k+2<b∨h.length<=b):∀d,0<d->d<h.length->par d=k->Le (at' h F) (at' h d):=λd h1 h2 h3=>by
 refine f.all d h1 h2 h3 ?_;unfold par at h3;omega
theorem Qq(base T M:Nat)(last:Int)(h:List Tm)(v:Value)(w:World)(r:TR base T M last h v w)(i:Nat)(hi:i<h.length)(hn:h.length<=1000000)(hb:Down h i):
  Calls Tryz.prog 176 #[.pointer (some ⟨T,0,none⟩),.int .i64 i] w λe w'=>e=.returned (.tuple #[])∧∃h',TR base T M last h' v w'∧Fr T M v w w'∧h'.Perm h∧Heap h':=by
 obtain⟨g,cap,rfl,hg⟩:=r.shape (by omega);have hF:=Fr.refl T M (.slice (some ⟨g,0,none⟩) h.length cap) w;generalize hH:h.length=n at hi hn r hF;have Xq:=(show Hid _ from hH);clear hH;go_enter Tryz.func176,Tryz.ntmps176;go_wp2_with fail;go_loopw [1] (λiv wr=>∃(k:Nat) (h1:List Tm),iv=.int .i64 k∧k<n∧h1.length=n∧TR base T M last h1 (.slice (some ⟨g,0,none⟩) n cap) wr∧Fr T M (.slice (some ⟨g,0,none⟩) n cap) w wr∧h1.Perm h∧Down h1 k) (λiv _=>n - (intOf iv).toNat)
 case atStart=>exact⟨i,h,rfl,hi,Xq.out,r,hF,List.Perm.refl _,hb⟩
 case round=>
  clear r hF hb;obtain⟨k,h1,rfl,hk,hl,r1,hF1,hp1,hD⟩:=hrel;have hf0:First h1 k (2 * k+1) k:=First.start (by omega);have hl':=(show Hid _ from hl);have SV:(2:Int)* (k:Int)+2<=9223372036854775807:=by omega
  clear hl;go_wp2_with fail;go_loopw [4,5] (λfv bv wx=>∃(F b:Nat),fv=.int .i64 F∧bv=.int .i64 b∧2 * k+1<=b∧b<=2 * k+3∧First h1 k b F∧TR base T M last h1 (.slice (some ⟨g,0,none⟩) n cap) wx∧Fr T M (.slice (some ⟨g,0,none⟩) n cap) w wx) (λ_ bv _=>2 * k+3 - (intOf bv).toNat)
  case atStart=>exact⟨k,2 * k+1,rfl,by go_num,aB _,by omega,hf0,r1,hF1⟩
  case round=>
   clear hf0 r1 hF1;obtain⟨F,b,rfl,rfl,hb1,hb2,hf,rx,hFx⟩:=hrel;have hFn:F<n:=by have:=hf.lt;rw[hl'.out]at this;exact this
   have cT:=rx.blk.cell.1;by_cases hlt:b<=2 * k+2∧b<n
   ·obtain⟨hle,hbn⟩:=hlt;have hd1:decide ((b:Int)<=2 * (k:Int)+2)=true:=f_ (by omega);have hd2:decide ((b:Int)<(n:Int))=true:=f_ (by omega);have hbi:(b:Int)<(n:Int):=by omega
    have hFi:(F:Int)<(n:Int):=by omega
    have hS:Two T g n cap b F (at' h1 b) (at' h1 F) wr:=by
     have:=Two.of (g:=g) (cap:=cap) (by rw[hl'.out];exact rx) (i:=b) (j:=F) (by rw[hl'.out];exact hbn) (by rw[hl'.out];exact hFn);rw[hl'.out]at this;exact this
    go_wp2_with fail;go_region_held3 (Two T g n cap b F (at' h1 b) (at' h1 F)) (first|exact hS|assumption|exact Two.later (by assumption) hbx) ((go_at_call 194;refine(Dt (at' h1 b) (at' h1 F) _).mono ?_;rintro e w2 ⟨rfl,hbx⟩))
    have r2:=rx.drew.later hbx;have hF2:=hFx.drew.later hbx;clear rx hFx hS hbx cT;cases hA:IC (at' h1 b) (at' h1 F)
    ·have hf1:=hf.stay hA;clear hA hf;go_wp2;go_roundw
     case rel=>exact⟨F,b+1,rfl,by go_num,by omega,by omega,hf1,r2,hF2⟩
     case measure=>simp[intOf];omega
    ·have hf1:=hf.next (by rw[hl'.out];exact hbn) (by unfold par;omega) (by omega) hA;clear hA hf;go_wp2;go_roundw
     case rel=>exact⟨b,b+1,rfl,by go_num,by omega,by omega,hf1,r2,hF2⟩
     case measure=>simp[intOf];omega
   ·have hw:=hf.whole (by rw[hl'.out];omega);have hff:=hf.fst;have hd:(decide ((b:Int)<=2 * (k:Int)+2)=false)∨(decide ((b:Int)<=2 * (k:Int)+2)=true∧decide (b<n)=false):=by
     by_cases h2:b<=2 * k+2
     ·exact .inr ⟨f_ (by omega),eU (by omega)⟩
     ·exact .inl (eU (by omega))
    by_cases hFk:F=k
    ·subst hFk;have hHp:Heap h1:=hD.done hw;clear hw hff hf hD hlt;rcases hd with hd|⟨hd,hd'⟩;all_goals
      clear hb1 hb2;go_upto_region 6 with(fail);clear hd;go_wp2;go_returns;exact⟨rfl,h1,rx,hFx,hp1,hHp⟩
    ·obtain⟨hF0,hpF,hA⟩:=hff.resolve_left hFk;have hDn:=Pd hD hF0 hf.lt hpF hA hw;have hkF:=jD hF0;have afF:((F:Int)==(k:Int))=false:=beq_eq_false_iff_ne.2 (by omega);have hp3:(sw h1 k F).Perm h:=(uS (by rw[hl'.out];exact hk) (by rw[hl'.out];exact hFn)).trans hp1;have hl3:Hid ((sw h1 k F).length=n):=by
      show _=_;rw[dL];exact hl'.out
     clear hw hff hf hD hlt hA;rcases hd with hd|⟨hd,hd'⟩;all_goals
      clear hb1 hb2;go_upto_region 6 with(fail);clear hd;go_wp2_with fail;refine(zI base T M last h1 _ _ rx k F (by rw[hl'.out];exact hk) (by rw[hl'.out];exact hFn) (by rw[hl'.out];exact hn)).mono ?_;rintro e w3 ⟨rfl,r3,yo⟩;have sU:=hFx.trans yo (.inl rfl);clear hFx yo;go_wp2;go_roundw
      case rel=>exact⟨F,sw h1 k F,rfl,hFn,hl3.out,r3,sU,hp3,hDn⟩
      case measure=>simp[intOf];omega
open Hp
variable{B M T:Nat}{r:Option Nat}{v:Value}{W W':World}
theorem QA{base e size n cap g:Nat}{xs:List Value}(h:W.ownsRow base e size (.slice (some ⟨g,0,none⟩) n cap) n xs){m:Nat}(hm:m<=n):
  W.ownsRow base e size (.slice (some ⟨g,0,none⟩) m cap) m (xs.take (m * size)):=by
 have h1:=h.1;rcases h.2 with⟨he,_⟩|⟨g',cap',cur,he,k1,k2,k3,k4,k5,k6⟩
 ·cases he
 ·cases he;have hle:m * size<=n * size:=Nat.mul_le_mul_right _ hm;refine⟨by rw[List.length_take,h1];omega,.inr ⟨g,cap,cur,rfl,k1,k2,by omega,k4,k5,?_⟩⟩;rw[<-k6,List.take_take,Nat.min_eq_left hle]
theorem v_.set{last:Int}(h:v_ T M last v W)(v':Value):v_ T M last v' (W.setCell ⟨T,0,none⟩ v'):=by
 unfold v_ at h ⊢;simp[World.setCell,d_,h]
def lQ(B:Nat)(x:Tm)(W:World):Prop:=W.heap[B]?=some (mM x)
theorem lQ.cell{x:Tm}(h:lQ B x W):
  W.cell? ⟨B,0,none⟩=some (.int .u64 x.1)∧W.cell? ⟨B,1,none⟩=some (.int .i64 x.2.1)∧W.cell? ⟨B,2,none⟩=some (.int .i64 x.2.2):=
 ⟨aJ W B 0 _ _ _ h,aJ W B 1 _ _ _ h,aJ W B 2 _ _ _ h⟩
theorem lQ.free{x:Tm}(h:lQ B x W)(i:Nat):W.frozen? ⟨B,i,none⟩=false:=by
 unfold lQ at h;simp[World.frozen?,h]
theorem lQ.lt{x:Tm}(h:lQ B x W):B<W.heap.size:=(iA.1 h).1
theorem lQ.new(x:Tm)(W:World):lQ W.heap.size x (W.alloc (mM x)):=bV W _
theorem lQ.fr{x:Tm}(h:lQ B x W)(hf:Fr T M v W W')(h1:B≠T)(h2:B≠M)(h3:some B≠v.ownBlock):lQ B x W':=(hf.block B h.lt h1 h2 h3).trans h
theorem lQ.later{x:Tm}(h:lQ B x W)(hb:Below W.heap.size W W'):lQ B x W':=(hb.block B h.lt).trans h
theorem lQ.grown{x:Tm}(h:lQ B x W)(hg:W.grownBy W' r)(hr:some B≠r):lQ B x W':=(hg.block B h.lt hr).trans h
@[reducible] def storeT(W : World)(B : Nat)(x : Tm): World := ((W.setCell ⟨B, 0, none⟩ (.int .u64 x.1)).setCell ⟨B, 1, none⟩ (.int .i64 x.2.1)).setCell ⟨B, 2, none⟩ (.int .i64 x.2.2)
theorem lQ.store{x:Tm}(h:lQ B x W)(y:Tm):lQ B y (storeT W B y):=by
 unfold lQ at h ⊢;simp[World.setCell,d_,h]
theorem EP(W:World)(B:Nat)(y:Tm):W.grownBy (storeT W B y) (some B):=eF (eF (eF (mF W (some B)) 0 _) 1 _) 2 _
theorem TR.grown{base:Nat}{last:Int}{h:List Tm}(q:TR base T M last h v W)(hg:W.grownBy W' r)(h1:some T≠r)(h2:some M≠r)(h3:r=none∨r≠v.ownBlock):TR base T M last h v W':=by
 obtain⟨f,hm,hp⟩:=q.map;have h4:v.ownBlock=none∨v.ownBlock≠r:=by
  rcases h3 with rfl|h3
  ·cases v.ownBlock<;>simp
  ·exact .inr (Ne.symm h3)
 exact⟨q.blk.kept hg h1,q.row.kept hg h4,⟨f,hm.kept hg h2,hp⟩,q.ok,q.bT,q.bM⟩
theorem M0:∀(h:List Tm) (m:Nat),TC (h.take m)=(TC h).take (m * 3)
 | [],m=>by simp[TC]
 |a::h,0=>by simp[TC]
 |a::h,m+1=>by
  have ih:=M0 h m;simp only[TC,List.take_succ_cons,List.flatMap_cons]at ih ⊢;rw[ih];simp[K6,show(m+1)* 3=m * 3+1+1+1 by omega]
theorem Nz(g n c k:Nat)(hk:k<=c)(W:World):(Instr.slice 163 (.slice (some ⟨g,0,none⟩) n c) none (some (.int .i64 k)) none).run Tryz.prog W=.ok (.slice (some ⟨g,0,none⟩) k c) W:=by
 have ht:Tryz.prog.underlying 163=some (.slice (Tryz.prog.elem 163)):=by simp[Program.elem,Tryz.underlying163]
 have hz:∀w,(Go.sizeOf (Tryz.prog.elem 163)).run Tryz.prog w=.ok 3 w:=by
  intro w;simp[go_sem,Program.elem,Tryz.underlying163]
 rw[run_slice_h W 163 _ _ _ ht .i64 _ (by omega) (by omega),hz];simp only[Result.andThen,sliced];rw[Nat.sub_zero,Nat.sub_zero,iU];split<;>simp[Addr.add]
theorem zU(base T M:Nat)(last:Int)(h:List Tm)(v:Value)(w:World)(r:TR base T M last h v w)(i:Nat)(hi:i<h.length)(hn:h.length<=1000000)(hb:Heap h):
  Calls Tryz.prog 149 #[.pointer (some ⟨T,0,none⟩),.int .i64 i] w λe w'=>e=.returned (tmV (at' h i))∧∃h' v',TR base T M last h' v' w'∧Fr T M v w w'∧v'.ownBlock=v.ownBlock∧(at' h i::h').Perm h∧Heap h':=by
 obtain⟨g,cap,rfl,hg⟩:=r.shape (by omega);have hT:=r.blk.lt;have hM:M<w.heap.size:=by
  obtain⟨_,hm0,_⟩:=r.map;exact hm0.lt
 have hgl:=(r.row.lt g rfl).2;have hb1:Below w.heap.size w (w.alloc (mM z)):=bC;have r1:=r.later hb1;have hR:=lQ.new z w;have hF1:=(Fr.refl T M (.slice (some ⟨g,0,none⟩) h.length cap) w).later hb1;have cT:=r1.blk.cell.1;have hlen:(1:Int)<=(h.length:Int):=by omega
 have hap:=r.apart;have hidx:=LA r hi;have hTg:¬T=g:=λe=>hap.2.1 (by rw[e];rfl);have hMg:¬M=g:=λe=>hap.2.2 (by rw[e];rfl);have hq:(h.length:Int) - 1=((h.length - 1:Nat):Int):=by omega
 generalize hE:h.length - 1=E at hq;have hE':=(show Hid _ from hE);generalize hRR:w.heap.size=R at hR hT hM hgl;have acQ:=(show Hid _ from hRR);dsimp only[mM,z]at hb1 r1 hR hF1 cT;clear hE hRR r hb1;go_enter Tryz.func149,Tryz.ntmps149;go_wp2_with fail;rw[acQ.out];generalize World.alloc _ _=W1 at r1 hR hF1 cT ⊢;refine(zI base T M last h _ _ r1 i E hi (by have:=hE'.out;omega) hn).mono ?_;rintro e W2 ⟨rfl,r2,aaJ⟩;have hEl:E<h.length:=by have:=hE'.out;omega
 have acU:E<(sw h i E).length:=by rw[dL];exact hEl
 have hxE:at' (sw h i E) E=at' h i:=by rw[yD hi hEl,aI rfl]
 have hTC:=sZ acU;rw[hxE]at hTC;have hTl:=oO (sw h i E);have hsl2:(sw h i E).length=h.length:=dL _ _ _;have hF2:=hF1.trans aaJ (.inl rfl);have Ti:R≠T∧R≠M∧R≠g:=⟨by omega,by omega,by omega⟩;have hR2:=hR.fr aaJ Ti.1 Ti.2.1 (by simp only[Value.ownBlock];intro e;cases e;exact Ti.2.2 rfl);have hrow2:=r2.row;rw[hsl2]at hrow2;have b3:E * 3+2<h.length * 3:=by omega
 have d0:=(hrow2.cellAt (E * 3) (Nat.lt_of_le_of_lt (by omega) b3)).trans hTC.1;have d1:=(hrow2.cellAt (E * 3+1) (Nat.lt_of_le_of_lt (by omega) b3)).trans hTC.2.1;have d2:=(hrow2.cellAt (E * 3+2) b3).trans hTC.2.2;have c0:=r2.blk.cell.1;have hEi:(E:Int)<(h.length:Int):=by omega
 have hbn:Below W2.heap.size W2 (W2.alloc (mM (at' h i))):=bC;have r3:=r2.later hbn;have OO:=hR2.later hbn;have yo:=hF2.later hbn;have hG3:=lQ.new (at' h i) W2;have hG0:R<W2.heap.size:=hR2.lt;have hTW:T<W2.heap.size:=by omega
 have hMW:M<W2.heap.size:=by omega
 have hgW:g<W2.heap.size:=by omega
 have acJ:E<=cap:=by
  rcases hrow2.2 with⟨he,_⟩|⟨_,_,_,he,_,_,k3,_⟩
  ·cases he
  ·cases he;omega
 have hsl:=Nz g h.length cap E acJ;clear b3 hrow2 r1 hR hF1 aaJ r2 hR2 hF2 hTC hTl hbn cT;generalize hGG:W2.heap.size=G at hG3 hG0 hTW hMW hgW;have aeH:=(show Hid _ from hGG);clear hGG;have cG:=hG3.cell;have b0:=r3.blk.cell.1;have fT:=r3.blk.free 0;have OH:(W2.alloc (mM (at' h i))).grownBy ((W2.alloc (mM (at' h i))).setCell ⟨T,0,none⟩ (.slice (some ⟨g,0,none⟩) E cap)) (some T):=eF (mF _ _) 0 _;have hB4:=r3.blk.set (.slice (some ⟨g,0,none⟩) E cap);have hrow3:=r3.row;rw[hsl2]at hrow3;have hrow4:=(QA hrow3 (Nat.le_of_lt hEl)).kept OH (.inr (by simp[Value.ownBlock];exact λe=>hTg e.symm));rw[<-M0]at hrow4;have hout:(sw h i E).take E=out h i:=by unfold out;rw[hE'.out]
 rw[hout]at hrow4;obtain⟨f,oI,hp3⟩:=r3.map;rw[hsl2]at oI;have Cb:=oI.kept OH (by simpa using hap.1.symm);have hfE:=hp3.1 E _ (jI acU);rw[hxE]at hfE;have hp5:=hp3.cut (n:=E) (by rw[hsl2];have:=hE'.out;omega);rw[hout,hxE]at hp5;have aci:∀y∈out h i,TOk y:=λy hy=>r3.ok y (by rw[<-hout]at hy;exact List.mem_of_mem_take hy);have ME:=OO.grown OH (by simpa using Ti.1);have hG4:=hG3.grown OH (by simp;omega);have sU:=yo.trans (Fr.grown (T:=T) (M:=M) (v:=.slice (some ⟨g,0,none⟩) h.length cap) OH (.inr (.inl rfl))) (.inl rfl);have hbT:=r3.bT;have hbM:=r3.bM;have hperm:=QY hi;have hol:(out h i).length=E:=by rw[pu];exact hE'.out
 clear OH r3 OO hG3 yo hrow3 oI hp3;dsimp only[mM]at hB4 hrow4 Cb ME hG4 sU b0 fT cG;go_wp2_with fail;clear d0 d1 d2 c0 cG b0 fT hsl;rw[aeH.out];generalize World.setCell _ _ _=W4 at hB4 hrow4 Cb ME hG4 sU ⊢;obtain⟨_,b1,_⟩:=hB4.cell;obtain⟨_,g1,_⟩:=hG4.cell;obtain⟨W5,nD,hm5,hg5⟩:=(show kQ W4.drew M f h.length from Cb).del hidx 0 (by rw[hfE];rfl);go_region
 clear g1 b1;have OG:W4.grownBy W5 (some M):=⟨hg5.os,hg5.tape,hg5.output,hg5.size,hg5.block⟩;rw[hE'.out]at hm5;have r5:TR base T M last (out h i) (.slice (some ⟨g,0,none⟩) E cap) W5:=by
  refine⟨hB4.kept OG (by simpa using hap.1),?_,⟨_,?_,hp5⟩,aci,hbT,hbM⟩
  ·rw[hol];exact hrow4.kept OG (.inr (by simp[Value.ownBlock];exact λe=>hMg e.symm))
  ·rw[hol];exact hm5
 have U2:=ME.grown OG (by simpa using Ti.2.1);have hG5:=hG4.grown OG (by simp;omega);have hF5:=sU.trans (Fr.grown (T:=T) (M:=M) (v:=.slice (some ⟨g,0,none⟩) h.length cap) OG (.inr (.inr (.inl rfl)))) (.inl rfl);have hfin:∀(h7:List Tm) (W7:World),TR base T M last h7 (.slice (some ⟨g,0,none⟩) E cap) W7->lQ R z W7->Fr T M (.slice (some ⟨g,0,none⟩) h.length cap) w W7->h7.Perm (out h i)->Heap h7->
   lQ R (at' h i) (storeT W7 R (at' h i))∧∃h' v',TR base T M last h' v' (storeT W7 R (at' h i))∧Fr T M (.slice (some ⟨g,0,none⟩) h.length cap) w (storeT W7 R (at' h i))∧v'.ownBlock=(Value.slice (some ⟨g,0,none⟩) h.length cap).ownBlock∧(at' h i::h').Perm h∧Heap h':=by
  intro h7 W7 r7 hR7 P_ hp7 hH7;have hgs:=EP W7 R (at' h i);refine⟨hR7.store _,h7,_,r7.grown hgs (by simp;omega) (by simp;omega) (.inr (by simp[Value.ownBlock];omega)),?_,rfl,(hp7.cons _).trans hperm,hH7⟩;refine⟨hgs.os.trans P_.os,hgs.tape.trans P_.tape,hgs.output.trans P_.output,dN P_.size hgs.size,λk hk h1 h2 h3=> ?_⟩;rw[hgs.block k (fZ hk P_.size) (by rw[acQ.out]at hk;simp;omega)];exact P_.block k hk h1 h2 h3
 clear hB4 hrow4 Cb ME hG4 sU hm5 nD hg5 OG hp5 aci hperm;by_cases hiE:i<E
 ·have hdi:decide (i<E)=true:=f_ hiE;have Xy:=Q5 hb (show i<h.length - 1 by rw[hE'.out];exact hiE);go_wp2_with fail;refine(Gi base T M last (out h i) _ _ r5 i (by rw[hol];exact hiE) (by omega) Xy).mono ?_;rintro e W6 ⟨rfl,h6,r6,Xt,hp6,hD6⟩;have hl6:h6.length=E:=by rw[hp6.length_eq];exact hol
  have hR6:=U2.fr Xt Ti.1 Ti.2.1 (by simp only[Value.ownBlock];intro e;cases e;exact Ti.2.2 rfl);have hG6:=hG5.fr Xt (by omega) (by omega) (by simp only[Value.ownBlock];intro e;cases e;omega);have U7:=hF5.trans Xt (.inl rfl);clear r5 U2 hG5 hF5 Xt;go_wp2_with fail;refine(Qq base T M last h6 _ _ r6 i (by omega) (by omega) hD6).mono ?_;rintro e W7 ⟨rfl,h7,r7,Xr,hp7,hH7⟩;have hR7:=hR6.fr Xr Ti.1 Ti.2.1 (by simp only[Value.ownBlock];intro e;cases e;exact Ti.2.2 rfl);have hG7:=hG6.fr Xr (by omega) (by omega) (by simp only[Value.ownBlock];intro e;cases e;omega);have P_:=U7.trans Xr (.inl rfl);have hend:=hfin h7 W7 r7 hR7 P_ (hp7.trans hp6) hH7;obtain⟨g0,g1,g2⟩:=hG7.cell;obtain⟨z0,z1,z2⟩:=hR7.cell;have zf:=hR7.free;have hRl:=hR7.lt;clear r6 hR6 hG6 U7 Xr hfin r7 P_ hD6 hp6 hp7 hH7 hl6;dsimp only[storeT,z]at hend z0 z1 z2;go_wp2;generalize World.setCell _ _ _=W8 at hend ⊢;obtain⟨Tt,hrest⟩:=hend;obtain⟨q0,q1,q2⟩:=Tt.cell;exact bodyPost_ret (v:=tmV (at' h i)) (by simp[results,Tryz.results149,go_sem,q0,q1,q2]) rfl ⟨rfl,hrest⟩
 ·have hdi:decide (i<E)=false:=eU hiE;have hHo:Heap (out h i):=by
   have:=QZ hb (by omega);rw[show h.length - 1=i by have:=hE'.out;omega]at this;exact this
  have hend:=hfin (out h i) W5 r5 U2 hF5 (List.Perm.refl _) hHo;obtain⟨g0,g1,g2⟩:=hG5.cell;obtain⟨z0,z1,z2⟩:=U2.cell;have zf:=U2.free;have hRl:=U2.lt;clear hfin r5 hF5 hHo;dsimp only[storeT,z]at hend z0 z1 z2;go_wp2;generalize World.setCell _ _ _=W8 at hend ⊢;obtain⟨Tt,hrest⟩:=hend;obtain⟨q0,q1,q2⟩:=Tt.cell;exact bodyPost_ret (v:=tmV (at' h i)) (by simp[results,Tryz.results149,go_sem,q0,q1,q2]) rfl ⟨rfl,hrest⟩
end Go.Proofs.YtakaadcpaeiccabGreat
