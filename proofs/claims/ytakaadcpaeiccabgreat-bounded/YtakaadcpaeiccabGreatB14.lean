import Derived.Test.YtakaadcpaeiccabGreatB13
import Derived.Maps.RangeWalk
import Derived.Conc.MuLone
import Derived.KernelRfl
set_option maxHeartbeats 8000000
set_option maxRecDepth 100000
namespace Go.Proofs.YtakaadcpaeiccabGreat
open Go.RowKit Go.Maps
def Ie(left:Lit->Bool)(f:Int->Option Int):Int->Option Int:=λk=>if left (.int .u32 k)then none else f k
theorem Mi{left:Lit->Bool}{x c:Int}(hl:left (.int .u32 x)=true){f:Int->Option Int}(hf:f x=some c)(h0:0<=c){L:List (Bool×Int×Int)}(hL:Ar L=Ie left f):Ar (L++ [(false,x,c)])=Ie (λz=>left z&&!z.sameKey (.int .u32 x)) f:=by
 rw[E8,hL]
 funext k
 unfold stepM kX Ie;simp only[Bool.false_eq_true,if_false];by_cases e:k=x
 ·subst e;simp[hl,hf,Lit.sameKey];omega
 ·simp[e,Lit.sameKey]
theorem Ub{L:List (Bool×Int×Int)}(x c:Int):qF (L++ [(false,x,c)])=qF L:=by rw[yJ];rfl
theorem Gf(N:Nat)(x:l8)(f:Int->Option Int)(sz:Nat)(w:World)(hN:gW N x w)(hm:MapU w x.Mo f sz)(hmb:MB f)(hown:bg x.own)(hsz:sz<=40000)(aaV:∃l:List Int,l.length<=12∧∀a,(f a).isSome=true->a∈l):
  Calls Tryz.prog 72 #[.pointer (some ⟨N,10,none⟩)] w λe w'=>∃v' out,e=.returned v'∧jI f (some x.own) out∧w'.ownsRow w.heap.size 82 3 v' out.length (RC out)∧gW N {x with cnt:=out.length} w'∧MapU w' x.Mo f sz∧Fx (λk=>k=N) w w':=by
 obtain⟨i0,hi,hz0,hz1,hz2⟩:=info_parts pU;have hNM:=J6 hN hm;have hfw:=hide aaV;clear aaV;have hMU:=hide hm;obtain⟨D,h1,h2,h3⟩:=hm;have h3':=(show Hid _ from h3);have aa5:Hid (Ie (has D) f=λ_=>none):=by
  show _=_
  funext k
  unfold Ie;cases hk:f k with
  |none=>simp
  |some c=>
   rw[(h3 k (hmb k c hk).1).1,hk];rfl
 clear h3;obtain⟨n0,n2,n3,n4,n5,n6,n7,n8,n9,n10⟩:=hN.cell;have jh:Below w.heap.size w (w.alloc (aU true 0 x.own)):=bn;have hr0:(w.alloc (aU true 0 x.own)).ownsRow w.heap.size 82 3 (.slice (some ⟨w.heap.size,0,none⟩) 1 1) 1 (RC [(true,0,x.own)]):=
  ⟨rfl,.inr ⟨w.heap.size,1,_,rfl,aA _,bO w _,aA _,by decide,rfl,rfl⟩⟩
 have hN1:=hN.later jh;have QK:Hid (MapU (w.alloc (aU true 0 x.own)) x.Mo f sz):=hMU.out.block (jh.block _ hMU.out.lt);have ho1:(w.alloc (aU true 0 x.own)).ownsMap Tryz.prog 34 (plainElem Tryz.prog 34) x.Mo sz D:=by
  obtain⟨es,clock,hb,Ft,hs,hD⟩:=h1;exact⟨es,clock,(jh.block _ (gN.1 hb).1).trans hb,Ft,hs,hD⟩
 have hs1:w.heap.size<=(w.alloc (aU true 0 x.own)).heap.size:=jh.size;dsimp only[aU]at jh hr0 hN1 ho1 QK hs1;clear hMU;go_enter Tryz.func72,Tryz.ntmps72;go_upto_region 2 with(fail);generalize World.alloc _ _=W1 at jh hr0 hN1 ho1 QK hs1 ⊢;clear n0 n2 n3 n4 n5 n6 n7 n8 n9 n10;obtain⟨n0,n2,n3,n4,n5,n6,n7,n8,n9,n10⟩:=hN1.cell;go_wp2_with(at_range;refine wpList_range_own _ rfl _ 115 rfl 34 34 fE Tryz.underlying115 _ x.Mo sz _ rfl ho1 ?_;intro w0 hrg0 hg0 hs0);have hb0:Below W1.heap.size W1 w0:=⟨hg0.os,hg0.tape,hg0.output,hg0.size,λk hk=>hg0.block k hk (by simp)⟩;have hNa:=hN1.later hb0;have hra:=aJ hr0 hb0;have Sl:Hid (MapU w0 x.Mo f sz):=QK.out.block (hb0.block _ QK.out.lt);have hBa:=jh.trans (hb0.mono hs1);have hza:=hb0.size;clear hN1 hr0 QK n0 n2 n3 n4 n5 n6 n7 n8 n9 n10 h1 ho1 hb0 hg0 jh;go_frame;go_loopw [3] (λlv wr=>∃(left:Lit->Bool) (cnt:Nat) (L:List (Bool×Int×Int)),wr.ranges Tryz.prog 34 (plainElem Tryz.prog 34) x.Mo W1.heap.size sz D left cnt∧wr.ownsRow w.heap.size 82 3 lv L.length (RC L)∧Hid (Ar L=Ie left f)∧Hid (qF L=some x.own)∧oV L∧L.length+cnt<=sz+1∧gW N x wr∧Hid (MapU wr x.Mo f sz)∧Below w.heap.size w wr∧W1.heap.size<=wr.heap.size)
  (λ_ wr=>wr.rangeLeft x.Mo W1.heap.size)
 case atStart=>
  refine⟨_,_,[(true,0,x.own)],hrg0,hra,?_,?_,?_,?_,hNa,Sl,hBa,hza⟩
  ·rw[aa5.out];rfl
  ·show some (max 0 x.own)=_;have:=hown.1;rw[Int.max_eq_right this]
  ·intro z hz;simp only[fD]at hz;subst hz;unfold bg at hown;dsimp only;omega
  ·have:=h2;simp only[List.length_singleton];omega
 case round=>
  clear hrg0 hra Sl hNa hBa hza hs0;obtain⟨left,cnt,L,hrg,hro,hmp,how,hbd,hlc,ZN,UQ,hbr,ZE⟩:=hrel;have hNl:=ZN.lt;go_wp2_with(at_next;refine wpList_next_ranges_ii _ rfl _ rfl 34 34 .u32 .u32 fE Tryz.underlying34 Tryz.underlying34 x.Mo W1.heap.size sz _ _ _ rfl hrg ?_ ?_)
  ·intro hc0 hl0;have hmf:Hid (Ar L=f):=by
    show _=_;rw[hmp.out]
    funext k
    unfold Ie;simp[hl0]
   clear hmp hl0;obtain⟨ao,c,hv,hH⟩:=ak hro;subst hv;have HC:Hid (Calls Tryz.prog 69 #[.slice ao L.length c] wr (abG L wr)):=ul ao L.length c L rfl (by omega) hbd (by show ∃l:List Int,_;rw[hmf.out];exact hfw.out) wr hH;have hown':=hide how;go_wp2_with fail;refine aN HC.out ?_;rintro e w5 ⟨v5,out,rfl,hcmp,hlen,hrow,hb5⟩;rw[hmf.out,how.out]at hcmp;have Sj:=ZN.later hb5;have m_:Hid (MapU w5 x.Mo f sz):=UQ.out.block (hb5.block _ UQ.out.lt);have aa4:=hbr.trans (hb5.mono (dF hs1 ZE));have mQ:w5.ownsRow w.heap.size 82 3 v5 out.length (RC out):=ownsRow_base_a hrow (dF hs1 ZE);obtain⟨a5,c5,hv5,_⟩:=ak hrow;subst hv5;have hcmp:=hide hcmp;clear HC hH hro hrg ZN UQ hbr hb5 hlc hbd;obtain⟨n0,n2,n3,n4,n5,n6,n7,n8,n9,n10⟩:=Sj.cell;have f12:=Sj.free 12;have hset:=Sj.Ow (out.length:Int);have hgN:w5.grownBy (w5.setCell ⟨N,12,none⟩ (.int .i64 (out.length:Int))) (some N):=ah (ay _ (some N)) 12 _;have rY:=mQ.kept hgN (.inr (aH mQ Sj (λc e=>by cases e)));have hM6:Hid (MapU (w5.setCell ⟨N,12,none⟩ (.int .i64 (out.length:Int))) x.Mo f sz):=m_.out.block (hgN.block _ m_.out.lt (λe=>hNM (Option.some.inj e).symm));have hfx:Fx (λk=>k=N) w (w5.setCell ⟨N,12,none⟩ (.int .i64 (out.length:Int))):=aQ (Fx.below aa4) hgN (λi _ e=>by cases e;rfl);go_wp2_with fail;generalize World.setCell _ _ _=w6 at hset rY hM6 hfx ⊢;clear Sj m_ mQ hrow aa4 hgN n0 n2 n3 n4 n5 n6 n7 n8 n9 n10 f12;go_wp2;go_returns;exact⟨_,out,rfl,hcmp.out,rY,hset,hM6.out,hfx⟩
  ·intro y c w1 cnt1 hwx hwc hlx hat hrg1 hlt hg1 Qn hen;have hb:=bounds_u32 hwx;have hyu:bg y:=⟨hb.1,by have:=hb.2;omega⟩;have hc:=bounds_u32 hwc;have hcu:bg c:=⟨hc.1,by have:=hc.2;omega⟩;have hf:f y=some c:=by
    have h3x:=h3'.out y hyu;have hsome:=h3x.1;rw[has_true_of_atKey hat]at hsome;obtain⟨z,hz⟩:=Option.isSome_iff_exists.1 hsome.symm;have h4:=h3x.2;rw[hat,hz]at h4;simp at h4;rw[hz,h4]
   have aco:=hide (Mi hlx hf hcu.1 hmp.out);have how':=hide ((Ub y c).trans how.out);have acN:oV (L++ [(false,y,c)]):=λz hz=>by
    rcases fA.1 hz with h|h
    ·exact hbd z h
    ·rw[fD]at h;subst h;unfold bg at hyu hcu;dsimp only;omega
   obtain⟨es,clock,since,seen,c0,hbm,_,_,_,hbi,_⟩:=id hrg;have XZ:=hro.kept hg1 (.inr (aH hro hbi (λc e=>by cases e)));have adY:=hN.lt;have hN1:=ZN.kept hg1 (λe=>by have:=Option.some.inj e;omega);have hM1:Hid (MapU w1 x.Mo f sz):=UQ.out.block (hg1.block _ UQ.out.lt (λe=>hrg.ne (Option.some.inj e).symm));have hb1:Below w.heap.size w w1:=⟨hg1.os.trans hbr.os,hg1.tape.trans hbr.tape,hg1.output.trans hbr.output,dF hbr.size hg1.size,λk hk=>(hg1.block k (fB hk hbr.size) (λe=>by have:=Option.some.inj e;omega)).trans (hbr.block k hk)⟩;have hme:=(show Hid (cnt1<wr.rangeLeft x.Mo W1.heap.size)from by show _<_;rw[hrg.left_eq];exact hlt);have adA:W1.heap.size<=w1.heap.size:=by have:=hg1.size;omega
   have hln:L.length<=40001:=by omega
   have acy:L.length+1+cnt1<=sz+1:=by omega
   have jh:Below w1.heap.size w1 (w1.alloc (aU false y c)):=bn;have hcr:=kr w1 false y c;have hkw:KeepsWalks w1 (w1.alloc (aU false y c)):=KeepsWalks.alloc _ _;have hM2:Hid (MapU (w1.alloc (aU false y c)) x.Mo f sz):=hM1.out.block (jh.block _ hM1.out.lt);have Ec:=hN1.later jh;have Mw:=aJ XZ jh;have hb2:=hb1.trans (jh.mono hb1.size);have hs2:w.heap.size<=w1.heap.size:=hb1.size;dsimp only[aU]at jh hcr hkw hM2 Ec Mw hb2;clear hmp how hbd hro ZN UQ hbr ZE hrg hg1 Qn hlt hlc hat hf hbm hbi hlx hwx hwc hM1 hN1 hb1 hb hc;go_wp2_with(at_builtin;refine wpList_append_own_at _ rfl _ _ 79 rfl w.heap.size 82 i0 (.agg #[.bool false,.int .u32 0,.int .u32 0]) 3 12 Tryz.underlying79 hi hz0 hz1 hz2 rfl (by decide) u3 L.length (RC L) rfl (XZ.alloc _) ⟨w1.heap.size,0,none⟩ 1 1 (RC [(false,y,c)]) rfl rfl hcr (mM false y c) (by unfold maxLen;omega) (by omega) ?c3 ?_)
   case c3=>simp;omega
   intro v4 W4 Bw hg4 _ _;have FI:=hrg1.of_walks (hkw.trans (KeepsWalks.of_grownBy hg4 (λj o e ho=>by
    obtain⟨cc,hcc⟩:=aL Mw e;rw[hcc]at ho;cases ho;rfl)))
   have Aj:=Ec.kept hg4 (aH Mw Ec (λc e=>by cases e));have AB:Hid (MapU W4 x.Mo f sz):=hM2.out.kept hg4 (Ne.symm (Ck Mw hM2.out));have hb4:Below w.heap.size w W4:=⟨hg4.os.trans hb2.os,hg4.tape.trans hb2.tape,hg4.output.trans hb2.output,dF hb2.size hg4.size,λk hk=>(hg4.block k (fB hk hb2.size) (λe=>by have:=(Mw.lt k e.symm).1;omega)).trans (hb2.block k hk)⟩;have hz4:W1.heap.size<=W4.heap.size:=by
    have:=hg4.size;have:=jh.size;omega
   have hfin:Hid (W4.ownsRow w.heap.size 82 3 v4 (L++ [(false,y,c)]).length (RC (L++ [(false,y,c)]))∧(L++ [(false,y,c)]).length+cnt1<=sz+1):=by
    show _∧_;rw[bZ,kC];exact⟨Bw,by simpa using acy⟩
   clear hrg1 XZ Mw hg4 hkw jh hcr Ec hM2 hb2 Bw;go_wp2;go_roundw
   case rel=>exact⟨_,cnt1,_,FI,hfin.out.1,aco,how',acN,hfin.out.2,Aj,AB,hb4,hz4⟩
   case measure=>rw[FI.left_eq];exact hme.out
variable{i j:Nat}{a b:St}
structure Eff(j:Nat)(s s':St):Prop where
 me:s'.me=s.me
 now:s'.now=s.now
 f:s'.f=s.f
 own:s'.own=s.own
 cnt:s'.cnt=s.cnt
 aY:s'.aY=s.aY
 bq:s'.bq=s.bq
 lk:s'.lk=s.lk
 tl:s'.tl=s.tl
 pc:s'.pc=s.pc
 b_:s'.b_=s.b_
 sub:∀y∈s.A,∃z∈s'.A,z.dest=y.dest
 seq:bg s.seq->bg s'.seq
 mem:(∀e∈s.mem,e.dw<=s.now+1280)->∀e∈s'.mem,e.dw<=s'.now+1280
 tn:s'.tn<=s.tn+j
 aI:s'.aI.length<=s.aI.length+j
 aM:s'.aM.length<=s.aM.length+j
 aT:s'.aT.length<=s.aT.length+j
 qs:∀z∈s'.Q,z∈s.Q
theorem Eff.refl(s:St):Eff 0 s s:=⟨rfl,rfl,rfl,rfl,rfl,rfl,rfl,rfl,rfl,rfl,rfl,λy h=>⟨y,h,rfl⟩,id,id,by omega,aA _,aA _,aA _,λ_ h=>h⟩
theorem Eff.trans{c:St}(p:Eff i a b)(q:Eff j b c):Eff (i+j) a c:=
 ⟨q.me.trans p.me,q.now.trans p.now,q.f.trans p.f,q.own.trans p.own,q.cnt.trans p.cnt,q.aY.trans p.aY,q.bq.trans p.bq,q.lk.trans p.lk,q.tl.trans p.tl,q.pc.trans p.pc,q.b_.trans p.b_,λy hy=>by
  obtain⟨z,hz,e⟩:=p.sub y hy;obtain⟨u,hu,e'⟩:=q.sub z hz;exact⟨u,hu,e'.trans e⟩,λh=>q.seq (p.seq h),λh=>q.mem (p.mem h),by have:=p.tn;have:=q.tn;omega,by have:=p.aI;have:=q.aI;omega,by have:=p.aM;have:=q.aM;omega,by have:=p.aT;have:=q.aT;omega,λz h=>p.qs z (q.qs z h)⟩
theorem Eff.mono(p:Eff i a b)(h:i<=j):Eff j a b:=
 ⟨p.me,p.now,p.f,p.own,p.cnt,p.aY,p.bq,p.lk,p.tl,p.pc,p.b_,p.sub,p.seq,p.mem,by have:=p.tn;omega,by have:=p.aI;omega,by have:=p.aM;omega,by have:=p.aT;omega,p.qs⟩
theorem fI(s:St)(r:Int):Eff 1 s (s.drop r):=⟨rfl,rfl,rfl,rfl,rfl,rfl,rfl,rfl,rfl,rfl,rfl,λy h=>⟨y,h,rfl⟩,id,id,by show s.tn<=_;omega,by show s.aI.length<=_;omega,by show(s.aM++ [r]).length<=_;simp,by show s.aT.length<=_;omega,λ_ h=>h⟩
theorem qf(s:St)(t:Int)(p:aC)(L:List (Int×Int)):Eff 1 s (s.send t p L):=⟨rfl,rfl,rfl,rfl,rfl,rfl,rfl,rfl,rfl,rfl,rfl,λy h=>⟨y,h,rfl⟩,id,id,by show s.tn<=_;omega,by show(s.aI++ [_]).length<=_;simp,by show s.aM.length<=_;omega,by show s.aT.length<=_;omega,λ_ h=>h⟩
theorem Un(t:Int)(L:List (Int×Int)):(NU t L).length<=1:=by
 unfold NU;split<;>simp
theorem qg(s:St)(t:Int)(L:List (Int×Int)):Eff 1 s (s.lose t L):=⟨rfl,rfl,rfl,rfl,rfl,rfl,rfl,rfl,rfl,rfl,rfl,λy h=>⟨y,h,rfl⟩,id,id,by show s.tn<=_;omega,by show(s.aI++NU t L).length<=_;have:=Un t L;simp;omega,by show s.aM.length<=_;omega,by show s.aT.length<=_;omega,λ_ h=>h⟩
theorem oQ(s:St){A:List Rt}(h:∀y∈s.A,∃z∈A,z.dest=y.dest):Eff 0 s {s with A:=A}:=⟨rfl,rfl,rfl,rfl,rfl,rfl,rfl,rfl,rfl,rfl,rfl,h,id,id,by show s.tn<=_;omega,aA _,aA _,aA _,λ_ h=>h⟩
theorem pz(A:List Rt)(d:Int)(f:Rt->Rt)(hf:∀y,(f y).dest=y.dest):∀y∈A,∃z∈gD A d f,z.dest=y.dest:=by
 intro y hy;refine⟨if y.dest=d then f y else y,dO.2 ⟨y,hy,rfl⟩,?_⟩;split
 ·exact hf y
 ·rfl
theorem pu(A:List Rt)(d e:Int):∀y∈A,∃z∈ic A d e,z.dest=y.dest:=pz A d _ (nD e)
theorem pE(A:List Rt)(d n:Int):∀y∈A,∃z∈kQ A d n,z.dest=y.dest:=pz A d _ (lQ n)
theorem Lb(A:List Rt)(fr d q:Int):∀y∈A,∃z∈fV A fr d q,z.dest=y.dest:=pz A d _ (fG fr q)
theorem tC(me:Int)(A:List Rt)(d q h n e:Int):∀y∈A,∃z∈(ig me A d q h n e).1,z.dest=y.dest:=by
 unfold ig;split
 ·exact λy hy=>⟨y,hy,rfl⟩
 ·split
  ·split
   ·exact pz A d _ λy=>rfl
   ·exact λy hy=>⟨y,hy,rfl⟩
  ·split
   ·exact λy hy=>⟨y,hy,rfl⟩
   ·intro y hy;refine⟨y,?_,rfl⟩;unfold vG;rw[<-List.take_append_drop (pos A (newR d q h n e).dest) A]at hy;rcases fA.1 hy with h|h
    ·exact fA.2 (.inl h)
    ·exact fA.2 (.inr (kU _ h))
theorem lH{A B C:List Rt}(h:∀y∈A,∃z∈B,z.dest=y.dest)(k:∀y∈B,∃z∈C,z.dest=y.dest):∀y∈A,∃z∈C,z.dest=y.dest:=λy hy=>by
 obtain⟨z,hz,e⟩:=h y hy;obtain⟨u,hu,e'⟩:=k z hz;exact⟨u,hu,e'.trans e⟩
theorem abn(s:St)(Q:List Sr)(hQ:∀z∈Q,z∈s.Q):Eff 0 s {s with Q:=Q}:=⟨rfl,rfl,rfl,rfl,rfl,rfl,rfl,rfl,rfl,rfl,rfl,λy h=>⟨y,h,rfl⟩,id,id,by show s.tn<=_;omega,aA _,aA _,aA _,hQ⟩
theorem Q5(s:St)(l:Int):Eff 0 s {s with dZ:=l}:=⟨rfl,rfl,rfl,rfl,rfl,rfl,rfl,rfl,rfl,rfl,rfl,λy h=>⟨y,h,rfl⟩,id,id,by show s.tn<=_;omega,aA _,aA _,aA _,λ_ h=>h⟩
theorem Vh(s:St)(l:Int):Eff 0 s {s with bR:=l}:=⟨rfl,rfl,rfl,rfl,rfl,rfl,rfl,rfl,rfl,rfl,rfl,λy h=>⟨y,h,rfl⟩,id,id,by show s.tn<=_;omega,aA _,aA _,aA _,λ_ h=>h⟩
theorem Vi(s:St){q:Int}(h:bg s.seq->bg q):Eff 0 s {s with seq:=q}:=⟨rfl,rfl,rfl,rfl,rfl,rfl,rfl,rfl,rfl,rfl,rfl,λy h=>⟨y,h,rfl⟩,h,id,by show s.tn<=_;omega,aA _,aA _,aA _,λ_ h=>h⟩
theorem Vj(s:St)(x:Int×ByteArray):Eff 1 s {s with aT:=s.aT++ [x]}:=⟨rfl,rfl,rfl,rfl,rfl,rfl,rfl,rfl,rfl,rfl,rfl,λy h=>⟨y,h,rfl⟩,id,id,by show s.tn<=_;omega,by show s.aI.length<=_;omega,by show s.aM.length<=_;omega,by show(s.aT++ [x]).length<=_;simp,λ_ h=>h⟩
theorem Fe{E:List Mm}{q:Int×Int}{dw iF:Int}{e:Mm}(h:e∈dK E q dw iF):e∈E∨e.dw=dw:=by
 have h1:e∈dQ E q dw iF:=by
  unfold dK at h;split at h
  ·exact List.mem_of_mem_tail h
  ·exact h
 unfold dQ at h1;rcases fA.1 h1 with h|h
 ·exact .inl (List.mem_filter.1 h).1
 ·rw[fD]at h;subst h;exact .inr rfl
theorem Q0(s:St)(q:Int×Int)(iF:Int):Eff 1 s {s with mem:=dK s.mem q (s.now+1280) iF,tn:=s.tn+1}:=⟨rfl,rfl,rfl,rfl,rfl,rfl,rfl,rfl,rfl,rfl,rfl,λy h=>⟨y,h,rfl⟩,id,λh e he=>by
 rcases Fe he with h1|h1
 ·exact h e h1
 ·show e.dw<=s.now+1280;omega,by show s.tn+1<=s.tn+((1:Nat):Int);omega,by show s.aI.length<=_;omega,by show s.aM.length<=_;omega,by show s.aT.length<=_;omega,λ_ h=>h⟩
theorem zF(s:St)(p:aC):Eff 1 s (s.answer p):=by
 unfold St.answer;split
 ·exact qf _ _ _ _
 ·exact fI _ _
theorem zD(s:St)(p:aC)(hp:bg p.bC):Eff 1 s (s.iD p):=
 (Vi s (q:=max s.seq p.bC) λh=>by unfold bg at *;omega).trans (j:=1) (zF _ _)
theorem xB(s:St)(p:aC)(r:Rt):Eff 1 s (s.gM p r):=by
 refine(oQ s (A:=kQ (if (bJ s.A p.aG s.now).2 then kQ s.A p.dest (bJ s.A p.aG s.now).1.next else s.A) p.aG r.next) ?_).trans (j:=1) (zF _ _);split
 ·exact lH (pE _ _ _) (pE _ _ _)
 ·exact pE _ _ _
theorem BJ(s:St)(p:aC)(hp:bg p.bC):Eff 1 s (s.asked p):=by
 unfold St.asked;split
 ·exact zD s p hp
 ·split
  ·exact xB s p _
  ·split
   ·exact fI _ _
   ·exact qf _ _ _ _
theorem Nf(s:St)(fr:Int)(p:aC)(hp:bg p.bC):Eff 1 s (s.learn fr p):=by
 unfold St.learn;split
 ·exact(oQ s (tC _ _ _ _ _ _ _)).trans (j:=1) (fI _ _)
 ·split
  ·exact(oQ s (lH (tC _ _ _ _ _ _ _) (pu _ _ _))).trans (j:=1) (BJ _ p hp)
  ·exact(oQ s (tC _ _ _ _ _ _ _)).trans (j:=1) (BJ _ p hp)
theorem xA(s:St)(fr:Int)(p:aC)(hp:bg p.bC):Eff 2 s (s.dm fr p):=by
 unfold St.dm;split
 ·exact(fI _ _).mono (by omega)
 ·exact(Q0 s _ _).trans (j:=1) (Nf _ fr p hp)
theorem uH(s:St)(d:Int)(t:ByteArray):Eff 1 s (s.aX d t):=by
 unfold St.aX;split
 ·have h1:Eff 0 s {s with dZ:=(s.dZ+1)%4294967296,A:=ic s.A d (s.now+3000)}:=(Q5 s ((s.dZ+1)%4294967296)).trans (j:=0) (oQ {s with dZ:=(s.dZ+1)%4294967296} (A:=ic s.A d (s.now+3000)) (pu _ _ _));exact h1.trans (j:=1) (qf {s with dZ:=(s.dZ+1)%4294967296,A:=ic s.A d (s.now+3000)} _ _ _)
 ·exact(Eff.refl s).mono (by omega)
theorem Nc(s:St)(d:Int)(L:List ByteArray):Eff L.length s (L.foldl (λs t=>s.aX d t) s):=by
 induction L generalizing s with
 |nil=>exact Eff.refl s
 |cons t L ih=>
  rw[iH];exact((uH s d t).trans (ih _)).mono (by simp;omega)
theorem S_(s:St)(d:Int)(L:List ByteArray):(L.foldl (λs t=>s.aX d t) s).Q=s.Q:=by
 induction L generalizing s with
 |nil=>rfl
 |cons t L ih=>
  rw[iH,ih];unfold St.aX;split<;>rfl
theorem mU(s:St)(d:Int)(h:∀q∈s.Q,q.txt.length<=4):Eff 4 s (s.sendAll d):=by
 unfold St.sendAll;split
 ·exact(Eff.refl s).mono (by omega)
 ·rename_i q hq;split
  ·have h1:=h q (iI hq).1;have h2:=((Nc s d q.txt).trans (j:=0) (abn _ (s.Q.filter λz=>!decide (z.dest=d)) λz hz=>by rw[S_];exact(List.mem_filter.1 hz).1)).mono (j:=4) (by omega);exact h2
  ·exact(Eff.refl s).mono (by omega)
theorem F4(s:St)(fr:Int)(p:aC):Eff 1 s (s.iJ fr p):=by
 unfold St.iJ;split
 ·exact(oQ s (lH (lH (pE _ _ _) (pE _ _ _)) (pu _ _ _))).trans (j:=1) (qf _ _ _ _)
 ·exact fI _ _
theorem AL(s:St)(fr:Int)(p:aC)(h:∀q∈s.Q,q.txt.length<=4):Eff 5 s (s.fC fr p):=by
 unfold St.fC;split
 ·exact(fI _ _).mono (by omega)
 ·have h1:=oQ s (tC s.me s.A p.dest p.bC (St.far p.hops) fr (s.now+p.life));dsimp only;split
  ·exact(h1.trans (j:=1) (fI _ _)).mono (by omega)
  ·split
   ·split
    ·exact(h1.trans (j:=4) (mU {s with A:=(ig s.me s.A p.dest p.bC (St.far p.hops) fr (s.now+p.life)).1} p.dest h)).trans (j:=1) (fI _ _)
    ·exact(h1.trans (j:=4) (mU {s with A:=(ig s.me s.A p.dest p.bC (St.far p.hops) fr (s.now+p.life)).1} p.dest h)).mono (by omega)
   ·split
    ·exact(h1.trans (j:=1) (fI _ _)).mono (by omega)
    ·exact(h1.trans (j:=1) (F4 _ _ _)).mono (by omega)
theorem Tp(fr:Int)(L:List (Int×Int))(z:List Rt×Bool×List (Int×Int)):∀y∈z.1,∃u∈(L.foldl (St.Fg fr) z).1,u.dest=y.dest:=by
 induction L generalizing z with
 |nil=>exact λy hy=>⟨y,hy,rfl⟩
 |cons l L ih=>
  rw[iH];refine lH ?_ (ih _);unfold St.Fg;split
  ·exact Lb _ _ _ _
  ·exact λy hy=>⟨y,hy,rfl⟩
theorem Du(s:St)(fr:Int)(L:List (Int×Int)):Eff 2 s (s.gZ fr L):=by
 unfold St.gZ;dsimp only;have h1:=oQ s (Tp fr L (s.A,false,[]));split
 ·exact(h1.trans (j:=1) (qg _ _ _)).mono (by omega)
 ·exact(h1.trans (j:=2) ((fI _ _).trans (j:=1) (qg _ _ _))).mono (by omega)
theorem wO(s:St)(t d:Int):Eff 1 s (s.kF t d):=qg s t _
theorem Dv(s:St)(fr:Int)(p:aC):Eff 2 s (s.fH fr p):=by
 unfold St.fH;split
 ·exact(Vj s _).mono (by omega)
 ·split
  ·exact(fI _ _).mono (by omega)
  ·split
   ·have h1:=(oQ s (A:=ic (ic s.A p.dest (s.now+3000)) p.aG (s.now+3000)) (lH (pu _ _ _) (pu _ _ _))).trans (j:=1) (qf {s with A:=ic (ic s.A p.dest (s.now+3000)) p.aG (s.now+3000)} (bJ s.A p.dest s.now).1.next {p with ttl:=p.ttl - 1} []);exact h1.mono (by omega)
   ·have h1:=(fI s 3).trans (j:=0) (oQ (s.drop 3) (A:=gD s.A p.dest St.uy) (pz _ _ _ λ_=>rfl));exact h1.trans (j:=1) (wO _ _ _)
theorem zB(s:St)(fr:Int)(p:aC):Eff 2 s (s.eH fr p):=by
 unfold St.eH;split
 ·exact(((fI s 8).trans (j:=1) (wO _ _ _)).trans (j:=0) (Vh _ _)).mono (by omega)
 ·exact(fI _ _).mono (by omega)
theorem F5(s:St)(fr:Int)(p:aC)(L:List (Int×Int))(hp:bg p.bC)(h:∀q∈s.Q,q.txt.length<=4):Eff 5 s (s.gT fr p L):=by
 unfold St.gT;split
 ·exact(zB s fr p).mono (by omega)
 ·split
  ·exact(xA s fr p hp).mono (by omega)
  ·split
   ·exact AL s fr p h
   ·split
    ·exact(Du s fr L).mono (by omega)
    ·exact(Dv s fr p).mono (by omega)
variable{a:oW}{aY:List (Bool×Int×Int)}{aT aI:List (Int×ByteArray)}{aM:List Int}{B N:Nat}{s:St}{W:World}
theorem Nd.off{g:bF}{TL:List Hp.Tm}{W':World}(n:Nd N B g s TL W){S:Nat->Prop}(hf:Fx S W W')(hS:∀k,S k->¬Ft N g s k∧¬iX B g.a k):Nd N B g s TL W':=
 ⟨n.nn.kept λk hk=>hf.block k (n.nn.lt hk) λh=>(hS k h).1 hk,n.ac.kept λk hk=>hf.block k (n.ac.lt hk) λh=>(hS k h).2 hk,n.now,n.bq⟩
theorem Up.fresh{F F':Nat->Prop}{a b c:World}(u:Up B F F' a b){C:Nat}(h:b.grownBy c (some C))(hC:a.heap.size<=C):Up B F F' a c:=
 ⟨λk hk=>(u.sub k hk).imp_right λ⟨h1,h2⟩=>⟨h1,fB h2 h.size⟩,h.os.trans u.os,h.tape.trans u.tape,h.output.trans u.output,dF u.size h.size,λk o ho hn hA=>by
  have h1:=u.block k o ho hn hA;exact(h.block k (aB h1) λe=>by
   have:=aB ho;have:=Option.some.inj e;omega).trans h1⟩
theorem Cv(c:Array Value):nJ (.cells c 52 (0,0)):=⟨λc e=>(by cases e),λc e=>(by cases e),λc e=>(by cases e),λc e=>(by cases e),λc e=>(by cases e)⟩
theorem Y2(ha:Asc s.A)(hd:∀d,(s.f d).isSome=true->∃y∈s.A,y.dest=d)(hall:∀y∈s.A,(s.f y.dest).isSome=true):jI s.f (some s.own) s.cmp:=by
 refine⟨s.A.map (λy=>y.dest),(List.pairwise_map (f:=λy:Rt=>y.dest) (R:=λa b:Int=>a<b)).2 ha,λa=>⟨λh=> ?_,λh=> ?_⟩,rfl⟩
 ·obtain⟨y,hy,rfl⟩:=dO.1 h;exact hall y hy
 ·obtain⟨y,hy,rfl⟩:=hd a h;exact dO.2 ⟨y,hy,rfl⟩
theorem je.reset{base:Nat}(h:je B base a aY aI aT aM W){v:Value}{Xq:List (Bool×Int×Int)}(ho:W.ownsRow base 82 3 v Xq.length (RC Xq)):
  je B base {a with mW:=v,bq:=true} Xq aI aT aM ((W.setCell ⟨B,1,none⟩ v).setCell ⟨B,3,none⟩ (.bool true))∧W.grownBy ((W.setCell ⟨B,1,none⟩ v).setCell ⟨B,3,none⟩ (.bool true)) (some B):=by
 have hg:=ah (ah (ay W (some B)) 1 v) 3 (.bool true);have hB:=(h.blk.Ov v).Ou true;exact⟨⟨hB,ho.kept hg (.inr (aH ho h.blk (λc e=>(by cases e)))),h.aG.kept hg (.inr (aH h.aG h.blk (λc e=>(by cases e)))),h.bL.kept hg (.inr (aH h.bL h.blk (λc e=>(by cases e)))),h.bN.kept hg (.inr (aH h.bN h.blk (λc e=>(by cases e))))⟩,hg⟩
theorem je.Ch{base:Nat}(h:je B base a aY aI aT aM W)(b:ByteArray):
  je B base {a with bD:=b} aY aI aT aM (W.setCell ⟨B,2,none⟩ (.string b))∧W.grownBy (W.setCell ⟨B,2,none⟩ (.string b)) (some B):=by
 have hg:=ah (ay W (some B)) 2 (.string b);exact⟨⟨h.blk.Ch b,h.mW.kept hg (.inr (aH h.mW h.blk (λc e=>(by cases e)))),h.aG.kept hg (.inr (aH h.aG h.blk (λc e=>(by cases e)))),h.bL.kept hg (.inr (aH h.bL h.blk (λc e=>(by cases e)))),h.bN.kept hg (.inr (aH h.bN h.blk (λc e=>(by cases e))))⟩,hg⟩
def adv(N B:Nat)(g:bF)(s s':St)(TL:List Hp.Tm)(w:World)(e:Ending)(w':World):Prop:=∃g',e=.returned (iC s'.bD s'.bq g'.a.aG g'.a.bL g'.a.bN)∧Nd N B g' s' TL w'∧Up B (Ft N g s) (Ft N g' s') w w'∧Hid (g'.x.T=g.x.T)
theorem nV{g:bF}{TL:List Hp.Tm}{w:World}(n:Nd N B g s TL w)(hd:s.Dom)(hc:0<=s.cnt∧s.cnt<=900000)(hw:s.aY.length<=80000)(hbd:oV s.aY)(hq:bg s.seq):
  Calls Tryz.prog 48 #[.pointer (some ⟨N,0,none⟩),.pointer (some ⟨B,0,none⟩)] w (adv N B g s s.finish TL w):=by
 have hA:=n.nn.cr.tb.ok;have hb0:Below w.heap.size w (w.alloc iK):=bn;have hC0:(w.alloc iK).heap[w.heap.size]?=some iK:=bO _ _;have jV:¬Ft N g s w.heap.size:=n.new (aA _);have hBC:B<w.heap.size:=n.ac.blk.lt;have n0:=n.later hb0;have HW:=hide (VJ n0 hd (by omega) (by omega));obtain⟨s1,hs1⟩:∃z,s.write=z:=⟨_,rfl⟩;have hd1:s1.Dom:=by rw[<-hs1];exact BK hd hA hq
 have hall:∀y∈s1.A,(s1.f y.dest).isSome=true:=by rw[<-hs1];exact Me
 have QE:oV s1.aY:=by rw[<-hs1];exact zW hbd (EY hq s.f hA)
 have hlen:=nL s.seq s.own s.f s.A;have hA8:=n.nn.cr.tb.len;have hn1:s1.aY.length<=90000:=by
  rw[<-hs1];show(s.aY++_).length<=_;rw[bZ];omega
 have hc1:0<=s1.cnt∧s1.cnt<=1000000:=by
  rw[<-hs1];show 0<=s.cnt+_∧s.cnt+_<=_;omega
 obtain⟨s2,hs2⟩:∃z,s.finish=z:=⟨_,rfl⟩;rw[hs2];have vH:Hid ((if s1.cnt>24 then {s1 with aY:=s1.cmp,cnt:=s1.cmp.length,bq:=true}else s1)=s2):=by
  show _=_;rw[<-hs2,<-hs1];rfl
 rw[hs1]at HW;have hd1:=hide hd1;have hall:=hide hall;have QE:=hide QE;have hn1:=hide hn1;clear hs1 hs2 hd hc hw hbd hlen hA8 n;dsimp only[iK]at hb0 hC0 HW;go_enter Tryz.func48,Tryz.ntmps48;go_upto_region 1 with(fail);generalize World.alloc _ _=W1 at hb0 hC0 HW n0 ⊢;go_wp2_with fail;refine aN HW.out ?_;rintro e w2 ⟨rfl,g2,n2,u2,t2⟩;obtain⟨hC2,FU⟩:=u2.keep hC0 jV (Cv _);have GI:=(Up.below hb0:Up B (Ft N g s) (Ft N g s) w W1).trans u2;clear HW hC0 hb0 u2 n0 jV;obtain⟨m0,m2,m3,m4,m5,m6,m7,m8,m9,m10⟩:=n2.nn.cr.nd.cell;rw[n2.nn.eq.cnt]at m10;obtain⟨b0,b1,b2,b3,b4,b5,b6⟩:=n2.ac.blk.cell;have hCg:w.heap.size<=w.heap.size:=aA _;generalize kZ:w.heap.size=C at hC2 FU hBC hCg ⊢;replace kZ:=hide kZ;by_cases h24:s1.cnt>24
 ·have hd24:decide (24<s1.cnt)=true:=eX (by omega);replace vH:=hide ((aO h24).symm.trans vH.out);clear h24;have hz2:=n2.nn.cr.size_le hd1.out.on;have hown:=hd1.out.own;rw[<-n2.nn.eq.own]at hown;have HC:=hide (Gf N g2.x s1.f g2.sz w2 n2.nn.cr.nd n2.nn.cr.mo hd1.out.mb hown (by omega) ⟨s1.A.map (·.dest),by have:=n2.nn.cr.tb.len;rw[jq];omega,λa ha=>by obtain⟨y,hy,e⟩:=hd1.out.on a ha;exact dO.2 ⟨y,hy,e⟩⟩);go_wp2_with fail;refine aN HC.out ?_;rintro e w3 ⟨v3,out,rfl,hcmp,hr3,zm,ZP,hf3⟩;have hout:out=s1.cmp:=by
   rw[n2.nn.eq.own]at hcmp;exact hcmp.unique (Y2 n2.nn.cr.tb.vQ hd1.out.on hall.out)
  have Ea:out.length<=9:=by
   rw[hout];have:=n2.nn.cr.tb.len;simp only[St.cmp,dH,gQ,bZ,jq,dR,List.length_nil];omega
  clear HC hcmp;have hNA:∀k,iX B g2.a k->¬k=N:=λk hk e=>n2.ac.Ib n2.nn (.inl (.inl e)) hk;have ac3:=n2.ac.kept (W':=w3) λk hk=>hf3.block k (n2.ac.lt hk) (hNA k hk);have aay:w3.ownsRow (B+1) 82 3 v3 out.length (RC out):=ownsRow_base_a hr3 n2.base;obtain⟨ac4,hg4⟩:=ac3.reset aay;have hB3:=ac3.blk;have acT:N≠B:=λe=>hNA B (.inl rfl) e.symm;have Aj:gW N {g2.x with cnt:=out.length} ((w3.setCell ⟨B,1,none⟩ v3).setCell ⟨B,3,none⟩ (.bool true)):=zm.kept hg4 (λe=>acT (Option.some.inj e).symm);have hMB:g2.x.Mo≠B:=λe=>n2.ac.Ib n2.nn (.inl (.inr (.inl rfl))) (.inl e);have AB:MapU ((w3.setCell ⟨B,1,none⟩ v3).setCell ⟨B,3,none⟩ (.bool true)) g2.x.Mo s1.f g2.sz:=ZP.kept hg4 (λe=>hMB (Option.some.inj e));have hfx:Fx (λk=>k=N∨k=B) w2 ((w3.setCell ⟨B,1,none⟩ v3).setCell ⟨B,3,none⟩ (.bool true)):=aQ (hf3.mono λ_ h=> .inl h) hg4 (λi _ e=> .inr (Option.some.inj e).symm);have hT4:MT g2.x.self g2.x.T g2.M g2.ff g2.gg s1.A ((w3.setCell ⟨B,1,none⟩ v3).setCell ⟨B,3,none⟩ (.bool true)):=n2.nn.cr.tb.kept λk hk=>hfx.block k (n2.nn.cr.tb.lt hk) (by
   rintro(rfl|rfl)
   ·exact n2.nn.cr.tb.not (λe=>by
     obtain⟨es,cl,hm⟩:=n2.nn.cr.tb.map.obj;rw[<-e,show w2.heap[k]?=_ from n2.nn.cr.nd]at hm;cases hm) n2.nn.cr.nd (qx _) hk
   ·exact n2.ac.Ib n2.nn (.inl (.inr (.inr hk))) (.inl rfl))
  have hCf:((w3.setCell ⟨B,1,none⟩ v3).setCell ⟨B,3,none⟩ (.bool true)).heap[C]?=w2.heap[C]?:=hfx.block C (aB hC2) (by
   rintro(rfl|h)
   ·exact FU (.inl (.inl rfl))
   ·omega)
  obtain⟨e1,e2,e3,e4,e5,e6,e7,e8,e9⟩:=n2.nn.eq;obtain⟨n4,u4⟩:=n2.core (s':={s1 with aY:=out,cnt:=out.length,bq:=true}) ⟨Aj,AB,hT4,n2.nn.cr.ne⟩ ac4 (hfx.mono λk h=>by
   rcases h with rfl|rfl
   ·exact .inl (.inl rfl)
   ·exact .inr (.inl rfl)) (λk hk=>hk) ⟨rfl,rfl,rfl,rfl,rfl⟩ ⟨e1,e2,e3,e4,e5,e6,e7,rfl,e9⟩ ⟨rfl,rfl,rfl,rfl,rfl⟩ n2.nn.GJ n2.now rfl
  have wK:=hCf.trans hC2;have hs4:Hid (({s1 with aY:=out,cnt:=out.length,bq:=true}:St)=s2):=by
   show _=_;rw[hout];exact vH.out
  have hb4:Hid (oV s2.aY):=by
   show oV _;rw[<-hs4.out];intro x hx;have hx':x∈out:=hx;rw[hout]at hx';simp only[St.cmp,dH,gQ,fA,fD,dO]at hx';have h1:=hd1.out.own;rcases hx' with rfl|⟨a,ha,rfl⟩
   ·unfold bg at h1;dsimp only;omega
   ·obtain⟨y,hy,rfl⟩:=ha;have h2:=(n2.nn.cr.tb.ok y hy).dest;have h3:=hd1.out.mb.getD y.dest;unfold bg at h2 h3;dsimp only;omega
  have hl4:Hid (s2.aY.length<=90000):=by
   show _<=_;rw[<-hs4.out];show out.length<=_;omega
  rw[hs4.out]at n4 u4;have qa:¬Ft N _ s2 C:=λh=>(u4.sub C h).elim FU (by have:=aB hC2;omega);have oM:=GI.trans u4;have t4:Hid (({g2 with x:={g2.x with cnt:=(out.length:Int)},a:={g2.a with mW:=v3,bq:=true}}:bF).x.T=g.x.T):=t2;have adb:B<C:=hBC;obtain⟨a3',c3',hv3,_⟩:=ak hr3;have fB1:=hB3.free 1;have fB3:=hB3.free 3;obtain⟨x0,x1,x2,x3,x4,x5,x6⟩:=hB3.cell;subst hv3;generalize ({g2 with x:={g2.x with cnt:=(out.length:Int)},a:={g2.a with mW:=.slice a3' out.length c3',bq:=true}}:bF)=g4 at n4 u4 qa oM t4;clear n2 GI zm ZP hf3 hr3 aay ac3 ac4 hg4 hB3 Aj AB hfx hT4 hCf hC2 FU u4 m0 m2 m3 m4 m5 m6 m7 m8 m9 m10 b0 b1 b2 b3 b4 b5 b6 e1 e2 e3 e4 e5 e6 e7 e8 e9 vH hNA hout Ea hown hz2 hall QE hn1 hd1 hs4;go_upto_region 5 with(fail);generalize World.setCell _ _ _=W4 at n4 oM wK ⊢;clear x0 x1 x2 x3 x4 x5 x6 fB1 fB3;obtain⟨b0,b1,b2,b3,b4,b5,b6⟩:=n4.ac.blk.cell;obtain⟨a7,k7,hv7,hH7⟩:=ak n4.ac.mW;rw[hv7]at b1;have HJ:=hide (oP a7 s2.aY.length k7 s2.aY rfl (by have:=hl4.out;omega) hb4.out W4 hH7);clear hv7 hH7;go_wp2_with fail;refine aN HJ.out ?_;rintro e w5 ⟨rfl,hb5⟩;have n5:=n4.later hb5;have qA:=(hb5.block C (aB wK)).trans wK;have wU:=oM.trans (.below hb5:Up B (Ft N g4 s2) (Ft N g4 s2) W4 w5);have YJ:¬iX B g4.a C:=λh=>n5.ac.kinds h qA (Cv _);clear HJ n4 oM wK hb5 b0 b1 b2 b3 b4 b5 b6;obtain⟨b0,b1,b2,b3,b4,b5,b6⟩:=n5.ac.blk.cell;have f2:=n5.ac.blk.free 2;rw[show strOfNums (bA s2.aY)=s2.bD from rfl];obtain⟨ac6,iN⟩:=n5.ac.Ch s2.bD;obtain⟨n6,u6⟩:=n5.act (s':=s2) ac6 (Fx.grown iN λk e=>by cases e;exact .inl rfl) ⟨rfl,rfl,rfl,rfl,rfl,rfl,rfl,rfl,rfl,rfl,rfl,rfl,rfl,rfl,rfl⟩ n5.now n5.bq;have gy:=(iN.block C (aB qA) (λe=>by have:=Option.some.inj e;omega)).trans qA;have mI:=wU.trans u6;have jZ:¬Ft N {g4 with a:={g4.a with bD:=s2.bD}} s2 C:=qa;have QR:¬iX B ({g4 with a:={g4.a with bD:=s2.bD}}:bF).a C:=YJ;have t6:Hid (({g4 with a:={g4.a with bD:=s2.bD}}:bF).x.T=g.x.T):=t4;have Wi:({g4 with a:={g4.a with bD:=s2.bD}}:bF).a.bD=s2.bD:=rfl;generalize ({g4 with a:={g4.a with bD:=s2.bD}}:bF)=g6 at n6 mI jZ QR t6 Wi;clear ac6 iN u6 n5 wU qA;go_upto_region 6 with(fail);generalize World.setCell _ _ _=W6 at n6 mI gy ⊢;clear b0 b1 b2 b3 b4 b5 b6 f2;obtain⟨b0,b1,b2,b3,b4,b5,b6⟩:=n6.ac.blk.cell;rw[Wi]at b2;rw[n6.bq]at b3;obtain⟨af,kf,hf,_⟩:=ak n6.ac.aG;obtain⟨ac,kc,hc,_⟩:=ak n6.ac.bL;obtain⟨ad,kd,hdd,_⟩:=ak n6.ac.bN;rw[hf]at b4;rw[hc]at b5;rw[hdd]at b6;have q0:W6.cell? ⟨C,0,none⟩=some (.string ⟨#[]⟩):=aF _ _ 0 _ _ _ gy;have q1:W6.cell? ⟨C,1,none⟩=some (.bool false):=aF _ _ 1 _ _ _ gy;have q2:W6.cell? ⟨C,2,none⟩=some (.slice none 0 0):=aF _ _ 2 _ _ _ gy;have q3:W6.cell? ⟨C,3,none⟩=some (.slice none 0 0):=aF _ _ 3 _ _ _ gy;have q4:W6.cell? ⟨C,4,none⟩=some (.slice none 0 0):=aF _ _ 4 _ _ _ gy;have z0:=mg W6 C 0 _ _ gy;have z1:=mg W6 C 1 _ _ gy;have z2:=mg W6 C 2 _ _ gy;have z3:=mg W6 C 3 _ _ gy;have z4:=mg W6 C 4 _ _ gy;have iq:=ah (ah (ah (ah (ah (ay W6 (some C)) 0 (.string s2.bD)) 1 (.bool s2.bq)) 2 (.slice af s2.aI.length kf)) 3 (.slice ac s2.aT.length kc)) 4 (.slice ad s2.aM.length kd);have fQ:(((((W6.setCell ⟨C,0,none⟩ (.string s2.bD)).setCell ⟨C,1,none⟩ (.bool s2.bq)).setCell ⟨C,2,none⟩ (.slice af s2.aI.length kf)).setCell ⟨C,3,none⟩ (.slice ac s2.aT.length kc)).setCell ⟨C,4,none⟩ (.slice ad s2.aM.length kd)).heap[C]?=some (.cells #[.string s2.bD,.bool s2.bq,.slice af s2.aI.length kf,.slice ac s2.aT.length kc,.slice ad s2.aM.length kd] 52):=by
   simp[World.setCell,dM,gy]
  have n7:=n6.off (S:=λk=>k=C) (Fx.grown iq λk e=>by cases e;rfl) (by rintro k rfl;exact⟨jZ,QR⟩);have u7:=mI.fresh iq (by rw[kZ.out];exact aA _);have ada:C≠B:=by omega
  clear iq n6 mI;go_wp2;generalize World.setCell _ _ _=W7 at fQ n7 u7 ⊢;have p0:W7.cell? ⟨C,0,none⟩=some (.string s2.bD):=aF _ _ 0 _ _ _ fQ;have p1:W7.cell? ⟨C,1,none⟩=some (.bool s2.bq):=aF _ _ 1 _ _ _ fQ;have p2:W7.cell? ⟨C,2,none⟩=some (.slice af s2.aI.length kf):=aF _ _ 2 _ _ _ fQ;have p3:W7.cell? ⟨C,3,none⟩=some (.slice ac s2.aT.length kc):=aF _ _ 3 _ _ _ fQ;have p4:W7.cell? ⟨C,4,none⟩=some (.slice ad s2.aM.length kd):=aF _ _ 4 _ _ _ fQ;refine bodyPost_ret (v:=.agg #[.string s2.bD,.bool s2.bq,.slice af s2.aI.length kf,.slice ac s2.aT.length kc,.slice ad s2.aM.length kd]) (by simp[results,Tryz.results48,go_sem,p0,p1,p2,p3,p4]) rfl ⟨g6,?_,n7,u7,t6⟩;rw[hf,hc,hdd];rfl
 ·have hd24:decide (24<s1.cnt)=false:=dL (by omega);replace vH:=hide ((aD h24).symm.trans vH.out);have hb4:Hid (oV s2.aY):=by rw[<-vH.out];exact QE
  have hl4:Hid (s2.aY.length<=90000):=by rw[<-vH.out];exact hn1
  have n4:=n2;have oM:=GI;have wK:=hC2;have qa:=FU;rw[vH.out]at n4 oM qa;have t4:=t2;have adb:=hBC;clear n2 GI hC2 FU vH h24 b0 b1 b2 b3 b4 b5 b6 m0 m2 m3 m4 m5 m6 m7 m8 m9 hall QE hn1 hd1;go_upto_region 5 with(fail);clear m10;obtain⟨b0,b1,b2,b3,b4,b5,b6⟩:=n4.ac.blk.cell;obtain⟨a7,k7,hv7,hH7⟩:=ak n4.ac.mW;rw[hv7]at b1;have HJ:=hide (oP a7 s2.aY.length k7 s2.aY rfl (by have:=hl4.out;omega) hb4.out w2 hH7);clear hv7 hH7;go_wp2_with fail;refine aN HJ.out ?_;rintro e w5 ⟨rfl,hb5⟩;have n5:=n4.later hb5;have qA:=(hb5.block C (aB wK)).trans wK;have wU:=oM.trans (.below hb5:Up B (Ft N g2 s2) (Ft N g2 s2) w2 w5);have YJ:¬iX B g2.a C:=λh=>n5.ac.kinds h qA (Cv _);clear HJ n4 oM wK hb5 b0 b1 b2 b3 b4 b5 b6;obtain⟨b0,b1,b2,b3,b4,b5,b6⟩:=n5.ac.blk.cell;have f2:=n5.ac.blk.free 2;rw[show strOfNums (bA s2.aY)=s2.bD from rfl];obtain⟨ac6,iN⟩:=n5.ac.Ch s2.bD;obtain⟨n6,u6⟩:=n5.act (s':=s2) ac6 (Fx.grown iN λk e=>by cases e;exact .inl rfl) ⟨rfl,rfl,rfl,rfl,rfl,rfl,rfl,rfl,rfl,rfl,rfl,rfl,rfl,rfl,rfl⟩ n5.now n5.bq;have gy:=(iN.block C (aB qA) (λe=>by have:=Option.some.inj e;omega)).trans qA;have mI:=wU.trans u6;have jZ:¬Ft N {g2 with a:={g2.a with bD:=s2.bD}} s2 C:=qa;have QR:¬iX B ({g2 with a:={g2.a with bD:=s2.bD}}:bF).a C:=YJ;have t6:Hid (({g2 with a:={g2.a with bD:=s2.bD}}:bF).x.T=g.x.T):=t4;have Wi:({g2 with a:={g2.a with bD:=s2.bD}}:bF).a.bD=s2.bD:=rfl;generalize ({g2 with a:={g2.a with bD:=s2.bD}}:bF)=g6 at n6 mI jZ QR t6 Wi;clear ac6 iN u6 n5 wU qA;go_upto_region 6 with(fail);generalize World.setCell _ _ _=W6 at n6 mI gy ⊢;clear b0 b1 b2 b3 b4 b5 b6 f2;obtain⟨b0,b1,b2,b3,b4,b5,b6⟩:=n6.ac.blk.cell;rw[Wi]at b2;rw[n6.bq]at b3;obtain⟨af,kf,hf,_⟩:=ak n6.ac.aG;obtain⟨ac,kc,hc,_⟩:=ak n6.ac.bL;obtain⟨ad,kd,hdd,_⟩:=ak n6.ac.bN;rw[hf]at b4;rw[hc]at b5;rw[hdd]at b6;have q0:W6.cell? ⟨C,0,none⟩=some (.string ⟨#[]⟩):=aF _ _ 0 _ _ _ gy;have q1:W6.cell? ⟨C,1,none⟩=some (.bool false):=aF _ _ 1 _ _ _ gy;have q2:W6.cell? ⟨C,2,none⟩=some (.slice none 0 0):=aF _ _ 2 _ _ _ gy;have q3:W6.cell? ⟨C,3,none⟩=some (.slice none 0 0):=aF _ _ 3 _ _ _ gy;have q4:W6.cell? ⟨C,4,none⟩=some (.slice none 0 0):=aF _ _ 4 _ _ _ gy;have z0:=mg W6 C 0 _ _ gy;have z1:=mg W6 C 1 _ _ gy;have z2:=mg W6 C 2 _ _ gy;have z3:=mg W6 C 3 _ _ gy;have z4:=mg W6 C 4 _ _ gy;have iq:=ah (ah (ah (ah (ah (ay W6 (some C)) 0 (.string s2.bD)) 1 (.bool s2.bq)) 2 (.slice af s2.aI.length kf)) 3 (.slice ac s2.aT.length kc)) 4 (.slice ad s2.aM.length kd);have fQ:(((((W6.setCell ⟨C,0,none⟩ (.string s2.bD)).setCell ⟨C,1,none⟩ (.bool s2.bq)).setCell ⟨C,2,none⟩ (.slice af s2.aI.length kf)).setCell ⟨C,3,none⟩ (.slice ac s2.aT.length kc)).setCell ⟨C,4,none⟩ (.slice ad s2.aM.length kd)).heap[C]?=some (.cells #[.string s2.bD,.bool s2.bq,.slice af s2.aI.length kf,.slice ac s2.aT.length kc,.slice ad s2.aM.length kd] 52):=by
   simp[World.setCell,dM,gy]
  have n7:=n6.off (S:=λk=>k=C) (Fx.grown iq λk e=>by cases e;rfl) (by rintro k rfl;exact⟨jZ,QR⟩);have u7:=mI.fresh iq (by rw[kZ.out];exact aA _);have ada:C≠B:=by omega
  clear iq n6 mI;go_wp2;generalize World.setCell _ _ _=W7 at fQ n7 u7 ⊢;have p0:W7.cell? ⟨C,0,none⟩=some (.string s2.bD):=aF _ _ 0 _ _ _ fQ;have p1:W7.cell? ⟨C,1,none⟩=some (.bool s2.bq):=aF _ _ 1 _ _ _ fQ;have p2:W7.cell? ⟨C,2,none⟩=some (.slice af s2.aI.length kf):=aF _ _ 2 _ _ _ fQ;have p3:W7.cell? ⟨C,3,none⟩=some (.slice ac s2.aT.length kc):=aF _ _ 3 _ _ _ fQ;have p4:W7.cell? ⟨C,4,none⟩=some (.slice ad s2.aM.length kd):=aF _ _ 4 _ _ _ fQ;refine bodyPost_ret (v:=.agg #[.string s2.bD,.bool s2.bq,.slice af s2.aI.length kf,.slice ac s2.aT.length kc,.slice ad s2.aM.length kd]) (by simp[results,Tryz.results48,go_sem,p0,p1,p2,p3,p4]) rfl ⟨g6,?_,n7,u7,t6⟩;rw[hf,hc,hdd];rfl
variable{seq bR:Int}{q:Int×Int}{B C D N Q T:Nat}{p:aC}{s:St}{W a b:World}
theorem Xi(q:Int×Int):nJ (fo q):=⟨λc e=>(by cases e),λc e=>(by cases e),λc e=>(by cases e),λc e=>(by cases e),λc e=>(by cases e)⟩
theorem Up.PZ{F F':Nat->Prop}(u:Up B F F' a b)(h:QB D q a)(hn:¬F D):QB D q b∧¬F' D:=u.keep h hn (Xi q)
theorem QB.later(h:QB D q a)(hb:Below a.heap.size a b):QB D q b:=(hb.block _ (aB h)).trans h
@[reducible] def HQ(N B T C Q : Nat)(me seq bR now : Int)(p : aC)(W : World): Prop :=
 HC N B T C me seq bR now p W∧W.cell? ⟨Q,0,none⟩=some (.int .u32 p.aG)∧W.cell? ⟨Q,1,none⟩=some (.int .u32 p.id)
theorem HQ.at{g:bF}{TL:List Hp.Tm}{me now:Int}(n:Nd N B g s TL W)(h:PB p C W)(hQ:QB Q (p.aG,p.id) W)(t:g.x.T=T)(h1:s.me=me)(h2:s.seq=seq)(h3:s.bR=bR)(h4:s.now=now):HQ N B T C Q me seq bR now p W:=⟨HC.at n h t h1 h2 h3 h4,hQ.cell⟩
theorem HQ.jD{g:bF}{TL:List Hp.Tm}{me now:Int}(n:Nd N B g s TL W)(h:PB p C W)(hQ:QB Q (p.aG,p.id) W)(t:g.x.T=T)(h1:s.me=me)(h2:s.seq=seq)(h3:s.bR=bR)(h4:s.now=now):HQ N B T C Q me seq bR now p W.drew:=HQ.at n.drew h hQ t h1 h2 h3 h4
theorem wo{E:List Mm}{now t:Int}(h:∀e∈E,e.dw<=now+1280){e:Mm}(he:e∈dK E q (now+1280) t):e.dw<=now+1280:=by
 have hp:∀e∈dQ E q (now+1280) t,e.dw<=now+1280:=by
  intro e he;unfold dQ at he;rcases fA.1 he with he|he
  ·exact h e (List.mem_filter.1 he).1
  ·rw[fD]at he;subst he;exact iB _
 unfold dK at he;split at he
 ·exact hp e (List.mem_of_mem_tail he)
 ·exact hp e he
structure St.NP(s:St):Prop where
 me:bg s.me
 seq:bg s.seq
 now:0<=s.now∧s.now<=4611686018427387904
 mem:∀e∈s.mem,e.dw<=s.now+1280
 aI:s.aI.length<=900000
 aM:s.aM.length<=900000
 aT:s.aT.length<=900000
theorem AX{g:bF}{TL:List Hp.Tm}{w:World}(n:Nd N B g s TL w)(hF:s.NP)(htn:s.tn<=4000000000000000000)(fr:Int)(MJ:bg fr)(p:aC)(hq:p.Hd)(hL:eT w p []):
  Calls Tryz.prog 130 #[.pointer (some ⟨N,0,none⟩),.pointer (some ⟨B,0,none⟩),.int .u32 fr,p.val] w λe w'=>e=.returned (.tuple #[])∧kT N B g s (s.dm fr p) TL w w':=by
 have hp:=hq.wf;have hfl:s.aI.length<=1000000:=by have:=hF.aI;omega
 have hdl:s.aM.length<=1000000:=by have:=hF.aM;omega
 obtain⟨hid,hde,hds,hfr,hfs,_⟩:=hp.num;have hb0:Below w.heap.size w ((w.alloc p.box).alloc (fo (p.aG,p.id))):=(bn).alloc (by simp) _;have fZ:PB p w.heap.size ((w.alloc p.box).alloc (fo (p.aG,p.id))):=(((aR _ (w.alloc p.box)).alloc (aA _) _).block _ (by simp)).trans (PB.new p w);have Si:QB (w.heap.size+1) (p.aG,p.id) ((w.alloc p.box).alloc (fo (p.aG,p.id))):=by
  have:=bO (w.alloc p.box) (fo (p.aG,p.id));rw[World.size_alloc]at this;exact this
 have n0:=n.later hb0;obtain⟨s2,cK⟩:∃s2,s.dm fr p=s2:=⟨_,rfl⟩;rw[cK];replace cK:=hide cK;dsimp only[aC.box,fo]at hb0 n0;unfold PB at fZ;unfold QB at Si;dsimp only[aC.box,fo]at fZ Si;go_enter Tryz.func130,Tryz.ntmps130;go_upto_region 2 with(fail);generalize World.alloc (World.alloc _ _) _=W1 at hb0 fZ Si n0 ⊢;have jV:=n.new (k:=w.heap.size) (aA _);have hQn:=n.new (k:=w.heap.size+1) (Nat.le_succ _);generalize w.heap.size+1=Q at Si hQn ⊢;generalize kZ:w.heap.size=C at fZ jV ⊢;replace kZ:=hide kZ;have hs2:=cK.out;unfold St.dm at hs2;have HH:=hide λW5 (h5:Below W1.heap.size W1 W5)=>Ny (n0.later h5) (p.aG,p.id) ⟨hfr,hid⟩ s.now hF.now.1;obtain⟨cb,hcb⟩:∃cb,(decide (p.aG=s.me)||ol s.mem (p.aG,p.id) s.now)=cb:=⟨_,rfl⟩;replace hcb:=hide hcb;go_cut [33]from 16 to 32 (λbv W=>bv=.bool cb∧Below W1.heap.size W1 W)
 case first=>
  obtain⟨⟨⟨m0,m1,m2,m3,m4⟩,p0,p1,p2,p3,p4,p5,p6,p7,p8,p9,jg,ja⟩,q0,q1⟩:=HQ.at n0 fZ Si rfl rfl rfl rfl rfl;have hbd:Below W1.heap.size W1 W1.drew:=(aR _ _).drew;by_cases hse:p.aG=s.me
  ·have hbe:(p.aG==s.me)=true:=by simpa using hse
   obtain rfl:true=cb:=by rw[<-hcb.out,eX hse];rfl
   clear hse HH p0 p1 p2 p3 p5 p6 p8 p9 jg ja m1 m2 m3;go_region
   all_goals
    go_wp2_with fail;go_meet;exact⟨rfl,hbd⟩
  ·have hbe:(p.aG==s.me)=false:=by simpa using hse
   have hd:ol s.mem (p.aG,p.id) s.now=cb:=by rw[<-hcb.out,dL hse];rfl
   rw[hd]at HH;dsimp only[jC]at HH;clear hd hse p0 p1 p2 p3 p5 p6 p8 p9 jg ja m1 m2 m3;go_region_law (first|(go_simp;go_at_call 160;refine(HH.out _ hbd).mono ?_;rintro e w2 ⟨rfl,hb2⟩))
   all_goals
    go_wp2_with fail;go_meet;exact⟨rfl,hbd.trans (hb2.mono hbd.size)⟩
 case rest=>
  obtain⟨rfl,hb2⟩:=hcut;have eZ:=hF.now;have n2:=n0.later hb2;have hP2:PB p C wc:=PB.below fZ hb2;have hQ2:QB Q (p.aG,p.id) wc:=QB.later Si hb2;have ua0:Up B (Ft N g s) (Ft N g s) w wc:=.below (hb0.trans (hb2.mono hb0.size));have ZQ:=hL.below (hb0.trans (hb2.mono hb0.size));clear HH fZ Si n0 hb0 hb2 cK kZ;cases cb
  ·have FR:=hcb.out;simp only[Bool.or_eq_false_iff,decide_eq_false_iff_not]at FR;rw[aD (by rintro(h|h);exact FR.1 h;rw[FR.2]at h;cases h)]at hs2;clear hcb FR;have HA:Hid (∀t,t=s.now+1280->Calls Tryz.prog 156 #[.pointer (some ⟨N,8,none⟩),.agg #[.int .u32 p.aG,.int .u32 p.id],.int .u64 t] wc.drew λe w'=>e=.returned (.tuple #[])∧kT N B g s {s with mem:=dK s.mem (p.aG,p.id) (s.now+1280) s.tn,tn:=s.tn+1} TL wc.drew w'):=by
    rintro _ rfl;exact Nz n2.drew (p.aG,p.id) ⟨hfr,hid⟩ (s.now+1280) (by omega) hF.mem (by omega)
   have hS:HQ N B g.x.T C Q s.me s.seq s.bR s.now p wc.drew:=HQ.jD n2 hP2 hQ2 rfl rfl rfl rfl rfl;go_wp2_with fail;go_region_held3 (HQ N B g.x.T C Q s.me s.seq s.bR s.now p) (first|with_reducible exact hS|with_reducible assumption) ((go_at_call 156;refine(HA.out _ (by first|rfl|exact lU eZ (by decide))).mono ?_;rintro e w3 ⟨rfl,hN⟩;obtain⟨g3,n3,u3,t3⟩:=hN;obtain⟨hP3,MW⟩:=u3.jQ hP2 jV;obtain⟨Kw,YB⟩:=u3.PZ hQ2 hQn;have hk3:HQ N B g.x.T C Q s.me s.seq s.bR s.now p w3:=HQ.at n3 hP3 Kw t3.out rfl rfl rfl rfl))
   clear hS hk3;rename_i iw;clear iw;have NT:=(ua0.trans (.below (aR _ _).drew)).trans u3;obtain⟨s1,hs1⟩:∃s1,({s with mem:=dK s.mem (p.aG,p.id) (s.now+1280) s.tn,tn:=s.tn+1}:St)=s1:=⟨_,rfl⟩;have hF1:s1.NP:=by
    rw[<-hs1];refine⟨hF.me,hF.seq,hF.now,λe he=> ?_,hF.aI,hF.aM,hF.aT⟩;exact wo hF.mem he
   have aa9:eT w3 p []:=ZQ.nil;rw[hs1]at n3 NT MW YB hs2;clear hs1 HA ua0 ZQ n2 hQ2 hP2;unfold St.learn at hs2;have Km:=hF1.now;obtain⟨u,hu⟩:∃u,ig s1.me s1.A p.aG p.dX (St.far p.hops) fr (s1.now+3000)=u:=⟨_,rfl⟩;have HU:Hid (∀t,t=s1.now+3000->Calls Tryz.prog 161 #[.pointer (some ⟨g3.x.T,0,none⟩),.int .u32 p.aG,.int .u32 p.dX,.int .i64 (St.far p.hops),.int .u32 fr,.int .u64 t] w3.drew λr w'=>r=.returned (.int .i64 u.2)∧kT N B g3 s1 {s1 with A:=u.1} TL w3.drew w'):=by
    rintro _ rfl;have:=Gr n3.drew p.aG p.dX (St.far p.hops) fr (s1.now+3000) hfr hfs (by have:=hq.hops;unfold nX St.far;omega) MJ (by unfold zP;omega);rw[hu]at this;exact this
   rw[hu]at hs2;obtain⟨A2,E2⟩:=u;dsimp only at hs2 HU;clear hu;have hS:HQ N B g3.x.T C Q s1.me s1.seq s1.bR s1.now p w3.drew:=HQ.jD n3 hP3 Kw rfl rfl rfl rfl rfl;go_wp2_with fail;go_region_held3 (HQ N B g3.x.T C Q s1.me s1.seq s1.bR s1.now p) (first|with_reducible exact hS|with_reducible assumption) (first
    |(go_at_call 162;refine(uE p.hops hq.hops _).mono ?_;rintro e w3f ⟨rfl,rfl⟩)
    |(go_at_call 161;refine(HU.out _ (by first|rfl|exact lU Km (by decide))).mono ?_;rintro e w4 ⟨rfl,hN⟩;obtain⟨g4,n4,u4,t4⟩:=hN;obtain⟨lC,qa⟩:=u4.jQ hP3 MW;obtain⟨Ah,UN⟩:=u4.PZ Kw YB;have hk4:HQ N B g3.x.T C Q s1.me s1.seq s1.bR s1.now p w4:=HQ.at n4 lC Ah t4.out rfl rfl rfl rfl))
   clear hS;rename_i iw;clear iw;have oM:=(NT.trans (.below (aR _ _).drew)).trans u4;have t43:Hid (g4.x.T=g.x.T):=t4.out.trans t3.out;obtain⟨s4,hs4⟩:∃s4,({s1 with A:=A2}:St)=s4:=⟨_,rfl⟩;have qU:s4.NP:=by
    rw[<-hs4];exact⟨hF1.me,hF1.seq,hF1.now,hF1.mem,hF1.aI,hF1.aM,hF1.aT⟩
   have UW:eT w4 p []:=aa9.nil;have aaK:Hid (s4.now=s1.now):=by show _=_;rw[<-hs4]
   have hA4:({s1 with A:=ic A2 p.aG (s1.now+3000)}:St)={s4 with A:=ic s4.A p.aG (s1.now+3000)}:=by rw[<-hs4]
   rw[hs4,hA4]at hs2;rw[hs4]at n4 oM qa UN;clear hs4 hA4 NT u4 hk4 n3 hP3 Kw MW YB HU aa9 u3 hF1;by_cases h4:E2=4
   ·subst h4;rw[aO rfl]at hs2;have HX:=hide (iV n4 2 (by have:=qU.aM;omega));rw[hs2]at HX;go_wp2_with fail;refine aN HX.out ?_;rintro e w9 ⟨rfl,hN⟩;obtain⟨g9,n9,u9,t9⟩:=hN;go_wp2;go_returns;exact⟨rfl,g9,n9,oM.trans u9,t9.out.trans t43⟩
   ·have b4:(E2==4)=false:=by simpa using h4
    rw[aD h4]at hs2;by_cases h3:E2=3
    ·subst h3;rw[aO rfl]at hs2;have HV:Hid (∀t,t=s1.now+3000->Calls Tryz.prog 81 #[.pointer (some ⟨g4.x.T,0,none⟩),.int .u32 p.aG,.int .u64 t] w4.drew λr w'=>r=.returned (.tuple #[])∧kT N B g4 s4 {s4 with A:=ic s4.A p.aG (s1.now+3000)} TL w4.drew w'):=by
      rintro _ rfl;exact KQ n4.drew p.aG (s1.now+3000) hfr (by unfold zP;omega)
     have hS:HQ N B g4.x.T C Q s4.me s4.seq s4.bR s1.now p w4.drew:=HQ.jD n4 lC Ah rfl rfl rfl rfl aaK.out;go_wp2_with fail;go_region_held3 (HQ N B g4.x.T C Q s4.me s4.seq s4.bR s1.now p) (first|with_reducible exact hS|with_reducible assumption) ((go_at_call 81;refine(HV.out _ (by first|rfl|exact lU Km (by decide))).mono ?_;rintro e w6 ⟨rfl,hN⟩;obtain⟨g6,n6,u6,t6⟩:=hN;obtain⟨GV,jZ⟩:=u6.jQ lC qa;obtain⟨hQ6,acS⟩:=u6.PZ Ah UN;have Wh:HQ N B g4.x.T C Q s4.me s4.seq s4.bR s1.now p w6:=HQ.at n6 GV hQ6 t6.out rfl rfl rfl aaK.out))
     clear hS Wh;rename_i iw;clear iw;have mI:=(oM.trans (.below (aR _ _).drew)).trans u6;have t63:Hid (g6.x.T=g.x.T):=t6.out.trans t43.out;obtain⟨s6,hs6⟩:∃s6,({s4 with A:=ic s4.A p.aG (s1.now+3000)}:St)=s6:=⟨_,rfl⟩;have Sm:s6.NP:=by
      rw[<-hs6];exact⟨qU.me,qU.seq,qU.now,qU.mem,qU.aI,qU.aM,qU.aT⟩
     have ZQ:eT w6 p []:=UW.nil;rw[hs6]at n6 mI jZ hs2;clear hs6 oM u6 n4 lC Ah qa UN hQ6 acS HV UW qU b4;obtain⟨⟨y,fd⟩,hy⟩:∃r,bJ s6.A p.dest s6.now=r:=⟨_,rfl⟩;have HF:=hide (mV n6 p.dest s6.now hde hy);go_wp2_with fail;go_cut [9,10]from 82 to 95 (ny y fd w6)
     case first=>
      have hS:HB N B g6.x.T C s6.me s6.seq s6.bR s6.now p w6 w6.drew:=HB.drew (HB.mk' n6 GV (aR _ _));have hkB:=hide λW5 h5=>HB.mk' (W:=W5) n6 GV h5;go_region_held3 (HB N B g6.x.T C s6.me s6.seq s6.bR s6.now p w6) (first|with_reducible exact hS|with_reducible assumption|(with_reducible apply HB.uo hkB;assumption)|(with_reducible apply HB.jR hkB;assumption)|(with_reducible apply HB.dW hkB)|(with_reducible apply hkB.out;assumption)) ((go_at_call 79;refine(HF.out _ (And.right (by assumption))).mono ?_;rintro e w2 ⟨ao,c,rfl,hb2,hpr⟩;try ((with_reducible have hD:=hpr bV (.slice none 0 0) (kH w6));obtain⟨d0,d1,d2,d3,d4,d5,d6⟩:=hD.cell;have q0:=hD.free 0;have q1:=hD.free 1;have q2:=hD.free 2;have q3:=hD.free 3;have q4:=hD.free 4;have q5:=hD.free 5;have q6:=hD.free 6;have hD':Hid (dP w6.heap.size bV (.slice none 0 0) w2):=hD;clear hD);clear hpr))
      all_goals
       go_wp2_with fail;go_meet;first|with_reducible exact gK hb2|with_reducible exact jG hb2 hD'
     case rest=>
      obtain⟨E,ao,c,rfl,rfl,hE,hEl,qz⟩:=hcut;have n8:=n6.later qz;have IA:PB p C wc:=PB.below GV qz;have YE:=ZQ.below qz;have pV:fd=true->y.Ok:=λh=>by
       have:=nR n6.nn.cr.tb.ok p.dest s6.now;rw[hy]at this;rcases this with h1|h1
       ·exact h1
       ·rw[h]at h1;cases h1
      unfold St.asked at hs2;rw[hy]at hs2;dsimp only at hs2;have R_:=mI.trans (.below qz);have za:s6.aI.length<=1000000:=by have:=Sm.aI;omega
      have Dc:s6.aM.length<=1000000:=by have:=Sm.aM;omega
      have hS:HC N B g6.x.T C s6.me s6.seq s6.bR s6.now p wc.drew:=HC.vO n8 IA;have NZ:dP E y (.slice ao y.bG.length c) wc.drew:=hE;have n9:=n8.drew;have GU:PB p C wc.drew:=IA;have YD:eT wc.drew p []:=YE.below (aR _ _).drew;have uW:=R_.trans (.below (aR _ _).drew);clear HF GV n6 qz mI hE n8 IA YE R_;by_cases pY:p.dest=s6.me
      ·have hbe:(p.dest==s6.me)=true:=by simpa using pY
       rw[aO pY]at hs2;clear pY;go_wp2_with fail;go_region_held3 (HC N B g6.x.T C s6.me s6.seq s6.bR s6.now p) (first|with_reducible exact hS|with_reducible assumption) (fail)
       rename_i iw;clear iw hS;generalize World.drew _=W9 at n9 GU YD uW NZ ⊢;have HX:=hide (uP n9 p hq Sm.me Sm.seq za Dc);rw[hs2]at HX;dsimp only[aC.val]at HX;obtain⟨p0,p1,p2,p3,p4,p5,p6,p7,p8,p9,jg,ja⟩:=PB.cell GU;clear GU;go_wp2_with fail;refine aN HX.out ?_;rintro e w9 ⟨rfl,hN⟩;obtain⟨g9,n9,u9,t9⟩:=hN;go_wp2;go_returns;exact⟨rfl,g9,n9,uW.trans u9,t9.out.trans t63.out⟩
      ·have hbe:(p.dest==s6.me)=false:=by simpa using pY
       rw[aD pY]at hs2;go_wp2_with fail;go_region_held3 (HC N B g6.x.T C s6.me s6.seq s6.bR s6.now p) (first|with_reducible exact hS|with_reducible assumption) (fail)
       rename_i iw;clear iw hS;generalize World.drew _=W9 at n9 GU YD uW NZ ⊢;obtain⟨p0,p1,p2,p3,p4,p5,p6,p7,p8,p9,jg,ja⟩:=PB.cell GU;obtain⟨e0,e1,e2,e3,e4,e5,e6⟩:=NZ.cell;clear GU NZ;by_cases hfo:(fd&&(p.unk||decide (y.seq>=p.bC)))=true
       ·rw[aO hfo]at hs2;have xg:fd=true:=by revert hfo;cases fd<;>simp
        subst xg;have hyk:=pV rfl;have HX:=hide (qY n9 p hq y hyk ao y.bG.length c (by have:=Sm.now;unfold zP;omega) za Dc);rw[hs2]at HX;dsimp only[aC.val,GK]at HX;cases hun:p.unk
        ·rw[hun,Bool.true_and,Bool.false_or]at hfo;have hge:decide (p.bC<=y.seq)=true:=hfo;rw[hun]at HX p3;go_wp2_with fail;refine aN HX.out ?_;rintro e w9 ⟨rfl,hN⟩;obtain⟨g9,n9,u9,t9⟩:=hN;go_wp2;go_returns;exact⟨rfl,g9,n9,uW.trans u9,t9.out.trans t63.out⟩
        ·rw[hun]at HX p3;go_wp2_with fail;refine aN HX.out ?_;rintro e w9 ⟨rfl,hN⟩;obtain⟨g9,n9,u9,t9⟩:=hN;go_wp2;go_returns;exact⟨rfl,g9,n9,uW.trans u9,t9.out.trans t63.out⟩
       ·rw[aD hfo]at hs2;have Qy:fd=false∨(fd=true∧p.unk=false∧decide (p.bC<=y.seq)=false):=by
         revert hfo
         cases fd<;>cases p.unk<;>simp
        by_cases htl:p.ttl=1
        ·have hbt:(p.ttl==1)=true:=by simpa using htl
         rw[aO htl]at hs2;clear htl;have HX:=hide (iV n9 4 Dc);rw[hs2]at HX;rcases Qy with rfl|⟨rfl,hun,hge⟩
         ·
          go_wp2_with fail;refine aN HX.out ?_;rintro e w9 ⟨rfl,hN⟩;obtain⟨g9,n9,u9,t9⟩:=hN;go_wp2;go_returns;exact⟨rfl,g9,n9,uW.trans u9,t9.out.trans t63.out⟩
         ·rw[hun]at p3;go_wp2_with fail;refine aN HX.out ?_;rintro e w9 ⟨rfl,hN⟩;obtain⟨g9,n9,u9,t9⟩:=hN;go_wp2;go_returns;exact⟨rfl,g9,n9,uW.trans u9,t9.out.trans t63.out⟩
        ·have hbt:(p.ttl==1)=false:=by simpa using htl
         rw[aD htl]at hs2;have HX:=hide (KT n9 p hq YD za);rw[hs2]at HX;dsimp only[aC.val]at HX;rcases Qy with rfl|⟨rfl,hun,hge⟩
         ·
          go_wp2_with fail;refine aN HX.out ?_;rintro e w9 ⟨rfl,hN⟩;obtain⟨g9,n9,u9,t9⟩:=hN;go_wp2;go_returns;exact⟨rfl,g9,n9,uW.trans u9,t9.out.trans t63.out⟩
         ·rw[hun]at HX p3;go_wp2_with fail;refine aN HX.out ?_;rintro e w9 ⟨rfl,hN⟩;obtain⟨g9,n9,u9,t9⟩:=hN;go_wp2;go_returns;exact⟨rfl,g9,n9,uW.trans u9,t9.out.trans t63.out⟩
    ·have b3:(E2==3)=false:=by simpa using h3
     rw[aD h3]at hs2;have ZQ:=UW;clear Ah UN UW;obtain⟨⟨y,fd⟩,hy⟩:∃r,bJ s4.A p.dest s4.now=r:=⟨_,rfl⟩;have HF:=hide (mV n4 p.dest s4.now hde hy);go_wp2_with fail;go_cut [9,10]from 82 to 95 (ny y fd w4)
     case first=>
      have hS:HB N B g4.x.T C s4.me s4.seq s4.bR s4.now p w4 w4.drew:=HB.drew (HB.mk' n4 lC (aR _ _));have hkB:=hide λW5 h5=>HB.mk' (W:=W5) n4 lC h5;go_region_held3 (HB N B g4.x.T C s4.me s4.seq s4.bR s4.now p w4) (first|with_reducible exact hS|with_reducible assumption|(with_reducible apply HB.uo hkB;assumption)|(with_reducible apply HB.jR hkB;assumption)|(with_reducible apply HB.dW hkB)|(with_reducible apply hkB.out;assumption)) ((go_at_call 79;refine(HF.out _ (And.right (by assumption))).mono ?_;rintro e w2 ⟨ao,c,rfl,hb2,hpr⟩;try ((with_reducible have hD:=hpr bV (.slice none 0 0) (kH w4));obtain⟨d0,d1,d2,d3,d4,d5,d6⟩:=hD.cell;have q0:=hD.free 0;have q1:=hD.free 1;have q2:=hD.free 2;have q3:=hD.free 3;have q4:=hD.free 4;have q5:=hD.free 5;have q6:=hD.free 6;have hD':Hid (dP w4.heap.size bV (.slice none 0 0) w2):=hD;clear hD);clear hpr))
      all_goals
       go_wp2_with fail;go_meet;first|with_reducible exact gK hb2|with_reducible exact jG hb2 hD'
     case rest=>
      obtain⟨E,ao,c,rfl,rfl,hE,hEl,qz⟩:=hcut;have n8:=n4.later qz;have IA:PB p C wc:=PB.below lC qz;have YE:=ZQ.below qz;have pV:fd=true->y.Ok:=λh=>by
       have:=nR n4.nn.cr.tb.ok p.dest s4.now;rw[hy]at this;rcases this with h1|h1
       ·exact h1
       ·rw[h]at h1;cases h1
      unfold St.asked at hs2;rw[hy]at hs2;dsimp only at hs2;have R_:=oM.trans (.below qz);have za:s4.aI.length<=1000000:=by have:=qU.aI;omega
      have Dc:s4.aM.length<=1000000:=by have:=qU.aM;omega
      have hS:HC N B g4.x.T C s4.me s4.seq s4.bR s4.now p wc.drew:=HC.vO n8 IA;have NZ:dP E y (.slice ao y.bG.length c) wc.drew:=hE;have n9:=n8.drew;have GU:PB p C wc.drew:=IA;have YD:eT wc.drew p []:=YE.below (aR _ _).drew;have uW:=R_.trans (.below (aR _ _).drew);clear HF lC n4 qz oM hE n8 IA YE R_;by_cases pY:p.dest=s4.me
      ·have hbe:(p.dest==s4.me)=true:=by simpa using pY
       rw[aO pY]at hs2;clear pY;go_wp2_with fail;go_region_held3 (HC N B g4.x.T C s4.me s4.seq s4.bR s4.now p) (first|with_reducible exact hS|with_reducible assumption) (fail)
       rename_i iw;clear iw hS;generalize World.drew _=W9 at n9 GU YD uW NZ ⊢;have HX:=hide (uP n9 p hq qU.me qU.seq za Dc);rw[hs2]at HX;dsimp only[aC.val]at HX;obtain⟨p0,p1,p2,p3,p4,p5,p6,p7,p8,p9,jg,ja⟩:=PB.cell GU;clear GU;go_wp2_with fail;refine aN HX.out ?_;rintro e w9 ⟨rfl,hN⟩;obtain⟨g9,n9,u9,t9⟩:=hN;go_wp2;go_returns;exact⟨rfl,g9,n9,uW.trans u9,t9.out.trans t43.out⟩
      ·have hbe:(p.dest==s4.me)=false:=by simpa using pY
       rw[aD pY]at hs2;go_wp2_with fail;go_region_held3 (HC N B g4.x.T C s4.me s4.seq s4.bR s4.now p) (first|with_reducible exact hS|with_reducible assumption) (fail)
       rename_i iw;clear iw hS;generalize World.drew _=W9 at n9 GU YD uW NZ ⊢;obtain⟨p0,p1,p2,p3,p4,p5,p6,p7,p8,p9,jg,ja⟩:=PB.cell GU;obtain⟨e0,e1,e2,e3,e4,e5,e6⟩:=NZ.cell;clear GU NZ;by_cases hfo:(fd&&(p.unk||decide (y.seq>=p.bC)))=true
       ·rw[aO hfo]at hs2;have xg:fd=true:=by revert hfo;cases fd<;>simp
        subst xg;have hyk:=pV rfl;have HX:=hide (qY n9 p hq y hyk ao y.bG.length c (by have:=qU.now;unfold zP;omega) za Dc);rw[hs2]at HX;dsimp only[aC.val,GK]at HX;cases hun:p.unk
        ·rw[hun,Bool.true_and,Bool.false_or]at hfo;have hge:decide (p.bC<=y.seq)=true:=hfo;rw[hun]at HX p3;go_wp2_with fail;refine aN HX.out ?_;rintro e w9 ⟨rfl,hN⟩;obtain⟨g9,n9,u9,t9⟩:=hN;go_wp2;go_returns;exact⟨rfl,g9,n9,uW.trans u9,t9.out.trans t43.out⟩
        ·rw[hun]at HX p3;go_wp2_with fail;refine aN HX.out ?_;rintro e w9 ⟨rfl,hN⟩;obtain⟨g9,n9,u9,t9⟩:=hN;go_wp2;go_returns;exact⟨rfl,g9,n9,uW.trans u9,t9.out.trans t43.out⟩
       ·rw[aD hfo]at hs2;have Qy:fd=false∨(fd=true∧p.unk=false∧decide (p.bC<=y.seq)=false):=by
         revert hfo
         cases fd<;>cases p.unk<;>simp
        by_cases htl:p.ttl=1
        ·have hbt:(p.ttl==1)=true:=by simpa using htl
         rw[aO htl]at hs2;clear htl;have HX:=hide (iV n9 4 Dc);rw[hs2]at HX;rcases Qy with rfl|⟨rfl,hun,hge⟩
         ·
          go_wp2_with fail;refine aN HX.out ?_;rintro e w9 ⟨rfl,hN⟩;obtain⟨g9,n9,u9,t9⟩:=hN;go_wp2;go_returns;exact⟨rfl,g9,n9,uW.trans u9,t9.out.trans t43.out⟩
         ·rw[hun]at p3;go_wp2_with fail;refine aN HX.out ?_;rintro e w9 ⟨rfl,hN⟩;obtain⟨g9,n9,u9,t9⟩:=hN;go_wp2;go_returns;exact⟨rfl,g9,n9,uW.trans u9,t9.out.trans t43.out⟩
        ·have hbt:(p.ttl==1)=false:=by simpa using htl
         rw[aD htl]at hs2;have HX:=hide (KT n9 p hq YD za);rw[hs2]at HX;dsimp only[aC.val]at HX;rcases Qy with rfl|⟨rfl,hun,hge⟩
         ·
          go_wp2_with fail;refine aN HX.out ?_;rintro e w9 ⟨rfl,hN⟩;obtain⟨g9,n9,u9,t9⟩:=hN;go_wp2;go_returns;exact⟨rfl,g9,n9,uW.trans u9,t9.out.trans t43.out⟩
         ·rw[hun]at HX p3;go_wp2_with fail;refine aN HX.out ?_;rintro e w9 ⟨rfl,hN⟩;obtain⟨g9,n9,u9,t9⟩:=hN;go_wp2;go_returns;exact⟨rfl,g9,n9,uW.trans u9,t9.out.trans t43.out⟩
  ·have FR:=hcb.out;simp only[Bool.or_eq_true,qE]at FR;rw[aO FR]at hs2;subst hs2;have HD:=hide (iV n2 1 hdl);clear hcb FR hP2 hQ2;go_wp2_with fail;refine aN HD.out ?_;rintro e w3 ⟨rfl,hN⟩;go_wp2;go_returns;obtain⟨g9,n9,u9,t9⟩:=hN;exact⟨rfl,g9,n9,ua0.trans u9,t9⟩
variable{k:Int}{j:Nat}{s:St}
structure St.Inv(k:Int)(s:St):Prop where
 me:bg s.me
 seq:bg s.seq
 now:0<=s.now
 mem:∀e∈s.mem,e.dw<=s.now+1280
 dom:s.Dom
 cnt:0<=s.cnt∧s.cnt<=24
 tn:s.tn<=10000 * k
 tl:0<=s.tl∧s.tl<=10000 * k
 lk:s.lk=0
 Af:s.pc.length<=5
 yH:s.pc.Pairwise (·<=·)
 yI:∀t∈s.pc,t<=s.now
 Cn:∀q∈s.Q,q.id<=s.tl
 bd:oV s.aY
 ZB:s.aY.length<=100000
 frl:s.aI.length<=100000
 cml:s.aT.length<=100000
 drl:s.aM.length<=100000
structure St.Mid(k:Int)(j:Nat)(s:St):Prop where
 me:bg s.me
 seq:bg s.seq
 now:0<=s.now∧s.now<=4611686018427387904
 mem:∀e∈s.mem,e.dw<=s.now+1280
 dom:s.Dom
 cnt:0<=s.cnt∧s.cnt<=24+10 * j
 aY:s.aY.length<=10 * j
 bd:oV s.aY
 aI:s.aI.length<=10 * j
 aM:s.aM.length<=10 * j
 aT:s.aT.length<=10 * j
 tn:s.tn<=10000 * k+j
 tl:0<=s.tl∧s.tl<=10000 * k+j
 Af:s.pc.length<=5
 yH:s.pc.Pairwise (·<=·)
 yI:∀t∈s.pc,t<=s.now
 Cn:∀q∈s.Q,q.id<=s.tl
theorem St.Mid.fine(h:s.Mid k j)(hj:j<=50000):s.NP:=
 ⟨h.me,h.seq,h.now,h.mem,by have:=h.aI;omega,by have:=h.aM;omega,by have:=h.aT;omega⟩
theorem K5(s:St)(hA:s.A.length<=8):s.write.aY.length<=s.aY.length+9∧0<=s.write.cnt - s.cnt∧s.write.cnt<=s.cnt+9:=by
 have h:=nL s.seq s.own s.f s.A;refine⟨?_,?_,?_⟩
 ·show(s.aY++_).length<=_;rw[bZ];omega
 ·show 0<=s.cnt+_ - s.cnt;omega
 ·show s.cnt+_<=s.cnt+9;omega
theorem vD(h:s.Mid k j)(hA:∀y∈s.A,y.Ok)(hl:s.A.length<=8):s.write.Mid k (j+1):=by
 obtain⟨w1,w2,w3⟩:=K5 s hl;have c:=h.cnt;exact⟨h.me,h.seq,h.now,h.mem,BK h.dom hA h.seq,by omega,by have:=h.aY;omega,zW h.bd (EY h.seq s.f hA),by have:=h.aI;show s.aI.length<=_;omega,by have:=h.aM;show s.aM.length<=_;omega,by have:=h.aT;show s.aT.length<=_;omega,by have:=h.tn;show s.tn<=_;omega,by have:=h.tl;show 0<=s.tl∧s.tl<=_;omega,h.Af,h.yH,h.yI,h.Cn⟩
theorem KD{A:List Rt}(hA:∀y∈A,y.Ok)(now:Int):∀y∈iM A now,y.Ok:=by
 intro y hy;obtain⟨z,hz,rfl⟩:=dO.1 hy;unfold sF;split
 ·exact uF (hA z hz) (by simp[bg])
 ·exact hA z hz
theorem Mg(h:s.Inv k)(hA:∀y∈s.A,y.Ok)(hl:s.A.length<=8)(now:Int)(hn:s.now<=now∧now<=4611686018427387904):(s.begin now).Mid k 1:=by
 have h0:({s with now:=now,A:=iM s.A now,aY:=[],aI:=[],aT:=[],aM:=[],bq:=false}:St).Mid k 0:=
  ⟨h.me,h.seq,⟨by have:=h.now;dsimp only;omega,hn.2⟩,λe he=>by have:=h.mem e he;dsimp only;omega,⟨h.dom.mb,λd hd=>by
   obtain⟨y,hy,rfl⟩:=h.dom.on d hd;exact⟨sF now y,dO.2 ⟨y,hy,rfl⟩,lN now y⟩,h.dom.own⟩,by have:=h.cnt;dsimp only;omega,aA _,λ_ h=>(by cases h),aA _,aA _,aA _,by have:=h.tn;dsimp only;omega,by have:=h.tl;dsimp only;omega,h.Af,h.yH,λt ht=>by have:=h.yI t ht;dsimp only;omega,h.Cn⟩
 exact vD h0 (KD hA now) (by dsimp only[iM];rw[jq];exact hl)
theorem uf{i:Nat}{s':St}(h:s.Mid k j)(e:Eff i s s'):s'.Mid k (j+i):=by
 refine⟨by rw[e.me];exact h.me,e.seq h.seq,by rw[e.now];exact h.now,e.mem h.mem,⟨by rw[e.f];exact h.dom.mb,λd hd=> ?_,by rw[e.own];exact h.dom.own⟩,by rw[e.cnt];have:=h.cnt;omega,by rw[e.aY];have:=h.aY;omega,by rw[e.aY];exact h.bd,by have:=e.aI;have:=h.aI;omega,by have:=e.aM;have:=h.aM;omega,by have:=e.aT;have:=h.aT;omega,by have:=e.tn;have:=h.tn;omega,by rw[e.tl];have:=h.tl;omega,by rw[e.pc];exact h.Af,by rw[e.pc];exact h.yH,by rw[e.pc,e.now];exact h.yI,λq hq=>by rw[e.tl];exact h.Cn q (e.qs q hq)⟩;rw[e.f]at hd;obtain⟨y,hy,rfl⟩:=h.dom.on d hd;obtain⟨z,hz,e⟩:=e.sub y hy;exact⟨z,hz,e⟩
structure adu(s s':St):Prop where
 me:s'.me=s.me
 seq:s'.seq=s.seq
 bR:s'.bR=s.bR
 b_:s'.b_=s.b_
 dZ:s'.dZ=s.dZ
 A:s'.A=s.A
 mem:s'.mem=s.mem
 tn:s'.tn=s.tn
 Q:s'.Q=s.Q
 tl:s'.tl=s.tl
 pc:s'.pc=s.pc
 now:s'.now=s.now
 aI:s'.aI=s.aI
 aT:s'.aT=s.aT
 aM:s'.aM=s.aM
 lk:s'.lk=s.lk
theorem aW(s:St):adu s s.finish:=by
 unfold St.finish;split<;>exact⟨rfl,rfl,rfl,rfl,rfl,rfl,rfl,rfl,rfl,rfl,rfl,rfl,rfl,rfl,rfl,rfl⟩
theorem xN(s:St):s.cmp.length=s.A.length+1:=by
 simp only[St.cmp,dH,gQ,bZ,jq,dR,List.length_nil];omega
theorem Y3(h1:bg s.own)(h2:MB s.f)(hA:∀y∈s.A,y.Ok):oV s.cmp:=by
 intro x hx;simp only[St.cmp,dH,gQ,fA,fD,dO]at hx;rcases hx with rfl|⟨a,ha,rfl⟩
 ·unfold bg at h1;dsimp only;omega
 ·obtain⟨y,hy,rfl⟩:=ha;have h2':=(hA y hy).dest;have h3:=h2.getD y.dest;unfold bg at h2' h3;dsimp only;omega
theorem yU(h:s.Mid k j)(hj:j<=9000)(hlk:s.lk=0)(hA:∀y∈s.A,y.Ok)(hl:s.A.length<=8):s.finish.Inv (k+1):=by
 have e:=aW s;have hw:=vD h hA hl;have Kr:s.finish.Dom:=by
  have:=hw.dom;unfold St.finish;split
  ·exact⟨this.mb,this.on,this.own⟩
  ·exact this
 have hcn:0<=s.finish.cnt∧s.finish.cnt<=24:=by
  unfold St.finish;split
  ·have:=xN s.write;have h8:s.write.A.length<=8:=hl;dsimp only;omega
  ·have:=hw.cnt;omega
 have hbd:oV s.finish.aY∧s.finish.aY.length<=100000:=by
  unfold St.finish;split
  ·have h8:s.write.A.length<=8:=hl;refine⟨Y3 hw.dom.own hw.dom.mb hA,?_⟩;have:=xN s.write;dsimp only;omega
  ·have:=hw.aY;exact⟨hw.bd,by omega⟩
 exact⟨by rw[e.me];exact h.me,by rw[e.seq];exact h.seq,by rw[e.now];exact h.now.1,by rw[e.mem,e.now];exact h.mem,Kr,hcn,by rw[e.tn];have:=h.tn;omega,by rw[e.tl];have:=h.tl;omega,by rw[e.lk];exact hlk,by rw[e.pc];exact h.Af,by rw[e.pc];exact h.yH,by rw[e.pc,e.now];exact h.yI,by rw[e.Q,e.tl];exact h.Cn,hbd.1,hbd.2,by rw[e.aI];have:=h.aI;omega,by rw[e.aT];have:=h.aT;omega,by rw[e.aM];have:=h.aM;omega⟩
def dD(s:St)(TL:List Hp.Tm):Prop:=TL.Perm (s.Q.map j6)
theorem F3{Q:List Sr}(hn:Q.Pairwise λa b=>a.dest≠b.dest){q:Sr}(hq:q∈Q):Q.Perm (q::Q.filter λz=>!decide (z.dest=q.dest)):=by
 induction Q with
 |nil=>cases hq
 |cons a Q ih=>
  rw[List.pairwise_cons]at hn;rcases eF.1 hq with rfl|h
  ·have h1:Q.filter (λz=>!decide (z.dest=q.dest))=Q:=List.filter_eq_self.2 λz hz=>by simpa using(hn.1 z hz).symm
   simp[h1]
  ·have h1:=ih hn.2 h;have h2:a.dest≠q.dest:=hn.1 q h;rw[List.filter_cons_of_pos (by simpa using h2)];exact(h1.cons a).trans (.swap _ _ _)
theorem WQ{d:Int}{s2:St}{TL dG:List Hp.Tm}(h:VF d s TL s2 dG)(ht:dD s TL)(hid:TL.Pairwise λa b=>a.2.1≠b.2.1)(hn:s.Q.Pairwise λa b=>a.dest≠b.dest):dD s2 dG:=by
 unfold dD at ht ⊢;rcases h with⟨rfl,e⟩|⟨q,hq,htk,e⟩
 ·rw[e];exact ht
 ·obtain⟨hqm,rfl⟩:=iI hq;have hqt:j6 q∈TL:=ht.mem_iff.2 (dO.2 ⟨q,hqm,rfl⟩);rcases htk with⟨x,hx,hp⟩|⟨hno,_⟩
  ·have hxT:x∈TL:=hp.mem_iff.1 jo;have hxe:x=j6 q:=by
    refine Classical.byContradiction λhne=> ?_;have:∀(L:List Hp.Tm),L.Pairwise (λa b=>a.2.1≠b.2.1)->x∈L->j6 q∈L->False:=by
     intro L
     induction L with
     |nil=>intro _ h;cases h
     |cons a L ih=>
      intro hp h1 h2;rw[List.pairwise_cons]at hp;rcases eF.1 h1 with k1|k1
      ·rcases eF.1 h2 with k2|k2
       ·exact hne (k1.trans k2.symm)
       ·exact hp.1 _ k2 (k1▸hx)
      ·rcases eF.1 h2 with k2|k2
       ·exact hp.1 _ k1 ((k2▸rfl:a.2.1=(j6 q).2.1).trans hx.symm)
       ·exact ih hp.2 k1 k2
    exact this TL hid hxT hqt
   subst hxe;rw[e];have h1:=(hp.trans ht).trans ((F3 hn hqm).map j6);rw[List.map_cons]at h1;exact(List.perm_cons _).1 h1
  ·exact absurd rfl (hno _ hqt)
abbrev Xw:Go.Conc.Locks.MuLink:={lock:=49,unlock:=50,ilock:=74,iunlock:=75,lockSlow:=109,unlockSlow:=112,disable:=105,enable:=107,acquire:=108,relMerge:=110,cas32:=106,add32:=111,tMutex:=127,tIMutex:=125,tPMutex:=168,tPIMutex:=215,tPI32:=217,tUP:=219,tNoCopy:=123,tU32:=34}
theorem lm:Go.Conc.Locks.MuLib Tryz.prog Xw:=
 ⟨Tryz.func49,Tryz.func50,Tryz.func74,Tryz.func75,Tryz.func105,Tryz.func107,Tryz.func108,Tryz.func110,Tryz.func106,Tryz.func111,Tryz.underlying125,Tryz.runUnderlying125,Tryz.sizeOf125,Tryz.isAgg125,Tryz.zeroValue125,Tryz.underlying127,Tryz.runUnderlying127,Tryz.sizeOf127,Tryz.isAgg127,Tryz.zeroValue127,Tryz.underlying168,Tryz.runUnderlying168,Tryz.sizeOf168,Tryz.isAgg168,Tryz.zeroValue168,Tryz.underlying215,Tryz.runUnderlying215,Tryz.sizeOf215,Tryz.isAgg215,Tryz.zeroValue215,Tryz.underlying217,Tryz.runUnderlying217,Tryz.sizeOf217,Tryz.isAgg217,Tryz.zeroValue217,Tryz.underlying219,Tryz.runUnderlying219,Tryz.sizeOf219,Tryz.isAgg219,Tryz.zeroValue219,Tryz.underlying123,Tryz.runUnderlying123,Tryz.sizeOf123,Tryz.isAgg123,Tryz.zeroValue123,Tryz.underlying21,Tryz.runUnderlying21,Tryz.sizeOf21,Tryz.isAgg21,Tryz.zeroValue21,(by kernel_rfl)⟩
end Go.Proofs.YtakaadcpaeiccabGreat
