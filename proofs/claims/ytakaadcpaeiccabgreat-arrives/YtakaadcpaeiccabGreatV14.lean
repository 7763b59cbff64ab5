import Derived.Test.YtakaadcpaeiccabGreatV13
import Derived.Maps.RangeWalk
import Derived.Conc.MuLone
import Derived.KernelRfl
set_option maxHeartbeats 8000000
set_option maxRecDepth 100000
namespace Go.Proofs.YtakaadcpaeiccabGreat
open Go.RowKit Go.Maps
def JO(left:Lit->Bool)(f:Int->Option Int):Int->Option Int:=λk=>if left (.int .u32 k)then none else f k
theorem Oo{left:Lit->Bool}{x c:Int}(hl:left (.int .u32 x)=true){f:Int->Option Int}(hf:f x=some c)(h0:0<=c){L:List (Bool×Int×Int)}(hL:BU L=JO left f):BU (L++ [(false,x,c)])=JO (λz=>left z&&!z.sameKey (.int .u32 x)) f:=by
 rw[GK,hL]
 funext k
 unfold stepM lX JO;simp only[Bool.false_eq_true,if_false];by_cases e:k=x
 ·subst e;simp[hl,hf,Lit.sameKey];omega
 ·simp[e,Lit.sameKey]
theorem Wp{L:List (Bool×Int×Int)}(x c:Int):sD (L++ [(false,x,c)])=sD L:=by rw[Ab];rfl
theorem Iy(N:Nat)(x:mX)(f:Int->Option Int)(sz:Nat)(w:World)(hN:iI N x w)(hm:MapU w x.Mo f sz)(hmb:MB f)(hown:a_ x.own)(hsz:sz<=40000)(acD:∃l:List Int,l.length<=12∧∀a,(f a).isSome=true->a∈l):
  Calls Tryz.prog 72 #[.pointer (some ⟨N,10,none⟩)] w λe w'=>∃v' out,e=.returned v'∧kg f (some x.own) out∧w'.ownsRow w.heap.size 82 3 v' out.length (RC out)∧iI N {x with cnt:=out.length} w'∧MapU w' x.Mo f sz∧Fx (λk=>k=N) w w':=by
 obtain⟨i0,hi,hz0,hz1,hz2⟩:=info_parts qR;have hNM:=LV hN hm;have hfw:=hide acD;clear acD;have hMU:=hide hm;obtain⟨D,h1,h2,h3⟩:=hm;have h3':=(show Hid _ from h3);have acO:Hid (JO (has D) f=λ_=>none):=by
  show _=_
  funext k
  unfold JO;cases hk:f k with
  |none=>simp
  |some c=>
   rw[(h3 k (hmb k c hk).1).1,hk];rfl
 clear h3;obtain⟨n0,n2,n3,n4,n5,n6,n7,n8,n9,n10⟩:=hN.cell;have jE:Below w.heap.size w (w.alloc (aY true 0 x.own)):=bC;have hr0:(w.alloc (aY true 0 x.own)).ownsRow w.heap.size 82 3 (.slice (some ⟨w.heap.size,0,none⟩) 1 1) 1 (RC [(true,0,x.own)]):=
  ⟨rfl,.inr ⟨w.heap.size,1,_,rfl,aB _,bV w _,aB _,by decide,rfl,rfl⟩⟩
 have hN1:=hN.later jE;have Tn:Hid (MapU (w.alloc (aY true 0 x.own)) x.Mo f sz):=hMU.out.block (jE.block _ hMU.out.lt);have ho1:(w.alloc (aY true 0 x.own)).ownsMap Tryz.prog 34 (plainElem Tryz.prog 34) x.Mo sz D:=by
  obtain⟨es,clock,hb,Ft,hs,hD⟩:=h1;exact⟨es,clock,(jE.block _ (iA.1 hb).1).trans hb,Ft,hs,hD⟩
 have hs1:w.heap.size<=(w.alloc (aY true 0 x.own)).heap.size:=jE.size;dsimp only[aY]at jE hr0 hN1 ho1 Tn hs1;clear hMU;go_enter Tryz.func72,Tryz.ntmps72;go_upto_region 2 with(fail);generalize World.alloc _ _=W1 at jE hr0 hN1 ho1 Tn hs1 ⊢;clear n0 n2 n3 n4 n5 n6 n7 n8 n9 n10;obtain⟨n0,n2,n3,n4,n5,n6,n7,n8,n9,n10⟩:=hN1.cell;go_wp2_with(at_range;refine wpList_range_own _ rfl _ 115 rfl 34 34 gu Tryz.underlying115 _ x.Mo sz _ rfl ho1 ?_;intro w0 hrg0 hg0 hs0);have hb0:Below W1.heap.size W1 w0:=⟨hg0.os,hg0.tape,hg0.output,hg0.size,λk hk=>hg0.block k hk (by simp)⟩;have hNa:=hN1.later hb0;have hra:=aN hr0 hb0;have U6:Hid (MapU w0 x.Mo f sz):=Tn.out.block (hb0.block _ Tn.out.lt);have hBa:=jE.trans (hb0.mono hs1);have hza:=hb0.size;clear hN1 hr0 Tn n0 n2 n3 n4 n5 n6 n7 n8 n9 n10 h1 ho1 hb0 hg0 jE;go_frame;go_loopw [3] (λlv wr=>∃(left:Lit->Bool) (cnt:Nat) (L:List (Bool×Int×Int)),wr.ranges Tryz.prog 34 (plainElem Tryz.prog 34) x.Mo W1.heap.size sz D left cnt∧wr.ownsRow w.heap.size 82 3 lv L.length (RC L)∧Hid (BU L=JO left f)∧Hid (sD L=some x.own)∧qg L∧L.length+cnt<=sz+1∧iI N x wr∧Hid (MapU wr x.Mo f sz)∧Below w.heap.size w wr∧W1.heap.size<=wr.heap.size)
  (λ_ wr=>wr.rangeLeft x.Mo W1.heap.size)
 case atStart=>
  refine⟨_,_,[(true,0,x.own)],hrg0,hra,?_,?_,?_,?_,hNa,U6,hBa,hza⟩
  ·rw[acO.out];rfl
  ·show some (max 0 x.own)=_;have:=hown.1;rw[Int.max_eq_right this]
  ·intro z hz;simp only[fM]at hz;subst hz;unfold a_ at hown;dsimp only;omega
  ·have:=h2;simp only[List.length_singleton];omega
 case round=>
  clear hrg0 hra U6 hNa hBa hza hs0;obtain⟨left,cnt,L,hrg,hro,hmp,how,hbd,hlc,hNr,Xm,hbr,hzr⟩:=hrel;have hNl:=hNr.lt;go_wp2_with(at_next;refine wpList_next_ranges_ii _ rfl _ rfl 34 34 .u32 .u32 gu Tryz.underlying34 Tryz.underlying34 x.Mo W1.heap.size sz _ _ _ rfl hrg ?_ ?_)
  ·intro hc0 hl0;have hmf:Hid (BU L=f):=by
    show _=_;rw[hmp.out]
    funext k
    unfold JO;simp[hl0]
   clear hmp hl0;obtain⟨ao,c,hv,hH⟩:=ax hro;subst hv;have HC:Hid (Calls Tryz.prog 69 #[.slice ao L.length c] wr (adu L wr)):=vI ao L.length c L rfl (by omega) hbd (by show ∃l:List Int,_;rw[hmf.out];exact hfw.out) wr hH;have hown':=hide how;go_wp2_with fail;refine aU HC.out ?_;rintro e w5 ⟨v5,out,rfl,hcmp,hlen,hrow,hb5⟩;rw[hmf.out,how.out]at hcmp;have U4:=hNr.later hb5;have nZ:Hid (MapU w5 x.Mo f sz):=Xm.out.block (hb5.block _ Xm.out.lt);have acN:=hbr.trans (hb5.mono (dN hs1 hzr));have nD:w5.ownsRow w.heap.size 82 3 v5 out.length (RC out):=ownsRow_base_a hrow (dN hs1 hzr);obtain⟨a5,c5,hv5,_⟩:=ax hrow;subst hv5;have hcmp:=hide hcmp;clear HC hH hro hrg hNr Xm hbr hb5 hlc hbd;obtain⟨n0,n2,n3,n4,n5,n6,n7,n8,n9,n10⟩:=U4.cell;have f12:=U4.free 12;have hset:=U4.Qv (out.length:Int);have hgN:w5.grownBy (w5.setCell ⟨N,12,none⟩ (.int .i64 (out.length:Int))) (some N):=ah (aC _ (some N)) 12 _;have uo:=nD.kept hgN (.inr (aL nD U4 (λc e=>by cases e)));have hM6:Hid (MapU (w5.setCell ⟨N,12,none⟩ (.int .i64 (out.length:Int))) x.Mo f sz):=nZ.out.block (hgN.block _ nZ.out.lt (λe=>hNM (Option.some.inj e).symm));have hfx:Fx (λk=>k=N) w (w5.setCell ⟨N,12,none⟩ (.int .i64 (out.length:Int))):=aW (Fx.below acN) hgN (λi _ e=>by cases e;rfl);go_wp2_with fail;generalize World.setCell _ _ _=w6 at hset uo hM6 hfx ⊢;clear U4 nZ nD hrow acN hgN n0 n2 n3 n4 n5 n6 n7 n8 n9 n10 f12;go_wp2;go_returns;exact⟨_,out,rfl,hcmp.out,uo,hset,hM6.out,hfx⟩
  ·intro y c w1 cnt1 hwx hwc hlx hat hrg1 hlt hg1 Sy hen;have hb:=bounds_u32 hwx;have hyu:a_ y:=⟨hb.1,by have:=hb.2;omega⟩;have hc:=bounds_u32 hwc;have hcu:a_ c:=⟨hc.1,by have:=hc.2;omega⟩;have hf:f y=some c:=by
    have h3x:=h3'.out y hyu;have hsome:=h3x.1;rw[has_true_of_atKey hat]at hsome;obtain⟨z,hz⟩:=Option.isSome_iff_exists.1 hsome.symm;have h4:=h3x.2;rw[hat,hz]at h4;simp at h4;rw[hz,h4]
   have ad4:=hide (Oo hlx hf hcu.1 hmp.out);have how':=hide ((Wp y c).trans how.out);have aer:qg (L++ [(false,y,c)]):=λz hz=>by
    rcases fu.1 hz with h|h
    ·exact hbd z h
    ·rw[fM]at h;subst h;unfold a_ at hyu hcu;dsimp only;omega
   obtain⟨es,clock,since,seen,c0,hbm,_,_,_,hbi,_⟩:=id hrg;have aac:=hro.kept hg1 (.inr (aL hro hbi (λc e=>by cases e)));have afE:=hN.lt;have hN1:=hNr.kept hg1 (λe=>by have:=Option.some.inj e;omega);have hM1:Hid (MapU w1 x.Mo f sz):=Xm.out.block (hg1.block _ Xm.out.lt (λe=>hrg.ne (Option.some.inj e).symm));have hb1:Below w.heap.size w w1:=⟨hg1.os.trans hbr.os,hg1.tape.trans hbr.tape,hg1.output.trans hbr.output,dN hbr.size hg1.size,λk hk=>(hg1.block k (fZ hk hbr.size) (λe=>by have:=Option.some.inj e;omega)).trans (hbr.block k hk)⟩;have hme:=(show Hid (cnt1<wr.rangeLeft x.Mo W1.heap.size)from by show _<_;rw[hrg.left_eq];exact hlt);have ae9:W1.heap.size<=w1.heap.size:=by have:=hg1.size;omega
   have hln:L.length<=40001:=by omega
   have aea:L.length+1+cnt1<=sz+1:=by omega
   have jE:Below w1.heap.size w1 (w1.alloc (aY false y c)):=bC;have hcr:=kX w1 false y c;have hkw:KeepsWalks w1 (w1.alloc (aY false y c)):=KeepsWalks.alloc _ _;have hM2:Hid (MapU (w1.alloc (aY false y c)) x.Mo f sz):=hM1.out.block (jE.block _ hM1.out.lt);have FN:=hN1.later jE;have Oy:=aN aac jE;have hb2:=hb1.trans (jE.mono hb1.size);have hs2:w.heap.size<=w1.heap.size:=hb1.size;dsimp only[aY]at jE hcr hkw hM2 FN Oy hb2;clear hmp how hbd hro hNr Xm hbr hzr hrg hg1 Sy hlt hlc hat hf hbm hbi hlx hwx hwc hM1 hN1 hb1 hb hc;go_wp2_with(at_builtin;refine wpList_append_own_at _ rfl _ _ 79 rfl w.heap.size 82 i0 (.agg #[.bool false,.int .u32 0,.int .u32 0]) 3 12 Tryz.underlying79 hi hz0 hz1 hz2 rfl (by decide) u3 L.length (RC L) rfl (aac.alloc _) ⟨w1.heap.size,0,none⟩ 1 1 (RC [(false,y,c)]) rfl rfl hcr (nM false y c) (by unfold maxLen;omega) (by omega) ?c3 ?_)
   case c3=>simp;omega
   intro v4 W4 Dc hg4 _ _;have Ho:=hrg1.of_walks (hkw.trans (KeepsWalks.of_grownBy hg4 (λj o e ho=>by
    obtain⟨cc,hcc⟩:=aS Oy e;rw[hcc]at ho;cases ho;rfl)))
   have BL:=FN.kept hg4 (aL Oy FN (λc e=>by cases e));have Ce:Hid (MapU W4 x.Mo f sz):=hM2.out.kept hg4 (Ne.symm (DZ Oy hM2.out));have hb4:Below w.heap.size w W4:=⟨hg4.os.trans hb2.os,hg4.tape.trans hb2.tape,hg4.output.trans hb2.output,dN hb2.size hg4.size,λk hk=>(hg4.block k (fZ hk hb2.size) (λe=>by have:=(Oy.lt k e.symm).1;omega)).trans (hb2.block k hk)⟩;have hz4:W1.heap.size<=W4.heap.size:=by
    have:=hg4.size;have:=jE.size;omega
   have hfin:Hid (W4.ownsRow w.heap.size 82 3 v4 (L++ [(false,y,c)]).length (RC (L++ [(false,y,c)]))∧(L++ [(false,y,c)]).length+cnt1<=sz+1):=by
    show _∧_;rw[bU,lq];exact⟨Dc,by simpa using aea⟩
   clear hrg1 aac Oy hg4 hkw jE hcr FN hM2 hb2 Dc;go_wp2;go_roundw
   case rel=>exact⟨_,cnt1,_,Ho,hfin.out.1,ad4,how',aer,hfin.out.2,BL,Ce,hb4,hz4⟩
   case measure=>rw[Ho.left_eq];exact hme.out
variable{i j:Nat}{a b:St}
structure Eff(j:Nat)(s s':St):Prop where
 me:s'.me=s.me
 now:s'.now=s.now
 f:s'.f=s.f
 own:s'.own=s.own
 cnt:s'.cnt=s.cnt
 bg:s'.bg=s.bg
 bB:s'.bB=s.bB
 lk:s'.lk=s.lk
 tl:s'.tl=s.tl
 pc:s'.pc=s.pc
 b_:s'.b_=s.b_
 sub:∀y∈s.A,∃z∈s'.A,z.dest=y.dest
 seq:a_ s.seq->a_ s'.seq
 mem:(∀e∈s.mem,e.dF<=s.now+1280)->∀e∈s'.mem,e.dF<=s'.now+1280
 tn:s'.tn<=s.tn+j
 aF:s'.aF.length<=s.aF.length+j
 aP:s'.aP.length<=s.aP.length+j
 aO:s'.aO.length<=s.aO.length+j
 qs:∀z∈s'.Q,z∈s.Q
theorem Eff.refl(s:St):Eff 0 s s:=⟨rfl,rfl,rfl,rfl,rfl,rfl,rfl,rfl,rfl,rfl,rfl,λy h=>⟨y,h,rfl⟩,id,id,by omega,aB _,aB _,aB _,λ_ h=>h⟩
theorem Eff.trans{c:St}(p:Eff i a b)(q:Eff j b c):Eff (i+j) a c:=
 ⟨q.me.trans p.me,q.now.trans p.now,q.f.trans p.f,q.own.trans p.own,q.cnt.trans p.cnt,q.bg.trans p.bg,q.bB.trans p.bB,q.lk.trans p.lk,q.tl.trans p.tl,q.pc.trans p.pc,q.b_.trans p.b_,λy hy=>by
  obtain⟨z,hz,e⟩:=p.sub y hy;obtain⟨u,hu,e'⟩:=q.sub z hz;exact⟨u,hu,e'.trans e⟩,λh=>q.seq (p.seq h),λh=>q.mem (p.mem h),by have:=p.tn;have:=q.tn;omega,by have:=p.aF;have:=q.aF;omega,by have:=p.aP;have:=q.aP;omega,by have:=p.aO;have:=q.aO;omega,λz h=>p.qs z (q.qs z h)⟩
theorem Eff.mono(p:Eff i a b)(h:i<=j):Eff j a b:=
 ⟨p.me,p.now,p.f,p.own,p.cnt,p.bg,p.bB,p.lk,p.tl,p.pc,p.b_,p.sub,p.seq,p.mem,by have:=p.tn;omega,by have:=p.aF;omega,by have:=p.aP;omega,by have:=p.aO;omega,p.qs⟩
theorem gD(s:St)(r:Int):Eff 1 s (s.drop r):=⟨rfl,rfl,rfl,rfl,rfl,rfl,rfl,rfl,rfl,rfl,rfl,λy h=>⟨y,h,rfl⟩,id,id,by show s.tn<=_;omega,by show s.aF.length<=_;omega,by show(s.aP++ [r]).length<=_;simp,by show s.aO.length<=_;omega,λ_ h=>h⟩
theorem rC(s:St)(t:Int)(p:aD)(L:List (Int×Int)):Eff 1 s (s.send t p L):=⟨rfl,rfl,rfl,rfl,rfl,rfl,rfl,rfl,rfl,rfl,rfl,λy h=>⟨y,h,rfl⟩,id,id,by show s.tn<=_;omega,by show(s.aF++ [_]).length<=_;simp,by show s.aP.length<=_;omega,by show s.aO.length<=_;omega,λ_ h=>h⟩
theorem WN(t:Int)(L:List (Int×Int)):(P7 t L).length<=1:=by
 unfold P7;split<;>simp
theorem rD(s:St)(t:Int)(L:List (Int×Int)):Eff 1 s (s.lose t L):=⟨rfl,rfl,rfl,rfl,rfl,rfl,rfl,rfl,rfl,rfl,rfl,λy h=>⟨y,h,rfl⟩,id,id,by show s.tn<=_;omega,by show(s.aF++P7 t L).length<=_;have:=WN t L;simp;omega,by show s.aP.length<=_;omega,by show s.aO.length<=_;omega,λ_ h=>h⟩
theorem qc(s:St){A:List Rt}(h:∀y∈s.A,∃z∈A,z.dest=y.dest):Eff 0 s {s with A:=A}:=⟨rfl,rfl,rfl,rfl,rfl,rfl,rfl,rfl,rfl,rfl,rfl,h,id,id,by show s.tn<=_;omega,aB _,aB _,aB _,λ_ h=>h⟩
theorem qF(A:List Rt)(d:Int)(f:Rt->Rt)(hf:∀y,(f y).dest=y.dest):∀y∈A,∃z∈gK A d f,z.dest=y.dest:=by
 intro y hy;refine⟨if y.dest=d then f y else y,dW.2 ⟨y,hy,rfl⟩,?_⟩;split
 ·exact hf y
 ·rfl
theorem qE(A:List Rt)(d e:Int):∀y∈A,∃z∈gU A d e,z.dest=y.dest:=qF A d _ (ol e)
theorem qG(A:List Rt)(d n:Int):∀y∈A,∃z∈kM A d n,z.dest=y.dest:=qF A d _ (mH n)
theorem Nl(A:List Rt)(fr d q:Int):∀y∈A,∃z∈gN A fr d q,z.dest=y.dest:=qF A d _ (gB fr q)
theorem uT(me:Int)(A:List Rt)(d q h n e:Int):∀y∈A,∃z∈(fA me A d q h n e).1,z.dest=y.dest:=by
 unfold fA;split
 ·exact λy hy=>⟨y,hy,rfl⟩
 ·split
  ·split
   ·exact qF A d _ λy=>rfl
   ·exact λy hy=>⟨y,hy,rfl⟩
  ·split
   ·exact λy hy=>⟨y,hy,rfl⟩
   ·intro y hy;refine⟨y,?_,rfl⟩;unfold um;rw[<-List.take_append_drop (pos A (newR d q h n e).dest) A]at hy;rcases fu.1 hy with h|h
    ·exact fu.2 (.inl h)
    ·exact fu.2 (.inr (lU _ h))
theorem mq{A B C:List Rt}(h:∀y∈A,∃z∈B,z.dest=y.dest)(k:∀y∈B,∃z∈C,z.dest=y.dest):∀y∈A,∃z∈C,z.dest=y.dest:=λy hy=>by
 obtain⟨z,hz,e⟩:=h y hy;obtain⟨u,hu,e'⟩:=k z hz;exact⟨u,hu,e'.trans e⟩
theorem ac7(s:St)(Q:List Sr)(hQ:∀z∈Q,z∈s.Q):Eff 0 s {s with Q:=Q}:=⟨rfl,rfl,rfl,rfl,rfl,rfl,rfl,rfl,rfl,rfl,rfl,λy h=>⟨y,h,rfl⟩,id,id,by show s.tn<=_;omega,aB _,aB _,aB _,hQ⟩
theorem TJ(s:St)(l:Int):Eff 0 s {s with eu:=l}:=⟨rfl,rfl,rfl,rfl,rfl,rfl,rfl,rfl,rfl,rfl,rfl,λy h=>⟨y,h,rfl⟩,id,id,by show s.tn<=_;omega,aB _,aB _,aB _,λ_ h=>h⟩
theorem XL(s:St)(l:Int):Eff 0 s {s with bN:=l}:=⟨rfl,rfl,rfl,rfl,rfl,rfl,rfl,rfl,rfl,rfl,rfl,λy h=>⟨y,h,rfl⟩,id,id,by show s.tn<=_;omega,aB _,aB _,aB _,λ_ h=>h⟩
theorem XM(s:St){q:Int}(h:a_ s.seq->a_ q):Eff 0 s {s with seq:=q}:=⟨rfl,rfl,rfl,rfl,rfl,rfl,rfl,rfl,rfl,rfl,rfl,λy h=>⟨y,h,rfl⟩,h,id,by show s.tn<=_;omega,aB _,aB _,aB _,λ_ h=>h⟩
theorem XO(s:St)(x:Int×ByteArray):Eff 1 s {s with aO:=s.aO++ [x]}:=⟨rfl,rfl,rfl,rfl,rfl,rfl,rfl,rfl,rfl,rfl,rfl,λy h=>⟨y,h,rfl⟩,id,id,by show s.tn<=_;omega,by show s.aF.length<=_;omega,by show s.aP.length<=_;omega,by show(s.aO++ [x]).length<=_;simp,λ_ h=>h⟩
theorem GR{E:List Mm}{q:Int×Int}{dF iM:Int}{e:Mm}(h:e∈dw E q dF iM):e∈E∨e.dF=dF:=by
 have h1:e∈dK E q dF iM:=by
  unfold dw at h;split at h
  ·exact List.mem_of_mem_tail h
  ·exact h
 unfold dK at h1;rcases fu.1 h1 with h|h
 ·exact .inl (List.mem_filter.1 h).1
 ·rw[fM]at h;subst h;exact .inr rfl
theorem TI(s:St)(q:Int×Int)(iM:Int):Eff 1 s {s with mem:=dw s.mem q (s.now+1280) iM,tn:=s.tn+1}:=⟨rfl,rfl,rfl,rfl,rfl,rfl,rfl,rfl,rfl,rfl,rfl,λy h=>⟨y,h,rfl⟩,id,λh e he=>by
 rcases GR he with h1|h1
 ·exact h e h1
 ·show e.dF<=s.now+1280;omega,by show s.tn+1<=s.tn+((1:Nat):Int);omega,by show s.aF.length<=_;omega,by show s.aP.length<=_;omega,by show s.aO.length<=_;omega,λ_ h=>h⟩
theorem AX(s:St)(p:aD):Eff 1 s (s.answer p):=by
 unfold St.answer;split
 ·exact rC _ _ _ _
 ·exact gD _ _
theorem AV(s:St)(p:aD)(hp:a_ p.bA):Eff 1 s (s.iG p):=
 (XM s (q:=max s.seq p.bA) λh=>by unfold a_ at *;omega).trans (j:=1) (AX _ _)
theorem yT(s:St)(p:aD)(r:Rt):Eff 1 s (s.iy p r):=by
 refine(qc s (A:=kM (if (bE s.A p.aH s.now).2 then kM s.A p.dest (bE s.A p.aH s.now).1.next else s.A) p.aH r.next) ?_).trans (j:=1) (AX _ _);split
 ·exact mq (qG _ _ _) (qG _ _ _)
 ·exact qG _ _ _
theorem Dk(s:St)(p:aD)(hp:a_ p.bA):Eff 1 s (s.asked p):=by
 unfold St.asked;split
 ·exact AV s p hp
 ·split
  ·exact yT s p _
  ·split
   ·exact gD _ _
   ·exact rC _ _ _ _
theorem Pb(s:St)(fr:Int)(p:aD)(hp:a_ p.bA):Eff 1 s (s.learn fr p):=by
 unfold St.learn;split
 ·exact(qc s (uT _ _ _ _ _ _ _)).trans (j:=1) (gD _ _)
 ·split
  ·exact(qc s (mq (uT _ _ _ _ _ _ _) (qE _ _ _))).trans (j:=1) (Dk _ p hp)
  ·exact(qc s (uT _ _ _ _ _ _ _)).trans (j:=1) (Dk _ p hp)
theorem yS(s:St)(fr:Int)(p:aD)(hp:a_ p.bA):Eff 2 s (s.bR fr p):=by
 unfold St.bR;split
 ·exact(gD _ _).mono (by omega)
 ·exact(TI s _ _).trans (j:=1) (Pb _ fr p hp)
theorem vT(s:St)(d:Int)(t:ByteArray):Eff 1 s (s.aZ d t):=by
 unfold St.aZ;split
 ·have h1:Eff 0 s {s with eu:=(s.eu+1)%4294967296,A:=gU s.A d (s.now+3000)}:=(TJ s ((s.eu+1)%4294967296)).trans (j:=0) (qc {s with eu:=(s.eu+1)%4294967296} (A:=gU s.A d (s.now+3000)) (qE _ _ _));exact h1.trans (j:=1) (rC {s with eu:=(s.eu+1)%4294967296,A:=gU s.A d (s.now+3000)} _ _ _)
 ·exact(Eff.refl s).mono (by omega)
theorem O_(s:St)(d:Int)(L:List ByteArray):Eff L.length s (L.foldl (λs t=>s.aZ d t) s):=by
 induction L generalizing s with
 |nil=>exact Eff.refl s
 |cons t L ih=>
  rw[gZ];exact((vT s d t).trans (ih _)).mono (by simp;omega)
theorem Vx(s:St)(d:Int)(L:List ByteArray):(L.foldl (λs t=>s.aZ d t) s).Q=s.Q:=by
 induction L generalizing s with
 |nil=>rfl
 |cons t L ih=>
  rw[gZ,ih];unfold St.aZ;split<;>rfl
theorem nS(s:St)(d:Int)(h:∀q∈s.Q,q.txt.length<=4):Eff 4 s (s.sendAll d):=by
 unfold St.sendAll;split
 ·exact(Eff.refl s).mono (by omega)
 ·rename_i q hq;split
  ·have h1:=h q (jw hq).1;have h2:=((O_ s d q.txt).trans (j:=0) (ac7 _ (s.Q.filter λz=>!decide (z.dest=d)) λz hz=>by rw[Vx];exact(List.mem_filter.1 hz).1)).mono (j:=4) (by omega);exact h2
  ·exact(Eff.refl s).mono (by omega)
theorem Ij(s:St)(fr:Int)(p:aD):Eff 1 s (s.iT fr p):=by
 unfold St.iT;split
 ·exact(qc s (mq (mq (qG _ _ _) (qG _ _ _)) (qE _ _ _))).trans (j:=1) (rC _ _ _ _)
 ·exact gD _ _
theorem Cg(s:St)(fr:Int)(p:aD)(h:∀q∈s.Q,q.txt.length<=4):Eff 5 s (s.dM fr p):=by
 unfold St.dM;split
 ·exact(gD _ _).mono (by omega)
 ·have h1:=qc s (uT s.me s.A p.dest p.bA (St.far p.hops) fr (s.now+p.life));dsimp only;split
  ·exact(h1.trans (j:=1) (gD _ _)).mono (by omega)
  ·split
   ·split
    ·exact(h1.trans (j:=4) (nS {s with A:=(fA s.me s.A p.dest p.bA (St.far p.hops) fr (s.now+p.life)).1} p.dest h)).trans (j:=1) (gD _ _)
    ·exact(h1.trans (j:=4) (nS {s with A:=(fA s.me s.A p.dest p.bA (St.far p.hops) fr (s.now+p.life)).1} p.dest h)).mono (by omega)
   ·split
    ·exact(h1.trans (j:=1) (gD _ _)).mono (by omega)
    ·exact(h1.trans (j:=1) (Ij _ _ _)).mono (by omega)
theorem VK(fr:Int)(L:List (Int×Int))(z:List Rt×Bool×List (Int×Int)):∀y∈z.1,∃u∈(L.foldl (St.GV fr) z).1,u.dest=y.dest:=by
 induction L generalizing z with
 |nil=>exact λy hy=>⟨y,hy,rfl⟩
 |cons l L ih=>
  rw[gZ];refine mq ?_ (ih _);unfold St.GV;split
  ·exact Nl _ _ _ _
  ·exact λy hy=>⟨y,hy,rfl⟩
theorem E5(s:St)(fr:Int)(L:List (Int×Int)):Eff 2 s (s.iL fr L):=by
 unfold St.iL;dsimp only;have h1:=qc s (VK fr L (s.A,false,[]));split
 ·exact(h1.trans (j:=1) (rD _ _ _)).mono (by omega)
 ·exact(h1.trans (j:=2) ((gD _ _).trans (j:=1) (rD _ _ _))).mono (by omega)
theorem yA(s:St)(t d:Int):Eff 1 s (s.lD t d):=rD s t _
theorem E8(s:St)(fr:Int)(p:aD):Eff 2 s (s.dU fr p):=by
 unfold St.dU;split
 ·exact(XO s _).mono (by omega)
 ·split
  ·exact(gD _ _).mono (by omega)
  ·split
   ·have h1:=(qc s (A:=gU (gU s.A p.dest (s.now+3000)) p.aH (s.now+3000)) (mq (qE _ _ _) (qE _ _ _))).trans (j:=1) (rC {s with A:=gU (gU s.A p.dest (s.now+3000)) p.aH (s.now+3000)} (bE s.A p.dest s.now).1.next {p with ttl:=p.ttl - 1} []);exact h1.mono (by omega)
   ·have h1:=(gD s 3).trans (j:=0) (qc (s.drop 3) (A:=gK s.A p.dest St.vN) (qF _ _ _ λ_=>rfl));exact h1.trans (j:=1) (yA _ _ _)
theorem AQ(s:St)(fr:Int)(p:aD):Eff 2 s (s.fF fr p):=by
 unfold St.fF;split
 ·exact(((gD s 8).trans (j:=1) (yA _ _ _)).trans (j:=0) (XL _ _)).mono (by omega)
 ·exact(gD _ _).mono (by omega)
theorem Ik(s:St)(fr:Int)(p:aD)(L:List (Int×Int))(hp:a_ p.bA)(h:∀q∈s.Q,q.txt.length<=4):Eff 5 s (s.fD fr p L):=by
 unfold St.fD;split
 ·exact(AQ s fr p).mono (by omega)
 ·split
  ·exact(yS s fr p hp).mono (by omega)
  ·split
   ·exact Cg s fr p h
   ·split
    ·exact(E5 s fr L).mono (by omega)
    ·exact(E8 s fr p).mono (by omega)
variable{a:qh}{bg:List (Bool×Int×Int)}{aO aF:List (Int×ByteArray)}{aP:List Int}{B N:Nat}{s:St}{W:World}
theorem Nd.off{g:bI}{TL:List Hp.Tm}{W':World}(n:Nd N B g s TL W){S:Nat->Prop}(hf:Fx S W W')(hS:∀k,S k->¬Ft N g s k∧¬jL B g.a k):Nd N B g s TL W':=
 ⟨n.nn.kept λk hk=>hf.block k (n.nn.lt hk) λh=>(hS k h).1 hk,n.ac.kept λk hk=>hf.block k (n.ac.lt hk) λh=>(hS k h).2 hk,n.now,n.bB⟩
theorem Up.fresh{F F':Nat->Prop}{a b c:World}(u:Up B F F' a b){C:Nat}(h:b.grownBy c (some C))(hC:a.heap.size<=C):Up B F F' a c:=
 ⟨λk hk=>(u.sub k hk).imp_right λ⟨h1,h2⟩=>⟨h1,fZ h2 h.size⟩,h.os.trans u.os,h.tape.trans u.tape,h.output.trans u.output,dN u.size h.size,λk o ho hn hA=>by
  have h1:=u.block k o ho hn hA;exact(h.block k (aG h1) λe=>by
   have:=aG ho;have:=Option.some.inj e;omega).trans h1⟩
theorem Ec(c:Array Value):oC (.cells c 52 (0,0)):=⟨λc e=>(by cases e),λc e=>(by cases e),λc e=>(by cases e),λc e=>(by cases e),λc e=>(by cases e)⟩
theorem aa4(ha:Asc s.A)(hd:∀d,(s.f d).isSome=true->∃y∈s.A,y.dest=d)(hall:∀y∈s.A,(s.f y.dest).isSome=true):kg s.f (some s.own) s.cmp:=by
 refine⟨s.A.map (λy=>y.dest),(List.pairwise_map (f:=λy:Rt=>y.dest) (R:=λa b:Int=>a<b)).2 ha,λa=>⟨λh=> ?_,λh=> ?_⟩,rfl⟩
 ·obtain⟨y,hy,rfl⟩:=dW.1 h;exact hall y hy
 ·obtain⟨y,hy,rfl⟩:=hd a h;exact dW.2 ⟨y,hy,rfl⟩
theorem jP.reset{base:Nat}(h:jP B base a bg aF aO aP W){v:Value}{ZC:List (Bool×Int×Int)}(ho:W.ownsRow base 82 3 v ZC.length (RC ZC)):
  jP B base {a with nV:=v,bB:=true} ZC aF aO aP ((W.setCell ⟨B,1,none⟩ v).setCell ⟨B,3,none⟩ (.bool true))∧W.grownBy ((W.setCell ⟨B,1,none⟩ v).setCell ⟨B,3,none⟩ (.bool true)) (some B):=by
 have hg:=ah (ah (aC W (some B)) 1 v) 3 (.bool true);have hB:=(h.blk.Qu v).Qt true;exact⟨⟨hB,ho.kept hg (.inr (aL ho h.blk (λc e=>(by cases e)))),h.aH.kept hg (.inr (aL h.aH h.blk (λc e=>(by cases e)))),h.bO.kept hg (.inr (aL h.bO h.blk (λc e=>(by cases e)))),h.bP.kept hg (.inr (aL h.bP h.blk (λc e=>(by cases e))))⟩,hg⟩
theorem jP.DW{base:Nat}(h:jP B base a bg aF aO aP W)(b:ByteArray):
  jP B base {a with bH:=b} bg aF aO aP (W.setCell ⟨B,2,none⟩ (.string b))∧W.grownBy (W.setCell ⟨B,2,none⟩ (.string b)) (some B):=by
 have hg:=ah (aC W (some B)) 2 (.string b);exact⟨⟨h.blk.DW b,h.nV.kept hg (.inr (aL h.nV h.blk (λc e=>(by cases e)))),h.aH.kept hg (.inr (aL h.aH h.blk (λc e=>(by cases e)))),h.bO.kept hg (.inr (aL h.bO h.blk (λc e=>(by cases e)))),h.bP.kept hg (.inr (aL h.bP h.blk (λc e=>(by cases e))))⟩,hg⟩
def ae4(N B:Nat)(g:bI)(s s':St)(TL:List Hp.Tm)(w:World)(e:Ending)(w':World):Prop:=∃g',e=.returned (jg s'.bH s'.bB g'.a.aH g'.a.bO g'.a.bP)∧Nd N B g' s' TL w'∧Up B (Ft N g s) (Ft N g' s') w w'∧Hid (g'.x.T=g.x.T)
theorem oQ{g:bI}{TL:List Hp.Tm}{w:World}(n:Nd N B g s TL w)(hd:s.Dom)(hc:0<=s.cnt∧s.cnt<=900000)(hw:s.bg.length<=80000)(hbd:qg s.bg)(hq:a_ s.seq):
  Calls Tryz.prog 48 #[.pointer (some ⟨N,0,none⟩),.pointer (some ⟨B,0,none⟩)] w (ae4 N B g s s.finish TL w):=by
 have hA:=n.nn.cr.tb.ok;have hb0:Below w.heap.size w (w.alloc jy):=bC;have hC0:(w.alloc jy).heap[w.heap.size]?=some jy:=bV _ _;have kJ:¬Ft N g s w.heap.size:=n.new (aB _);have hBC:B<w.heap.size:=n.ac.blk.lt;have n0:=n.later hb0;have HW:=hide (Ye n0 hd (by omega) (by omega));obtain⟨s1,hs1⟩:∃z,s.write=z:=⟨_,rfl⟩;have hd1:s1.Dom:=by rw[<-hs1];exact Dl hd hA hq
 have hall:∀y∈s1.A,(s1.f y.dest).isSome=true:=by rw[<-hs1];exact Oh
 have Te:qg s1.bg:=by rw[<-hs1];exact Bn hbd (GD hq s.f hA)
 have hlen:=oF s.seq s.own s.f s.A;have hA8:=n.nn.cr.tb.len;have hn1:s1.bg.length<=90000:=by
  rw[<-hs1];show(s.bg++_).length<=_;rw[bU];omega
 have hc1:0<=s1.cnt∧s1.cnt<=1000000:=by
  rw[<-hs1];show 0<=s.cnt+_∧s.cnt+_<=_;omega
 obtain⟨s2,hs2⟩:∃z,s.finish=z:=⟨_,rfl⟩;rw[hs2];have w_:Hid ((if s1.cnt>24 then {s1 with bg:=s1.cmp,cnt:=s1.cmp.length,bB:=true}else s1)=s2):=by
  show _=_;rw[<-hs2,<-hs1];rfl
 rw[hs1]at HW;have hd1:=hide hd1;have hall:=hide hall;have Te:=hide Te;have hn1:=hide hn1;clear hs1 hs2 hd hc hw hbd hlen hA8 n;dsimp only[jy]at hb0 hC0 HW;go_enter Tryz.func48,Tryz.ntmps48;go_upto_region 1 with(fail);generalize World.alloc _ _=W1 at hb0 hC0 HW n0 ⊢;go_wp2_with fail;refine aU HW.out ?_;rintro e w2 ⟨rfl,g2,n2,u2,t2⟩;obtain⟨hC2,Ia⟩:=u2.keep hC0 kJ (Ec _);have I9:=(Up.below hb0:Up B (Ft N g s) (Ft N g s) w W1).trans u2;clear HW hC0 hb0 u2 n0 kJ;obtain⟨m0,m2,m3,m4,m5,m6,m7,m8,m9,m10⟩:=n2.nn.cr.nd.cell;rw[n2.nn.eq.cnt]at m10;obtain⟨b0,b1,b2,b3,b4,b5,b6⟩:=n2.ac.blk.cell;have hCg:w.heap.size<=w.heap.size:=aB _;generalize lZ:w.heap.size=C at hC2 Ia hBC hCg ⊢;replace lZ:=hide lZ;by_cases h24:s1.cnt>24
 ·have hd24:decide (24<s1.cnt)=true:=f_ (by omega);replace w_:=hide ((aI h24).symm.trans w_.out);clear h24;have hz2:=n2.nn.cr.size_le hd1.out.on;have hown:=hd1.out.own;rw[<-n2.nn.eq.own]at hown;have HC:=hide (Iy N g2.x s1.f g2.sz w2 n2.nn.cr.nd n2.nn.cr.mo hd1.out.mb hown (by omega) ⟨s1.A.map (·.dest),by have:=n2.nn.cr.tb.len;rw[gY];omega,λa ha=>by obtain⟨y,hy,e⟩:=hd1.out.on a ha;exact dW.2 ⟨y,hy,e⟩⟩);go_wp2_with fail;refine aU HC.out ?_;rintro e w3 ⟨v3,out,rfl,hcmp,hr3,Az,hM3,hf3⟩;have hout:out=s1.cmp:=by
   rw[n2.nn.eq.own]at hcmp;exact hcmp.unique (aa4 n2.nn.cr.tb.yE hd1.out.on hall.out)
  have FL:out.length<=9:=by
   rw[hout];have:=n2.nn.cr.tb.len;simp only[St.cmp,dO,iD,bU,gY,dZ,List.length_nil];omega
  clear HC hcmp;have hNA:∀k,jL B g2.a k->¬k=N:=λk hk e=>n2.ac.JM n2.nn (.inl (.inl e)) hk;have ac3:=n2.ac.kept (W':=w3) λk hk=>hf3.block k (n2.ac.lt hk) (hNA k hk);have ab7:w3.ownsRow (B+1) 82 3 v3 out.length (RC out):=ownsRow_base_a hr3 n2.base;obtain⟨ac4,hg4⟩:=ac3.reset ab7;have hB3:=ac3.blk;have aey:N≠B:=λe=>hNA B (.inl rfl) e.symm;have BL:iI N {g2.x with cnt:=out.length} ((w3.setCell ⟨B,1,none⟩ v3).setCell ⟨B,3,none⟩ (.bool true)):=Az.kept hg4 (λe=>aey (Option.some.inj e).symm);have hMB:g2.x.Mo≠B:=λe=>n2.ac.JM n2.nn (.inl (.inr (.inl rfl))) (.inl e);have Ce:MapU ((w3.setCell ⟨B,1,none⟩ v3).setCell ⟨B,3,none⟩ (.bool true)) g2.x.Mo s1.f g2.sz:=hM3.kept hg4 (λe=>hMB (Option.some.inj e));have hfx:Fx (λk=>k=N∨k=B) w2 ((w3.setCell ⟨B,1,none⟩ v3).setCell ⟨B,3,none⟩ (.bool true)):=aW (hf3.mono λ_ h=> .inl h) hg4 (λi _ e=> .inr (Option.some.inj e).symm);have hT4:MT g2.x.self g2.x.T g2.M g2.ff g2.gg s1.A ((w3.setCell ⟨B,1,none⟩ v3).setCell ⟨B,3,none⟩ (.bool true)):=n2.nn.cr.tb.kept λk hk=>hfx.block k (n2.nn.cr.tb.lt hk) (by
   rintro(rfl|rfl)
   ·exact n2.nn.cr.tb.not (λe=>by
     obtain⟨es,cl,hm⟩:=n2.nn.cr.tb.map.obj;rw[<-e,show w2.heap[k]?=_ from n2.nn.cr.nd]at hm;cases hm) n2.nn.cr.nd (rT _) hk
   ·exact n2.ac.JM n2.nn (.inl (.inr (.inr hk))) (.inl rfl))
  have hCf:((w3.setCell ⟨B,1,none⟩ v3).setCell ⟨B,3,none⟩ (.bool true)).heap[C]?=w2.heap[C]?:=hfx.block C (aG hC2) (by
   rintro(rfl|h)
   ·exact Ia (.inl (.inl rfl))
   ·omega)
  obtain⟨e1,e2,e3,e4,e5,e6,e7,e8,e9⟩:=n2.nn.eq;obtain⟨n4,u4⟩:=n2.core (s':={s1 with bg:=out,cnt:=out.length,bB:=true}) ⟨BL,Ce,hT4,n2.nn.cr.ne⟩ ac4 (hfx.mono λk h=>by
   rcases h with rfl|rfl
   ·exact .inl (.inl rfl)
   ·exact .inr (.inl rfl)) (λk hk=>hk) ⟨rfl,rfl,rfl,rfl,rfl⟩ ⟨e1,e2,e3,e4,e5,e6,e7,rfl,e9⟩ ⟨rfl,rfl,rfl,rfl,rfl⟩ n2.nn.I_ n2.now rfl
  have yt:=hCf.trans hC2;have hs4:Hid (({s1 with bg:=out,cnt:=out.length,bB:=true}:St)=s2):=by
   show _=_;rw[hout];exact w_.out
  have hb4:Hid (qg s2.bg):=by
   show qg _;rw[<-hs4.out];intro x hx;have hx':x∈out:=hx;rw[hout]at hx';simp only[St.cmp,dO,iD,fu,fM,dW]at hx';have h1:=hd1.out.own;rcases hx' with rfl|⟨a,ha,rfl⟩
   ·unfold a_ at h1;dsimp only;omega
   ·obtain⟨y,hy,rfl⟩:=ha;have h2:=(n2.nn.cr.tb.ok y hy).dest;have h3:=hd1.out.mb.getD y.dest;unfold a_ at h2 h3;dsimp only;omega
  have hl4:Hid (s2.bg.length<=90000):=by
   show _<=_;rw[<-hs4.out];show out.length<=_;omega
  rw[hs4.out]at n4 u4;have qZ:¬Ft N _ s2 C:=λh=>(u4.sub C h).elim Ia (by have:=aG hC2;omega);have pW:=I9.trans u4;have t4:Hid (({g2 with x:={g2.x with cnt:=(out.length:Int)},a:={g2.a with nV:=v3,bB:=true}}:bI).x.T=g.x.T):=t2;have aeM:B<C:=hBC;obtain⟨a3',c3',hv3,_⟩:=ax hr3;have fB1:=hB3.free 1;have fB3:=hB3.free 3;obtain⟨x0,x1,x2,x3,x4,x5,x6⟩:=hB3.cell;subst hv3;generalize ({g2 with x:={g2.x with cnt:=(out.length:Int)},a:={g2.a with nV:=.slice a3' out.length c3',bB:=true}}:bI)=g4 at n4 u4 qZ pW t4;clear n2 I9 Az hM3 hf3 hr3 ab7 ac3 ac4 hg4 hB3 BL Ce hfx hT4 hCf hC2 Ia u4 m0 m2 m3 m4 m5 m6 m7 m8 m9 m10 b0 b1 b2 b3 b4 b5 b6 e1 e2 e3 e4 e5 e6 e7 e8 e9 w_ hNA hout FL hown hz2 hall Te hn1 hd1 hs4;go_upto_region 5 with(fail);generalize World.setCell _ _ _=W4 at n4 pW yt ⊢;clear x0 x1 x2 x3 x4 x5 x6 fB1 fB3;obtain⟨b0,b1,b2,b3,b4,b5,b6⟩:=n4.ac.blk.cell;obtain⟨a7,k7,hv7,hH7⟩:=ax n4.ac.nV;rw[hv7]at b1;have HJ:=hide (qb a7 s2.bg.length k7 s2.bg rfl (by have:=hl4.out;omega) hb4.out W4 hH7);clear hv7 hH7;go_wp2_with fail;refine aU HJ.out ?_;rintro e w5 ⟨rfl,hb5⟩;have n5:=n4.later hb5;have rY:=(hb5.block C (aG yt)).trans yt;have yH:=pW.trans (.below hb5:Up B (Ft N g4 s2) (Ft N g4 s2) W4 w5);have aaM:¬jL B g4.a C:=λh=>n5.ac.kinds h rY (Ec _);clear HJ n4 pW yt hb5 b0 b1 b2 b3 b4 b5 b6;obtain⟨b0,b1,b2,b3,b4,b5,b6⟩:=n5.ac.blk.cell;have f2:=n5.ac.blk.free 2;rw[show strOfNums (bD s2.bg)=s2.bH from rfl];obtain⟨ac6,jB⟩:=n5.ac.DW s2.bH;obtain⟨n6,u6⟩:=n5.act (s':=s2) ac6 (Fx.grown jB λk e=>by cases e;exact .inl rfl) ⟨rfl,rfl,rfl,rfl,rfl,rfl,rfl,rfl,rfl,rfl,rfl,rfl,rfl,rfl,rfl⟩ n5.now n5.bB;have gX:=(jB.block C (aG rY) (λe=>by have:=Option.some.inj e;omega)).trans rY;have nI:=yH.trans u6;have kP:¬Ft N {g4 with a:={g4.a with bH:=s2.bH}} s2 C:=qZ;have Tw:¬jL B ({g4 with a:={g4.a with bH:=s2.bH}}:bI).a C:=aaM;have t6:Hid (({g4 with a:={g4.a with bH:=s2.bH}}:bI).x.T=g.x.T):=t4;have hj6:({g4 with a:={g4.a with bH:=s2.bH}}:bI).a.bH=s2.bH:=rfl;generalize ({g4 with a:={g4.a with bH:=s2.bH}}:bI)=g6 at n6 nI kP Tw t6 hj6;clear ac6 jB u6 n5 yH rY;go_upto_region 6 with(fail);generalize World.setCell _ _ _=W6 at n6 nI gX ⊢;clear b0 b1 b2 b3 b4 b5 b6 f2;obtain⟨b0,b1,b2,b3,b4,b5,b6⟩:=n6.ac.blk.cell;rw[hj6]at b2;rw[n6.bB]at b3;obtain⟨af,kf,hf,_⟩:=ax n6.ac.aH;obtain⟨ac,kc,hc,_⟩:=ax n6.ac.bO;obtain⟨ad,kd,hdd,_⟩:=ax n6.ac.bP;rw[hf]at b4;rw[hc]at b5;rw[hdd]at b6;have q0:W6.cell? ⟨C,0,none⟩=some (.string ⟨#[]⟩):=aJ _ _ 0 _ _ _ gX;have q1:W6.cell? ⟨C,1,none⟩=some (.bool false):=aJ _ _ 1 _ _ _ gX;have q2:W6.cell? ⟨C,2,none⟩=some (.slice none 0 0):=aJ _ _ 2 _ _ _ gX;have q3:W6.cell? ⟨C,3,none⟩=some (.slice none 0 0):=aJ _ _ 3 _ _ _ gX;have q4:W6.cell? ⟨C,4,none⟩=some (.slice none 0 0):=aJ _ _ 4 _ _ _ gX;have z0:=ng W6 C 0 _ _ gX;have z1:=ng W6 C 1 _ _ gX;have z2:=ng W6 C 2 _ _ gX;have z3:=ng W6 C 3 _ _ gX;have z4:=ng W6 C 4 _ _ gX;have iY:=ah (ah (ah (ah (ah (aC W6 (some C)) 0 (.string s2.bH)) 1 (.bool s2.bB)) 2 (.slice af s2.aF.length kf)) 3 (.slice ac s2.aO.length kc)) 4 (.slice ad s2.aP.length kd);have gM:(((((W6.setCell ⟨C,0,none⟩ (.string s2.bH)).setCell ⟨C,1,none⟩ (.bool s2.bB)).setCell ⟨C,2,none⟩ (.slice af s2.aF.length kf)).setCell ⟨C,3,none⟩ (.slice ac s2.aO.length kc)).setCell ⟨C,4,none⟩ (.slice ad s2.aP.length kd)).heap[C]?=some (.cells #[.string s2.bH,.bool s2.bB,.slice af s2.aF.length kf,.slice ac s2.aO.length kc,.slice ad s2.aP.length kd] 52):=by
   simp[World.setCell,d_,gX]
  have n7:=n6.off (S:=λk=>k=C) (Fx.grown iY λk e=>by cases e;rfl) (by rintro k rfl;exact⟨kP,Tw⟩);have u7:=nI.fresh iY (by rw[lZ.out];exact aB _);have aeL:C≠B:=by omega
  clear iY n6 nI;go_wp2;generalize World.setCell _ _ _=W7 at gM n7 u7 ⊢;have p0:W7.cell? ⟨C,0,none⟩=some (.string s2.bH):=aJ _ _ 0 _ _ _ gM;have p1:W7.cell? ⟨C,1,none⟩=some (.bool s2.bB):=aJ _ _ 1 _ _ _ gM;have p2:W7.cell? ⟨C,2,none⟩=some (.slice af s2.aF.length kf):=aJ _ _ 2 _ _ _ gM;have p3:W7.cell? ⟨C,3,none⟩=some (.slice ac s2.aO.length kc):=aJ _ _ 3 _ _ _ gM;have p4:W7.cell? ⟨C,4,none⟩=some (.slice ad s2.aP.length kd):=aJ _ _ 4 _ _ _ gM;refine bodyPost_ret (v:=.agg #[.string s2.bH,.bool s2.bB,.slice af s2.aF.length kf,.slice ac s2.aO.length kc,.slice ad s2.aP.length kd]) (by simp[results,Tryz.results48,go_sem,p0,p1,p2,p3,p4]) rfl ⟨g6,?_,n7,u7,t6⟩;rw[hf,hc,hdd];rfl
 ·have hd24:decide (24<s1.cnt)=false:=eU (by omega);replace w_:=hide ((ay h24).symm.trans w_.out);have hb4:Hid (qg s2.bg):=by rw[<-w_.out];exact Te
  have hl4:Hid (s2.bg.length<=90000):=by rw[<-w_.out];exact hn1
  have n4:=n2;have pW:=I9;have yt:=hC2;have qZ:=Ia;rw[w_.out]at n4 pW qZ;have t4:=t2;have aeM:=hBC;clear n2 I9 hC2 Ia w_ h24 b0 b1 b2 b3 b4 b5 b6 m0 m2 m3 m4 m5 m6 m7 m8 m9 hall Te hn1 hd1;go_upto_region 5 with(fail);clear m10;obtain⟨b0,b1,b2,b3,b4,b5,b6⟩:=n4.ac.blk.cell;obtain⟨a7,k7,hv7,hH7⟩:=ax n4.ac.nV;rw[hv7]at b1;have HJ:=hide (qb a7 s2.bg.length k7 s2.bg rfl (by have:=hl4.out;omega) hb4.out w2 hH7);clear hv7 hH7;go_wp2_with fail;refine aU HJ.out ?_;rintro e w5 ⟨rfl,hb5⟩;have n5:=n4.later hb5;have rY:=(hb5.block C (aG yt)).trans yt;have yH:=pW.trans (.below hb5:Up B (Ft N g2 s2) (Ft N g2 s2) w2 w5);have aaM:¬jL B g2.a C:=λh=>n5.ac.kinds h rY (Ec _);clear HJ n4 pW yt hb5 b0 b1 b2 b3 b4 b5 b6;obtain⟨b0,b1,b2,b3,b4,b5,b6⟩:=n5.ac.blk.cell;have f2:=n5.ac.blk.free 2;rw[show strOfNums (bD s2.bg)=s2.bH from rfl];obtain⟨ac6,jB⟩:=n5.ac.DW s2.bH;obtain⟨n6,u6⟩:=n5.act (s':=s2) ac6 (Fx.grown jB λk e=>by cases e;exact .inl rfl) ⟨rfl,rfl,rfl,rfl,rfl,rfl,rfl,rfl,rfl,rfl,rfl,rfl,rfl,rfl,rfl⟩ n5.now n5.bB;have gX:=(jB.block C (aG rY) (λe=>by have:=Option.some.inj e;omega)).trans rY;have nI:=yH.trans u6;have kP:¬Ft N {g2 with a:={g2.a with bH:=s2.bH}} s2 C:=qZ;have Tw:¬jL B ({g2 with a:={g2.a with bH:=s2.bH}}:bI).a C:=aaM;have t6:Hid (({g2 with a:={g2.a with bH:=s2.bH}}:bI).x.T=g.x.T):=t4;have hj6:({g2 with a:={g2.a with bH:=s2.bH}}:bI).a.bH=s2.bH:=rfl;generalize ({g2 with a:={g2.a with bH:=s2.bH}}:bI)=g6 at n6 nI kP Tw t6 hj6;clear ac6 jB u6 n5 yH rY;go_upto_region 6 with(fail);generalize World.setCell _ _ _=W6 at n6 nI gX ⊢;clear b0 b1 b2 b3 b4 b5 b6 f2;obtain⟨b0,b1,b2,b3,b4,b5,b6⟩:=n6.ac.blk.cell;rw[hj6]at b2;rw[n6.bB]at b3;obtain⟨af,kf,hf,_⟩:=ax n6.ac.aH;obtain⟨ac,kc,hc,_⟩:=ax n6.ac.bO;obtain⟨ad,kd,hdd,_⟩:=ax n6.ac.bP;rw[hf]at b4;rw[hc]at b5;rw[hdd]at b6;have q0:W6.cell? ⟨C,0,none⟩=some (.string ⟨#[]⟩):=aJ _ _ 0 _ _ _ gX;have q1:W6.cell? ⟨C,1,none⟩=some (.bool false):=aJ _ _ 1 _ _ _ gX;have q2:W6.cell? ⟨C,2,none⟩=some (.slice none 0 0):=aJ _ _ 2 _ _ _ gX;have q3:W6.cell? ⟨C,3,none⟩=some (.slice none 0 0):=aJ _ _ 3 _ _ _ gX;have q4:W6.cell? ⟨C,4,none⟩=some (.slice none 0 0):=aJ _ _ 4 _ _ _ gX;have z0:=ng W6 C 0 _ _ gX;have z1:=ng W6 C 1 _ _ gX;have z2:=ng W6 C 2 _ _ gX;have z3:=ng W6 C 3 _ _ gX;have z4:=ng W6 C 4 _ _ gX;have iY:=ah (ah (ah (ah (ah (aC W6 (some C)) 0 (.string s2.bH)) 1 (.bool s2.bB)) 2 (.slice af s2.aF.length kf)) 3 (.slice ac s2.aO.length kc)) 4 (.slice ad s2.aP.length kd);have gM:(((((W6.setCell ⟨C,0,none⟩ (.string s2.bH)).setCell ⟨C,1,none⟩ (.bool s2.bB)).setCell ⟨C,2,none⟩ (.slice af s2.aF.length kf)).setCell ⟨C,3,none⟩ (.slice ac s2.aO.length kc)).setCell ⟨C,4,none⟩ (.slice ad s2.aP.length kd)).heap[C]?=some (.cells #[.string s2.bH,.bool s2.bB,.slice af s2.aF.length kf,.slice ac s2.aO.length kc,.slice ad s2.aP.length kd] 52):=by
   simp[World.setCell,d_,gX]
  have n7:=n6.off (S:=λk=>k=C) (Fx.grown iY λk e=>by cases e;rfl) (by rintro k rfl;exact⟨kP,Tw⟩);have u7:=nI.fresh iY (by rw[lZ.out];exact aB _);have aeL:C≠B:=by omega
  clear iY n6 nI;go_wp2;generalize World.setCell _ _ _=W7 at gM n7 u7 ⊢;have p0:W7.cell? ⟨C,0,none⟩=some (.string s2.bH):=aJ _ _ 0 _ _ _ gM;have p1:W7.cell? ⟨C,1,none⟩=some (.bool s2.bB):=aJ _ _ 1 _ _ _ gM;have p2:W7.cell? ⟨C,2,none⟩=some (.slice af s2.aF.length kf):=aJ _ _ 2 _ _ _ gM;have p3:W7.cell? ⟨C,3,none⟩=some (.slice ac s2.aO.length kc):=aJ _ _ 3 _ _ _ gM;have p4:W7.cell? ⟨C,4,none⟩=some (.slice ad s2.aP.length kd):=aJ _ _ 4 _ _ _ gM;refine bodyPost_ret (v:=.agg #[.string s2.bH,.bool s2.bB,.slice af s2.aF.length kf,.slice ac s2.aO.length kc,.slice ad s2.aP.length kd]) (by simp[results,Tryz.results48,go_sem,p0,p1,p2,p3,p4]) rfl ⟨g6,?_,n7,u7,t6⟩;rw[hf,hc,hdd];rfl
variable{seq bN:Int}{q:Int×Int}{B C D N Q T:Nat}{p:aD}{s:St}{W a b:World}
theorem Zt(q:Int×Int):oC (fP q):=⟨λc e=>(by cases e),λc e=>(by cases e),λc e=>(by cases e),λc e=>(by cases e),λc e=>(by cases e)⟩
theorem Up.RZ{F F':Nat->Prop}(u:Up B F F' a b)(h:QB D q a)(hn:¬F D):QB D q b∧¬F' D:=u.keep h hn (Zt q)
theorem QB.later(h:QB D q a)(hb:Below a.heap.size a b):QB D q b:=(hb.block _ (aG h)).trans h
@[reducible] def HQ(N B T C Q : Nat)(me seq bN now : Int)(p : aD)(W : World): Prop :=
 HC N B T C me seq bN now p W∧W.cell? ⟨Q,0,none⟩=some (.int .u32 p.aH)∧W.cell? ⟨Q,1,none⟩=some (.int .u32 p.id)
theorem HQ.at{g:bI}{TL:List Hp.Tm}{me now:Int}(n:Nd N B g s TL W)(h:PB p C W)(hQ:QB Q (p.aH,p.id) W)(t:g.x.T=T)(h1:s.me=me)(h2:s.seq=seq)(h3:s.bN=bN)(h4:s.now=now):HQ N B T C Q me seq bN now p W:=⟨HC.at n h t h1 h2 h3 h4,hQ.cell⟩
theorem HQ.jY{g:bI}{TL:List Hp.Tm}{me now:Int}(n:Nd N B g s TL W)(h:PB p C W)(hQ:QB Q (p.aH,p.id) W)(t:g.x.T=T)(h1:s.me=me)(h2:s.seq=seq)(h3:s.bN=bN)(h4:s.now=now):HQ N B T C Q me seq bN now p W.drew:=HQ.at n.drew h hQ t h1 h2 h3 h4
theorem xU{E:List Mm}{now t:Int}(h:∀e∈E,e.dF<=now+1280){e:Mm}(he:e∈dw E q (now+1280) t):e.dF<=now+1280:=by
 have hp:∀e∈dK E q (now+1280) t,e.dF<=now+1280:=by
  intro e he;unfold dK at he;rcases fu.1 he with he|he
  ·exact h e (List.mem_filter.1 he).1
  ·rw[fM]at he;subst he;exact gP _
 unfold dw at he;split at he
 ·exact hp e (List.mem_of_mem_tail he)
 ·exact hp e he
structure St.PV(s:St):Prop where
 me:a_ s.me
 seq:a_ s.seq
 now:0<=s.now∧s.now<=4611686018427387904
 mem:∀e∈s.mem,e.dF<=s.now+1280
 aF:s.aF.length<=900000
 aP:s.aP.length<=900000
 aO:s.aO.length<=900000
theorem Co{g:bI}{TL:List Hp.Tm}{w:World}(n:Nd N B g s TL w)(hF:s.PV)(htn:s.tn<=4000000000000000000)(fr:Int)(OI:a_ fr)(p:aD)(hq:p.Hd)(hL:fH w p []):
  Calls Tryz.prog 130 #[.pointer (some ⟨N,0,none⟩),.pointer (some ⟨B,0,none⟩),.int .u32 fr,p.val] w λe w'=>e=.returned (.tuple #[])∧lT N B g s (s.bR fr p) TL w w':=by
 have hp:=hq.wf;have hfl:s.aF.length<=1000000:=by have:=hF.aF;omega
 have hdl:s.aP.length<=1000000:=by have:=hF.aP;omega
 obtain⟨hid,hde,hds,hfr,hfs,_⟩:=hp.num;have hb0:Below w.heap.size w ((w.alloc p.box).alloc (fP (p.aH,p.id))):=(bC).alloc (by simp) _;have gT:PB p w.heap.size ((w.alloc p.box).alloc (fP (p.aH,p.id))):=(((aV _ (w.alloc p.box)).alloc (aB _) _).block _ (by simp)).trans (PB.new p w);have U3:QB (w.heap.size+1) (p.aH,p.id) ((w.alloc p.box).alloc (fP (p.aH,p.id))):=by
  have:=bV (w.alloc p.box) (fP (p.aH,p.id));rw[World.size_alloc]at this;exact this
 have n0:=n.later hb0;obtain⟨s2,dB⟩:∃s2,s.bR fr p=s2:=⟨_,rfl⟩;rw[dB];replace dB:=hide dB;dsimp only[aD.box,fP]at hb0 n0;unfold PB at gT;unfold QB at U3;dsimp only[aD.box,fP]at gT U3;go_enter Tryz.func130,Tryz.ntmps130;go_upto_region 2 with(fail);generalize World.alloc (World.alloc _ _) _=W1 at hb0 gT U3 n0 ⊢;have kJ:=n.new (k:=w.heap.size) (aB _);have hQn:=n.new (k:=w.heap.size+1) (Nat.le_succ _);generalize w.heap.size+1=Q at U3 hQn ⊢;generalize lZ:w.heap.size=C at gT kJ ⊢;replace lZ:=hide lZ;have hs2:=dB.out;unfold St.bR at hs2;have HH:=hide λW5 (h5:Below W1.heap.size W1 W5)=>Pw (n0.later h5) (p.aH,p.id) ⟨hfr,hid⟩ s.now hF.now.1;obtain⟨cb,hcb⟩:∃cb,(decide (p.aH=s.me)||iR s.mem (p.aH,p.id) s.now)=cb:=⟨_,rfl⟩;replace hcb:=hide hcb;go_cut [33]from 16 to 32 (λbv W=>bv=.bool cb∧Below W1.heap.size W1 W)
 case first=>
  obtain⟨⟨⟨m0,m1,m2,m3,m4⟩,p0,p1,p2,p3,p4,p5,p6,p7,p8,p9,iK,je⟩,q0,q1⟩:=HQ.at n0 gT U3 rfl rfl rfl rfl rfl;have hbd:Below W1.heap.size W1 W1.drew:=(aV _ _).drew;by_cases hse:p.aH=s.me
  ·have hbe:(p.aH==s.me)=true:=by simpa using hse
   obtain rfl:true=cb:=by rw[<-hcb.out,f_ hse];rfl
   clear hse HH p0 p1 p2 p3 p5 p6 p8 p9 iK je m1 m2 m3;go_region
   all_goals
    go_wp2_with fail;go_meet;exact⟨rfl,hbd⟩
  ·have hbe:(p.aH==s.me)=false:=by simpa using hse
   have hd:iR s.mem (p.aH,p.id) s.now=cb:=by rw[<-hcb.out,eU hse];rfl
   rw[hd]at HH;dsimp only[jX]at HH;clear hd hse p0 p1 p2 p3 p5 p6 p8 p9 iK je m1 m2 m3;go_region_law (first|(go_simp;go_at_call 160;refine(HH.out _ hbd).mono ?_;rintro e w2 ⟨rfl,hb2⟩))
   all_goals
    go_wp2_with fail;go_meet;exact⟨rfl,hbd.trans (hb2.mono hbd.size)⟩
 case rest=>
  obtain⟨rfl,hb2⟩:=hcut;have di:=hF.now;have n2:=n0.later hb2;have hP2:PB p C wc:=PB.below gT hb2;have hQ2:QB Q (p.aH,p.id) wc:=QB.later U3 hb2;have ua0:Up B (Ft N g s) (Ft N g s) w wc:=.below (hb0.trans (hb2.mono hb0.size));have hLq:=hL.below (hb0.trans (hb2.mono hb0.size));clear HH gT U3 n0 hb0 hb2 dB lZ;cases cb
  ·have H9:=hcb.out;simp only[Bool.or_eq_false_iff,decide_eq_false_iff_not]at H9;rw[ay (by rintro(h|h);exact H9.1 h;rw[H9.2]at h;cases h)]at hs2;clear hcb H9;have HA:Hid (∀t,t=s.now+1280->Calls Tryz.prog 156 #[.pointer (some ⟨N,8,none⟩),.agg #[.int .u32 p.aH,.int .u32 p.id],.int .u64 t] wc.drew λe w'=>e=.returned (.tuple #[])∧lT N B g s {s with mem:=dw s.mem (p.aH,p.id) (s.now+1280) s.tn,tn:=s.tn+1} TL wc.drew w'):=by
    rintro _ rfl;exact Px n2.drew (p.aH,p.id) ⟨hfr,hid⟩ (s.now+1280) (by omega) hF.mem (by omega)
   have hS:HQ N B g.x.T C Q s.me s.seq s.bN s.now p wc.drew:=HQ.jY n2 hP2 hQ2 rfl rfl rfl rfl rfl;go_wp2_with fail;go_region_held3 (HQ N B g.x.T C Q s.me s.seq s.bN s.now p) (first|with_reducible exact hS|with_reducible assumption) ((go_at_call 156;refine(HA.out _ (by first|rfl|exact mK di (by decide))).mono ?_;rintro e w3 ⟨rfl,hN⟩;obtain⟨g3,n3,u3,t3⟩:=hN;obtain⟨hP3,OV⟩:=u3.kE hP2 kJ;obtain⟨MF,aaG⟩:=u3.RZ hQ2 hQn;have hk3:HQ N B g.x.T C Q s.me s.seq s.bN s.now p w3:=HQ.at n3 hP3 MF t3.out rfl rfl rfl rfl))
   clear hS hk3;rename_i iZ;clear iZ;have PZ:=(ua0.trans (.below (aV _ _).drew)).trans u3;obtain⟨s1,hs1⟩:∃s1,({s with mem:=dw s.mem (p.aH,p.id) (s.now+1280) s.tn,tn:=s.tn+1}:St)=s1:=⟨_,rfl⟩;have hF1:s1.PV:=by
    rw[<-hs1];refine⟨hF.me,hF.seq,hF.now,λe he=> ?_,hF.aF,hF.aP,hF.aO⟩;exact xU hF.mem he
   have acS:fH w3 p []:=hLq.nil;rw[hs1]at n3 PZ OV aaG hs2;clear hs1 HA ua0 hLq n2 hQ2 hP2;unfold St.learn at hs2;have Mh:=hF1.now;obtain⟨u,hu⟩:∃u,fA s1.me s1.A p.aH p.dQ (St.far p.hops) fr (s1.now+3000)=u:=⟨_,rfl⟩;have HU:Hid (∀t,t=s1.now+3000->Calls Tryz.prog 161 #[.pointer (some ⟨g3.x.T,0,none⟩),.int .u32 p.aH,.int .u32 p.dQ,.int .i64 (St.far p.hops),.int .u32 fr,.int .u64 t] w3.drew λr w'=>r=.returned (.int .i64 u.2)∧lT N B g3 s1 {s1 with A:=u.1} TL w3.drew w'):=by
    rintro _ rfl;have:=IQ n3.drew p.aH p.dQ (St.far p.hops) fr (s1.now+3000) hfr hfs (by have:=hq.hops;unfold oV St.far;omega) OI (by unfold Be;omega);rw[hu]at this;exact this
   rw[hu]at hs2;obtain⟨A2,E2⟩:=u;dsimp only at hs2 HU;clear hu;have hS:HQ N B g3.x.T C Q s1.me s1.seq s1.bN s1.now p w3.drew:=HQ.jY n3 hP3 MF rfl rfl rfl rfl rfl;go_wp2_with fail;go_region_held3 (HQ N B g3.x.T C Q s1.me s1.seq s1.bN s1.now p) (first|with_reducible exact hS|with_reducible assumption) (first
    |(go_at_call 162;refine(vQ p.hops hq.hops _).mono ?_;rintro e w3f ⟨rfl,rfl⟩)
    |(go_at_call 161;refine(HU.out _ (by first|rfl|exact mK Mh (by decide))).mono ?_;rintro e w4 ⟨rfl,hN⟩;obtain⟨g4,n4,u4,t4⟩:=hN;obtain⟨l_,qZ⟩:=u4.kE hP3 OV;obtain⟨BJ,Xk⟩:=u4.RZ MF aaG;have hk4:HQ N B g3.x.T C Q s1.me s1.seq s1.bN s1.now p w4:=HQ.at n4 l_ BJ t4.out rfl rfl rfl rfl))
   clear hS;rename_i iZ;clear iZ;have pW:=(PZ.trans (.below (aV _ _).drew)).trans u4;have t43:Hid (g4.x.T=g.x.T):=t4.out.trans t3.out;obtain⟨s4,hs4⟩:∃s4,({s1 with A:=A2}:St)=s4:=⟨_,rfl⟩;have sU:s4.PV:=by
    rw[<-hs4];exact⟨hF1.me,hF1.seq,hF1.now,hF1.mem,hF1.aF,hF1.aP,hF1.aO⟩
   have Xo:fH w4 p []:=acS.nil;have acs:Hid (s4.now=s1.now):=by show _=_;rw[<-hs4]
   have hA4:({s1 with A:=gU A2 p.aH (s1.now+3000)}:St)={s4 with A:=gU s4.A p.aH (s1.now+3000)}:=by rw[<-hs4]
   rw[hs4,hA4]at hs2;rw[hs4]at n4 pW qZ Xk;clear hs4 hA4 PZ u4 hk4 n3 hP3 MF OV aaG HU acS u3 hF1;by_cases h4:E2=4
   ·subst h4;rw[aI rfl]at hs2;have HX:=hide (jJ n4 2 (by have:=sU.aP;omega));rw[hs2]at HX;go_wp2_with fail;refine aU HX.out ?_;rintro e w9 ⟨rfl,hN⟩;obtain⟨g9,n9,u9,t9⟩:=hN;go_wp2;go_returns;exact⟨rfl,g9,n9,pW.trans u9,t9.out.trans t43⟩
   ·have b4:(E2==4)=false:=by simpa using h4
    rw[ay h4]at hs2;by_cases h3:E2=3
    ·subst h3;rw[aI rfl]at hs2;have HV:Hid (∀t,t=s1.now+3000->Calls Tryz.prog 81 #[.pointer (some ⟨g4.x.T,0,none⟩),.int .u32 p.aH,.int .u64 t] w4.drew λr w'=>r=.returned (.tuple #[])∧lT N B g4 s4 {s4 with A:=gU s4.A p.aH (s1.now+3000)} TL w4.drew w'):=by
      rintro _ rfl;exact M5 n4.drew p.aH (s1.now+3000) hfr (by unfold Be;omega)
     have hS:HQ N B g4.x.T C Q s4.me s4.seq s4.bN s1.now p w4.drew:=HQ.jY n4 l_ BJ rfl rfl rfl rfl acs.out;go_wp2_with fail;go_region_held3 (HQ N B g4.x.T C Q s4.me s4.seq s4.bN s1.now p) (first|with_reducible exact hS|with_reducible assumption) ((go_at_call 81;refine(HV.out _ (by first|rfl|exact mK Mh (by decide))).mono ?_;rintro e w6 ⟨rfl,hN⟩;obtain⟨g6,n6,u6,t6⟩:=hN;obtain⟨Jf,kP⟩:=u6.kE l_ qZ;obtain⟨hQ6,aex⟩:=u6.RZ BJ Xk;have YG:HQ N B g4.x.T C Q s4.me s4.seq s4.bN s1.now p w6:=HQ.at n6 Jf hQ6 t6.out rfl rfl rfl acs.out))
     clear hS YG;rename_i iZ;clear iZ;have nI:=(pW.trans (.below (aV _ _).drew)).trans u6;have t63:Hid (g6.x.T=g.x.T):=t6.out.trans t43.out;obtain⟨s6,hs6⟩:∃s6,({s4 with A:=gU s4.A p.aH (s1.now+3000)}:St)=s6:=⟨_,rfl⟩;have U7:s6.PV:=by
      rw[<-hs6];exact⟨sU.me,sU.seq,sU.now,sU.mem,sU.aF,sU.aP,sU.aO⟩
     have hLq:fH w6 p []:=Xo.nil;rw[hs6]at n6 nI kP hs2;clear hs6 pW u6 n4 l_ BJ qZ Xk hQ6 aex HV Xo sU b4;obtain⟨⟨y,fd⟩,hy⟩:∃r,bE s6.A p.dest s6.now=r:=⟨_,rfl⟩;have HF:=hide (nT n6 p.dest s6.now hde hy);go_wp2_with fail;go_cut [9,10]from 82 to 95 (og y fd w6)
     case first=>
      have hS:HB N B g6.x.T C s6.me s6.seq s6.bN s6.now p w6 w6.drew:=HB.drew (HB.mk' n6 Jf (aV _ _));have hkB:=hide λW5 h5=>HB.mk' (W:=W5) n6 Jf h5;go_region_held3 (HB N B g6.x.T C s6.me s6.seq s6.bN s6.now p w6) (first|with_reducible exact hS|with_reducible assumption|(with_reducible apply HB.vK hkB;assumption)|(with_reducible apply HB.kF hkB;assumption)|(with_reducible apply HB.eT hkB)|(with_reducible apply hkB.out;assumption)) ((go_at_call 79;refine(HF.out _ (And.right (by assumption))).mono ?_;rintro e w2 ⟨ao,c,rfl,hb2,hpr⟩;try ((with_reducible have hD:=hpr cZ (.slice none 0 0) (lG w6));obtain⟨d0,d1,d2,d3,d4,d5,d6⟩:=hD.cell;have q0:=hD.free 0;have q1:=hD.free 1;have q2:=hD.free 2;have q3:=hD.free 3;have q4:=hD.free 4;have q5:=hD.free 5;have q6:=hD.free 6;have hD':Hid (eD w6.heap.size cZ (.slice none 0 0) w2):=hD;clear hD);clear hpr))
      all_goals
       go_wp2_with fail;go_meet;first|with_reducible exact iw hb2|with_reducible exact j6 hb2 hD'
     case rest=>
      obtain⟨E,ao,c,rfl,rfl,hE,hEl,rX⟩:=hcut;have n8:=n6.later rX;have J6:PB p C wc:=PB.below Jf rX;have hL8:=hLq.below rX;have qU:fd=true->y.Ok:=λh=>by
       have:=oM n6.nn.cr.tb.ok p.dest s6.now;rw[hy]at this;rcases this with h1|h1
       ·exact h1
       ·rw[h]at h1;cases h1
      unfold St.asked at hs2;rw[hy]at hs2;dsimp only at hs2;have UY:=nI.trans (.below rX);have Au:s6.aF.length<=1000000:=by have:=U7.aF;omega
      have EJ:s6.aP.length<=1000000:=by have:=U7.aP;omega
      have hS:HC N B g6.x.T C s6.me s6.seq s6.bN s6.now p wc.drew:=HC.xH n8 J6;have Qa:eD E y (.slice ao y.bL.length c) wc.drew:=hE;have n9:=n8.drew;have Je:PB p C wc.drew:=J6;have hL9:fH wc.drew p []:=hL8.below (aV _ _).drew;have wH:=UY.trans (.below (aV _ _).drew);clear HF Jf n6 rX nI hE n8 J6 hL8 UY;by_cases qX:p.dest=s6.me
      ·have hbe:(p.dest==s6.me)=true:=by simpa using qX
       rw[aI qX]at hs2;clear qX;go_wp2_with fail;go_region_held3 (HC N B g6.x.T C s6.me s6.seq s6.bN s6.now p) (first|with_reducible exact hS|with_reducible assumption) (fail)
       rename_i iZ;clear iZ hS;generalize World.drew _=W9 at n9 Je hL9 wH Qa ⊢;have HX:=hide (wo n9 p hq U7.me U7.seq Au EJ);rw[hs2]at HX;dsimp only[aD.val]at HX;obtain⟨p0,p1,p2,p3,p4,p5,p6,p7,p8,p9,iK,je⟩:=PB.cell Je;clear Je;go_wp2_with fail;refine aU HX.out ?_;rintro e w9 ⟨rfl,hN⟩;obtain⟨g9,n9,u9,t9⟩:=hN;go_wp2;go_returns;exact⟨rfl,g9,n9,wH.trans u9,t9.out.trans t63.out⟩
      ·have hbe:(p.dest==s6.me)=false:=by simpa using qX
       rw[ay qX]at hs2;go_wp2_with fail;go_region_held3 (HC N B g6.x.T C s6.me s6.seq s6.bN s6.now p) (first|with_reducible exact hS|with_reducible assumption) (fail)
       rename_i iZ;clear iZ hS;generalize World.drew _=W9 at n9 Je hL9 wH Qa ⊢;obtain⟨p0,p1,p2,p3,p4,p5,p6,p7,p8,p9,iK,je⟩:=PB.cell Je;obtain⟨e0,e1,e2,e3,e4,e5,e6⟩:=Qa.cell;clear Je Qa;by_cases hfo:(fd&&(p.unk||decide (y.seq>=p.bA)))=true
       ·rw[aI hfo]at hs2;have yO:fd=true:=by revert hfo;cases fd<;>simp
        subst yO;have hyk:=qU rfl;have HX:=hide (tu n9 p hq y hyk ao y.bL.length c (by have:=U7.now;unfold Be;omega) Au EJ);rw[hs2]at HX;dsimp only[aD.val,Ja]at HX;cases hun:p.unk
        ·rw[hun,Bool.true_and,Bool.false_or]at hfo;have hge:decide (p.bA<=y.seq)=true:=hfo;rw[hun]at HX p3;go_wp2_with fail;refine aU HX.out ?_;rintro e w9 ⟨rfl,hN⟩;obtain⟨g9,n9,u9,t9⟩:=hN;go_wp2;go_returns;exact⟨rfl,g9,n9,wH.trans u9,t9.out.trans t63.out⟩
        ·rw[hun]at HX p3;go_wp2_with fail;refine aU HX.out ?_;rintro e w9 ⟨rfl,hN⟩;obtain⟨g9,n9,u9,t9⟩:=hN;go_wp2;go_returns;exact⟨rfl,g9,n9,wH.trans u9,t9.out.trans t63.out⟩
       ·rw[ay hfo]at hs2;have SY:fd=false∨(fd=true∧p.unk=false∧decide (p.bA<=y.seq)=false):=by
         revert hfo
         cases fd<;>cases p.unk<;>simp
        by_cases htl:p.ttl=1
        ·have hbt:(p.ttl==1)=true:=by simpa using htl
         rw[aI htl]at hs2;clear htl;have HX:=hide (jJ n9 4 EJ);rw[hs2]at HX;rcases SY with rfl|⟨rfl,hun,hge⟩
         ·
          go_wp2_with fail;refine aU HX.out ?_;rintro e w9 ⟨rfl,hN⟩;obtain⟨g9,n9,u9,t9⟩:=hN;go_wp2;go_returns;exact⟨rfl,g9,n9,wH.trans u9,t9.out.trans t63.out⟩
         ·rw[hun]at p3;go_wp2_with fail;refine aU HX.out ?_;rintro e w9 ⟨rfl,hN⟩;obtain⟨g9,n9,u9,t9⟩:=hN;go_wp2;go_returns;exact⟨rfl,g9,n9,wH.trans u9,t9.out.trans t63.out⟩
        ·have hbt:(p.ttl==1)=false:=by simpa using htl
         rw[ay htl]at hs2;have HX:=hide (M7 n9 p hq hL9 Au);rw[hs2]at HX;dsimp only[aD.val]at HX;rcases SY with rfl|⟨rfl,hun,hge⟩
         ·
          go_wp2_with fail;refine aU HX.out ?_;rintro e w9 ⟨rfl,hN⟩;obtain⟨g9,n9,u9,t9⟩:=hN;go_wp2;go_returns;exact⟨rfl,g9,n9,wH.trans u9,t9.out.trans t63.out⟩
         ·rw[hun]at HX p3;go_wp2_with fail;refine aU HX.out ?_;rintro e w9 ⟨rfl,hN⟩;obtain⟨g9,n9,u9,t9⟩:=hN;go_wp2;go_returns;exact⟨rfl,g9,n9,wH.trans u9,t9.out.trans t63.out⟩
    ·have b3:(E2==3)=false:=by simpa using h3
     rw[ay h3]at hs2;have hLq:=Xo;clear BJ Xk Xo;obtain⟨⟨y,fd⟩,hy⟩:∃r,bE s4.A p.dest s4.now=r:=⟨_,rfl⟩;have HF:=hide (nT n4 p.dest s4.now hde hy);go_wp2_with fail;go_cut [9,10]from 82 to 95 (og y fd w4)
     case first=>
      have hS:HB N B g4.x.T C s4.me s4.seq s4.bN s4.now p w4 w4.drew:=HB.drew (HB.mk' n4 l_ (aV _ _));have hkB:=hide λW5 h5=>HB.mk' (W:=W5) n4 l_ h5;go_region_held3 (HB N B g4.x.T C s4.me s4.seq s4.bN s4.now p w4) (first|with_reducible exact hS|with_reducible assumption|(with_reducible apply HB.vK hkB;assumption)|(with_reducible apply HB.kF hkB;assumption)|(with_reducible apply HB.eT hkB)|(with_reducible apply hkB.out;assumption)) ((go_at_call 79;refine(HF.out _ (And.right (by assumption))).mono ?_;rintro e w2 ⟨ao,c,rfl,hb2,hpr⟩;try ((with_reducible have hD:=hpr cZ (.slice none 0 0) (lG w4));obtain⟨d0,d1,d2,d3,d4,d5,d6⟩:=hD.cell;have q0:=hD.free 0;have q1:=hD.free 1;have q2:=hD.free 2;have q3:=hD.free 3;have q4:=hD.free 4;have q5:=hD.free 5;have q6:=hD.free 6;have hD':Hid (eD w4.heap.size cZ (.slice none 0 0) w2):=hD;clear hD);clear hpr))
      all_goals
       go_wp2_with fail;go_meet;first|with_reducible exact iw hb2|with_reducible exact j6 hb2 hD'
     case rest=>
      obtain⟨E,ao,c,rfl,rfl,hE,hEl,rX⟩:=hcut;have n8:=n4.later rX;have J6:PB p C wc:=PB.below l_ rX;have hL8:=hLq.below rX;have qU:fd=true->y.Ok:=λh=>by
       have:=oM n4.nn.cr.tb.ok p.dest s4.now;rw[hy]at this;rcases this with h1|h1
       ·exact h1
       ·rw[h]at h1;cases h1
      unfold St.asked at hs2;rw[hy]at hs2;dsimp only at hs2;have UY:=pW.trans (.below rX);have Au:s4.aF.length<=1000000:=by have:=sU.aF;omega
      have EJ:s4.aP.length<=1000000:=by have:=sU.aP;omega
      have hS:HC N B g4.x.T C s4.me s4.seq s4.bN s4.now p wc.drew:=HC.xH n8 J6;have Qa:eD E y (.slice ao y.bL.length c) wc.drew:=hE;have n9:=n8.drew;have Je:PB p C wc.drew:=J6;have hL9:fH wc.drew p []:=hL8.below (aV _ _).drew;have wH:=UY.trans (.below (aV _ _).drew);clear HF l_ n4 rX pW hE n8 J6 hL8 UY;by_cases qX:p.dest=s4.me
      ·have hbe:(p.dest==s4.me)=true:=by simpa using qX
       rw[aI qX]at hs2;clear qX;go_wp2_with fail;go_region_held3 (HC N B g4.x.T C s4.me s4.seq s4.bN s4.now p) (first|with_reducible exact hS|with_reducible assumption) (fail)
       rename_i iZ;clear iZ hS;generalize World.drew _=W9 at n9 Je hL9 wH Qa ⊢;have HX:=hide (wo n9 p hq sU.me sU.seq Au EJ);rw[hs2]at HX;dsimp only[aD.val]at HX;obtain⟨p0,p1,p2,p3,p4,p5,p6,p7,p8,p9,iK,je⟩:=PB.cell Je;clear Je;go_wp2_with fail;refine aU HX.out ?_;rintro e w9 ⟨rfl,hN⟩;obtain⟨g9,n9,u9,t9⟩:=hN;go_wp2;go_returns;exact⟨rfl,g9,n9,wH.trans u9,t9.out.trans t43.out⟩
      ·have hbe:(p.dest==s4.me)=false:=by simpa using qX
       rw[ay qX]at hs2;go_wp2_with fail;go_region_held3 (HC N B g4.x.T C s4.me s4.seq s4.bN s4.now p) (first|with_reducible exact hS|with_reducible assumption) (fail)
       rename_i iZ;clear iZ hS;generalize World.drew _=W9 at n9 Je hL9 wH Qa ⊢;obtain⟨p0,p1,p2,p3,p4,p5,p6,p7,p8,p9,iK,je⟩:=PB.cell Je;obtain⟨e0,e1,e2,e3,e4,e5,e6⟩:=Qa.cell;clear Je Qa;by_cases hfo:(fd&&(p.unk||decide (y.seq>=p.bA)))=true
       ·rw[aI hfo]at hs2;have yO:fd=true:=by revert hfo;cases fd<;>simp
        subst yO;have hyk:=qU rfl;have HX:=hide (tu n9 p hq y hyk ao y.bL.length c (by have:=sU.now;unfold Be;omega) Au EJ);rw[hs2]at HX;dsimp only[aD.val,Ja]at HX;cases hun:p.unk
        ·rw[hun,Bool.true_and,Bool.false_or]at hfo;have hge:decide (p.bA<=y.seq)=true:=hfo;rw[hun]at HX p3;go_wp2_with fail;refine aU HX.out ?_;rintro e w9 ⟨rfl,hN⟩;obtain⟨g9,n9,u9,t9⟩:=hN;go_wp2;go_returns;exact⟨rfl,g9,n9,wH.trans u9,t9.out.trans t43.out⟩
        ·rw[hun]at HX p3;go_wp2_with fail;refine aU HX.out ?_;rintro e w9 ⟨rfl,hN⟩;obtain⟨g9,n9,u9,t9⟩:=hN;go_wp2;go_returns;exact⟨rfl,g9,n9,wH.trans u9,t9.out.trans t43.out⟩
       ·rw[ay hfo]at hs2;have SY:fd=false∨(fd=true∧p.unk=false∧decide (p.bA<=y.seq)=false):=by
         revert hfo
         cases fd<;>cases p.unk<;>simp
        by_cases htl:p.ttl=1
        ·have hbt:(p.ttl==1)=true:=by simpa using htl
         rw[aI htl]at hs2;clear htl;have HX:=hide (jJ n9 4 EJ);rw[hs2]at HX;rcases SY with rfl|⟨rfl,hun,hge⟩
         ·
          go_wp2_with fail;refine aU HX.out ?_;rintro e w9 ⟨rfl,hN⟩;obtain⟨g9,n9,u9,t9⟩:=hN;go_wp2;go_returns;exact⟨rfl,g9,n9,wH.trans u9,t9.out.trans t43.out⟩
         ·rw[hun]at p3;go_wp2_with fail;refine aU HX.out ?_;rintro e w9 ⟨rfl,hN⟩;obtain⟨g9,n9,u9,t9⟩:=hN;go_wp2;go_returns;exact⟨rfl,g9,n9,wH.trans u9,t9.out.trans t43.out⟩
        ·have hbt:(p.ttl==1)=false:=by simpa using htl
         rw[ay htl]at hs2;have HX:=hide (M7 n9 p hq hL9 Au);rw[hs2]at HX;dsimp only[aD.val]at HX;rcases SY with rfl|⟨rfl,hun,hge⟩
         ·
          go_wp2_with fail;refine aU HX.out ?_;rintro e w9 ⟨rfl,hN⟩;obtain⟨g9,n9,u9,t9⟩:=hN;go_wp2;go_returns;exact⟨rfl,g9,n9,wH.trans u9,t9.out.trans t43.out⟩
         ·rw[hun]at HX p3;go_wp2_with fail;refine aU HX.out ?_;rintro e w9 ⟨rfl,hN⟩;obtain⟨g9,n9,u9,t9⟩:=hN;go_wp2;go_returns;exact⟨rfl,g9,n9,wH.trans u9,t9.out.trans t43.out⟩
  ·have H9:=hcb.out;simp only[Bool.or_eq_true,qi]at H9;rw[aI H9]at hs2;subst hs2;have HD:=hide (jJ n2 1 hdl);clear hcb H9 hP2 hQ2;go_wp2_with fail;refine aU HD.out ?_;rintro e w3 ⟨rfl,hN⟩;go_wp2;go_returns;obtain⟨g9,n9,u9,t9⟩:=hN;exact⟨rfl,g9,n9,ua0.trans u9,t9⟩
variable{k:Int}{j:Nat}{s:St}
structure St.Inv(k:Int)(s:St):Prop where
 me:a_ s.me
 seq:a_ s.seq
 now:0<=s.now
 mem:∀e∈s.mem,e.dF<=s.now+1280
 dom:s.Dom
 cnt:0<=s.cnt∧s.cnt<=24
 tn:s.tn<=10000 * k
 tl:0<=s.tl∧s.tl<=10000 * k
 lk:s.lk=0
 BG:s.pc.length<=5
 z_:s.pc.Pairwise (·<=·)
 Aa:∀t∈s.pc,t<=s.now
 D6:∀q∈s.Q,q.id<=s.tl
 bd:qg s.bg
 nwl:s.bg.length<=100000
 frl:s.aF.length<=100000
 cml:s.aO.length<=100000
 drl:s.aP.length<=100000
structure St.Mid(k:Int)(j:Nat)(s:St):Prop where
 me:a_ s.me
 seq:a_ s.seq
 now:0<=s.now∧s.now<=4611686018427387904
 mem:∀e∈s.mem,e.dF<=s.now+1280
 dom:s.Dom
 cnt:0<=s.cnt∧s.cnt<=24+10 * j
 bg:s.bg.length<=10 * j
 bd:qg s.bg
 aF:s.aF.length<=10 * j
 aP:s.aP.length<=10 * j
 aO:s.aO.length<=10 * j
 tn:s.tn<=10000 * k+j
 tl:0<=s.tl∧s.tl<=10000 * k+j
 BG:s.pc.length<=5
 z_:s.pc.Pairwise (·<=·)
 Aa:∀t∈s.pc,t<=s.now
 D6:∀q∈s.Q,q.id<=s.tl
theorem St.Mid.fine(h:s.Mid k j)(hj:j<=50000):s.PV:=
 ⟨h.me,h.seq,h.now,h.mem,by have:=h.aF;omega,by have:=h.aP;omega,by have:=h.aO;omega⟩
theorem Nc(s:St)(hA:s.A.length<=8):s.write.bg.length<=s.bg.length+9∧0<=s.write.cnt - s.cnt∧s.write.cnt<=s.cnt+9:=by
 have h:=oF s.seq s.own s.f s.A;refine⟨?_,?_,?_⟩
 ·show(s.bg++_).length<=_;rw[bU];omega
 ·show 0<=s.cnt+_ - s.cnt;omega
 ·show s.cnt+_<=s.cnt+9;omega
theorem wW(h:s.Mid k j)(hA:∀y∈s.A,y.Ok)(hl:s.A.length<=8):s.write.Mid k (j+1):=by
 obtain⟨w1,w2,w3⟩:=Nc s hl;have c:=h.cnt;exact⟨h.me,h.seq,h.now,h.mem,Dl h.dom hA h.seq,by omega,by have:=h.bg;omega,Bn h.bd (GD h.seq s.f hA),by have:=h.aF;show s.aF.length<=_;omega,by have:=h.aP;show s.aP.length<=_;omega,by have:=h.aO;show s.aO.length<=_;omega,by have:=h.tn;show s.tn<=_;omega,by have:=h.tl;show 0<=s.tl∧s.tl<=_;omega,h.BG,h.z_,h.Aa,h.D6⟩
theorem ML{A:List Rt}(hA:∀y∈A,y.Ok)(now:Int):∀y∈iF A now,y.Ok:=by
 intro y hy;obtain⟨z,hz,rfl⟩:=dW.1 hy;unfold sG;split
 ·exact vR (hA z hz) (by simp[a_])
 ·exact hA z hz
theorem Ol(h:s.Inv k)(hA:∀y∈s.A,y.Ok)(hl:s.A.length<=8)(now:Int)(hn:s.now<=now∧now<=4611686018427387904):(s.begin now).Mid k 1:=by
 have h0:({s with now:=now,A:=iF s.A now,bg:=[],aF:=[],aO:=[],aP:=[],bB:=false}:St).Mid k 0:=
  ⟨h.me,h.seq,⟨by have:=h.now;dsimp only;omega,hn.2⟩,λe he=>by have:=h.mem e he;dsimp only;omega,⟨h.dom.mb,λd hd=>by
   obtain⟨y,hy,rfl⟩:=h.dom.on d hd;exact⟨sG now y,dW.2 ⟨y,hy,rfl⟩,mG now y⟩,h.dom.own⟩,by have:=h.cnt;dsimp only;omega,aB _,λ_ h=>(by cases h),aB _,aB _,aB _,by have:=h.tn;dsimp only;omega,by have:=h.tl;dsimp only;omega,h.BG,h.z_,λt ht=>by have:=h.Aa t ht;dsimp only;omega,h.D6⟩
 exact wW h0 (ML hA now) (by dsimp only[iF];rw[gY];exact hl)
theorem vE{i:Nat}{s':St}(h:s.Mid k j)(e:Eff i s s'):s'.Mid k (j+i):=by
 refine⟨by rw[e.me];exact h.me,e.seq h.seq,by rw[e.now];exact h.now,e.mem h.mem,⟨by rw[e.f];exact h.dom.mb,λd hd=> ?_,by rw[e.own];exact h.dom.own⟩,by rw[e.cnt];have:=h.cnt;omega,by rw[e.bg];have:=h.bg;omega,by rw[e.bg];exact h.bd,by have:=e.aF;have:=h.aF;omega,by have:=e.aP;have:=h.aP;omega,by have:=e.aO;have:=h.aO;omega,by have:=e.tn;have:=h.tn;omega,by rw[e.tl];have:=h.tl;omega,by rw[e.pc];exact h.BG,by rw[e.pc];exact h.z_,by rw[e.pc,e.now];exact h.Aa,λq hq=>by rw[e.tl];exact h.D6 q (e.qs q hq)⟩;rw[e.f]at hd;obtain⟨y,hy,rfl⟩:=h.dom.on d hd;obtain⟨z,hz,e⟩:=e.sub y hy;exact⟨z,hz,e⟩
structure ae3(s s':St):Prop where
 me:s'.me=s.me
 seq:s'.seq=s.seq
 bN:s'.bN=s.bN
 b_:s'.b_=s.b_
 eu:s'.eu=s.eu
 A:s'.A=s.A
 mem:s'.mem=s.mem
 tn:s'.tn=s.tn
 Q:s'.Q=s.Q
 tl:s'.tl=s.tl
 pc:s'.pc=s.pc
 now:s'.now=s.now
 aF:s'.aF=s.aF
 aO:s'.aO=s.aO
 aP:s'.aP=s.aP
 lk:s'.lk=s.lk
theorem aR(s:St):ae3 s s.finish:=by
 unfold St.finish;split<;>exact⟨rfl,rfl,rfl,rfl,rfl,rfl,rfl,rfl,rfl,rfl,rfl,rfl,rfl,rfl,rfl,rfl⟩
theorem zo(s:St):s.cmp.length=s.A.length+1:=by
 simp only[St.cmp,dO,iD,bU,gY,dZ,List.length_nil];omega
theorem aa5(h1:a_ s.own)(h2:MB s.f)(hA:∀y∈s.A,y.Ok):qg s.cmp:=by
 intro x hx;simp only[St.cmp,dO,iD,fu,fM,dW]at hx;rcases hx with rfl|⟨a,ha,rfl⟩
 ·unfold a_ at h1;dsimp only;omega
 ·obtain⟨y,hy,rfl⟩:=ha;have h2':=(hA y hy).dest;have h3:=h2.getD y.dest;unfold a_ at h2' h3;dsimp only;omega
theorem Am(h:s.Mid k j)(hj:j<=9000)(hlk:s.lk=0)(hA:∀y∈s.A,y.Ok)(hl:s.A.length<=8):s.finish.Inv (k+1):=by
 have e:=aR s;have hw:=wW h hA hl;have Mv:s.finish.Dom:=by
  have:=hw.dom;unfold St.finish;split
  ·exact⟨this.mb,this.on,this.own⟩
  ·exact this
 have hcn:0<=s.finish.cnt∧s.finish.cnt<=24:=by
  unfold St.finish;split
  ·have:=zo s.write;have h8:s.write.A.length<=8:=hl;dsimp only;omega
  ·have:=hw.cnt;omega
 have hbd:qg s.finish.bg∧s.finish.bg.length<=100000:=by
  unfold St.finish;split
  ·have h8:s.write.A.length<=8:=hl;refine⟨aa5 hw.dom.own hw.dom.mb hA,?_⟩;have:=zo s.write;dsimp only;omega
  ·have:=hw.bg;exact⟨hw.bd,by omega⟩
 exact⟨by rw[e.me];exact h.me,by rw[e.seq];exact h.seq,by rw[e.now];exact h.now.1,by rw[e.mem,e.now];exact h.mem,Mv,hcn,by rw[e.tn];have:=h.tn;omega,by rw[e.tl];have:=h.tl;omega,by rw[e.lk];exact hlk,by rw[e.pc];exact h.BG,by rw[e.pc];exact h.z_,by rw[e.pc,e.now];exact h.Aa,by rw[e.Q,e.tl];exact h.D6,hbd.1,hbd.2,by rw[e.aF];have:=h.aF;omega,by rw[e.aO];have:=h.aO;omega,by rw[e.aP];have:=h.aP;omega⟩
def dV(s:St)(TL:List Hp.Tm):Prop:=TL.Perm (s.Q.map kR)
theorem Ii{Q:List Sr}(hn:Q.Pairwise λa b=>a.dest≠b.dest){q:Sr}(hq:q∈Q):Q.Perm (q::Q.filter λz=>!decide (z.dest=q.dest)):=by
 induction Q with
 |nil=>cases hq
 |cons a Q ih=>
  rw[List.pairwise_cons]at hn;rcases fE.1 hq with rfl|h
  ·have h1:Q.filter (λz=>!decide (z.dest=q.dest))=Q:=List.filter_eq_self.2 λz hz=>by simpa using(hn.1 z hz).symm
   simp[h1]
  ·have h1:=ih hn.2 h;have h2:a.dest≠q.dest:=hn.1 q h;rw[List.filter_cons_of_pos (by simpa using h2)];exact(h1.cons a).trans (.swap _ _ _)
theorem Y9{d:Int}{s2:St}{TL dX:List Hp.Tm}(h:X_ d s TL s2 dX)(ht:dV s TL)(hid:TL.Pairwise λa b=>a.2.1≠b.2.1)(hn:s.Q.Pairwise λa b=>a.dest≠b.dest):dV s2 dX:=by
 unfold dV at ht ⊢;rcases h with⟨rfl,e⟩|⟨q,hq,htk,e⟩
 ·rw[e];exact ht
 ·obtain⟨hqm,rfl⟩:=jw hq;have hqt:kR q∈TL:=ht.mem_iff.2 (dW.2 ⟨q,hqm,rfl⟩);rcases htk with⟨x,hx,hp⟩|⟨hno,_⟩
  ·have hxT:x∈TL:=hp.mem_iff.1 jT;have hxe:x=kR q:=by
    refine Classical.byContradiction λhne=> ?_;have:∀(L:List Hp.Tm),L.Pairwise (λa b=>a.2.1≠b.2.1)->x∈L->kR q∈L->False:=by
     intro L
     induction L with
     |nil=>intro _ h;cases h
     |cons a L ih=>
      intro hp h1 h2;rw[List.pairwise_cons]at hp;rcases fE.1 h1 with k1|k1
      ·rcases fE.1 h2 with k2|k2
       ·exact hne (k1.trans k2.symm)
       ·exact hp.1 _ k2 (k1▸hx)
      ·rcases fE.1 h2 with k2|k2
       ·exact hp.1 _ k1 ((k2▸rfl:a.2.1=(kR q).2.1).trans hx.symm)
       ·exact ih hp.2 k1 k2
    exact this TL hid hxT hqt
   subst hxe;rw[e];have h1:=(hp.trans ht).trans ((Ii hn hqm).map kR);rw[List.map_cons]at h1;exact(List.perm_cons _).1 h1
  ·exact absurd rfl (hno _ hqt)
abbrev ZJ:Go.Conc.Locks.MuLink:={lock:=49,unlock:=50,ilock:=74,iunlock:=75,lockSlow:=109,unlockSlow:=112,disable:=105,enable:=107,acquire:=108,relMerge:=110,cas32:=106,add32:=111,tMutex:=127,tIMutex:=125,tPMutex:=168,tPIMutex:=215,tPI32:=217,tUP:=219,tNoCopy:=123,tU32:=34}
theorem nN:Go.Conc.Locks.MuLib Tryz.prog ZJ:=
 ⟨Tryz.func49,Tryz.func50,Tryz.func74,Tryz.func75,Tryz.func105,Tryz.func107,Tryz.func108,Tryz.func110,Tryz.func106,Tryz.func111,Tryz.underlying125,Tryz.runUnderlying125,Tryz.sizeOf125,Tryz.isAgg125,Tryz.zeroValue125,Tryz.underlying127,Tryz.runUnderlying127,Tryz.sizeOf127,Tryz.isAgg127,Tryz.zeroValue127,Tryz.underlying168,Tryz.runUnderlying168,Tryz.sizeOf168,Tryz.isAgg168,Tryz.zeroValue168,Tryz.underlying215,Tryz.runUnderlying215,Tryz.sizeOf215,Tryz.isAgg215,Tryz.zeroValue215,Tryz.underlying217,Tryz.runUnderlying217,Tryz.sizeOf217,Tryz.isAgg217,Tryz.zeroValue217,Tryz.underlying219,Tryz.runUnderlying219,Tryz.sizeOf219,Tryz.isAgg219,Tryz.zeroValue219,Tryz.underlying123,Tryz.runUnderlying123,Tryz.sizeOf123,Tryz.isAgg123,Tryz.zeroValue123,Tryz.underlying21,Tryz.runUnderlying21,Tryz.sizeOf21,Tryz.isAgg21,Tryz.zeroValue21,(by kernel_rfl)⟩
end Go.Proofs.YtakaadcpaeiccabGreat
