import Derived.Test.YtakaadcpaeiccabGreatO13
import Derived.Maps.RangeWalk
import Derived.Conc.MuLone
import Derived.KernelRfl
set_option maxHeartbeats 8000000
set_option maxRecDepth 100000
namespace Go.Proofs.YtakaadcpaeiccabGreat
open Go.RowKit Go.Maps
def KI(left:Lit->Bool)(f:Int->Option Int):Int->Option Int:=λk=>if left (.int .u32 k)then none else f k
theorem Ps{left:Lit->Bool}{x c:Int}(hl:left (.int .u32 x)=true){f:Int->Option Int}(hf:f x=some c)(h0:0<=c){L:List (Bool×Int×Int)}(hL:mH L=KI left f):mH (L++ [(false,x,c)])=KI (λz=>left z&&!z.sameKey (.int .u32 x)) f:=by
 rw[Im,hL]
 funext k
 unfold stepM ku KI;simp only[Bool.false_eq_true,if_false];by_cases e:k=x
 ·subst e;simp[hl,hf,Lit.sameKey];omega
 ·simp[e,Lit.sameKey]
theorem XC{L:List (Bool×Int×Int)}(x c:Int):qJ (L++ [(false,x,c)])=qJ L:=by rw[AY];rfl
theorem Jy(N:Nat)(x:mY)(f:Int->Option Int)(sz:Nat)(w:World)(hN:iH N x w)(hm:MapU w x.Mo f sz)(hmb:MB f)(hown:a_ x.own)(hsz:sz<=40000)(adL:∃l:List Int,l.length<=12∧∀a,(f a).isSome=true->a∈l):
  Calls Tryz.prog 72 #[.pointer (some ⟨N,10,none⟩)] w λe w'=>∃v' out,e=.returned v'∧iR f (some x.own) out∧w'.ownsRow w.heap.size 82 3 v' out.length (RC out)∧iH N {x with cnt:=out.length} w'∧MapU w' x.Mo f sz∧Fx (λk=>k=N) w w':=by
 obtain⟨i0,hi,hz0,hz1,hz2⟩:=info_parts ru;have hNM:=Nf hN hm;have hfw:=hide adL;clear adL;have hMU:=hide hm;obtain⟨D,h1,h2,h3⟩:=hm;have h3':=(show Hid _ from h3);have adX:Hid (KI (has D) f=λ_=>none):=by
  show _=_
  funext k
  unfold KI;cases hk:f k with
  |none=>simp
  |some c=>
   rw[(h3 k (hmb k c hk).1).1,hk];rfl
 clear h3;obtain⟨n0,n2,n3,n4,n5,n6,n7,n8,n9,n10⟩:=hN.cell;have jM:Below w.heap.size w (w.alloc (aY true 0 x.own)):=bC;have hr0:(w.alloc (aY true 0 x.own)).ownsRow w.heap.size 82 3 (.slice (some ⟨w.heap.size,0,none⟩) 1 1) 1 (RC [(true,0,x.own)]):=
  ⟨rfl,.inr ⟨w.heap.size,1,_,rfl,aA _,bS w _,aA _,by decide,rfl,rfl⟩⟩
 have hN1:=hN.later jM;have UA:Hid (MapU (w.alloc (aY true 0 x.own)) x.Mo f sz):=hMU.out.block (jM.block _ hMU.out.lt);have ho1:(w.alloc (aY true 0 x.own)).ownsMap Tryz.prog 34 (plainElem Tryz.prog 34) x.Mo sz D:=by
  obtain⟨es,clock,hb,Ft,hs,hD⟩:=h1;exact⟨es,clock,(jM.block _ (iB.1 hb).1).trans hb,Ft,hs,hD⟩
 have hs1:w.heap.size<=(w.alloc (aY true 0 x.own)).heap.size:=jM.size;dsimp only[aY]at jM hr0 hN1 ho1 UA hs1;clear hMU;go_enter Tryz.func72,Tryz.ntmps72;go_upto_region 2 with(fail);generalize World.alloc _ _=W1 at jM hr0 hN1 ho1 UA hs1 ⊢;clear n0 n2 n3 n4 n5 n6 n7 n8 n9 n10;obtain⟨n0,n2,n3,n4,n5,n6,n7,n8,n9,n10⟩:=hN1.cell;go_wp2_with(at_range;refine wpList_range_own _ rfl _ 115 rfl 34 34 gy Tryz.underlying115 _ x.Mo sz _ rfl ho1 ?_;intro w0 hrg0 hg0 hs0);have hb0:Below W1.heap.size W1 w0:=⟨hg0.os,hg0.tape,hg0.output,hg0.size,λk hk=>hg0.block k hk (by simp)⟩;have hNa:=hN1.later hb0;have hra:=aL hr0 hb0;have Wh:Hid (MapU w0 x.Mo f sz):=UA.out.block (hb0.block _ UA.out.lt);have hBa:=jM.trans (hb0.mono hs1);have hza:=hb0.size;clear hN1 hr0 UA n0 n2 n3 n4 n5 n6 n7 n8 n9 n10 h1 ho1 hb0 hg0 jM;go_frame;go_loopw [3] (λlv wr=>∃(left:Lit->Bool) (cnt:Nat) (L:List (Bool×Int×Int)),wr.ranges Tryz.prog 34 (plainElem Tryz.prog 34) x.Mo W1.heap.size sz D left cnt∧wr.ownsRow w.heap.size 82 3 lv L.length (RC L)∧Hid (mH L=KI left f)∧Hid (qJ L=some x.own)∧qy L∧L.length+cnt<=sz+1∧iH N x wr∧Hid (MapU wr x.Mo f sz)∧Below w.heap.size w wr∧W1.heap.size<=wr.heap.size)
  (λ_ wr=>wr.rangeLeft x.Mo W1.heap.size)
 case atStart=>
  refine⟨_,_,[(true,0,x.own)],hrg0,hra,?_,?_,?_,?_,hNa,Wh,hBa,hza⟩
  ·rw[adX.out];rfl
  ·show some (max 0 x.own)=_;have:=hown.1;rw[Int.max_eq_right this]
  ·intro z hz;simp only[dO]at hz;subst hz;unfold a_ at hown;dsimp only;omega
  ·have:=h2;simp only[List.length_singleton];omega
 case round=>
  clear hrg0 hra Wh hNa hBa hza hs0;obtain⟨left,cnt,L,hrg,hro,hmp,how,hbd,hlc,hNr,Yr,hbr,hzr⟩:=hrel;have hNl:=hNr.lt;go_wp2_with(at_next;refine wpList_next_ranges_ii _ rfl _ rfl 34 34 .u32 .u32 gy Tryz.underlying34 Tryz.underlying34 x.Mo W1.heap.size sz _ _ _ rfl hrg ?_ ?_)
  ·intro hc0 hl0;have hmf:Hid (mH L=f):=by
    show _=_;rw[hmp.out]
    funext k
    unfold KI;simp[hl0]
   clear hmp hl0;obtain⟨ao,c,hv,hH⟩:=ay hro;subst hv;have HC:Hid (Calls Tryz.prog 69 #[.slice ao L.length c] wr (aex L wr)):=vQ ao L.length c L rfl (by omega) hbd (by show ∃l:List Int,_;rw[hmf.out];exact hfw.out) wr hH;have hown':=hide how;go_wp2_with fail;refine aT HC.out ?_;rintro e w5 ⟨v5,out,rfl,hcmp,hlen,hrow,hb5⟩;rw[hmf.out,how.out]at hcmp;have V_:=hNr.later hb5;have n_:Hid (MapU w5 x.Mo f sz):=Yr.out.block (hb5.block _ Yr.out.lt);have adW:=hbr.trans (hb5.mono (dH hs1 hzr));have nP:w5.ownsRow w.heap.size 82 3 v5 out.length (RC out):=ownsRow_base_a hrow (dH hs1 hzr);obtain⟨a5,c5,hv5,_⟩:=ay hrow;subst hv5;have hcmp:=hide hcmp;clear HC hH hro hrg hNr Yr hbr hb5 hlc hbd;obtain⟨n0,n2,n3,n4,n5,n6,n7,n8,n9,n10⟩:=V_.cell;have f12:=V_.free 12;have hset:=V_.RN (out.length:Int);have hgN:w5.grownBy (w5.setCell ⟨N,12,none⟩ (.int .i64 (out.length:Int))) (some N):=ah (aB _ (some N)) 12 _;have uE:=nP.kept hgN (.inr (aJ nP V_ (λc e=>by cases e)));have hM6:Hid (MapU (w5.setCell ⟨N,12,none⟩ (.int .i64 (out.length:Int))) x.Mo f sz):=n_.out.block (hgN.block _ n_.out.lt (λe=>hNM (Option.some.inj e).symm));have hfx:Fx (λk=>k=N) w (w5.setCell ⟨N,12,none⟩ (.int .i64 (out.length:Int))):=aV (Fx.below adW) hgN (λi _ e=>by cases e;rfl);go_wp2_with fail;generalize World.setCell _ _ _=w6 at hset uE hM6 hfx ⊢;clear V_ n_ nP hrow adW hgN n0 n2 n3 n4 n5 n6 n7 n8 n9 n10 f12;go_wp2;go_returns;exact⟨_,out,rfl,hcmp.out,uE,hset,hM6.out,hfx⟩
  ·intro y c w1 cnt1 hwx hwc hlx hat hrg1 hlt hg1 Ua hen;have hb:=bounds_u32 hwx;have hyu:a_ y:=⟨hb.1,by have:=hb.2;omega⟩;have hc:=bounds_u32 hwc;have hcu:a_ c:=⟨hc.1,by have:=hc.2;omega⟩;have hf:f y=some c:=by
    have h3x:=h3'.out y hyu;have hsome:=h3x.1;rw[has_true_of_atKey hat]at hsome;obtain⟨z,hz⟩:=Option.isSome_iff_exists.1 hsome.symm;have h4:=h3x.2;rw[hat,hz]at h4;simp at h4;rw[hz,h4]
   have afe:=hide (Ps hlx hf hcu.1 hmp.out);have how':=hide ((XC y c).trans how.out);have afC:qy (L++ [(false,y,c)]):=λz hz=>by
    rcases dG.1 hz with h|h
    ·exact hbd z h
    ·rw[dO]at h;subst h;unfold a_ at hyu hcu;dsimp only;omega
   obtain⟨es,clock,since,seen,c0,hbm,_,_,_,hbi,_⟩:=id hrg;have abe:=hro.kept hg1 (.inr (aJ hro hbi (λc e=>by cases e)));have agM:=hN.lt;have hN1:=hNr.kept hg1 (λe=>by have:=Option.some.inj e;omega);have hM1:Hid (MapU w1 x.Mo f sz):=Yr.out.block (hg1.block _ Yr.out.lt (λe=>hrg.ne (Option.some.inj e).symm));have hb1:Below w.heap.size w w1:=⟨hg1.os.trans hbr.os,hg1.tape.trans hbr.tape,hg1.output.trans hbr.output,dH hbr.size hg1.size,λk hk=>(hg1.block k (fP hk hbr.size) (λe=>by have:=Option.some.inj e;omega)).trans (hbr.block k hk)⟩;have hme:=(show Hid (cnt1<wr.rangeLeft x.Mo W1.heap.size)from by show _<_;rw[hrg.left_eq];exact hlt);have agm:W1.heap.size<=w1.heap.size:=by have:=hg1.size;omega
   have hln:L.length<=40001:=by omega
   have afj:L.length+1+cnt1<=sz+1:=by omega
   have jM:Below w1.heap.size w1 (w1.alloc (aY false y c)):=bC;have hcr:=kY w1 false y c;have hkw:KeepsWalks w1 (w1.alloc (aY false y c)):=KeepsWalks.alloc _ _;have hM2:Hid (MapU (w1.alloc (aY false y c)) x.Mo f sz):=hM1.out.block (jM.block _ hM1.out.lt);have Gu:=hN1.later jM;have PG:=aL abe jM;have hb2:=hb1.trans (jM.mono hb1.size);have hs2:w.heap.size<=w1.heap.size:=hb1.size;dsimp only[aY]at jM hcr hkw hM2 Gu PG hb2;clear hmp how hbd hro hNr Yr hbr hzr hrg hg1 Ua hlt hlc hat hf hbm hbi hlx hwx hwc hM1 hN1 hb1 hb hc;go_wp2_with(at_builtin;refine wpList_append_own_at _ rfl _ _ 79 rfl w.heap.size 82 i0 (.agg #[.bool false,.int .u32 0,.int .u32 0]) 3 12 Tryz.underlying79 hi hz0 hz1 hz2 rfl (by decide) u3 L.length (RC L) rfl (abe.alloc _) ⟨w1.heap.size,0,none⟩ 1 1 (RC [(false,y,c)]) rfl rfl hcr (nK false y c) (by unfold maxLen;omega) (by omega) ?c3 ?_)
   case c3=>simp;omega
   intro v4 W4 DZ hg4 _ _;have IZ:=hrg1.of_walks (hkw.trans (KeepsWalks.of_grownBy hg4 (λj o e ho=>by
    obtain⟨cc,hcc⟩:=aS PG e;rw[hcc]at ho;cases ho;rfl)))
   have CG:=Gu.kept hg4 (aJ PG Gu (λc e=>by cases e));have CY:Hid (MapU W4 x.Mo f sz):=hM2.out.kept hg4 (Ne.symm (ED PG hM2.out));have hb4:Below w.heap.size w W4:=⟨hg4.os.trans hb2.os,hg4.tape.trans hb2.tape,hg4.output.trans hb2.output,dH hb2.size hg4.size,λk hk=>(hg4.block k (fP hk hb2.size) (λe=>by have:=(PG.lt k e.symm).1;omega)).trans (hb2.block k hk)⟩;have hz4:W1.heap.size<=W4.heap.size:=by
    have:=hg4.size;have:=jM.size;omega
   have hfin:Hid (W4.ownsRow w.heap.size 82 3 v4 (L++ [(false,y,c)]).length (RC (L++ [(false,y,c)]))∧(L++ [(false,y,c)]).length+cnt1<=sz+1):=by
    show _∧_;rw[dx,lD];exact⟨DZ,by simpa using afj⟩
   clear hrg1 abe PG hg4 hkw jM hcr Gu hM2 hb2 DZ;go_wp2;go_roundw
   case rel=>exact⟨_,cnt1,_,IZ,hfin.out.1,afe,how',afC,hfin.out.2,CG,CY,hb4,hz4⟩
   case measure=>rw[IZ.left_eq];exact hme.out
variable{i j:Nat}{a b:St}
structure Eff(j:Nat)(s s':St):Prop where
 me:s'.me=s.me
 now:s'.now=s.now
 f:s'.f=s.f
 own:s'.own=s.own
 cnt:s'.cnt=s.cnt
 bg:s'.bg=s.bg
 bn:s'.bn=s.bn
 lk:s'.lk=s.lk
 tl:s'.tl=s.tl
 pc:s'.pc=s.pc
 dm:s'.dm=s.dm
 sub:∀y∈s.A,∃z∈s'.A,z.dest=y.dest
 seq:a_ s.seq->a_ s'.seq
 mem:(∀e∈s.mem,e.dL<=s.now+1280)->∀e∈s'.mem,e.dL<=s'.now+1280
 tn:s'.tn<=s.tn+j
 aH:s'.aH.length<=s.aH.length+j
 aQ:s'.aQ.length<=s.aQ.length+j
 aR:s'.aR.length<=s.aR.length+j
 qs:∀z∈s'.Q,z∈s.Q
theorem Eff.refl(s:St):Eff 0 s s:=⟨rfl,rfl,rfl,rfl,rfl,rfl,rfl,rfl,rfl,rfl,rfl,λy h=>⟨y,h,rfl⟩,id,id,by omega,aA _,aA _,aA _,λ_ h=>h⟩
theorem Eff.trans{c:St}(p:Eff i a b)(q:Eff j b c):Eff (i+j) a c:=
 ⟨q.me.trans p.me,q.now.trans p.now,q.f.trans p.f,q.own.trans p.own,q.cnt.trans p.cnt,q.bg.trans p.bg,q.bn.trans p.bn,q.lk.trans p.lk,q.tl.trans p.tl,q.pc.trans p.pc,q.dm.trans p.dm,λy hy=>by
  obtain⟨z,hz,e⟩:=p.sub y hy;obtain⟨u,hu,e'⟩:=q.sub z hz;exact⟨u,hu,e'.trans e⟩,λh=>q.seq (p.seq h),λh=>q.mem (p.mem h),by have:=p.tn;have:=q.tn;omega,by have:=p.aH;have:=q.aH;omega,by have:=p.aQ;have:=q.aQ;omega,by have:=p.aR;have:=q.aR;omega,λz h=>p.qs z (q.qs z h)⟩
theorem Eff.mono(p:Eff i a b)(h:i<=j):Eff j a b:=
 ⟨p.me,p.now,p.f,p.own,p.cnt,p.bg,p.bn,p.lk,p.tl,p.pc,p.dm,p.sub,p.seq,p.mem,by have:=p.tn;omega,by have:=p.aH;omega,by have:=p.aQ;omega,by have:=p.aR;omega,p.qs⟩
theorem gB(s:St)(r:Int):Eff 1 s (s.drop r):=⟨rfl,rfl,rfl,rfl,rfl,rfl,rfl,rfl,rfl,rfl,rfl,λy h=>⟨y,h,rfl⟩,id,id,by show s.tn<=_;omega,by show s.aH.length<=_;omega,by show(s.aQ++ [r]).length<=_;simp,by show s.aR.length<=_;omega,λ_ h=>h⟩
theorem rP(s:St)(t:Int)(p:aC)(L:List (Int×Int)):Eff 1 s (s.send t p L):=⟨rfl,rfl,rfl,rfl,rfl,rfl,rfl,rfl,rfl,rfl,rfl,λy h=>⟨y,h,rfl⟩,id,id,by show s.tn<=_;omega,by show(s.aH++ [_]).length<=_;simp,by show s.aQ.length<=_;omega,by show s.aR.length<=_;omega,λ_ h=>h⟩
theorem XW(t:Int)(L:List (Int×Int)):(Py t L).length<=1:=by
 unfold Py;split<;>simp
theorem rQ(s:St)(t:Int)(L:List (Int×Int)):Eff 1 s (s.lose t L):=⟨rfl,rfl,rfl,rfl,rfl,rfl,rfl,rfl,rfl,rfl,rfl,λy h=>⟨y,h,rfl⟩,id,id,by show s.tn<=_;omega,by show(s.aH++Py t L).length<=_;have:=XW t L;simp;omega,by show s.aQ.length<=_;omega,by show s.aR.length<=_;omega,λ_ h=>h⟩
theorem qj(s:St){A:List Rt}(h:∀y∈s.A,∃z∈A,z.dest=y.dest):Eff 0 s {s with A:=A}:=⟨rfl,rfl,rfl,rfl,rfl,rfl,rfl,rfl,rfl,rfl,rfl,h,id,id,by show s.tn<=_;omega,aA _,aA _,aA _,λ_ h=>h⟩
theorem qR(A:List Rt)(d:Int)(f:Rt->Rt)(hf:∀y,(f y).dest=y.dest):∀y∈A,∃z∈gU A d f,z.dest=y.dest:=by
 intro y hy;refine⟨if y.dest=d then f y else y,dh.2 ⟨y,hy,rfl⟩,?_⟩;split
 ·exact hf y
 ·rfl
theorem qQ(A:List Rt)(d e:Int):∀y∈A,∃z∈iN A d e,z.dest=y.dest:=qR A d _ (mr e)
theorem qU(A:List Rt)(d n:Int):∀y∈A,∃z∈kZ A d n,z.dest=y.dest:=qR A d _ (lg n)
theorem OA(A:List Rt)(fr d q:Int):∀y∈A,∃z∈gQ A fr d q,z.dest=y.dest:=qR A d _ (eX fr q)
theorem ve(me:Int)(A:List Rt)(d q h n e:Int):∀y∈A,∃z∈(iO me A d q h n e).1,z.dest=y.dest:=by
 unfold iO;split
 ·exact λy hy=>⟨y,hy,rfl⟩
 ·split
  ·split
   ·exact qR A d _ λy=>rfl
   ·exact λy hy=>⟨y,hy,rfl⟩
  ·split
   ·exact λy hy=>⟨y,hy,rfl⟩
   ·intro y hy;refine⟨y,?_,rfl⟩;unfold uD;rw[<-List.take_append_drop (pos A (newR d q h n e).dest) A]at hy;rcases dG.1 hy with h|h
    ·exact dG.2 (.inl h)
    ·exact dG.2 (.inr (iI _ h))
theorem mD{A B C:List Rt}(h:∀y∈A,∃z∈B,z.dest=y.dest)(k:∀y∈B,∃z∈C,z.dest=y.dest):∀y∈A,∃z∈C,z.dest=y.dest:=λy hy=>by
 obtain⟨z,hz,e⟩:=h y hy;obtain⟨u,hu,e'⟩:=k z hz;exact⟨u,hu,e'.trans e⟩
theorem aed(s:St)(Q:List Sr)(hQ:∀z∈Q,z∈s.Q):Eff 0 s {s with Q:=Q}:=⟨rfl,rfl,rfl,rfl,rfl,rfl,rfl,rfl,rfl,rfl,rfl,λy h=>⟨y,h,rfl⟩,id,id,by show s.tn<=_;omega,aA _,aA _,aA _,hQ⟩
theorem UU(s:St)(l:Int):Eff 0 s {s with eH:=l}:=⟨rfl,rfl,rfl,rfl,rfl,rfl,rfl,rfl,rfl,rfl,rfl,λy h=>⟨y,h,rfl⟩,id,id,by show s.tn<=_;omega,aA _,aA _,aA _,λ_ h=>h⟩
theorem YT(s:St)(l:Int):Eff 0 s {s with cZ:=l}:=⟨rfl,rfl,rfl,rfl,rfl,rfl,rfl,rfl,rfl,rfl,rfl,λy h=>⟨y,h,rfl⟩,id,id,by show s.tn<=_;omega,aA _,aA _,aA _,λ_ h=>h⟩
theorem YU(s:St){q:Int}(h:a_ s.seq->a_ q):Eff 0 s {s with seq:=q}:=⟨rfl,rfl,rfl,rfl,rfl,rfl,rfl,rfl,rfl,rfl,rfl,λy h=>⟨y,h,rfl⟩,h,id,by show s.tn<=_;omega,aA _,aA _,aA _,λ_ h=>h⟩
theorem YV(s:St)(x:Int×ByteArray):Eff 1 s {s with aR:=s.aR++ [x]}:=⟨rfl,rfl,rfl,rfl,rfl,rfl,rfl,rfl,rfl,rfl,rfl,λy h=>⟨y,h,rfl⟩,id,id,by show s.tn<=_;omega,by show s.aH.length<=_;omega,by show s.aQ.length<=_;omega,by show(s.aR++ [x]).length<=_;simp,λ_ h=>h⟩
theorem Iq{E:List Mm}{q:Int×Int}{dL jd:Int}{e:Mm}(h:e∈dP E q dL jd):e∈E∨e.dL=dL:=by
 have h1:e∈eD E q dL jd:=by
  unfold dP at h;split at h
  ·exact List.mem_of_mem_tail h
  ·exact h
 unfold eD at h1;rcases dG.1 h1 with h|h
 ·exact .inl (List.mem_filter.1 h).1
 ·rw[dO]at h;subst h;exact .inr rfl
theorem UR(s:St)(q:Int×Int)(jd:Int):Eff 1 s {s with mem:=dP s.mem q (s.now+1280) jd,tn:=s.tn+1}:=⟨rfl,rfl,rfl,rfl,rfl,rfl,rfl,rfl,rfl,rfl,rfl,λy h=>⟨y,h,rfl⟩,id,λh e he=>by
 rcases Iq he with h1|h1
 ·exact h e h1
 ·show e.dL<=s.now+1280;omega,by show s.tn+1<=s.tn+((1:Nat):Int);omega,by show s.aH.length<=_;omega,by show s.aQ.length<=_;omega,by show s.aR.length<=_;omega,λ_ h=>h⟩
theorem BN(s:St)(p:aC):Eff 1 s (s.answer p):=by
 unfold St.answer;split
 ·exact rP _ _ _ _
 ·exact gB _ _
theorem BM(s:St)(p:aC)(hp:a_ p.aX):Eff 1 s (s.iF p):=
 (YU s (q:=max s.seq p.aX) λh=>by unfold a_ at *;omega).trans (j:=1) (BN _ _)
theorem zJ(s:St)(p:aC)(r:Rt):Eff 1 s (s.gJ p r):=by
 refine(qj s (A:=kZ (if (bH s.A p.aI s.now).2 then kZ s.A p.dest (bH s.A p.aI s.now).1.next else s.A) p.aI r.next) ?_).trans (j:=1) (BN _ _);split
 ·exact mD (qU _ _ _) (qU _ _ _)
 ·exact qU _ _ _
theorem Ec(s:St)(p:aC)(hp:a_ p.aX):Eff 1 s (s.asked p):=by
 unfold St.asked;split
 ·exact BM s p hp
 ·split
  ·exact zJ s p _
  ·split
   ·exact gB _ _
   ·exact rP _ _ _ _
theorem Qr(s:St)(fr:Int)(p:aC)(hp:a_ p.aX):Eff 1 s (s.learn fr p):=by
 unfold St.learn;split
 ·exact(qj s (ve _ _ _ _ _ _ _)).trans (j:=1) (gB _ _)
 ·split
  ·exact(qj s (mD (ve _ _ _ _ _ _ _) (qQ _ _ _))).trans (j:=1) (Ec _ p hp)
  ·exact(qj s (ve _ _ _ _ _ _ _)).trans (j:=1) (Ec _ p hp)
theorem zI(s:St)(fr:Int)(p:aC)(hp:a_ p.aX):Eff 2 s (s.bV fr p):=by
 unfold St.bV;split
 ·exact(gB _ _).mono (by omega)
 ·exact(UR s _ _).trans (j:=1) (Qr _ fr p hp)
theorem vZ(s:St)(d:Int)(t:ByteArray):Eff 1 s (s.aN d t):=by
 unfold St.aN;split
 ·have h1:Eff 0 s {s with eH:=(s.eH+1)%4294967296,A:=iN s.A d (s.now+3000)}:=(UU s ((s.eH+1)%4294967296)).trans (j:=0) (qj {s with eH:=(s.eH+1)%4294967296} (A:=iN s.A d (s.now+3000)) (qQ _ _ _));exact h1.trans (j:=1) (rP {s with eH:=(s.eH+1)%4294967296,A:=iN s.A d (s.now+3000)} _ _ _)
 ·exact(Eff.refl s).mono (by omega)
theorem Qq(s:St)(d:Int)(L:List ByteArray):Eff L.length s (L.foldl (λs t=>s.aN d t) s):=by
 induction L generalizing s with
 |nil=>exact Eff.refl s
 |cons t L ih=>
  rw[fQ];exact((vZ s d t).trans (ih _)).mono (by simp;omega)
theorem WK(s:St)(d:Int)(L:List ByteArray):(L.foldl (λs t=>s.aN d t) s).Q=s.Q:=by
 induction L generalizing s with
 |nil=>rfl
 |cons t L ih=>
  rw[fQ,ih];unfold St.aN;split<;>rfl
theorem nS(s:St)(d:Int)(h:∀q∈s.Q,q.txt.length<=4):Eff 4 s (s.sendAll d):=by
 unfold St.sendAll;split
 ·exact(Eff.refl s).mono (by omega)
 ·rename_i q hq;split
  ·have h1:=h q (gY hq).1;have h2:=((Qq s d q.txt).trans (j:=0) (aed _ (s.Q.filter λz=>!decide (z.dest=d)) λz hz=>by rw[WK];exact(List.mem_filter.1 hz).1)).mono (j:=4) (by omega);exact h2
  ·exact(Eff.refl s).mono (by omega)
theorem Jo(s:St)(fr:Int)(p:aC):Eff 1 s (s.iC fr p):=by
 unfold St.iC;split
 ·exact(qj s (mD (mD (qU _ _ _) (qU _ _ _)) (qQ _ _ _))).trans (j:=1) (rP _ _ _ _)
 ·exact gB _ _
theorem C8(s:St)(fr:Int)(p:aC)(h:∀q∈s.Q,q.txt.length<=4):Eff 5 s (s.dN fr p):=by
 unfold St.dN;split
 ·exact(gB _ _).mono (by omega)
 ·have h1:=qj s (ve s.me s.A p.dest p.aX (St.far p.hops) fr (s.now+p.life));dsimp only;split
  ·exact(h1.trans (j:=1) (gB _ _)).mono (by omega)
  ·split
   ·split
    ·exact(h1.trans (j:=4) (nS {s with A:=(iO s.me s.A p.dest p.aX (St.far p.hops) fr (s.now+p.life)).1} p.dest h)).trans (j:=1) (gB _ _)
    ·exact(h1.trans (j:=4) (nS {s with A:=(iO s.me s.A p.dest p.aX (St.far p.hops) fr (s.now+p.life)).1} p.dest h)).mono (by omega)
   ·split
    ·exact(h1.trans (j:=1) (gB _ _)).mono (by omega)
    ·exact(h1.trans (j:=1) (Jo _ _ _)).mono (by omega)
theorem WW(fr:Int)(L:List (Int×Int))(z:List Rt×Bool×List (Int×Int)):∀y∈z.1,∃u∈(L.foldl (St.Fh fr) z).1,u.dest=y.dest:=by
 induction L generalizing z with
 |nil=>exact λy hy=>⟨y,hy,rfl⟩
 |cons l L ih=>
  rw[fQ];refine mD ?_ (ih _);unfold St.Fh;split
  ·exact OA _ _ _ _
  ·exact λy hy=>⟨y,hy,rfl⟩
theorem FW(s:St)(fr:Int)(L:List (Int×Int)):Eff 2 s (s.fD fr L):=by
 unfold St.fD;dsimp only;have h1:=qj s (WW fr L (s.A,false,[]));split
 ·exact(h1.trans (j:=1) (rQ _ _ _)).mono (by omega)
 ·exact(h1.trans (j:=2) ((gB _ _).trans (j:=1) (rQ _ _ _))).mono (by omega)
theorem yX(s:St)(t d:Int):Eff 1 s (s.kE t d):=rQ s t _
theorem FX(s:St)(fr:Int)(p:aC):Eff 2 s (s.dU fr p):=by
 unfold St.dU;split
 ·exact(YV s _).mono (by omega)
 ·split
  ·exact(gB _ _).mono (by omega)
  ·split
   ·have h1:=(qj s (A:=iN (iN s.A p.dest (s.now+3000)) p.aI (s.now+3000)) (mD (qQ _ _ _) (qQ _ _ _))).trans (j:=1) (rP {s with A:=iN (iN s.A p.dest (s.now+3000)) p.aI (s.now+3000)} (bH s.A p.dest s.now).1.next {p with ttl:=p.ttl - 1} []);exact h1.mono (by omega)
   ·have h1:=(gB s 3).trans (j:=0) (qj (s.drop 3) (A:=gU s.A p.dest St.oN) (qR _ _ _ λ_=>rfl));exact h1.trans (j:=1) (yX _ _ _)
theorem BK(s:St)(fr:Int)(p:aC):Eff 2 s (s.dA fr p):=by
 unfold St.dA;split
 ·exact(((gB s 8).trans (j:=1) (yX _ _ _)).trans (j:=0) (YT _ _)).mono (by omega)
 ·exact(gB _ _).mono (by omega)
theorem Jp(s:St)(fr:Int)(p:aC)(L:List (Int×Int))(hp:a_ p.aX)(h:∀q∈s.Q,q.txt.length<=4):Eff 5 s (s.gF fr p L):=by
 unfold St.gF;split
 ·exact(BK s fr p).mono (by omega)
 ·split
  ·exact(zI s fr p hp).mono (by omega)
  ·split
   ·exact C8 s fr p h
   ·split
    ·exact(FW s fr L).mono (by omega)
    ·exact(FX s fr p).mono (by omega)
variable{a:qz}{bg:List (Bool×Int×Int)}{aR aH:List (Int×ByteArray)}{aQ:List Int}{B N:Nat}{s:St}{W:World}
theorem Nd.off{g:bI}{TL:List Hp.Tm}{W':World}(n:Nd N B g s TL W){S:Nat->Prop}(hf:Fx S W W')(hS:∀k,S k->¬Ft N g s k∧¬jD B g.a k):Nd N B g s TL W':=
 ⟨n.nn.kept λk hk=>hf.block k (n.nn.lt hk) λh=>(hS k h).1 hk,n.ac.kept λk hk=>hf.block k (n.ac.lt hk) λh=>(hS k h).2 hk,n.now,n.bn⟩
theorem Up.fresh{F F':Nat->Prop}{a b c:World}(u:Up B F F' a b){C:Nat}(h:b.grownBy c (some C))(hC:a.heap.size<=C):Up B F F' a c:=
 ⟨λk hk=>(u.sub k hk).imp_right λ⟨h1,h2⟩=>⟨h1,fP h2 h.size⟩,h.os.trans u.os,h.tape.trans u.tape,h.output.trans u.output,dH u.size h.size,λk o ho hn hA=>by
  have h1:=u.block k o ho hn hA;exact(h.block k (aD h1) λe=>by
   have:=aD ho;have:=Option.some.inj e;omega).trans h1⟩
theorem EP(c:Array Value):oD (.cells c 52 (0,0)):=⟨λc e=>(by cases e),λc e=>(by cases e),λc e=>(by cases e),λc e=>(by cases e),λc e=>(by cases e)⟩
theorem ace(ha:Asc s.A)(hd:∀d,(s.f d).isSome=true->∃y∈s.A,y.dest=d)(hall:∀y∈s.A,(s.f y.dest).isSome=true):iR s.f (some s.own) s.cmp:=by
 refine⟨s.A.map (λy=>y.dest),(List.pairwise_map (f:=λy:Rt=>y.dest) (R:=λa b:Int=>a<b)).2 ha,λa=>⟨λh=> ?_,λh=> ?_⟩,rfl⟩
 ·obtain⟨y,hy,rfl⟩:=dh.1 h;exact hall y hy
 ·obtain⟨y,hy,rfl⟩:=hd a h;exact dh.2 ⟨y,hy,rfl⟩
theorem jJ.reset{base:Nat}(h:jJ B base a bg aH aR aQ W){v:Value}{aaO:List (Bool×Int×Int)}(ho:W.ownsRow base 82 3 v aaO.length (RC aaO)):
  jJ B base {a with nU:=v,bn:=true} aaO aH aR aQ ((W.setCell ⟨B,1,none⟩ v).setCell ⟨B,3,none⟩ (.bool true))∧W.grownBy ((W.setCell ⟨B,1,none⟩ v).setCell ⟨B,3,none⟩ (.bool true)) (some B):=by
 have hg:=ah (ah (aB W (some B)) 1 v) 3 (.bool true);have hB:=(h.blk.RL v).RJ true;exact⟨⟨hB,ho.kept hg (.inr (aJ ho h.blk (λc e=>(by cases e)))),h.aI.kept hg (.inr (aJ h.aI h.blk (λc e=>(by cases e)))),h.bL.kept hg (.inr (aJ h.bL h.blk (λc e=>(by cases e)))),h.bO.kept hg (.inr (aJ h.bO h.blk (λc e=>(by cases e))))⟩,hg⟩
theorem jJ.EA{base:Nat}(h:jJ B base a bg aH aR aQ W)(b:ByteArray):
  jJ B base {a with aZ:=b} bg aH aR aQ (W.setCell ⟨B,2,none⟩ (.string b))∧W.grownBy (W.setCell ⟨B,2,none⟩ (.string b)) (some B):=by
 have hg:=ah (aB W (some B)) 2 (.string b);exact⟨⟨h.blk.EA b,h.nU.kept hg (.inr (aJ h.nU h.blk (λc e=>(by cases e)))),h.aI.kept hg (.inr (aJ h.aI h.blk (λc e=>(by cases e)))),h.bL.kept hg (.inr (aJ h.bL h.blk (λc e=>(by cases e)))),h.bO.kept hg (.inr (aJ h.bO h.blk (λc e=>(by cases e))))⟩,hg⟩
def agh(N B:Nat)(g:bI)(s s':St)(TL:List Hp.Tm)(w:World)(e:Ending)(w':World):Prop:=∃g',e=.returned (ja s'.aZ s'.bn g'.a.aI g'.a.bL g'.a.bO)∧Nd N B g' s' TL w'∧Up B (Ft N g s) (Ft N g' s') w w'∧Hid (g'.x.T=g.x.T)
theorem oV{g:bI}{TL:List Hp.Tm}{w:World}(n:Nd N B g s TL w)(hd:s.Dom)(hc:0<=s.cnt∧s.cnt<=900000)(hw:s.bg.length<=80000)(hbd:qy s.bg)(hq:a_ s.seq):
  Calls Tryz.prog 48 #[.pointer (some ⟨N,0,none⟩),.pointer (some ⟨B,0,none⟩)] w (agh N B g s s.finish TL w):=by
 have hA:=n.nn.cr.tb.ok;have hb0:Below w.heap.size w (w.alloc jg):=bC;have hC0:(w.alloc jg).heap[w.heap.size]?=some jg:=bS _ _;have kK:¬Ft N g s w.heap.size:=n.new (aA _);have hBC:B<w.heap.size:=n.ac.blk.lt;have n0:=n.later hb0;have HW:=hide (Zm n0 hd (by omega) (by omega));obtain⟨s1,hs1⟩:∃z,s.write=z:=⟨_,rfl⟩;have hd1:s1.Dom:=by rw[<-hs1];exact Ed hd hA hq
 have hall:∀y∈s1.A,(s1.f y.dest).isSome=true:=by rw[<-hs1];exact Pm
 have Uu:qy s1.bg:=by rw[<-hs1];exact Ci hbd (Ij hq s.f hA)
 have hlen:=oG s.seq s.own s.f s.A;have hA8:=n.nn.cr.tb.len;have hn1:s1.bg.length<=90000:=by
  rw[<-hs1];show(s.bg++_).length<=_;rw[dx];omega
 have hc1:0<=s1.cnt∧s1.cnt<=1000000:=by
  rw[<-hs1];show 0<=s.cnt+_∧s.cnt+_<=_;omega
 obtain⟨s2,hs2⟩:∃z,s.finish=z:=⟨_,rfl⟩;rw[hs2];have xO:Hid ((if s1.cnt>24 then {s1 with bg:=s1.cmp,cnt:=s1.cmp.length,bn:=true}else s1)=s2):=by
  show _=_;rw[<-hs2,<-hs1];rfl
 rw[hs1]at HW;have hd1:=hide hd1;have hall:=hide hall;have Uu:=hide Uu;have hn1:=hide hn1;clear hs1 hs2 hd hc hw hbd hlen hA8 n;dsimp only[jg]at hb0 hC0 HW;go_enter Tryz.func48,Tryz.ntmps48;go_upto_region 1 with(fail);generalize World.alloc _ _=W1 at hb0 hC0 HW n0 ⊢;go_wp2_with fail;refine aT HW.out ?_;rintro e w2 ⟨rfl,g2,n2,u2,t2⟩;obtain⟨hC2,Jc⟩:=u2.keep hC0 kK (EP _);have JU:=(Up.below hb0:Up B (Ft N g s) (Ft N g s) w W1).trans u2;clear HW hC0 hb0 u2 n0 kK;obtain⟨m0,m2,m3,m4,m5,m6,m7,m8,m9,m10⟩:=n2.nn.cr.nd.cell;rw[n2.nn.eq.cnt]at m10;obtain⟨b0,b1,b2,b3,b4,b5,b6⟩:=n2.ac.blk.cell;have hCg:w.heap.size<=w.heap.size:=aA _;generalize l5:w.heap.size=C at hC2 Jc hBC hCg ⊢;replace l5:=hide l5;by_cases h24:s1.cnt>24
 ·have hd24:decide (24<s1.cnt)=true:=gu (by omega);replace xO:=hide ((aM h24).symm.trans xO.out);clear h24;have hz2:=n2.nn.cr.size_le hd1.out.on;have hown:=hd1.out.own;rw[<-n2.nn.eq.own]at hown;have HC:=hide (Jy N g2.x s1.f g2.sz w2 n2.nn.cr.nd n2.nn.cr.mo hd1.out.mb hown (by omega) ⟨s1.A.map (·.dest),by have:=n2.nn.cr.tb.len;rw[iK];omega,λa ha=>by obtain⟨y,hy,e⟩:=hd1.out.on a ha;exact dh.2 ⟨y,hy,e⟩⟩);go_wp2_with fail;refine aT HC.out ?_;rintro e w3 ⟨v3,out,rfl,hcmp,hr3,Bv,hM3,hf3⟩;have hout:out=s1.cmp:=by
   rw[n2.nn.eq.own]at hcmp;exact hcmp.unique (ace n2.nn.cr.tb.zh hd1.out.on hall.out)
  have Gs:out.length<=9:=by
   rw[hout];have:=n2.nn.cr.tb.len;simp only[St.cmp,dz,gL,dx,iK,dY,List.length_nil];omega
  clear HC hcmp;have hNA:∀k,jD B g2.a k->¬k=N:=λk hk e=>n2.ac.KF n2.nn (.inl (.inl e)) hk;have ac3:=n2.ac.kept (W':=w3) λk hk=>hf3.block k (n2.ac.lt hk) (hNA k hk);have adn:w3.ownsRow (B+1) 82 3 v3 out.length (RC out):=ownsRow_base_a hr3 n2.base;obtain⟨ac4,hg4⟩:=ac3.reset adn;have hB3:=ac3.blk;have afJ:N≠B:=λe=>hNA B (.inl rfl) e.symm;have CG:iH N {g2.x with cnt:=out.length} ((w3.setCell ⟨B,1,none⟩ v3).setCell ⟨B,3,none⟩ (.bool true)):=Bv.kept hg4 (λe=>afJ (Option.some.inj e).symm);have hMB:g2.x.Mo≠B:=λe=>n2.ac.KF n2.nn (.inl (.inr (.inl rfl))) (.inl e);have CY:MapU ((w3.setCell ⟨B,1,none⟩ v3).setCell ⟨B,3,none⟩ (.bool true)) g2.x.Mo s1.f g2.sz:=hM3.kept hg4 (λe=>hMB (Option.some.inj e));have hfx:Fx (λk=>k=N∨k=B) w2 ((w3.setCell ⟨B,1,none⟩ v3).setCell ⟨B,3,none⟩ (.bool true)):=aV (hf3.mono λ_ h=> .inl h) hg4 (λi _ e=> .inr (Option.some.inj e).symm);have hT4:MT g2.x.self g2.x.T g2.M g2.ff g2.gg s1.A ((w3.setCell ⟨B,1,none⟩ v3).setCell ⟨B,3,none⟩ (.bool true)):=n2.nn.cr.tb.kept λk hk=>hfx.block k (n2.nn.cr.tb.lt hk) (by
   rintro(rfl|rfl)
   ·exact n2.nn.cr.tb.not (λe=>by
     obtain⟨es,cl,hm⟩:=n2.nn.cr.tb.map.obj;rw[<-e,show w2.heap[k]?=_ from n2.nn.cr.nd]at hm;cases hm) n2.nn.cr.nd (r_ _) hk
   ·exact n2.ac.KF n2.nn (.inl (.inr (.inr hk))) (.inl rfl))
  have hCf:((w3.setCell ⟨B,1,none⟩ v3).setCell ⟨B,3,none⟩ (.bool true)).heap[C]?=w2.heap[C]?:=hfx.block C (aD hC2) (by
   rintro(rfl|h)
   ·exact Jc (.inl (.inl rfl))
   ·omega)
  obtain⟨e1,e2,e3,e4,e5,e6,e7,e8,e9⟩:=n2.nn.eq;obtain⟨n4,u4⟩:=n2.core (s':={s1 with bg:=out,cnt:=out.length,bn:=true}) ⟨CG,CY,hT4,n2.nn.cr.ne⟩ ac4 (hfx.mono λk h=>by
   rcases h with rfl|rfl
   ·exact .inl (.inl rfl)
   ·exact .inr (.inl rfl)) (λk hk=>hk) ⟨rfl,rfl,rfl,rfl,rfl⟩ ⟨e1,e2,e3,e4,e5,e6,e7,rfl,e9⟩ ⟨rfl,rfl,rfl,rfl,rfl⟩ n2.nn.JV n2.now rfl
  have yS:=hCf.trans hC2;have hs4:Hid (({s1 with bg:=out,cnt:=out.length,bn:=true}:St)=s2):=by
   show _=_;rw[hout];exact xO.out
  have hb4:Hid (qy s2.bg):=by
   show qy _;rw[<-hs4.out];intro x hx;have hx':x∈out:=hx;rw[hout]at hx';simp only[St.cmp,dz,gL,dG,dO,dh]at hx';have h1:=hd1.out.own;rcases hx' with rfl|⟨a,ha,rfl⟩
   ·unfold a_ at h1;dsimp only;omega
   ·obtain⟨y,hy,rfl⟩:=ha;have h2:=(n2.nn.cr.tb.ok y hy).dest;have h3:=hd1.out.mb.getD y.dest;unfold a_ at h2 h3;dsimp only;omega
  have hl4:Hid (s2.bg.length<=90000):=by
   show _<=_;rw[<-hs4.out];show out.length<=_;omega
  rw[hs4.out]at n4 u4;have rG:¬Ft N _ s2 C:=λh=>(u4.sub C h).elim Jc (by have:=aD hC2;omega);have qg:=JU.trans u4;have t4:Hid (({g2 with x:={g2.x with cnt:=(out.length:Int)},a:={g2.a with nU:=v3,bn:=true}}:bI).x.T=g.x.T):=t2;have afX:B<C:=hBC;obtain⟨a3',c3',hv3,_⟩:=ay hr3;have fB1:=hB3.free 1;have fB3:=hB3.free 3;obtain⟨x0,x1,x2,x3,x4,x5,x6⟩:=hB3.cell;subst hv3;generalize ({g2 with x:={g2.x with cnt:=(out.length:Int)},a:={g2.a with nU:=.slice a3' out.length c3',bn:=true}}:bI)=g4 at n4 u4 rG qg t4;clear n2 JU Bv hM3 hf3 hr3 adn ac3 ac4 hg4 hB3 CG CY hfx hT4 hCf hC2 Jc u4 m0 m2 m3 m4 m5 m6 m7 m8 m9 m10 b0 b1 b2 b3 b4 b5 b6 e1 e2 e3 e4 e5 e6 e7 e8 e9 xO hNA hout Gs hown hz2 hall Uu hn1 hd1 hs4;go_upto_region 5 with(fail);generalize World.setCell _ _ _=W4 at n4 qg yS ⊢;clear x0 x1 x2 x3 x4 x5 x6 fB1 fB3;obtain⟨b0,b1,b2,b3,b4,b5,b6⟩:=n4.ac.blk.cell;obtain⟨a7,k7,hv7,hH7⟩:=ay n4.ac.nU;rw[hv7]at b1;have HJ:=hide (qi a7 s2.bg.length k7 s2.bg rfl (by have:=hl4.out;omega) hb4.out W4 hH7);clear hv7 hH7;go_wp2_with fail;refine aT HJ.out ?_;rintro e w5 ⟨rfl,hb5⟩;have n5:=n4.later hb5;have sD:=(hb5.block C (aD yS)).trans yS;have zn:=qg.trans (.below hb5:Up B (Ft N g4 s2) (Ft N g4 s2) W4 w5);have abS:¬jD B g4.a C:=λh=>n5.ac.kinds h sD (EP _);clear HJ n4 qg yS hb5 b0 b1 b2 b3 b4 b5 b6;obtain⟨b0,b1,b2,b3,b4,b5,b6⟩:=n5.ac.blk.cell;have f2:=n5.ac.blk.free 2;rw[show strOfNums (bB s2.bg)=s2.aZ from rfl];obtain⟨ac6,jm⟩:=n5.ac.EA s2.aZ;obtain⟨n6,u6⟩:=n5.act (s':=s2) ac6 (Fx.grown jm λk e=>by cases e;exact .inl rfl) ⟨rfl,rfl,rfl,rfl,rfl,rfl,rfl,rfl,rfl,rfl,rfl,rfl,rfl,rfl,rfl⟩ n5.now n5.bn;have gZ:=(jm.block C (aD sD) (λe=>by have:=Option.some.inj e;omega)).trans sD;have nH:=zn.trans u6;have kP:¬Ft N {g4 with a:={g4.a with aZ:=s2.aZ}} s2 C:=rG;have UG:¬jD B ({g4 with a:={g4.a with aZ:=s2.aZ}}:bI).a C:=abS;have t6:Hid (({g4 with a:={g4.a with aZ:=s2.aZ}}:bI).x.T=g.x.T):=t4;have hj6:({g4 with a:={g4.a with aZ:=s2.aZ}}:bI).a.aZ=s2.aZ:=rfl;generalize ({g4 with a:={g4.a with aZ:=s2.aZ}}:bI)=g6 at n6 nH kP UG t6 hj6;clear ac6 jm u6 n5 zn sD;go_upto_region 6 with(fail);generalize World.setCell _ _ _=W6 at n6 nH gZ ⊢;clear b0 b1 b2 b3 b4 b5 b6 f2;obtain⟨b0,b1,b2,b3,b4,b5,b6⟩:=n6.ac.blk.cell;rw[hj6]at b2;rw[n6.bn]at b3;obtain⟨af,kf,hf,_⟩:=ay n6.ac.aI;obtain⟨ac,kc,hc,_⟩:=ay n6.ac.bL;obtain⟨ad,kd,hdd,_⟩:=ay n6.ac.bO;rw[hf]at b4;rw[hc]at b5;rw[hdd]at b6;have q0:W6.cell? ⟨C,0,none⟩=some (.string ⟨#[]⟩):=aF _ _ 0 _ _ _ gZ;have q1:W6.cell? ⟨C,1,none⟩=some (.bool false):=aF _ _ 1 _ _ _ gZ;have q2:W6.cell? ⟨C,2,none⟩=some (.slice none 0 0):=aF _ _ 2 _ _ _ gZ;have q3:W6.cell? ⟨C,3,none⟩=some (.slice none 0 0):=aF _ _ 3 _ _ _ gZ;have q4:W6.cell? ⟨C,4,none⟩=some (.slice none 0 0):=aF _ _ 4 _ _ _ gZ;have z0:=lX W6 C 0 _ _ gZ;have z1:=lX W6 C 1 _ _ gZ;have z2:=lX W6 C 2 _ _ gZ;have z3:=lX W6 C 3 _ _ gZ;have z4:=lX W6 C 4 _ _ gZ;have iU:=ah (ah (ah (ah (ah (aB W6 (some C)) 0 (.string s2.aZ)) 1 (.bool s2.bn)) 2 (.slice af s2.aH.length kf)) 3 (.slice ac s2.aR.length kc)) 4 (.slice ad s2.aQ.length kd);have gK:(((((W6.setCell ⟨C,0,none⟩ (.string s2.aZ)).setCell ⟨C,1,none⟩ (.bool s2.bn)).setCell ⟨C,2,none⟩ (.slice af s2.aH.length kf)).setCell ⟨C,3,none⟩ (.slice ac s2.aR.length kc)).setCell ⟨C,4,none⟩ (.slice ad s2.aQ.length kd)).heap[C]?=some (.cells #[.string s2.aZ,.bool s2.bn,.slice af s2.aH.length kf,.slice ac s2.aR.length kc,.slice ad s2.aQ.length kd] 52):=by
   simp[World.setCell,d_,gZ]
  have n7:=n6.off (S:=λk=>k=C) (Fx.grown iU λk e=>by cases e;rfl) (by rintro k rfl;exact⟨kP,UG⟩);have u7:=nH.fresh iU (by rw[l5.out];exact aA _);have afW:C≠B:=by omega
  clear iU n6 nH;go_wp2;generalize World.setCell _ _ _=W7 at gK n7 u7 ⊢;have p0:W7.cell? ⟨C,0,none⟩=some (.string s2.aZ):=aF _ _ 0 _ _ _ gK;have p1:W7.cell? ⟨C,1,none⟩=some (.bool s2.bn):=aF _ _ 1 _ _ _ gK;have p2:W7.cell? ⟨C,2,none⟩=some (.slice af s2.aH.length kf):=aF _ _ 2 _ _ _ gK;have p3:W7.cell? ⟨C,3,none⟩=some (.slice ac s2.aR.length kc):=aF _ _ 3 _ _ _ gK;have p4:W7.cell? ⟨C,4,none⟩=some (.slice ad s2.aQ.length kd):=aF _ _ 4 _ _ _ gK;refine bodyPost_ret (v:=.agg #[.string s2.aZ,.bool s2.bn,.slice af s2.aH.length kf,.slice ac s2.aR.length kc,.slice ad s2.aQ.length kd]) (by simp[results,Tryz.results48,go_sem,p0,p1,p2,p3,p4]) rfl ⟨g6,?_,n7,u7,t6⟩;rw[hf,hc,hdd];rfl
 ·have hd24:decide (24<s1.cnt)=false:=fE (by omega);replace xO:=hide ((aG h24).symm.trans xO.out);have hb4:Hid (qy s2.bg):=by rw[<-xO.out];exact Uu
  have hl4:Hid (s2.bg.length<=90000):=by rw[<-xO.out];exact hn1
  have n4:=n2;have qg:=JU;have yS:=hC2;have rG:=Jc;rw[xO.out]at n4 qg rG;have t4:=t2;have afX:=hBC;clear n2 JU hC2 Jc xO h24 b0 b1 b2 b3 b4 b5 b6 m0 m2 m3 m4 m5 m6 m7 m8 m9 hall Uu hn1 hd1;go_upto_region 5 with(fail);clear m10;obtain⟨b0,b1,b2,b3,b4,b5,b6⟩:=n4.ac.blk.cell;obtain⟨a7,k7,hv7,hH7⟩:=ay n4.ac.nU;rw[hv7]at b1;have HJ:=hide (qi a7 s2.bg.length k7 s2.bg rfl (by have:=hl4.out;omega) hb4.out w2 hH7);clear hv7 hH7;go_wp2_with fail;refine aT HJ.out ?_;rintro e w5 ⟨rfl,hb5⟩;have n5:=n4.later hb5;have sD:=(hb5.block C (aD yS)).trans yS;have zn:=qg.trans (.below hb5:Up B (Ft N g2 s2) (Ft N g2 s2) w2 w5);have abS:¬jD B g2.a C:=λh=>n5.ac.kinds h sD (EP _);clear HJ n4 qg yS hb5 b0 b1 b2 b3 b4 b5 b6;obtain⟨b0,b1,b2,b3,b4,b5,b6⟩:=n5.ac.blk.cell;have f2:=n5.ac.blk.free 2;rw[show strOfNums (bB s2.bg)=s2.aZ from rfl];obtain⟨ac6,jm⟩:=n5.ac.EA s2.aZ;obtain⟨n6,u6⟩:=n5.act (s':=s2) ac6 (Fx.grown jm λk e=>by cases e;exact .inl rfl) ⟨rfl,rfl,rfl,rfl,rfl,rfl,rfl,rfl,rfl,rfl,rfl,rfl,rfl,rfl,rfl⟩ n5.now n5.bn;have gZ:=(jm.block C (aD sD) (λe=>by have:=Option.some.inj e;omega)).trans sD;have nH:=zn.trans u6;have kP:¬Ft N {g2 with a:={g2.a with aZ:=s2.aZ}} s2 C:=rG;have UG:¬jD B ({g2 with a:={g2.a with aZ:=s2.aZ}}:bI).a C:=abS;have t6:Hid (({g2 with a:={g2.a with aZ:=s2.aZ}}:bI).x.T=g.x.T):=t4;have hj6:({g2 with a:={g2.a with aZ:=s2.aZ}}:bI).a.aZ=s2.aZ:=rfl;generalize ({g2 with a:={g2.a with aZ:=s2.aZ}}:bI)=g6 at n6 nH kP UG t6 hj6;clear ac6 jm u6 n5 zn sD;go_upto_region 6 with(fail);generalize World.setCell _ _ _=W6 at n6 nH gZ ⊢;clear b0 b1 b2 b3 b4 b5 b6 f2;obtain⟨b0,b1,b2,b3,b4,b5,b6⟩:=n6.ac.blk.cell;rw[hj6]at b2;rw[n6.bn]at b3;obtain⟨af,kf,hf,_⟩:=ay n6.ac.aI;obtain⟨ac,kc,hc,_⟩:=ay n6.ac.bL;obtain⟨ad,kd,hdd,_⟩:=ay n6.ac.bO;rw[hf]at b4;rw[hc]at b5;rw[hdd]at b6;have q0:W6.cell? ⟨C,0,none⟩=some (.string ⟨#[]⟩):=aF _ _ 0 _ _ _ gZ;have q1:W6.cell? ⟨C,1,none⟩=some (.bool false):=aF _ _ 1 _ _ _ gZ;have q2:W6.cell? ⟨C,2,none⟩=some (.slice none 0 0):=aF _ _ 2 _ _ _ gZ;have q3:W6.cell? ⟨C,3,none⟩=some (.slice none 0 0):=aF _ _ 3 _ _ _ gZ;have q4:W6.cell? ⟨C,4,none⟩=some (.slice none 0 0):=aF _ _ 4 _ _ _ gZ;have z0:=lX W6 C 0 _ _ gZ;have z1:=lX W6 C 1 _ _ gZ;have z2:=lX W6 C 2 _ _ gZ;have z3:=lX W6 C 3 _ _ gZ;have z4:=lX W6 C 4 _ _ gZ;have iU:=ah (ah (ah (ah (ah (aB W6 (some C)) 0 (.string s2.aZ)) 1 (.bool s2.bn)) 2 (.slice af s2.aH.length kf)) 3 (.slice ac s2.aR.length kc)) 4 (.slice ad s2.aQ.length kd);have gK:(((((W6.setCell ⟨C,0,none⟩ (.string s2.aZ)).setCell ⟨C,1,none⟩ (.bool s2.bn)).setCell ⟨C,2,none⟩ (.slice af s2.aH.length kf)).setCell ⟨C,3,none⟩ (.slice ac s2.aR.length kc)).setCell ⟨C,4,none⟩ (.slice ad s2.aQ.length kd)).heap[C]?=some (.cells #[.string s2.aZ,.bool s2.bn,.slice af s2.aH.length kf,.slice ac s2.aR.length kc,.slice ad s2.aQ.length kd] 52):=by
   simp[World.setCell,d_,gZ]
  have n7:=n6.off (S:=λk=>k=C) (Fx.grown iU λk e=>by cases e;rfl) (by rintro k rfl;exact⟨kP,UG⟩);have u7:=nH.fresh iU (by rw[l5.out];exact aA _);have afW:C≠B:=by omega
  clear iU n6 nH;go_wp2;generalize World.setCell _ _ _=W7 at gK n7 u7 ⊢;have p0:W7.cell? ⟨C,0,none⟩=some (.string s2.aZ):=aF _ _ 0 _ _ _ gK;have p1:W7.cell? ⟨C,1,none⟩=some (.bool s2.bn):=aF _ _ 1 _ _ _ gK;have p2:W7.cell? ⟨C,2,none⟩=some (.slice af s2.aH.length kf):=aF _ _ 2 _ _ _ gK;have p3:W7.cell? ⟨C,3,none⟩=some (.slice ac s2.aR.length kc):=aF _ _ 3 _ _ _ gK;have p4:W7.cell? ⟨C,4,none⟩=some (.slice ad s2.aQ.length kd):=aF _ _ 4 _ _ _ gK;refine bodyPost_ret (v:=.agg #[.string s2.aZ,.bool s2.bn,.slice af s2.aH.length kf,.slice ac s2.aR.length kc,.slice ad s2.aQ.length kd]) (by simp[results,Tryz.results48,go_sem,p0,p1,p2,p3,p4]) rfl ⟨g6,?_,n7,u7,t6⟩;rw[hf,hc,hdd];rfl
variable{seq cZ:Int}{q:Int×Int}{B C N Q T:Nat}{p:aC}{s:St}{W a b:World}
theorem aaD(q:Int×Int):oD (fU q):=⟨λc e=>(by cases e),λc e=>(by cases e),λc e=>(by cases e),λc e=>(by cases e),λc e=>(by cases e)⟩
theorem Up.TB{D:Nat}{F F':Nat->Prop}(u:Up B F F' a b)(h:QB D q a)(hn:¬F D):QB D q b∧¬F' D:=u.keep h hn (aaD q)
theorem QB.later{D:Nat}(h:QB D q a)(hb:Below a.heap.size a b):QB D q b:=(hb.block _ (aD h)).trans h
@[reducible] def HQ(N B T C Q : Nat)(me seq cZ now : Int)(p : aC)(W : World): Prop :=
 HC N B T C me seq cZ now p W∧W.cell? ⟨Q,0,none⟩=some (.int .u32 p.aI)∧W.cell? ⟨Q,1,none⟩=some (.int .u32 p.id)
theorem HQ.at{g:bI}{TL:List Hp.Tm}{me now:Int}(n:Nd N B g s TL W)(h:PB p C W)(hQ:QB Q (p.aI,p.id) W)(t:g.x.T=T)(h1:s.me=me)(h2:s.seq=seq)(h3:s.cZ=cZ)(h4:s.now=now):HQ N B T C Q me seq cZ now p W:=⟨HC.at n h t h1 h2 h3 h4,hQ.cell⟩
theorem HQ.jW{g:bI}{TL:List Hp.Tm}{me now:Int}(n:Nd N B g s TL W)(h:PB p C W)(hQ:QB Q (p.aI,p.id) W)(t:g.x.T=T)(h1:s.me=me)(h2:s.seq=seq)(h3:s.cZ=cZ)(h4:s.now=now):HQ N B T C Q me seq cZ now p W.drew:=HQ.at n.drew h hQ t h1 h2 h3 h4
theorem yE{E:List Mm}{now t:Int}(h:∀e∈E,e.dL<=now+1280){e:Mm}(he:e∈dP E q (now+1280) t):e.dL<=now+1280:=by
 have hp:∀e∈eD E q (now+1280) t,e.dL<=now+1280:=by
  intro e he;unfold eD at he;rcases dG.1 he with he|he
  ·exact h e (List.mem_filter.1 he).1
  ·rw[dO]at he;subst he;exact fq _
 unfold dP at he;split at he
 ·exact hp e (List.mem_of_mem_tail he)
 ·exact hp e he
structure St.Q0(s:St):Prop where
 me:a_ s.me
 seq:a_ s.seq
 now:0<=s.now∧s.now<=4611686018427387904
 mem:∀e∈s.mem,e.dL<=s.now+1280
 aH:s.aH.length<=900000
 aQ:s.aQ.length<=900000
 aR:s.aR.length<=900000
theorem Dh{g:bI}{TL:List Hp.Tm}{w:World}(n:Nd N B g s TL w)(hF:s.Q0)(htn:s.tn<=4000000000000000000)(fr:Int)(PX:a_ fr)(p:aC)(hq:p.Hd)(hL:fJ w p []):
  Calls Tryz.prog 130 #[.pointer (some ⟨N,0,none⟩),.pointer (some ⟨B,0,none⟩),.int .u32 fr,p.val] w λe w'=>e=.returned (.tuple #[])∧lW N B g s (s.bV fr p) TL w w':=by
 have hp:=hq.wf;have hfl:s.aH.length<=1000000:=by have:=hF.aH;omega
 have hdl:s.aQ.length<=1000000:=by have:=hF.aQ;omega
 obtain⟨hid,hde,hds,hfr,hfs,_⟩:=hp.num;have hb0:Below w.heap.size w ((w.alloc p.box).alloc (fU (p.aI,p.id))):=(bC).alloc (by simp) _;have gW:PB p w.heap.size ((w.alloc p.box).alloc (fU (p.aI,p.id))):=(((aU _ (w.alloc p.box)).alloc (aA _) _).block _ (by simp)).trans (PB.new p w);have NJ:QB (w.heap.size+1) (p.aI,p.id) ((w.alloc p.box).alloc (fU (p.aI,p.id))):=by
  have:=bS (w.alloc p.box) (fU (p.aI,p.id));rw[World.size_alloc]at this;exact this
 have n0:=n.later hb0;obtain⟨s2,dB⟩:∃s2,s.bV fr p=s2:=⟨_,rfl⟩;rw[dB];replace dB:=hide dB;dsimp only[aC.box,fU]at hb0 n0;unfold PB at gW;unfold QB at NJ;dsimp only[aC.box,fU]at gW NJ;go_enter Tryz.func130,Tryz.ntmps130;go_upto_region 2 with(fail);generalize World.alloc (World.alloc _ _) _=W1 at hb0 gW NJ n0 ⊢;have kK:=n.new (k:=w.heap.size) (aA _);have hQn:=n.new (k:=w.heap.size+1) (Nat.le_succ _);generalize w.heap.size+1=Q at NJ hQn ⊢;generalize l5:w.heap.size=C at gW kK ⊢;replace l5:=hide l5;have hs2:=dB.out;unfold St.bV at hs2;have HH:=hide λW5 (h5:Below W1.heap.size W1 W5)=>QM (n0.later h5) (p.aI,p.id) ⟨hfr,hid⟩ s.now hF.now.1;obtain⟨cb,hcb⟩:∃cb,(decide (p.aI=s.me)||pz s.mem (p.aI,p.id) s.now)=cb:=⟨_,rfl⟩;replace hcb:=hide hcb;go_cut [33]from 16 to 32 (λbv W=>bv=.bool cb∧Below W1.heap.size W1 W)
 case first=>
  obtain⟨⟨⟨m0,m1,m2,m3,m4⟩,p0,p1,p2,p3,p4,p5,p6,p7,p8,p9,jL,jF⟩,q0,q1⟩:=HQ.at n0 gW NJ rfl rfl rfl rfl rfl;have hbd:Below W1.heap.size W1 W1.drew:=(aU _ _).drew;by_cases hse:p.aI=s.me
  ·have hbe:(p.aI==s.me)=true:=by simpa using hse
   obtain rfl:true=cb:=by rw[<-hcb.out,gu hse];rfl
   clear hse HH p0 p1 p2 p3 p5 p6 p8 p9 jL jF m1 m2 m3;go_region
   all_goals
    go_wp2_with fail;go_meet;exact⟨rfl,hbd⟩
  ·have hbe:(p.aI==s.me)=false:=by simpa using hse
   have hd:pz s.mem (p.aI,p.id) s.now=cb:=by rw[<-hcb.out,fE hse];rfl
   rw[hd]at HH;dsimp only[jV]at HH;clear hd hse p0 p1 p2 p3 p5 p6 p8 p9 jL jF m1 m2 m3;go_region_law (first|(go_simp;go_at_call 160;refine(HH.out _ hbd).mono ?_;rintro e w2 ⟨rfl,hb2⟩))
   all_goals
    go_wp2_with fail;go_meet;exact⟨rfl,hbd.trans (hb2.mono hbd.size)⟩
 case rest=>
  obtain⟨rfl,hb2⟩:=hcut;have fM:=hF.now;have n2:=n0.later hb2;have hP2:PB p C wc:=PB.below gW hb2;have hQ2:QB Q (p.aI,p.id) wc:=QB.later NJ hb2;have ua0:Up B (Ft N g s) (Ft N g s) w wc:=.below (hb0.trans (hb2.mono hb0.size));have hLq:=hL.below (hb0.trans (hb2.mono hb0.size));clear HH gW NJ n0 hb0 hb2 dB l5;cases cb
  ·have Ja:=hcb.out;simp only[Bool.or_eq_false_iff,decide_eq_false_iff_not]at Ja;rw[aG (by rintro(h|h);exact Ja.1 h;rw[Ja.2]at h;cases h)]at hs2;clear hcb Ja;have HA:Hid (∀t,t=s.now+1280->Calls Tryz.prog 156 #[.pointer (some ⟨N,8,none⟩),.agg #[.int .u32 p.aI,.int .u32 p.id],.int .u64 t] wc.drew λe w'=>e=.returned (.tuple #[])∧lW N B g s {s with mem:=dP s.mem (p.aI,p.id) (s.now+1280) s.tn,tn:=s.tn+1} TL wc.drew w'):=by
    rintro _ rfl;exact QN n2.drew (p.aI,p.id) ⟨hfr,hid⟩ (s.now+1280) (by omega) hF.mem (by omega)
   have hS:HQ N B g.x.T C Q s.me s.seq s.cZ s.now p wc.drew:=HQ.jW n2 hP2 hQ2 rfl rfl rfl rfl rfl;go_wp2_with fail;go_region_held3 (HQ N B g.x.T C Q s.me s.seq s.cZ s.now p) (first|with_reducible exact hS|with_reducible assumption) ((go_at_call 156;refine(HA.out _ (by first|rfl|exact mM fM (by decide))).mono ?_;rintro e w3 ⟨rfl,hN⟩;obtain⟨g3,n3,u3,t3⟩:=hN;obtain⟨hP3,Qe⟩:=u3.kF hP2 kK;obtain⟨NI,abM⟩:=u3.TB hQ2 hQn;have hk3:HQ N B g.x.T C Q s.me s.seq s.cZ s.now p w3:=HQ.at n3 hP3 NI t3.out rfl rfl rfl rfl))
   clear hS hk3;rename_i iV;clear iV;have Q9:=(ua0.trans (.below (aU _ _).drew)).trans u3;obtain⟨s1,hs1⟩:∃s1,({s with mem:=dP s.mem (p.aI,p.id) (s.now+1280) s.tn,tn:=s.tn+1}:St)=s1:=⟨_,rfl⟩;have hF1:s1.Q0:=by
    rw[<-hs1];refine⟨hF.me,hF.seq,hF.now,λe he=> ?_,hF.aH,hF.aQ,hF.aR⟩;exact yE hF.mem he
   have ad2:fJ w3 p []:=hLq.nil;rw[hs1]at n3 Q9 Qe abM hs2;clear hs1 HA ua0 hLq n2 hQ2 hP2;unfold St.learn at hs2;have NA:=hF1.now;obtain⟨u,hu⟩:∃u,iO s1.me s1.A p.aI p.dw (St.far p.hops) fr (s1.now+3000)=u:=⟨_,rfl⟩;have HU:Hid (∀t,t=s1.now+3000->Calls Tryz.prog 161 #[.pointer (some ⟨g3.x.T,0,none⟩),.int .u32 p.aI,.int .u32 p.dw,.int .i64 (St.far p.hops),.int .u32 fr,.int .u64 t] w3.drew λr w'=>r=.returned (.int .i64 u.2)∧lW N B g3 s1 {s1 with A:=u.1} TL w3.drew w'):=by
    rintro _ rfl;have:=JJ n3.drew p.aI p.dw (St.far p.hops) fr (s1.now+3000) hfr hfs (by have:=hq.hops;unfold oZ St.far;omega) PX (by unfold Ca;omega);rw[hu]at this;exact this
   rw[hu]at hs2;obtain⟨A2,E2⟩:=u;dsimp only at hs2 HU;clear hu;have hS:HQ N B g3.x.T C Q s1.me s1.seq s1.cZ s1.now p w3.drew:=HQ.jW n3 hP3 NI rfl rfl rfl rfl rfl;go_wp2_with fail;go_region_held3 (HQ N B g3.x.T C Q s1.me s1.seq s1.cZ s1.now p) (first|with_reducible exact hS|with_reducible assumption) (first
    |(go_at_call 162;refine(vX p.hops hq.hops _).mono ?_;rintro e w3f ⟨rfl,rfl⟩)
    |(go_at_call 161;refine(HU.out _ (by first|rfl|exact mM NA (by decide))).mono ?_;rintro e w4 ⟨rfl,hN⟩;obtain⟨g4,n4,u4,t4⟩:=hN;obtain⟨l_,rG⟩:=u4.kF hP3 Qe;obtain⟨CB,Yp⟩:=u4.TB NI abM;have hk4:HQ N B g3.x.T C Q s1.me s1.seq s1.cZ s1.now p w4:=HQ.at n4 l_ CB t4.out rfl rfl rfl rfl))
   clear hS;rename_i iV;clear iV;have qg:=(Q9.trans (.below (aU _ _).drew)).trans u4;have t43:Hid (g4.x.T=g.x.T):=t4.out.trans t3.out;obtain⟨s4,hs4⟩:∃s4,({s1 with A:=A2}:St)=s4:=⟨_,rfl⟩;have tF:s4.Q0:=by
    rw[<-hs4];exact⟨hF1.me,hF1.seq,hF1.now,hF1.mem,hF1.aH,hF1.aQ,hF1.aR⟩
   have Yu:fJ w4 p []:=ad2.nil;have adB:Hid (s4.now=s1.now):=by show _=_;rw[<-hs4]
   have hA4:({s1 with A:=iN A2 p.aI (s1.now+3000)}:St)={s4 with A:=iN s4.A p.aI (s1.now+3000)}:=by rw[<-hs4]
   rw[hs4,hA4]at hs2;rw[hs4]at n4 qg rG Yp;clear hs4 hA4 Q9 u4 hk4 n3 hP3 NI Qe abM HU ad2 u3 hF1;by_cases h4:E2=4
   ·subst h4;rw[aM rfl]at hs2;have HX:=hide (jB n4 2 (by have:=tF.aQ;omega));rw[hs2]at HX;go_wp2_with fail;refine aT HX.out ?_;rintro e w9 ⟨rfl,hN⟩;obtain⟨g9,n9,u9,t9⟩:=hN;go_wp2;go_returns;exact⟨rfl,g9,n9,qg.trans u9,t9.out.trans t43⟩
   ·have b4:(E2==4)=false:=by simpa using h4
    rw[aG h4]at hs2;by_cases h3:E2=3
    ·subst h3;rw[aM rfl]at hs2;have HV:Hid (∀t,t=s1.now+3000->Calls Tryz.prog 81 #[.pointer (some ⟨g4.x.T,0,none⟩),.int .u32 p.aI,.int .u64 t] w4.drew λr w'=>r=.returned (.tuple #[])∧lW N B g4 s4 {s4 with A:=iN s4.A p.aI (s1.now+3000)} TL w4.drew w'):=by
      rintro _ rfl;exact Oh n4.drew p.aI (s1.now+3000) hfr (by unfold Ca;omega)
     have hS:HQ N B g4.x.T C Q s4.me s4.seq s4.cZ s1.now p w4.drew:=HQ.jW n4 l_ CB rfl rfl rfl rfl adB.out;go_wp2_with fail;go_region_held3 (HQ N B g4.x.T C Q s4.me s4.seq s4.cZ s1.now p) (first|with_reducible exact hS|with_reducible assumption) ((go_at_call 81;refine(HV.out _ (by first|rfl|exact mM NA (by decide))).mono ?_;rintro e w6 ⟨rfl,hN⟩;obtain⟨g6,n6,u6,t6⟩:=hN;obtain⟨J2,kP⟩:=u6.kF l_ rG;obtain⟨hQ6,afI⟩:=u6.TB CB Yp;have ZR:HQ N B g4.x.T C Q s4.me s4.seq s4.cZ s1.now p w6:=HQ.at n6 J2 hQ6 t6.out rfl rfl rfl adB.out))
     clear hS ZR;rename_i iV;clear iV;have nH:=(qg.trans (.below (aU _ _).drew)).trans u6;have t63:Hid (g6.x.T=g.x.T):=t6.out.trans t43.out;obtain⟨s6,hs6⟩:∃s6,({s4 with A:=iN s4.A p.aI (s1.now+3000)}:St)=s6:=⟨_,rfl⟩;have Wi:s6.Q0:=by
      rw[<-hs6];exact⟨tF.me,tF.seq,tF.now,tF.mem,tF.aH,tF.aQ,tF.aR⟩
     have hLq:fJ w6 p []:=Yu.nil;rw[hs6]at n6 nH kP hs2;clear hs6 qg u6 n4 l_ CB rG Yp hQ6 afI HV Yu tF b4;obtain⟨⟨y,fd⟩,hy⟩:∃r,bH s6.A p.dest s6.now=r:=⟨_,rfl⟩;have HF:=hide (nT n6 p.dest s6.now hde hy);go_wp2_with fail;go_cut [9,10]from 82 to 95 (oh y fd w6)
     case first=>
      have hS:HB N B g6.x.T C s6.me s6.seq s6.cZ s6.now p w6 w6.drew:=HB.drew (HB.mk' n6 J2 (aU _ _));have hkB:=hide λW5 h5=>HB.mk' (W:=W5) n6 J2 h5;go_region_held3 (HB N B g6.x.T C s6.me s6.seq s6.cZ s6.now p w6) (first|with_reducible exact hS|with_reducible assumption|(with_reducible apply HB.vR hkB;assumption)|(with_reducible apply HB.kG hkB;assumption)|(with_reducible apply HB.eY hkB)|(with_reducible apply hkB.out;assumption)) ((go_at_call 79;refine(HF.out _ (And.right (by assumption))).mono ?_;rintro e w2 ⟨ao,c,rfl,hb2,hpr⟩;try ((with_reducible have hD:=hpr di (.slice none 0 0) (lH w6));obtain⟨d0,d1,d2,d3,d4,d5,d6⟩:=hD.cell;have q0:=hD.free 0;have q1:=hD.free 1;have q2:=hD.free 2;have q3:=hD.free 3;have q4:=hD.free 4;have q5:=hD.free 5;have q6:=hD.free 6;have hD':Hid (eB w6.heap.size di (.slice none 0 0) w2):=hD;clear hD);clear hpr))
      all_goals
       go_wp2_with fail;go_meet;first|with_reducible exact iA hb2|with_reducible exact j3 hb2 hD'
     case rest=>
      obtain⟨E,ao,c,rfl,rfl,hE,hEl,su⟩:=hcut;have n8:=n6.later su;have KZ:PB p C wc:=PB.below J2 su;have hL8:=hLq.below su;have rz:fd=true->y.Ok:=λh=>by
       have:=oO n6.nn.cr.tb.ok p.dest s6.now;rw[hy]at this;rcases this with h1|h1
       ·exact h1
       ·rw[h]at h1;cases h1
      unfold St.asked at hs2;rw[hy]at hs2;dsimp only at hs2;have VY:=nH.trans (.below su);have Bp:s6.aH.length<=1000000:=by have:=Wi.aH;omega
      have FD:s6.aQ.length<=1000000:=by have:=Wi.aQ;omega
      have hS:HC N B g6.x.T C s6.me s6.seq s6.cZ s6.now p wc.drew:=HC.xZ n8 KZ;have Rf:eB E y (.slice ao y.bN.length c) wc.drew:=hE;have n9:=n8.drew;have JZ:PB p C wc.drew:=KZ;have hL9:fJ wc.drew p []:=hL8.below (aU _ _).drew;have wV:=VY.trans (.below (aU _ _).drew);clear HF J2 n6 su nH hE n8 KZ hL8 VY;by_cases rE:p.dest=s6.me
      ·have hbe:(p.dest==s6.me)=true:=by simpa using rE
       rw[aM rE]at hs2;clear rE;go_wp2_with fail;go_region_held3 (HC N B g6.x.T C s6.me s6.seq s6.cZ s6.now p) (first|with_reducible exact hS|with_reducible assumption) (fail)
       rename_i iV;clear iV hS;generalize World.drew _=W9 at n9 JZ hL9 wV Rf ⊢;have HX:=hide (wI n9 p hq Wi.me Wi.seq Bp FD);rw[hs2]at HX;dsimp only[aC.val]at HX;obtain⟨p0,p1,p2,p3,p4,p5,p6,p7,p8,p9,jL,jF⟩:=PB.cell JZ;clear JZ;go_wp2_with fail;refine aT HX.out ?_;rintro e w9 ⟨rfl,hN⟩;obtain⟨g9,n9,u9,t9⟩:=hN;go_wp2;go_returns;exact⟨rfl,g9,n9,wV.trans u9,t9.out.trans t63.out⟩
      ·have hbe:(p.dest==s6.me)=false:=by simpa using rE
       rw[aG rE]at hs2;go_wp2_with fail;go_region_held3 (HC N B g6.x.T C s6.me s6.seq s6.cZ s6.now p) (first|with_reducible exact hS|with_reducible assumption) (fail)
       rename_i iV;clear iV hS;generalize World.drew _=W9 at n9 JZ hL9 wV Rf ⊢;obtain⟨p0,p1,p2,p3,p4,p5,p6,p7,p8,p9,jL,jF⟩:=PB.cell JZ;obtain⟨e0,e1,e2,e3,e4,e5,e6⟩:=Rf.cell;clear JZ Rf;by_cases hfo:(fd&&(p.unk||decide (y.seq>=p.aX)))=true
       ·rw[aM hfo]at hs2;have xP:fd=true:=by revert hfo;cases fd<;>simp
        subst xP;have hyk:=rz rfl;have HX:=hide (tO n9 p hq y hyk ao y.bN.length c (by have:=Wi.now;unfold Ca;omega) Bp FD);rw[hs2]at HX;dsimp only[aC.val,JW]at HX;cases hun:p.unk
        ·rw[hun,Bool.true_and,Bool.false_or]at hfo;have hge:decide (p.aX<=y.seq)=true:=hfo;rw[hun]at HX p3;go_wp2_with fail;refine aT HX.out ?_;rintro e w9 ⟨rfl,hN⟩;obtain⟨g9,n9,u9,t9⟩:=hN;go_wp2;go_returns;exact⟨rfl,g9,n9,wV.trans u9,t9.out.trans t63.out⟩
        ·rw[hun]at HX p3;go_wp2_with fail;refine aT HX.out ?_;rintro e w9 ⟨rfl,hN⟩;obtain⟨g9,n9,u9,t9⟩:=hN;go_wp2;go_returns;exact⟨rfl,g9,n9,wV.trans u9,t9.out.trans t63.out⟩
       ·rw[aG hfo]at hs2;have Un:fd=false∨(fd=true∧p.unk=false∧decide (p.aX<=y.seq)=false):=by
         revert hfo
         cases fd<;>cases p.unk<;>simp
        by_cases htl:p.ttl=1
        ·have hbt:(p.ttl==1)=true:=by simpa using htl
         rw[aM htl]at hs2;clear htl;have HX:=hide (jB n9 4 FD);rw[hs2]at HX;rcases Un with rfl|⟨rfl,hun,hge⟩
         ·
          go_wp2_with fail;refine aT HX.out ?_;rintro e w9 ⟨rfl,hN⟩;obtain⟨g9,n9,u9,t9⟩:=hN;go_wp2;go_returns;exact⟨rfl,g9,n9,wV.trans u9,t9.out.trans t63.out⟩
         ·rw[hun]at p3;go_wp2_with fail;refine aT HX.out ?_;rintro e w9 ⟨rfl,hN⟩;obtain⟨g9,n9,u9,t9⟩:=hN;go_wp2;go_returns;exact⟨rfl,g9,n9,wV.trans u9,t9.out.trans t63.out⟩
        ·have hbt:(p.ttl==1)=false:=by simpa using htl
         rw[aG htl]at hs2;have HX:=hide (Oj n9 p hq hL9 Bp);rw[hs2]at HX;dsimp only[aC.val]at HX;rcases Un with rfl|⟨rfl,hun,hge⟩
         ·
          go_wp2_with fail;refine aT HX.out ?_;rintro e w9 ⟨rfl,hN⟩;obtain⟨g9,n9,u9,t9⟩:=hN;go_wp2;go_returns;exact⟨rfl,g9,n9,wV.trans u9,t9.out.trans t63.out⟩
         ·rw[hun]at HX p3;go_wp2_with fail;refine aT HX.out ?_;rintro e w9 ⟨rfl,hN⟩;obtain⟨g9,n9,u9,t9⟩:=hN;go_wp2;go_returns;exact⟨rfl,g9,n9,wV.trans u9,t9.out.trans t63.out⟩
    ·have b3:(E2==3)=false:=by simpa using h3
     rw[aG h3]at hs2;have hLq:=Yu;clear CB Yp Yu;obtain⟨⟨y,fd⟩,hy⟩:∃r,bH s4.A p.dest s4.now=r:=⟨_,rfl⟩;have HF:=hide (nT n4 p.dest s4.now hde hy);go_wp2_with fail;go_cut [9,10]from 82 to 95 (oh y fd w4)
     case first=>
      have hS:HB N B g4.x.T C s4.me s4.seq s4.cZ s4.now p w4 w4.drew:=HB.drew (HB.mk' n4 l_ (aU _ _));have hkB:=hide λW5 h5=>HB.mk' (W:=W5) n4 l_ h5;go_region_held3 (HB N B g4.x.T C s4.me s4.seq s4.cZ s4.now p w4) (first|with_reducible exact hS|with_reducible assumption|(with_reducible apply HB.vR hkB;assumption)|(with_reducible apply HB.kG hkB;assumption)|(with_reducible apply HB.eY hkB)|(with_reducible apply hkB.out;assumption)) ((go_at_call 79;refine(HF.out _ (And.right (by assumption))).mono ?_;rintro e w2 ⟨ao,c,rfl,hb2,hpr⟩;try ((with_reducible have hD:=hpr di (.slice none 0 0) (lH w4));obtain⟨d0,d1,d2,d3,d4,d5,d6⟩:=hD.cell;have q0:=hD.free 0;have q1:=hD.free 1;have q2:=hD.free 2;have q3:=hD.free 3;have q4:=hD.free 4;have q5:=hD.free 5;have q6:=hD.free 6;have hD':Hid (eB w4.heap.size di (.slice none 0 0) w2):=hD;clear hD);clear hpr))
      all_goals
       go_wp2_with fail;go_meet;first|with_reducible exact iA hb2|with_reducible exact j3 hb2 hD'
     case rest=>
      obtain⟨E,ao,c,rfl,rfl,hE,hEl,su⟩:=hcut;have n8:=n4.later su;have KZ:PB p C wc:=PB.below l_ su;have hL8:=hLq.below su;have rz:fd=true->y.Ok:=λh=>by
       have:=oO n4.nn.cr.tb.ok p.dest s4.now;rw[hy]at this;rcases this with h1|h1
       ·exact h1
       ·rw[h]at h1;cases h1
      unfold St.asked at hs2;rw[hy]at hs2;dsimp only at hs2;have VY:=qg.trans (.below su);have Bp:s4.aH.length<=1000000:=by have:=tF.aH;omega
      have FD:s4.aQ.length<=1000000:=by have:=tF.aQ;omega
      have hS:HC N B g4.x.T C s4.me s4.seq s4.cZ s4.now p wc.drew:=HC.xZ n8 KZ;have Rf:eB E y (.slice ao y.bN.length c) wc.drew:=hE;have n9:=n8.drew;have JZ:PB p C wc.drew:=KZ;have hL9:fJ wc.drew p []:=hL8.below (aU _ _).drew;have wV:=VY.trans (.below (aU _ _).drew);clear HF l_ n4 su qg hE n8 KZ hL8 VY;by_cases rE:p.dest=s4.me
      ·have hbe:(p.dest==s4.me)=true:=by simpa using rE
       rw[aM rE]at hs2;clear rE;go_wp2_with fail;go_region_held3 (HC N B g4.x.T C s4.me s4.seq s4.cZ s4.now p) (first|with_reducible exact hS|with_reducible assumption) (fail)
       rename_i iV;clear iV hS;generalize World.drew _=W9 at n9 JZ hL9 wV Rf ⊢;have HX:=hide (wI n9 p hq tF.me tF.seq Bp FD);rw[hs2]at HX;dsimp only[aC.val]at HX;obtain⟨p0,p1,p2,p3,p4,p5,p6,p7,p8,p9,jL,jF⟩:=PB.cell JZ;clear JZ;go_wp2_with fail;refine aT HX.out ?_;rintro e w9 ⟨rfl,hN⟩;obtain⟨g9,n9,u9,t9⟩:=hN;go_wp2;go_returns;exact⟨rfl,g9,n9,wV.trans u9,t9.out.trans t43.out⟩
      ·have hbe:(p.dest==s4.me)=false:=by simpa using rE
       rw[aG rE]at hs2;go_wp2_with fail;go_region_held3 (HC N B g4.x.T C s4.me s4.seq s4.cZ s4.now p) (first|with_reducible exact hS|with_reducible assumption) (fail)
       rename_i iV;clear iV hS;generalize World.drew _=W9 at n9 JZ hL9 wV Rf ⊢;obtain⟨p0,p1,p2,p3,p4,p5,p6,p7,p8,p9,jL,jF⟩:=PB.cell JZ;obtain⟨e0,e1,e2,e3,e4,e5,e6⟩:=Rf.cell;clear JZ Rf;by_cases hfo:(fd&&(p.unk||decide (y.seq>=p.aX)))=true
       ·rw[aM hfo]at hs2;have xP:fd=true:=by revert hfo;cases fd<;>simp
        subst xP;have hyk:=rz rfl;have HX:=hide (tO n9 p hq y hyk ao y.bN.length c (by have:=tF.now;unfold Ca;omega) Bp FD);rw[hs2]at HX;dsimp only[aC.val,JW]at HX;cases hun:p.unk
        ·rw[hun,Bool.true_and,Bool.false_or]at hfo;have hge:decide (p.aX<=y.seq)=true:=hfo;rw[hun]at HX p3;go_wp2_with fail;refine aT HX.out ?_;rintro e w9 ⟨rfl,hN⟩;obtain⟨g9,n9,u9,t9⟩:=hN;go_wp2;go_returns;exact⟨rfl,g9,n9,wV.trans u9,t9.out.trans t43.out⟩
        ·rw[hun]at HX p3;go_wp2_with fail;refine aT HX.out ?_;rintro e w9 ⟨rfl,hN⟩;obtain⟨g9,n9,u9,t9⟩:=hN;go_wp2;go_returns;exact⟨rfl,g9,n9,wV.trans u9,t9.out.trans t43.out⟩
       ·rw[aG hfo]at hs2;have Un:fd=false∨(fd=true∧p.unk=false∧decide (p.aX<=y.seq)=false):=by
         revert hfo
         cases fd<;>cases p.unk<;>simp
        by_cases htl:p.ttl=1
        ·have hbt:(p.ttl==1)=true:=by simpa using htl
         rw[aM htl]at hs2;clear htl;have HX:=hide (jB n9 4 FD);rw[hs2]at HX;rcases Un with rfl|⟨rfl,hun,hge⟩
         ·
          go_wp2_with fail;refine aT HX.out ?_;rintro e w9 ⟨rfl,hN⟩;obtain⟨g9,n9,u9,t9⟩:=hN;go_wp2;go_returns;exact⟨rfl,g9,n9,wV.trans u9,t9.out.trans t43.out⟩
         ·rw[hun]at p3;go_wp2_with fail;refine aT HX.out ?_;rintro e w9 ⟨rfl,hN⟩;obtain⟨g9,n9,u9,t9⟩:=hN;go_wp2;go_returns;exact⟨rfl,g9,n9,wV.trans u9,t9.out.trans t43.out⟩
        ·have hbt:(p.ttl==1)=false:=by simpa using htl
         rw[aG htl]at hs2;have HX:=hide (Oj n9 p hq hL9 Bp);rw[hs2]at HX;dsimp only[aC.val]at HX;rcases Un with rfl|⟨rfl,hun,hge⟩
         ·
          go_wp2_with fail;refine aT HX.out ?_;rintro e w9 ⟨rfl,hN⟩;obtain⟨g9,n9,u9,t9⟩:=hN;go_wp2;go_returns;exact⟨rfl,g9,n9,wV.trans u9,t9.out.trans t43.out⟩
         ·rw[hun]at HX p3;go_wp2_with fail;refine aT HX.out ?_;rintro e w9 ⟨rfl,hN⟩;obtain⟨g9,n9,u9,t9⟩:=hN;go_wp2;go_returns;exact⟨rfl,g9,n9,wV.trans u9,t9.out.trans t43.out⟩
  ·have Ja:=hcb.out;simp only[Bool.or_eq_true,iL]at Ja;rw[aM Ja]at hs2;subst hs2;have HD:=hide (jB n2 1 hdl);clear hcb Ja hP2 hQ2;go_wp2_with fail;refine aT HD.out ?_;rintro e w3 ⟨rfl,hN⟩;go_wp2;go_returns;obtain⟨g9,n9,u9,t9⟩:=hN;exact⟨rfl,g9,n9,ua0.trans u9,t9⟩
variable{k:Int}{j:Nat}{s:St}
structure St.Inv(k:Int)(s:St):Prop where
 me:a_ s.me
 seq:a_ s.seq
 now:0<=s.now
 mem:∀e∈s.mem,e.dL<=s.now+1280
 dom:s.Dom
 cnt:0<=s.cnt∧s.cnt<=24
 tn:s.tn<=10000 * k
 tl:0<=s.tl∧s.tl<=10000 * k
 lk:s.lk=0
 Cx:s.pc.length<=5
 AV:s.pc.Pairwise (·<=·)
 AX:∀t∈s.pc,t<=s.now
 EH:∀q∈s.Q,q.id<=s.tl
 bd:qy s.bg
 nwl:s.bg.length<=100000
 frl:s.aH.length<=100000
 cml:s.aR.length<=100000
 drl:s.aQ.length<=100000
structure St.Mid(k:Int)(j:Nat)(s:St):Prop where
 me:a_ s.me
 seq:a_ s.seq
 now:0<=s.now∧s.now<=4611686018427387904
 mem:∀e∈s.mem,e.dL<=s.now+1280
 dom:s.Dom
 cnt:0<=s.cnt∧s.cnt<=24+10 * j
 bg:s.bg.length<=10 * j
 bd:qy s.bg
 aH:s.aH.length<=10 * j
 aQ:s.aQ.length<=10 * j
 aR:s.aR.length<=10 * j
 tn:s.tn<=10000 * k+j
 tl:0<=s.tl∧s.tl<=10000 * k+j
 Cx:s.pc.length<=5
 AV:s.pc.Pairwise (·<=·)
 AX:∀t∈s.pc,t<=s.now
 EH:∀q∈s.Q,q.id<=s.tl
theorem St.Mid.fine(h:s.Mid k j)(hj:j<=50000):s.Q0:=
 ⟨h.me,h.seq,h.now,h.mem,by have:=h.aH;omega,by have:=h.aQ;omega,by have:=h.aR;omega⟩
theorem Oq(s:St)(hA:s.A.length<=8):s.write.bg.length<=s.bg.length+9∧0<=s.write.cnt - s.cnt∧s.write.cnt<=s.cnt+9:=by
 have h:=oG s.seq s.own s.f s.A;refine⟨?_,?_,?_⟩
 ·show(s.bg++_).length<=_;rw[dx];omega
 ·show 0<=s.cnt+_ - s.cnt;omega
 ·show s.cnt+_<=s.cnt+9;omega
theorem xK(h:s.Mid k j)(hA:∀y∈s.A,y.Ok)(hl:s.A.length<=8):s.write.Mid k (j+1):=by
 obtain⟨w1,w2,w3⟩:=Oq s hl;have c:=h.cnt;exact⟨h.me,h.seq,h.now,h.mem,Ed h.dom hA h.seq,by omega,by have:=h.bg;omega,Ci h.bd (Ij h.seq s.f hA),by have:=h.aH;show s.aH.length<=_;omega,by have:=h.aQ;show s.aQ.length<=_;omega,by have:=h.aR;show s.aR.length<=_;omega,by have:=h.tn;show s.tn<=_;omega,by have:=h.tl;show 0<=s.tl∧s.tl<=_;omega,h.Cx,h.AV,h.AX,h.EH⟩
theorem NQ{A:List Rt}(hA:∀y∈A,y.Ok)(now:Int):∀y∈iW A now,y.Ok:=by
 intro y hy;obtain⟨z,hz,rfl⟩:=dh.1 hy;unfold og;split
 ·exact vY (hA z hz) (by simp[a_])
 ·exact hA z hz
theorem Pp(h:s.Inv k)(hA:∀y∈s.A,y.Ok)(hl:s.A.length<=8)(now:Int)(hn:s.now<=now∧now<=4611686018427387904):(s.begin now).Mid k 1:=by
 have h0:({s with now:=now,A:=iW s.A now,bg:=[],aH:=[],aR:=[],aQ:=[],bn:=false}:St).Mid k 0:=
  ⟨h.me,h.seq,⟨by have:=h.now;dsimp only;omega,hn.2⟩,λe he=>by have:=h.mem e he;dsimp only;omega,⟨h.dom.mb,λd hd=>by
   obtain⟨y,hy,rfl⟩:=h.dom.on d hd;exact⟨og now y,dh.2 ⟨y,hy,rfl⟩,g_ now y⟩,h.dom.own⟩,by have:=h.cnt;dsimp only;omega,aA _,λ_ h=>(by cases h),aA _,aA _,aA _,by have:=h.tn;dsimp only;omega,by have:=h.tl;dsimp only;omega,h.Cx,h.AV,λt ht=>by have:=h.AX t ht;dsimp only;omega,h.EH⟩
 exact xK h0 (NQ hA now) (by dsimp only[iW];rw[iK];exact hl)
theorem vM{i:Nat}{s':St}(h:s.Mid k j)(e:Eff i s s'):s'.Mid k (j+i):=by
 refine⟨by rw[e.me];exact h.me,e.seq h.seq,by rw[e.now];exact h.now,e.mem h.mem,⟨by rw[e.f];exact h.dom.mb,λd hd=> ?_,by rw[e.own];exact h.dom.own⟩,by rw[e.cnt];have:=h.cnt;omega,by rw[e.bg];have:=h.bg;omega,by rw[e.bg];exact h.bd,by have:=e.aH;have:=h.aH;omega,by have:=e.aQ;have:=h.aQ;omega,by have:=e.aR;have:=h.aR;omega,by have:=e.tn;have:=h.tn;omega,by rw[e.tl];have:=h.tl;omega,by rw[e.pc];exact h.Cx,by rw[e.pc];exact h.AV,by rw[e.pc,e.now];exact h.AX,λq hq=>by rw[e.tl];exact h.EH q (e.qs q hq)⟩;rw[e.f]at hd;obtain⟨y,hy,rfl⟩:=h.dom.on d hd;obtain⟨z,hz,e⟩:=e.sub y hy;exact⟨z,hz,e⟩
structure agf(s s':St):Prop where
 me:s'.me=s.me
 seq:s'.seq=s.seq
 cZ:s'.cZ=s.cZ
 dm:s'.dm=s.dm
 eH:s'.eH=s.eH
 A:s'.A=s.A
 mem:s'.mem=s.mem
 tn:s'.tn=s.tn
 Q:s'.Q=s.Q
 tl:s'.tl=s.tl
 pc:s'.pc=s.pc
 now:s'.now=s.now
 aH:s'.aH=s.aH
 aR:s'.aR=s.aR
 aQ:s'.aQ=s.aQ
 lk:s'.lk=s.lk
theorem aO(s:St):agf s s.finish:=by
 unfold St.finish;split<;>exact⟨rfl,rfl,rfl,rfl,rfl,rfl,rfl,rfl,rfl,rfl,rfl,rfl,rfl,rfl,rfl,rfl⟩
theorem zW(s:St):s.cmp.length=s.A.length+1:=by
 simp only[St.cmp,dz,gL,dx,iK,dY,List.length_nil];omega
theorem acf(h1:a_ s.own)(h2:MB s.f)(hA:∀y∈s.A,y.Ok):qy s.cmp:=by
 intro x hx;simp only[St.cmp,dz,gL,dG,dO,dh]at hx;rcases hx with rfl|⟨a,ha,rfl⟩
 ·unfold a_ at h1;dsimp only;omega
 ·obtain⟨y,hy,rfl⟩:=ha;have h2':=(hA y hy).dest;have h3:=h2.getD y.dest;unfold a_ at h2' h3;dsimp only;omega
theorem Bg(h:s.Mid k j)(hj:j<=9000)(hlk:s.lk=0)(hA:∀y∈s.A,y.Ok)(hl:s.A.length<=8):s.finish.Inv (k+1):=by
 have e:=aO s;have hw:=xK h hA hl;have D7:s.finish.Dom:=by
  have:=hw.dom;unfold St.finish;split
  ·exact⟨this.mb,this.on,this.own⟩
  ·exact this
 have hcn:0<=s.finish.cnt∧s.finish.cnt<=24:=by
  unfold St.finish;split
  ·have:=zW s.write;have h8:s.write.A.length<=8:=hl;dsimp only;omega
  ·have:=hw.cnt;omega
 have hbd:qy s.finish.bg∧s.finish.bg.length<=100000:=by
  unfold St.finish;split
  ·have h8:s.write.A.length<=8:=hl;refine⟨acf hw.dom.own hw.dom.mb hA,?_⟩;have:=zW s.write;dsimp only;omega
  ·have:=hw.bg;exact⟨hw.bd,by omega⟩
 exact⟨by rw[e.me];exact h.me,by rw[e.seq];exact h.seq,by rw[e.now];exact h.now.1,by rw[e.mem,e.now];exact h.mem,D7,hcn,by rw[e.tn];have:=h.tn;omega,by rw[e.tl];have:=h.tl;omega,by rw[e.lk];exact hlk,by rw[e.pc];exact h.Cx,by rw[e.pc];exact h.AV,by rw[e.pc,e.now];exact h.AX,by rw[e.Q,e.tl];exact h.EH,hbd.1,hbd.2,by rw[e.aH];have:=h.aH;omega,by rw[e.aR];have:=h.aR;omega,by rw[e.aQ];have:=h.aQ;omega⟩
def dV(s:St)(TL:List Hp.Tm):Prop:=TL.Perm (s.Q.map kT)
theorem Jj{Q:List Sr}(hn:Q.Pairwise λa b=>a.dest≠b.dest){q:Sr}(hq:q∈Q):Q.Perm (q::Q.filter λz=>!decide (z.dest=q.dest)):=by
 induction Q with
 |nil=>cases hq
 |cons a Q ih=>
  rw[List.pairwise_cons]at hn;rcases eF.1 hq with rfl|h
  ·have h1:Q.filter (λz=>!decide (z.dest=q.dest))=Q:=List.filter_eq_self.2 λz hz=>by simpa using(hn.1 z hz).symm
   simp[h1]
  ·have h1:=ih hn.2 h;have h2:a.dest≠q.dest:=hn.1 q h;rw[List.filter_cons_of_pos (by simpa using h2)];exact(h1.cons a).trans (.swap _ _ _)
theorem aak{d:Int}{s2:St}{TL dW:List Hp.Tm}(h:Zg d s TL s2 dW)(ht:dV s TL)(hid:TL.Pairwise λa b=>a.2.1≠b.2.1)(hn:s.Q.Pairwise λa b=>a.dest≠b.dest):dV s2 dW:=by
 unfold dV at ht ⊢;rcases h with⟨rfl,e⟩|⟨q,hq,htk,e⟩
 ·rw[e];exact ht
 ·obtain⟨hqm,rfl⟩:=gY hq;have hqt:kT q∈TL:=ht.mem_iff.2 (dh.2 ⟨q,hqm,rfl⟩);rcases htk with⟨x,hx,hp⟩|⟨hno,_⟩
  ·have hxT:x∈TL:=hp.mem_iff.1 gm;have hxe:x=kT q:=by
    refine Classical.byContradiction λhne=> ?_;have:∀(L:List Hp.Tm),L.Pairwise (λa b=>a.2.1≠b.2.1)->x∈L->kT q∈L->False:=by
     intro L
     induction L with
     |nil=>intro _ h;cases h
     |cons a L ih=>
      intro hp h1 h2;rw[List.pairwise_cons]at hp;rcases eF.1 h1 with k1|k1
      ·rcases eF.1 h2 with k2|k2
       ·exact hne (k1.trans k2.symm)
       ·exact hp.1 _ k2 (k1▸hx)
      ·rcases eF.1 h2 with k2|k2
       ·exact hp.1 _ k1 ((k2▸rfl:a.2.1=(kT q).2.1).trans hx.symm)
       ·exact ih hp.2 k1 k2
    exact this TL hid hxT hqt
   subst hxe;rw[e];have h1:=(hp.trans ht).trans ((Jj hn hqm).map kT);rw[List.map_cons]at h1;exact(List.perm_cons _).1 h1
  ·exact absurd rfl (hno _ hqt)
abbrev aaS:Go.Conc.Locks.MuLink:={lock:=49,unlock:=50,ilock:=74,iunlock:=75,lockSlow:=109,unlockSlow:=112,disable:=105,enable:=107,acquire:=108,relMerge:=110,cas32:=106,add32:=111,tMutex:=127,tIMutex:=125,tPMutex:=168,tPIMutex:=215,tPI32:=217,tUP:=219,tNoCopy:=123,tU32:=34}
theorem nL:Go.Conc.Locks.MuLib Tryz.prog aaS:=
 ⟨Tryz.func49,Tryz.func50,Tryz.func74,Tryz.func75,Tryz.func105,Tryz.func107,Tryz.func108,Tryz.func110,Tryz.func106,Tryz.func111,Tryz.underlying125,Tryz.runUnderlying125,Tryz.sizeOf125,Tryz.isAgg125,Tryz.zeroValue125,Tryz.underlying127,Tryz.runUnderlying127,Tryz.sizeOf127,Tryz.isAgg127,Tryz.zeroValue127,Tryz.underlying168,Tryz.runUnderlying168,Tryz.sizeOf168,Tryz.isAgg168,Tryz.zeroValue168,Tryz.underlying215,Tryz.runUnderlying215,Tryz.sizeOf215,Tryz.isAgg215,Tryz.zeroValue215,Tryz.underlying217,Tryz.runUnderlying217,Tryz.sizeOf217,Tryz.isAgg217,Tryz.zeroValue217,Tryz.underlying219,Tryz.runUnderlying219,Tryz.sizeOf219,Tryz.isAgg219,Tryz.zeroValue219,Tryz.underlying123,Tryz.runUnderlying123,Tryz.sizeOf123,Tryz.isAgg123,Tryz.zeroValue123,Tryz.underlying21,Tryz.runUnderlying21,Tryz.sizeOf21,Tryz.isAgg21,Tryz.zeroValue21,(by kernel_rfl)⟩
end Go.Proofs.YtakaadcpaeiccabGreat
