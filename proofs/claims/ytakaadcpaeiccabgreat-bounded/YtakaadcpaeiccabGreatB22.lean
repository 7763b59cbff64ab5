import Derived.Test.YtakaadcpaeiccabGreatB21
set_option maxHeartbeats 8000000
set_option maxRecDepth 100000
namespace Go.Proofs.YtakaadcpaeiccabGreat
open Go.RowKit Go.Maps Go.MuLone
variable{y:MG}{m:aP}{w:World}
theorem vV.at9{base:Nat}{v:Value}{L:List (Rt×Value)}{W W':World}(h:vV base v L W)(he:∀(k:Nat) (c:Array Value) (t:Nat),t∈([38,34]:List Nat)->base<=k->W.heap[k]?=some (Obj.cells c t (0,0))->W'.heap[k]?=W.heap[k]?):vV base v L W':=
 ⟨bK h.row λk hk=>by
  obtain⟨c,hc⟩:=aL h.row hk;exact he k c 38 (by decide) (h.row.lt k hk).1 hc,λp hp=>bK (h.bG p hp) λk hk=>by
  obtain⟨c,hc⟩:=aL (h.bG p hp) hk;exact he k c 34 (by decide) ((h.bG p hp).lt k hk).1 hc⟩
theorem RO{N:Nat}{g:bF}{s:St}{TL:List Hp.Tm}(n:Nn N g s TL w)(hlk:s.lk=0):
  Calls Tryz.prog 26 #[.pointer (some ⟨N,0,none⟩)] w λe w'=>∃v L,e=.returned v∧L.map (·.1)=s.A∧vV w.heap.size v L w'∧Nn N g s TL w'∧Fx (Ft N g s) w w':=by
 obtain⟨c0,g0⟩:=n.GN;rw[hlk]at c0;obtain⟨n2,hg2⟩:=n.j4 1;have hf2:Fx (Ft N g s) w (w.setCell ⟨N,0,none⟩ (.int .i32 1)):=Fx.grown hg2 λk e=>by cases e;exact .inl (.inl rfl)
 have hsz:(w.setCell ⟨N,0,none⟩ (.int .i32 1)).heap.size=w.heap.size:=by simp
 have h0:g.x.lk=0:=n.eq.lk.trans hlk;have hx:({g with x:={g.x with lk:=0}}:bF)=g:=by rw[<-h0]
 have hs0:({s with lk:=0}:St)=s:=by rw[<-hlk]
 have hNl:=n.lt (.inl (.inl rfl));clear hg2
 go_enter_defers Tryz.func26,Tryz.ntmps26
 go_wp2_with fail;refine aN (lock_free lm ⟨N,0,none⟩ w c0 g0) ?_;rintro e w2 ⟨rfl,rfl⟩;generalize World.setCell _ _ _=W2 at n2 hf2 hsz ⊢;have c5:=n2.cr.nd.cell.2.2.2.2.1;dsimp only at c5;go_wp2_with fail;refine aN (Gw n2.cr.tb) ?_;rintro e w3 ⟨v,L,rfl,hL,hls,hb3⟩;obtain⟨ao,c,rfl,hH⟩:=ak hls.row;have n3:=n2.later hb3;obtain⟨u0,g2⟩:=n3.GN;obtain⟨n4,hg4⟩:=n3.j4 0;have hf4:Fx (Ft N g s) w (w3.setCell ⟨N,0,none⟩ (.int .i32 0)):=aQ (hf2.trans (Fx.below (S:=λ_=>False) hb3) (λ_ _ h=>h.elim)) hg4 (λi _ e=>by cases e;exact .inl (.inl rfl));have acs:vV w.heap.size (.slice ao L.length c) L (w3.setCell ⟨N,0,none⟩ (.int .i32 0)):=by
  rw[<-hsz];exact hls.at9 λk cc t ht hk hc=>hg4.block k (aB hc) λe=>by
   cases e;have:=n2.cr.nd;rw[hsz]at hk;omega
 have n5:Nn N g s TL (w3.setCell ⟨N,0,none⟩ (.int .i32 0)):=by
  have h:=n4;rw[show({({g with x:={g.x with lk:=1}}:bF)with x:={({g with x:={g.x with lk:=1}}:bF).x with lk:=0}}:bF)={g with x:={g.x with lk:=0}}from rfl,hx]at h;rw[show({({s with lk:=1}:St)with lk:=0}:St)={s with lk:=0}from rfl,hs0]at h;exact h
 dsimp only at u0;clear n2 n3 n4 hls hg4 hf2 hH;go_wp2_with fail;refine leaves_cons (f:=50) (args:=#[.pointer (some ⟨N,0,none⟩)]) (by simp) (by simp[go_sem]) ?_;refine(unlock_deferred lm ⟨N,0,none⟩ .returning w3 u0 g2).mono ?_;rintro e u' w'' ⟨rfl,rfl,rfl⟩;exact⟨_,results_tmp rfl _ _ _,.slice ao L.length c,L,rfl,hL,acs,n5,hf4⟩
theorem Jt(v:Value)(n:Nat)(cs:List Int)(hn:n<=1000000)(w:World)(h:w.ownsRow 0 5 1 v n (U cs)):
  Calls Tryz.prog 40 #[v] w λe w'=>∃v',e=.returned v'∧w'.ownsRow w.heap.size 5 1 v' n (U cs)∧Below w.heap.size w w':=by
 obtain⟨i0,hi,hz0,hz1,hz2⟩:=info_parts qy;have h1c:∀u∈U cs,u.oneCell'=true:=λu hu=>by
  obtain⟨x,_,rfl⟩:=dO.1 hu;rfl
 have hbe:Below w.heap.size w (w.alloc (.cells #[] 5)):=bn;have hoe:(w.alloc (.cells #[] 5)).ownsRow w.heap.size 5 1 (.slice (some ⟨w.heap.size,0,none⟩) 0 0) 0 []:=
  ⟨rfl,.inr ⟨w.heap.size,0,_,rfl,aA _,bO w _,aA _,by decide,rfl,rfl⟩⟩
 have hne:w.heap.size<=(w.alloc (.cells #[] 5)).heap.size:=by simp
 have hsrc':Src Tryz.prog 1 58 v n (U cs) (w.alloc (.cells #[] 5)):=Src.ofRow Tryz.underlying58 (aJ h hbe) h1c;rcases h.2 with⟨rfl,rfl⟩|⟨g,cap,cur,rfl,rest⟩
 ·have hq:=λW=>Lib.run_eql_slice_nil (P:=Tryz.prog) W 58 5 none 0 0 0 0 Tryz.underlying58;simp only[Option.isNone_none]at hq;clear hbe hoe hne hsrc';go_enter Tryz.func40,Tryz.ntmps40;go_wp2;go_ret;exact⟨_,rfl,⟨h.1,.inl ⟨rfl,rfl⟩⟩,aR _ _⟩
 ·have hq:=λW=>Lib.run_eql_slice_nil (P:=Tryz.prog) W 58 5 (some ⟨g,0,none⟩) n cap 0 0 Tryz.underlying58;simp only[Option.isNone_some]at hq;clear rest;go_enter Tryz.func40,Tryz.ntmps40;go_wp2_with(at_builtin;refine fM _ rfl _ _ 58 58 rfl w.heap.size 5 i0 (.int .u8 0) 1 1 Tryz.underlying58 hi hz0 hz1 hz2 rfl (.slice (some ⟨w.heap.size,0,none⟩) 0 0) 0 [] rfl hoe (by simp) (.slice (some ⟨g,0,none⟩) n cap) n (U cs) rfl hsrc' ?c1 ?c2 hne ?_)
  case c1=>unfold maxLen;omega
  case c2=>omega
  intro v7 W7 gB fP _;have GQ:=hbe.grown fP hne (λk hk=>(hoe.lt k hk).1);clear hq hsrc' hbe hoe hne fP;go_wp2;go_ret;exact⟨v7,rfl,by simpa using gB,GQ⟩
theorem NH(h:MM y m w)(k:Nat)(hk:k<m.S.length)(hjl:(m.at' k).bD.length<=1000000):Calls Tryz.prog 18 #[.pointer (some ⟨y.G,0,none⟩),.int .i64 k] w λe w'=>∃v,e=.returned v∧w'.ownsRow w.heap.size 5 1 v (m.at' k).bD.length (U (m.at' k).bD)∧Below w.heap.size w w':=by
 obtain⟨x,s,g,c,e1,e2,e3,e4,p0⟩:=h.get hk;obtain⟨_,q1,_,_⟩:=h.cell;rw[e4]at q1;have c1:=(h.st k x s e1 e2).cell.2.1;rw[e3]at hjl ⊢;have HC:=hide (Jt x.jv s.bD.length s.bD hjl w (h.st k x s e1 e2).row);have HH:=hide (KU h k);have hb:m.has k=true:=by
  unfold aP.has;simp[hk]
 rw[hb]at HH;have hkn:(k:Int)<(m.S.length:Int):=by omega
 clear h e1 e2 e3 e4 hb;go_enter Tryz.func18,Tryz.ntmps18;go_wp2_with fail;refine aN HH.out ?_;rintro e w2 ⟨rfl,rfl⟩;go_wp2_with fail;refine aN HC.out ?_;rintro e w3 ⟨v,rfl,ho,hb3⟩;clear HC HH;go_wp2;go_ret;exact⟨v,rfl,ho,hb3⟩
theorem NG(h:MM y m w)(k:Nat)(hk:k<m.S.length)(hlk:∀z,(m.at' k).nd=some z->z.lk=0):Calls Tryz.prog 12 #[.pointer (some ⟨y.G,0,none⟩),.int .i64 k] w λe w'=>∃v L,e=.returned v∧L.map (·.1)=m.tab k∧vV w.heap.size v L w'∧MM y m w'∧MU y m y m w w':=by
 obtain⟨x,s,g,c,e1,e2,e3,e4,p0⟩:=h.get hk;obtain⟨_,q1,_,_⟩:=h.cell;rw[e4]at q1;have c2:=(h.st k x s e1 e2).cell.2.2.1;have HR:=hide (Jk h k);have hkn:(k:Int)<(m.S.length:Int):=by omega
 have hrun:m.runs k=s.nd.isSome:=by
  unfold aP.runs aP.has;simp[hk,e3]
 rw[hrun]at HR;rw[e3]at hlk;have htab:m.tab k=match s.nd with|none=> []|some z=>z.A:=by
  unfold aP.tab;rw[e3];cases s.nd<;>rfl
 rw[htab];cases hnd:s.nd with
 |none=>
  rw[hnd]at HR;simp only[Option.isSome_none]at HR;have hfin:=h;clear h e1 e2 e3 e4 hrun q1 c2 p0;go_enter Tryz.func12,Tryz.ntmps12;go_wp2_with fail;refine aN HR.out ?_;rintro e w2 ⟨rfl,rfl⟩;go_wp2;go_ret;exact⟨_,[],rfl,rfl,⟨⟨rfl,.inl ⟨rfl,rfl⟩⟩,λp hp=>by cases hp⟩,hfin,MU.refl _ _ _⟩
 |some z=>
  rw[hnd]at HR c2;simp only[Option.isSome_some]at HR;unfold J7 at c2;obtain⟨nn,tm⟩:=(h.st k x s e1 e2).nd z hnd;have HN:=RO nn (hlk z hnd);have HN2:Hid (Calls Tryz.prog 26 #[.pointer (some ⟨x.N,0,none⟩)] w λe w'=>∃v L,e=.returned v∧L.map (·.1)=z.A∧vV w.heap.size v L w'∧MM y m w'∧MU y m y m w w'):=by
   refine HN.mono ?_;rintro e w' ⟨v,L,rfl,hL,hls,n2,fx⟩;have hst:=h.st k x s e1 e2;have hB:¬Ft x.N x.g z x.B:=λhk=>by
    obtain⟨o,ho,hK⟩:=nn.kind hk;rw[hst.blk]at ho;cases ho;exact hK.not (by decide)
   have hJ:∀k,x.jv.ownBlock=some k->¬Ft x.N x.g z k:=λk hk hf=>by
    obtain⟨o,ho,hK⟩:=nn.kind hf;obtain⟨cc,hc⟩:=aL hst.row hk;rw[hc]at ho;cases ho;exact hK.not (by decide)
   have hst':l7 x s w':=⟨(fx.block _ (aB hst.blk) hB).trans hst.blk,hst.hl,bK hst.row λk hk=>fx.block k (hst.row.lt k hk).2 (hJ k hk),λu hu=>by
    rw[hnd]at hu;cases hu;exact⟨n2,tm⟩⟩
   have hmp:=h.turn e1 e2 (fx.mono λk hk=> .inr (.inr ⟨z,hnd,hk⟩)) hst' rfl λk hk=> .inl hk;have h5:m.S.set k s=m.S:=by
    obtain⟨h5,h6⟩:=gm.1 e2;rw[<-h6];exact List.set_getElem_self h5
   have h6:y.L.set k x=y.L:=by
    obtain⟨h5,h6⟩:=gm.1 e1;rw[<-h6];exact List.set_getElem_self h5
   rw[h5,h6]at hmp;exact⟨v,L,rfl,hL,hls,hmp.1,hmp.2⟩
  clear h e1 e2 e3 e4 hrun HN nn tm;go_enter Tryz.func12,Tryz.ntmps12;go_wp2_with fail;refine aN HR.out ?_;rintro e w2 ⟨rfl,rfl⟩;go_wp2_with fail;refine aN HN2.out ?_;rintro e w3 ⟨v,L,rfl,hL,hls,hp,hu⟩;clear HN2 HR;go_wp2;go_ret;exact⟨v,L,rfl,hL,hls,hp,hu⟩
theorem RU(h:MM y m w)(k:Nat)(hk:k<m.S.length)(hlk:∀z,(m.at' k).nd=some z->z.lk=0):Calls Tryz.prog 12 #[.pointer (some ⟨y.G,0,none⟩),.int .i64 k] w λe w'=>∃v L,e=.returned v∧L.map (·.1)=m.tab k∧vV w.heap.size v L w'∧MP y m m w w':=
 (NG h k hk hlk).mono λ_ _ ⟨v,L,he,hL,hls,hm,hu⟩=>⟨v,L,he,hL,hls,y,hm,hu⟩
variable{y:MG}{m:aP}{i:Nat}
theorem MM.Xa{W:World}(h:MM y m W)(t:Int):MM y {m with now:=t} (W.setCell ⟨y.G,0,none⟩ (.int .u64 t))∧MU y m y {m with now:=t} W (W.setCell ⟨y.G,0,none⟩ (.int .u64 t)):=by
 have hg:W.grownBy (W.setCell ⟨y.G,0,none⟩ (.int .u64 t)) (some y.G):=ah (ay _ (some y.G)) 0 _;refine⟨⟨?_,h.xZ.kept hg (.inr (aH h.xZ h.blk (λc e=>(by cases e)))),h.bH.kept hg (.inr (aH h.bH h.blk (λc e=>(by cases e)))),h.len,λi x s h1 h2=>(h.st i x s h1 h2).kept λk hk=>hg.block k ((h.st i x s h1 h2).lt hk) λe=>(h.own h1 h2 hk).1 (Option.some.inj e),h.ap⟩,Fx.grown hg λk e=>by cases e;exact .inl rfl,λk hk=> .inl hk,rfl,rfl,rfl,rfl⟩;simp[World.setCell,dM,h.blk]
def eD(m:aP)(k:Nat):aP×List Ev:=(List.range k).foldl aP.qK (m,[])
theorem xV(m:aP)(k:Nat):eD m (k+1)=aP.qK (eD m k) k:=by
 unfold eD;rw[List.range_succ,List.foldl_append];rfl
theorem G8{z:aP×List Ev}(h:(z.1.at' i).nd=none):aP.qK z i=z:=by
 unfold aP.qK;rw[h]
theorem G7{z:aP×List Ev}{s:St}(h:(z.1.at' i).nd=some s):aP.qK z i=((z.1.act i (s.kJ z.1.now)).1,z.2++(z.1.act i (s.kJ z.1.now)).2):=by
 unfold aP.qK;rw[h]
theorem F9(φ:aP->Int×ByteArray->aP×List Ev)(hφ:∀m f,(φ m f).1.now=m.now)(m:aP)(i:Nat)(o:Ot):(m.jc φ i o).1.now=m.now:=by
 have hg:∀(L:List (Int×ByteArray)) (z:aP×List Ev),(L.foldl (sG φ) z).1.now=z.1.now:=by
  intro L
  induction L with
  |nil=>intro z;rfl
  |cons f L ih=>
   intro z;rw[iH,ih];exact hφ z.1 f
 unfold aP.jc;split
 ·rfl
 ·split
  ·exact hg _ _
  ·rfl
theorem O7(i:Nat)(m:aP)(f:Int×ByteArray):(m.mX i f).1.now=m.now:=(g_ m i f).2
theorem O5(i:Nat)(m:aP)(f:Int×ByteArray):(m.iL i f).1.now=m.now:=by
 unfold aP.iL;split
 ·exact(g_ m i f).2
 ·split
  ·exact(g_ m i f).2
  ·unfold aP.AO;rw[F9 _ (O7 i)];exact(g_ m i f).2
theorem VD(m:aP)(i:Nat)(z:St):(m.act i z).1.now=m.now∧(m.act i z).1.S.length=m.S.length:=by
 refine⟨F9 _ (O5 i) _ i _,?_⟩;show(aP.jc (aP.iL i) (m.put i _) i _).1.S.length=_;rw[Q7 _ (O6 i),(gG _ _ _).1,List.length_set]
theorem Q6(φ:aP->Int×ByteArray->aP×List Ev)(hφ:∀m f,(φ m f).2.length<=1)(m:aP)(i:Nat)(o:Ot):(m.jc φ i o).2.length<=1+o.aI.length:=by
 cases hi:o.idle
 ·cases hw:((m.at' i).write o).2
  ·unfold aP.jc;rw[aD (by simp[hi]),aD (by simp[hw])];simp
  ·rw[uI φ m i o hi hw];exact zG hφ m i o _ (aA _)
 ·unfold aP.jc;rw[aO hi];simp
theorem Zo{w:World}(h:MM y m w){κ:Int}{q:Nat}(hok:iy κ q m)(FD:0<=κ∧κ<=90000000000)(_:q<=4990)(n:Int)(eZ:m.now+60000<=4611686018427387904):
  Calls Tryz.prog 31 #[.pointer (some ⟨y.G,0,none⟩),.int .i64 n] w λe w'=>iW y m (m.tick n).1 (m.tick n).2 w.heap.size w e w'∧iy (κ+1000000) q (m.tick n).1:=by
 by_cases hn:n<1∨n>60000
 ·have ho:m.tick n=(m,[]):=by
   unfold aP.tick;rw[aO hn]
  have hfin:iW y m (m.tick n).1 (m.tick n).2 w.heap.size w (.returned (.slice none 0 0)) w∧iy (κ+1000000) q (m.tick n).1:=by
   rw[ho];exact⟨⟨_,[],rfl,rfl,f_.nil _ _,MP.refl h⟩,hok.up (by omega) (aA _)⟩
  replace hfin:=hide hfin;clear h ho hok;by_cases h1:n<1
  ·go_enter Tryz.func31,Tryz.ntmps31;go_wp2;go_ret;exact hfin.out
  ·have h2:60000<n:=by omega
   go_enter Tryz.func31,Tryz.ntmps31;go_wp2;go_ret;exact hfin.out
 ·have hn1:¬n<1:=λh=>hn (.inl h);have hn2:¬60000<n:=λh=>hn (.inr h);have ho:m.tick n=eD {m with now:=m.now+n} m.S.length:=by
   unfold aP.tick;rw[aD hn];rfl
  obtain⟨hs1,hu1⟩:=h.Xa (m.now+n);have hok1:iy κ q {m with now:=m.now+n}:=⟨hok.n,hok.bH,by have:=hok.now;dsimp only;omega,λs hs=>(hok.st s hs).up (iB _) (aA _) (by dsimp only;omega)⟩;obtain⟨c0,c1,_,fz⟩:=h.cell;have f0:=fz 0;obtain⟨sa,sc,hsv⟩:=h.svf;rw[hsv]at c1;have hw1:IntKind.u64.wrap n=n:=by
   simp only[IntKind.wrap,IntKind.signed,IntKind.bits];simp;omega
  have hw2:IntKind.u64.wrap (m.now+n)=m.now+n:=by
   have:=hok.now;simp only[IntKind.wrap,IntKind.signed,IntKind.bits];simp;omega
  rw[ho];have hnS:({m with now:=m.now+n}:aP).S.length=m.S.length:=rfl;obtain⟨m1,hm1⟩:∃m1,({m with now:=m.now+n}:aP)=m1:=⟨_,rfl⟩;rw[hm1]at hs1 hu1 hok1 hnS ⊢;have pX:Hid (∃y' L,MM y' (eD m1 0).1 (w.setCell ⟨y.G,0,none⟩ (.int .u64 (m.now+n)))∧MU y m y' (eD m1 0).1 w (w.setCell ⟨y.G,0,none⟩ (.int .u64 (m.now+n)))∧iy (κ+100001 * (0:Nat)) q (eD m1 0).1∧(eD m1 0).1.now=m1.now∧(eD m1 0).1.S.length=m.S.length∧f_ w.heap.size (.slice none 0 0) L (w.setCell ⟨y.G,0,none⟩ (.int .u64 (m.now+n)))∧L.map (·.1)=(eD m1 0).2∧L.length<=100001 * 0):=
   ⟨y,[],hs1,hu1,hok1.up (by omega) (aA _),rfl,hnS,f_.nil _ _,rfl,by simp⟩
  have u1:=hs1.cell.2.1;rw[hsv]at u1;have hmS:m.S.length<=6:=hok.n;obtain⟨i0,hi0,hz0,hz1,hz2⟩:=info_parts Ki;clear h hs1 hu1 hok1 hok ho fz hm1;go_enter Tryz.func31,Tryz.ntmps31;go_upto_region 4 with(fail);generalize World.setCell _ _ _=W1 at pX u1 ⊢;clear c0 c1 f0;go_wp2_with fail;go_loopw [5,28] (λev iv wr=>∃k:Nat,k<=m.S.length∧iv=.int .i64 k∧Hid (∃y' L,MM y' (eD m1 k).1 wr∧MU y m y' (eD m1 k).1 w wr∧iy (κ+100001 * k) q (eD m1 k).1∧(eD m1 k).1.now=m1.now∧(eD m1 k).1.S.length=m.S.length∧f_ w.heap.size ev L wr∧L.map (·.1)=(eD m1 k).2∧L.length<=100001 * k)) (λ_ iv _=>m.S.length - (intOf iv).toNat)
  case atStart=>exact⟨0,bX _,rfl,pX⟩
  case round=>
   clear pX u1;obtain⟨k,hk,rfl,hr⟩:=hrel;by_cases hkl:k<m.S.length
   ·have hki:(k:Int)<(m.S.length:Int):=by omega
    obtain⟨y',L,hm,hu,hmo,hN,Yy,hev,hL,UX⟩:=hr.out;obtain⟨x,s,g,c,e1,e2,e3,e4,p0⟩:=hm.get (i:=k) (by rw[Yy];exact hkl);have hsa:sa=some ⟨g,0,none⟩:=by
     have h5:=e4;rw[hu.sv,hsv]at h5;injection h5 with h5 _ _
    subst hsa;have c2:=(hm.st k x s e1 e2).cell.2.2.1;have hk1:k+1<=m.S.length:=by omega
    have hme:=jP hkl;cases hnd:s.nd with
    |none=>
     rw[hnd]at c2;unfold J7 at c2;have hr2:Hid (∃y' L,MM y' (eD m1 (k+1)).1 wr∧MU y m y' (eD m1 (k+1)).1 w wr∧iy (κ+100001 * (k+1:Nat)) q (eD m1 (k+1)).1∧(eD m1 (k+1)).1.now=m1.now∧(eD m1 (k+1)).1.S.length=m.S.length∧f_ w.heap.size u5 L wr∧L.map (·.1)=(eD m1 (k+1)).2∧L.length<=100001 * (k+1)):=by
      show ∃y' L,_;rw[xV,G8 (by rw[e3];exact hnd)];exact⟨y',L,hm,hu,hmo.up (by omega) (aA _),hN,Yy,hev,hL,by omega⟩
     have hw64:wrap64 ((k:Int)+1)=(k:Int)+1:=by unfold wrap64;omega
     clear hr hm hu hmo hev hL UX e1 e2 e3 e4;go_wp2;try rw[hw64]
     go_roundw
     case rel=>
      first
       |exact⟨k+1,hk1,by go_num,hr2⟩
       |exact⟨_,_,⟨k+1,hk1,by go_num,hr2⟩,rfl⟩
       |((repeat apply Exists.intro);refine⟨⟨k+1,hk1,by go_num,hr2⟩,rfl⟩)
     case measure=>exact hme
    |some z=>
     rw[hnd]at c2;unfold J7 at c2;have hnk:=(hmo.at e2).nd z hnd;have hd1:Below wr.heap.size wr wr.drew:=(aR _ _).drew;have hmd:=hm.later hd1;obtain⟨nn,tm⟩:=(hmd.st k x s e1 e2).nd z hnd;have hsr:=nn.JF;have HT:=Zm nn hnk.inv (by omega) tm hnk.pos m1.now ⟨by have:=hnk.nw;rw[hN]at this;exact this,by have:=hmo.now.2;rw[hN]at this;exact this⟩;have q0:=hm.cell.1;rw[hN,hu.G]at q0;obtain⟨M,hMe⟩:∃M,(eD m1 k).1=M:=⟨_,rfl⟩;have hsucc:eD m1 (k+1)=((M.act k (z.kJ m1.now)).1,(eD m1 k).2++(M.act k (z.kJ m1.now)).2):=by
      rw[xV,G7 (by rw[e3];exact hnd),hN,hMe]
     rw[hMe]at hm hu hmo hN Yy e2 e3 hmd;have HT2:Hid (Calls Tryz.prog 20 #[.pointer (some ⟨x.N,0,none⟩),.int .u64 m1.now] wr.drew λe w2=>∃aG bL bN y2,e=.returned (iC (z.kJ m1.now).bD (z.kJ m1.now).bq aG bL bN)∧gV wr.heap.size (z.kJ m1.now).aI (z.kJ m1.now).aT (z.kJ m1.now).aM aG bL bN w2∧wr.heap.size<=w2.heap.size∧MM y2 (M.put k {s with nd:=some (z.kJ m1.now)}) w2∧MU y' M y2 (M.put k {s with nd:=some (z.kJ m1.now)}) wr w2∧A7 (κ+100001 * k+1) q (M.put k {s with nd:=some (z.kJ m1.now)}) k (z.kJ m1.now)):=by
      refine HT.mono ?_;rintro e w2 ⟨o,rfl,hI2,hcp⟩;obtain⟨s',hp1,hp2⟩:=BX z m1.now hsr;have hrest:=yD hp1;have hcnt:=uJ hp1;rw[<-hp2]at hrest hcnt;obtain⟨aG,bL,bN,y2,rfl,hor,hm2,hu2,hdk⟩:=DI hmd hmo e1 e2 hnd hcp hI2.out (TW hnk.pos hnk.inv.tl.1 m1.now) hrest.1 (hrest.2.trans hN.symm) (aA _) (dF (WR _ _) hnk.ql) hcnt;exact⟨aG,bL,bN,y2,rfl,hor,hu2.fx.size,hm2,hu2.pre hd1,hdk⟩
     have hDD:Hid (∀aG bL bN y2 w2,gV wr.heap.size (z.kJ m1.now).aI (z.kJ m1.now).aT (z.kJ m1.now).aM aG bL bN w2->wr.heap.size<=w2.heap.size->MM y2 (M.put k {s with nd:=some (z.kJ m1.now)}) w2->MU y' M y2 (M.put k {s with nd:=some (z.kJ m1.now)}) wr w2->A7 (κ+100001 * k+1) q (M.put k {s with nd:=some (z.kJ m1.now)}) k (z.kJ m1.now)->Calls Tryz.prog 36 #[.pointer (some ⟨y.G,0,none⟩),.int .i64 k,iC (z.kJ m1.now).bD (z.kJ m1.now).bq aG bL bN] w2 λe w3=>∃v2 L2,e=.returned v2∧L2.length<=100001∧w3.ownsRow w.heap.size 54 7 u5 L.length (EvC L)∧w3.ownsRow wr.heap.size 54 7 v2 L2.length (EvC L2)∧(∀u∈EvC L2,u.oneCell'=true)∧w.heap.size<=w3.heap.size∧∀v' w',w'.ownsRow w.heap.size 54 7 v' (L.length+L2.length) (EvC L++EvC L2)->w3.grownBy w' u5.ownBlock->∃y' L,MM y' (eD m1 (k+1)).1 w'∧MU y m y' (eD m1 (k+1)).1 w w'∧iy (κ+100001 * (k+1:Nat)) q (eD m1 (k+1)).1∧(eD m1 (k+1)).1.now=m1.now∧(eD m1 (k+1)).1.S.length=m.S.length∧f_ w.heap.size v' L w'∧L.map (·.1)=(eD m1 (k+1)).2∧L.length<=100001 * (k+1)):=by
      intro aG bL bN y2 w2 hor hsz hm2 hu2 hdk;have hd:=DX hm2 hdk aG bL bN wr.heap.size hor hsz;rw[hu2.G,hu.G]at hd;refine hd.mono ?_;rintro e w3 ⟨v2,L2,rfl,hL2,mE,y3,nO,hu3⟩;have hl2:L2.length<=100001:=by
       have h6:=congrArg List.length hL2;rw[jq]at h6;have h7:=Q6 (aP.iL k) (ES k) (M.put k {s with nd:=some (z.kJ m1.now)}) k (z.kJ m1.now).ot;obtain⟨_,_,h8⟩:=hdk.pre;have h9:=h8.nd.inv.frl;have h10:(z.kJ m1.now).ot.aI.length=(z.kJ m1.now).aI.length:=rfl;have h11:((M.put k {s with nd:=some (z.kJ m1.now)}).did k (z.kJ m1.now).ot).2.length=(aP.jc (aP.iL k) (M.put k {s with nd:=some (z.kJ m1.now)}) k (z.kJ m1.now).ot).2.length:=rfl;omega
      have aas:=hu2.trans hu3;have Yh:=hev.mesh hm aas.fx;have hut:=hu.trans aas;have hz0:=hu.fx.size;have hz3:=hut.fx.size;refine⟨v2,L2,rfl,hl2,Yh.row,mE.row,mE.one,hz3,λv' w' ho' hg'=> ?_⟩;have hmk:=Dw hdk;have hac:=VD M k (z.kJ m1.now);have hae:=zN e2 (z.kJ m1.now);have hbE:∀k5,uU y3 ((M.put k {s with nd:=some (z.kJ m1.now)}).did k (z.kJ m1.now).ot).1 k5->w'.heap[k5]?=w3.heap[k5]?:=λk5 hk5=>hg'.block k5 (nO.lt hk5) λe5=>by
       obtain⟨cc,ML⟩:=aL Yh.row e5.symm;exact nO.notE (by decide) ML hk5
      rw[hsucc,hae];rw[hae]at hac;refine⟨y3,L++L2,nO.kept hbE,⟨aQ hut.fx hg' (λj5 hj5 e5=> ?_),λk5 hk5=>(hut.sub k5 hk5).imp_right λh=>⟨h.1,fB h.2 hg'.size⟩,hut.G,hut.n,hut.sv,hut.B⟩,hmk.up (by omega) (aA _),hac.1.trans hN,hac.2.trans Yy,Yh.append mE hz0 (λx hx k5 hk5=>((hev.out x hx).lt hk5).2) ho' hg',?_,by rw[bZ];omega⟩
      ·have:=(hev.row.lt j5 e5).1;omega
      ·rw[List.map_append,hL,hL2]
     have FH:Hid (∀n2,n2<=100001->L.length+n2<=maxLen∧(L.length+n2)* 112<=140737488355328):=λn2 h2=>by unfold maxLen;omega
     have hw64:wrap64 ((k:Int)+1)=(k:Int)+1:=by unfold wrap64;omega
     obtain⟨zt,hzt⟩:∃zt,z.kJ m1.now=zt:=⟨_,rfl⟩;rw[hzt]at HT2 hDD;obtain⟨N,QJ⟩:∃N,x.N=N:=⟨_,rfl⟩;rw[QJ]at HT2 c2;clear hr hm hu hmo hev hL UX e1 e2 e3 e4 HT hzt QJ hsucc hMe hN Yy hnk nn tm hsr hmd hd1;go_upto_region 9 with(fail);go_region_law (first
      |(go_simp;go_at_call 20;refine HT2.out.mono ?_;rintro e w2 ⟨aG,bL,bN,y2,rfl,hor,hsz,hm2,hu2,hdk⟩;have Sy:=hide (hDD.out _ _ _ _ _ hor hsz hm2 hu2 hdk);clear hor hsz hm2 hu2 hdk)
      |(go_simp;go_at_call 36;refine Sy.out.mono ?_;rintro e w3 ⟨v2,L2,rfl,hl2,hr1,hr2,h1c,hbw,hnx⟩;replace hnx:=hide hnx;obtain⟨X9,X8⟩:=FH.out _ hl2)
      |(refine j_ rfl (.tmp 38) (.tmp 50) 29 rfl w.heap.size 54 i0 (.agg #[.int .i64 0,.int .i64 0,.string ⟨#[]⟩,.bool false,.slice none 0 0,.slice none 0 0,.slice none 0 0]) 7 112 Tryz.underlying29 hi0 hz0 hz1 hz2 rfl (by decide) u5 L.length (EvC L) ?h1 hr1 wr.heap.size v2 L2.length (EvC L2) ?h2 hr2 h1c X9 X8 hbw ?_;(case h1=>simp[Act.eval]);(case h2=>simp[Act.eval]);intro v7 w7 gB fP;have yX:=hide (hnx.out v7 w7 gB fP)))
     all_goals
      clear Sy hnx FH HT2 hDD hr1 hr2 h1c;go_wp2;try rw[hw64]
      go_roundw
      case rel=>
       first
        |exact⟨k+1,hk1,by go_num,yX⟩
        |exact⟨_,_,⟨k+1,hk1,by go_num,yX⟩,rfl⟩
        |((repeat apply Exists.intro);refine⟨⟨k+1,hk1,by go_num,yX⟩,rfl⟩)
      case measure=>exact hme
   ·obtain rfl:k=m.S.length:=by omega
    obtain⟨y',L,hm,hu,hmo,hN,Yy,hev,hL,UX⟩:=hr.out;have hfin:iW y m (eD m1 m.S.length).1 (eD m1 m.S.length).2 w.heap.size w (.returned u5) wr∧iy (κ+1000000) q (eD m1 m.S.length).1:=⟨⟨_,L,rfl,hL,hev,y',hm,hu⟩,hmo.up (by omega) (aA _)⟩;replace hfin:=hide hfin;clear hr hm hu hmo hev hL UX hN Yy;go_wp2;go_ret;exact hfin.out
variable{bq:Bool}{j:ByteArray}{ad r:Int}{aT aI:List (Int×ByteArray)}{aM:List Int}{y:MG}{m m':aP}{BA BB G N a b kc kd kf:Nat}{o:Obj}{ac af:Option Addr}{p:Prop}{bL bN aG sv:Value}{W W' w w' w2:World}
@[reducible] def sJ(G g a b BA BB N z : Nat)(now ad : Int)(sv : Value)(W : World): Prop :=
 (W.cell? ⟨G,0,none⟩=some (.int .u64 now)∧W.cell? ⟨G,1,none⟩=some sv∧W.cell? ⟨g,a,none⟩=some (.pointer (some ⟨BA,0,none⟩))∧W.cell? ⟨BA,2,none⟩=some (.pointer (some ⟨N,0,none⟩))∧W.cell? ⟨g,b,none⟩=some (.pointer (some ⟨BB,0,none⟩))∧W.cell? ⟨BB,0,none⟩=some (.int .u32 ad))∧G<z∧g<z∧BA<z∧BB<z∧z<=W.heap.size
theorem sJ.keep{g z:Nat}{now:Int}(h:sJ G g a b BA BB N z now ad sv W)(hz:z<=W'.heap.size)(hb:∀k,k=G∨k=g∨k=BA∨k=BB->W'.heap[k]?=W.heap[k]?):sJ G g a b BA BB N z now ad sv W':=by
 obtain⟨⟨c0,c1,c2,c3,c4,c5⟩,h1,h2,h3,h4,_⟩:=h;exact⟨⟨(World.cell?_of_block (a:=⟨G,0,none⟩) (hb _ (.inl rfl))).trans c0,(World.cell?_of_block (a:=⟨G,1,none⟩) (hb _ (.inl rfl))).trans c1,(World.cell?_of_block (a:=⟨g,a,none⟩) (hb _ (.inr (.inl rfl)))).trans c2,(World.cell?_of_block (a:=⟨BA,2,none⟩) (hb _ (.inr (.inr (.inl rfl))))).trans c3,(World.cell?_of_block (a:=⟨g,b,none⟩) (hb _ (.inr (.inl rfl)))).trans c4,(World.cell?_of_block (a:=⟨BB,0,none⟩) (hb _ (.inr (.inr (.inr rfl))))).trans c5⟩,h1,h2,h3,h4,hz⟩
theorem sJ.low{g z:Nat}{now:Int}(h:sJ G g a b BA BB N z now ad sv W)(hb:Below z W W'):sJ G g a b BA BB N z now ad sv W':=by
 have h':=h;obtain⟨_,h1,h2,h3,h4,h5⟩:=h;exact h'.keep (dF h5 hb.size) λk hk=>hb.block k (by rcases hk with rfl|rfl|rfl|rfl<;>assumption)
theorem sJ.drew{g z:Nat}{now:Int}(h:sJ G g a b BA BB N z now ad sv W):sJ G g a b BA BB N z now ad sv W.drew:=h.keep h.2.2.2.2.2 λ_ _=>rfl
theorem sJ.jR{g z:Nat}{now:Int}(h:sJ G g a b BA BB N z now ad sv W):sJ G g a b BA BB N z now ad sv (W.alloc o):=h.low ((aR _ _).alloc h.2.2.2.2.2 _)
theorem sJ.dW{g z:Nat}{now:Int}(h:sJ G g a b BA BB N z now ad sv W.drew):sJ G g a b BA BB N z now ad sv (W.alloc o).drew:=by
 have h':sJ G g a b BA BB N z now ad sv W:=⟨h.1,h.2⟩;exact h'.jR.drew
theorem sJ.P7{g z:Nat}{now:Int}{v0 v1 v2 v3 v4:Value}(h:sJ G g a b BA BB N z now ad sv W):sJ G g a b BA BB N z now ad sv (((((W.setCell ⟨z,0,none⟩ v0).setCell ⟨z,1,none⟩ v1).setCell ⟨z,2,none⟩ v2).setCell ⟨z,3,none⟩ v3).setCell ⟨z,4,none⟩ v4):=h.low (sI (aR _ _) (aA _) _ _ _ _ _)
structure vT(p:Prop)(y:MG)(m m':aP)(w:World)(aI aT:List (Int×ByteArray))(aM:List Int)(aG bL bN:Value)(W:World):Prop where
 mp:MP y m m' w W
 out:gV w.heap.size aI aT aM aG bL bN W
 p:p
theorem vT.alloc(h:vT p y m m' w aI aT aM aG bL bN W)(o:Obj):vT p y m m' w aI aT aM aG bL bN (W.alloc o):=
 ⟨h.mp.post (bn),h.out.later (bn),h.p⟩
theorem vT.set(h:vT p y m m' w aI aT aM aG bL bN W){D:Nat}{c:Array Value}(hD:W.heap[D]?=some (.cells c 52 (0,0)))(hDl:w.heap.size<=D)(hg:W.grownBy W' (some D)):vT p y m m' w aI aT aM aG bL bN W':=by
 obtain⟨⟨y',hm,hu⟩,ho,hp⟩:=h;refine⟨⟨y',hm.kept λk hk=>hg.block k (hm.lt hk) λe=> ?_,⟨aQ hu.fx hg (λj hj e=> ?_),λk hk=>(hu.sub k hk).imp_right λh=>⟨h.1,fB h.2 hg.size⟩,hu.G,hu.n,hu.sv,hu.B⟩⟩,ho.at λk c' t ht hk=>hg.block k (aB hk) λe=> ?_,hp⟩
 ·cases e;exact hm.not hD (by decide) hk
 ·cases e;omega
 ·cases e;rw[hD]at hk;cases hk;exact absurd ht (by decide)
def Y9(p:Prop)(y:MG)(m m':aP)(w:World)(j:ByteArray)(bq:Bool)(aI aT:List (Int×ByteArray))(aM:List Int)(r:Int)(nv ov:Value)(W:World):Prop:=∃af kf ac kc ad kd D,nv=.pointer (some ⟨D,0,none⟩)∧ov=.int .i64 r∧oK D j bq (.slice af aI.length kf) (.slice ac aT.length kc) (.slice ad aM.length kd) W∧vT p y m m' w aI aT aM (.slice af aI.length kf) (.slice ac aT.length kc) (.slice ad aM.length kd) W
theorem Lj{ad:Option Addr}(h:vT p y m m' w aI aT aM (.slice af aI.length kf) (.slice ac aT.length kc) (.slice ad aM.length kd) w2):Y9 p y m m' w j bq aI aT aM r (.pointer (some ⟨w2.heap.size,0,none⟩)) (.int .i64 r) (w2.alloc (.cells #[.string j,.bool bq,.slice af aI.length kf,.slice ac aT.length kc,.slice ad aM.length kd] 52)):=
 ⟨af,kf,ac,kc,ad,kd,_,rfl,rfl,bO _ _,h.alloc _⟩
theorem Ty{ad:Option Addr}{j0:ByteArray}{r0:Bool}{f0 c0 d0:Value}(h:vT p y m m' w aI aT aM (.slice af aI.length kf) (.slice ac aT.length kc) (.slice ad aM.length kd) w2)(hD:Hid (oK w.heap.size j0 r0 f0 c0 d0 w2)):Y9 p y m m' w j bq aI aT aM r (.pointer (some ⟨w.heap.size,0,none⟩)) (.int .i64 r) (((((w2.setCell ⟨w.heap.size,0,none⟩ (.string j)).setCell ⟨w.heap.size,1,none⟩ (.bool bq)).setCell ⟨w.heap.size,2,none⟩ (.slice af aI.length kf)).setCell ⟨w.heap.size,3,none⟩ (.slice ac aT.length kc)).setCell ⟨w.heap.size,4,none⟩ (.slice ad aM.length kd)):=
 ⟨af,kf,ac,kc,ad,kd,_,rfl,rfl,hD.out.Lm,h.set hD.out (aA _) (r_ _ _ _ _ _ _ _)⟩
theorem MP.size(h:MP y m m' w w'):w.heap.size<=w'.heap.size:=by
 obtain⟨_,_,hu⟩:=h;exact hu.fx.size
theorem vg{md:aP}{evs:List Ev}(h:MM y m w)(a b:Nat)(ha:a<m.S.length)(hb:b<m.S.length)(t:ByteArray)(r:Int)(hr:r=0∨r=6∨r=2)(j:ByteArray)(bq:Bool)(aI aT:List (Int×ByteArray))(aM:List Int){z:St}(hnd:(m.at' a).nd=some z)
  (HC:∀x s,y.L[a]?=some x->m.S[a]?=some s->∀W5,Below w.heap.size w W5->Calls Tryz.prog 21 #[.pointer (some ⟨x.N,0,none⟩),.int .u64 m.now,.int .u32 (m.at' b).addr,.string t] W5 λe w2=>∃af kf ac kc ad kd,e=.returned (.tuple #[.agg #[.string j,.bool bq,.slice af aI.length kf,.slice ac aT.length kc,.slice ad aM.length kd],.int .i64 r])∧Fx (Ft x.N x.g z) W5 w2∧vT p y m m' w aI aT aM (.slice af aI.length kf) (.slice ac aT.length kc) (.slice ad aM.length kd) w2)
  (HD:r=0->∀aG bL bN W,vT p y m m' w aI aT aM aG bL bN W->Calls Tryz.prog 36 #[.pointer (some ⟨y.G,0,none⟩),.int .i64 a,.agg #[.string j,.bool bq,aG,bL,bN]] W (iW y m md evs w.heap.size w))
  (HE:r≠0->md=m'∧evs=[⟨a,r,Ot.none⟩]):
  Calls Tryz.prog 30 #[.pointer (some ⟨y.G,0,none⟩),.int .i64 a,.int .i64 b,.string t] w λe w'=>iW y m md evs w.heap.size w e w'∧p:=by
 obtain⟨xa,sa,g,c,e1,e2,e3,e4,p0⟩:=h.get ha;obtain⟨xb,sb,g',c',f1,f2,f3,f4,p1⟩:=h.get hb;obtain⟨q0,q1,_,_⟩:=h.cell;have hgg:g'=g∧c'=c:=by
  rw[f4]at e4;injection e4 with h5 _ h6;injection h5 with h5;injection h5 with h5 _ _;exact⟨h5,h6⟩
 obtain⟨rfl,rfl⟩:=hgg;have hst:=h.st a xa sa e1 e2;have c2:=hst.cell.2.2.1;rw[e3]at hnd;rw[hnd]at c2;unfold J7 at c2;have ca:=(h.st b xb sb f1 f2).cell.1;rw[e4]at q1;obtain⟨nn,_⟩:=hst.nd z hnd;have hin:(a:Int)<(m.S.length:Int):=by omega
 have hjn:(b:Int)<(m.S.length:Int):=by omega
 have Wo:=aB h.blk;have hgl:g'<w.heap.size:=World.block_lt_of_cell? _ _ p0;have hAl:=aB hst.blk;have hBl:=aB (h.st b xb sb f1 f2).blk;have hgI:uU y m g':=.inr (.inl (by rw[e4];rfl));have hnF:∀k,k=y.G∨k=g'∨k=xa.B∨k=xb.B->¬Ft xa.N xa.g z k:=by
  intro k hk hF;obtain⟨o,ho,hK⟩:=nn.kind hF;rcases hk with rfl|rfl|rfl|rfl
  ·rw[h.blk]at ho;cases ho;exact hK.not (by decide)
  ·obtain⟨cc,hc⟩:=aL h.xZ (k:=k) (by rw[e4];rfl);rw[hc]at ho;cases ho;exact hK.not (by decide)
  ·rw[hst.blk]at ho;cases ho;exact hK.not (by decide)
  ·rw[(h.st b xb sb f1 f2).blk]at ho;cases ho;exact hK.not (by decide)
 rw[f3]at HC;have hS0:sJ y.G g' a b xa.B xb.B xa.N w.heap.size m.now sb.addr (.slice (some ⟨g',0,none⟩) m.S.length c') w:=⟨⟨q0,q1,p0,c2,p1,ca⟩,Wo,hgl,hAl,hBl,aA _⟩;have Zv:Hid (∀W5,Below w.heap.size w W5->Calls Tryz.prog 21 #[.pointer (some ⟨xa.N,0,none⟩),.int .u64 m.now,.int .u32 sb.addr,.string t] W5 λe w2=>∃af kf ac kc ad kd,e=.returned (.tuple #[.agg #[.string j,.bool bq,.slice af aI.length kf,.slice ac aT.length kc,.slice ad aM.length kd],.int .i64 r])∧sJ y.G g' a b xa.B xb.B xa.N w.heap.size m.now sb.addr (.slice (some ⟨g',0,none⟩) m.S.length c') w2∧(∀j r f c d,oK w.heap.size j r f c d W5->oK w.heap.size j r f c d w2)∧Hid (vT p y m m' w aI aT aM (.slice af aI.length kf) (.slice ac aT.length kc) (.slice ad aM.length kd) w2)):=by
  intro W5 hb5;refine(HC xa sa e1 e2 W5 hb5).mono ?_;rintro e w2 ⟨af,kf,ac,kc,ad,kd,rfl,hfx,hR⟩;have hz5:=hb5.size;refine⟨af,kf,ac,kc,ad,kd,rfl,(hS0.low hb5).keep (dF hz5 hfx.size) λk hk=>hfx.block k ?_ (hnF k hk),λj r f c d hO=>(hfx.block _ (aB hO) λhF=> ?_).trans hO,hR⟩
  ·rcases hk with rfl|rfl|rfl|rfl<;>omega
  ·have:=nn.lt hF;omega
 have hS:sJ y.G g' a b xa.B xb.B xa.N w.heap.size m.now sb.addr (.slice (some ⟨g',0,none⟩) m.S.length c') w.drew:=hS0.drew;replace HD:=hide HD;replace HE:=hide HE;clear HC hnF hgI Wo hgl hAl hBl nn hst e1 e2 e3 e4 f1 f2 f3 f4 hS0 h q0 q1 p0 c2 p1 ca;obtain⟨N,QJ⟩:∃N,xa.N=N:=⟨_,rfl⟩;rw[QJ]at Zv hS;clear QJ;go_enter Tryz.func30,Tryz.ntmps30;go_upto_region 1 with(fail);go_cut [9,10]from 12 to 39 (Y9 p y m m' w j bq aI aT aM r)
 case first=>
  clear HD HE hr hnd;go_region_held3 (sJ y.G g' a b xa.B xb.B N w.heap.size m.now sb.addr (.slice (some ⟨g',0,none⟩) m.S.length c')) (first|with_reducible exact hS|with_reducible assumption|(with_reducible apply sJ.dW;with_reducible exact hS)|(with_reducible apply sJ.P7;assumption)|(with_reducible apply sJ.jR;assumption)) ((go_at_call 21;refine(Zv.out _ (by first|with_reducible exact(aR _ _).drew|with_reducible exact(bn).drew)).mono ?_;rintro e w2 ⟨af,kf,ac,kc,ad,kd,rfl,hS2,hpr,hnr⟩;try ((with_reducible have hD:=hpr _ _ _ _ _ (JQ w));have hD':Hid (oK w.heap.size ⟨#[]⟩ false (.slice none 0 0) (.slice none 0 0) (.slice none 0 0) w2):=hD;obtain⟨d0,d1,d2,d3,d4,dq⟩:=hD'.out.cell;have q0:=dq 0;have q1:=dq 1;have q2:=dq 2;have q3:=dq 3;have q4:=dq 4;clear hD dq);clear hpr))
  all_goals
   go_wp2_with fail;go_meet;first|with_reducible exact Lj hnr.out|with_reducible exact Ty hnr.out hD'
 case rest=>
  obtain⟨af,kf,ac,kc,ad,kd,D,rfl,rfl,hD,hR⟩:=hcut;clear Zv hS;obtain⟨d0,d1,d2,d3,d4,_⟩:=hD.cell;have hp:=hide hR.p;rcases hr with rfl|hr
  ·have Sy:=hide (HD.out rfl _ _ _ _ hR);clear HD HE hD hR hnd;go_wp2_with(go_at_call 36;refine Sy.out.mono ?_;rintro e w3 ⟨v2,L2,rfl,hL2,mE,X_⟩;replace hL2:=hide hL2;replace mE:=hide mE;replace X_:=hide X_);go_ret;exact⟨⟨_,_,rfl,hL2.out,mE.out,X_.out⟩,hp.out⟩
  ·have hr0:r≠0:=by omega
   have hrb:(r==0)=false:=by simpa using hr0
   obtain⟨rfl,rfl⟩:=HE.out hr0;have hev:=Dr (b:=w.heap.size) (W:=wc) (x:=(⟨a,r,Ot.none⟩,⟨.slice none 0 0,.slice none 0 0,.slice none 0 0⟩)) hR.mp.size ⟨⟨rfl,.inl ⟨rfl,rfl⟩⟩,⟨rfl,.inl ⟨rfl,rfl⟩⟩,⟨rfl,.inl ⟨rfl,rfl⟩⟩⟩;have hb5:Below wc.heap.size wc (wc.alloc (.cells (zx (⟨a,r,Ot.none⟩,⟨.slice none 0 0,.slice none 0 0,.slice none 0 0⟩)).toArray 54)):=bn;have hfin:iW y m md [⟨a,r,Ot.none⟩] w.heap.size w (.returned (.slice (some ⟨wc.heap.size,0,none⟩) 1 1)) (wc.alloc (.cells (zx (⟨a,r,Ot.none⟩,⟨.slice none 0 0,.slice none 0 0,.slice none 0 0⟩)).toArray 54)):=⟨_,_,rfl,rfl,hev,hR.mp.post hb5⟩;have mE:(zx (⟨a,r,Ot.none⟩,⟨.slice none 0 0,.slice none 0 0,.slice none 0 0⟩)).toArray=#[.int .i64 a,.int .i64 r,.string ⟨#[]⟩,.bool false,.slice none 0 0,.slice none 0 0,.slice none 0 0]:=rfl;rw[mE]at hfin;clear hev hb5 mE HD HE hR hD hnd hr;go_wp2;go_ret;exact⟨hfin,hp.out⟩
theorem mG.same{x:SG}{s:eU}{z:St}(h:l7 x s w)(hz:s.nd=some z)(nn:Nn x.N x.g z x.TL w')(fx:Fx (Ft x.N x.g z) w w'):mG x s s w w':=by
 obtain⟨n0,_⟩:=h.nd z hz;have hB:¬Ft x.N x.g z x.B:=λhk=>by
  obtain⟨o,ho,hK⟩:=n0.kind hk;rw[h.blk]at ho;cases ho;exact hK.not (by decide)
 have hJ:∀k,x.jv.ownBlock=some k->¬Ft x.N x.g z k:=λk hk hf=>by
  obtain⟨o,ho,hK⟩:=n0.kind hf;obtain⟨cc,hc⟩:=aL h.row hk;rw[hc]at ho;cases ho;exact hK.not (by decide)
 refine⟨x,rfl,⟨(fx.block _ (aB h.blk) hB).trans h.blk,h.hl,bK h.row λk hk=>fx.block k (h.row.lt k hk).2 (hJ k hk),λu hu=> ?_⟩,fx.mono λk hk=> .inr (.inr ⟨z,hz,hk⟩),λk hk=> .inl hk⟩;cases hz.symm.trans hu;exact⟨nn,(h.nd z hz).2⟩
theorem Zp(h:MM y m w){κ:Int}{q:Nat}(hok:iy κ q m)(FD:0<=κ∧κ<=90000000000)(hq:q<=4999)(a b:Nat)(ha:a<m.S.length)(hb:b<m.S.length)(t:ByteArray)(hr:m.runs a=true):
  Calls Tryz.prog 30 #[.pointer (some ⟨y.G,0,none⟩),.int .i64 a,.int .i64 b,.string t] w λe w'=>iW y m (m.send a b t).1 (m.send a b t).2 w.heap.size w e w'∧iy (κ+200000) (q+1) (m.send a b t).1:=by
 obtain⟨xa,sa,g,c,e1,e2,e3,e4,p0⟩:=h.get ha;obtain⟨xb,sb,g',c',f1,f2,f3,f4,p1⟩:=h.get hb;obtain⟨z,hz⟩:∃z,sa.nd=some z:=by
  unfold aP.runs at hr;rw[iO,e3]at hr;exact Option.isSome_iff_exists.1 (Bool.and_eq_true_iff.1 hr).2
 have hnd:(m.at' a).nd=some z:=by rw[e3];exact hz
 have hnk:=(hok.at e2).nd z hz;have hml:=(hok.at f2).addr;have HNo:∀r,((16<t.size∧r=6)∨(t.size<=16∧((m.at' b).addr=z.me∨(m.at' b).addr=0)∧r=2))->∀x s,y.L[a]?=some x->m.S[a]?=some s->∀W5,Below w.heap.size w W5->Calls Tryz.prog 21 #[.pointer (some ⟨x.N,0,none⟩),.int .u64 m.now,.int .u32 (m.at' b).addr,.string t] W5 λe w2=>∃af kf ac kc ad kd,e=.returned (.tuple #[.agg #[.string ⟨#[]⟩,.bool false,.slice af ([]:List (Int×ByteArray)).length kf,.slice ac ([]:List (Int×ByteArray)).length kc,.slice ad ([]:List Int).length kd],.int .i64 r])∧Fx (Ft x.N x.g z) W5 w2∧vT True y m m w [] [] [] (.slice af ([]:List (Int×ByteArray)).length kf) (.slice ac ([]:List (Int×ByteArray)).length kc) (.slice ad ([]:List Int).length kd) w2:=by
  intro r hc x s g1 g2 W5 hb5;cases e1.symm.trans g1;cases e2.symm.trans g2;have h5:=h.later hb5;have hst:=h5.st a xa sa e1 e2;obtain⟨nn,_⟩:=hst.nd z hz;refine(RN nn hnk.inv.lk m.now (m.at' b).addr t r hc).mono ?_;rintro e w2 ⟨rfl,n2,fx⟩;have hp:=h5.WU e1 e2 (mG.same hst hz n2 fx);have hpe:m.put a sa=m:=by
   unfold aP.put;rw[show m.S.set a sa=m.S from by
    rw[<-(gm.1 e2).2];exact List.set_getElem_self _]
  rw[hpe]at hp;exact⟨none,0,none,0,none,0,rfl,fx,hp.pre hb5,⟨⟨rfl,.inl ⟨rfl,rfl⟩⟩,⟨rfl,.inl ⟨rfl,rfl⟩⟩,⟨rfl,.inl ⟨rfl,rfl⟩⟩⟩,trivial⟩
 by_cases h16:16<t.size
 ·have ho:m.send a b t=(m,[⟨a,6,Ot.none⟩]):=by
   unfold aP.send;rw[hnd];dsimp only;rw[aO h16]
  rw[ho];refine(vg h a b ha hb t 6 (.inr (.inl rfl)) ⟨#[]⟩ false [] [] [] hnd (HNo 6 (.inl ⟨h16,rfl⟩)) (λe=>absurd e (by decide)) (λ_=>⟨rfl,rfl⟩)).mono ?_;intro e w2 hp;exact⟨hp.1,hok.up (by omega) (Nat.le_succ _)⟩
 ·by_cases hd:(m.at' b).addr=z.me∨(m.at' b).addr=0
  ·have ho:m.send a b t=(m,[⟨a,2,Ot.none⟩]):=by
    unfold aP.send;rw[hnd];dsimp only;rw[aD h16,aO hd]
   rw[ho];refine(vg h a b ha hb t 2 (.inr (.inr rfl)) ⟨#[]⟩ false [] [] [] hnd (HNo 2 (.inr ⟨by omega,hd,rfl⟩)) (λe=>absurd e (by decide)) (λ_=>⟨rfl,rfl⟩)).mono ?_;intro e w2 hp;exact⟨hp.1,hok.up (by omega) (Nat.le_succ _)⟩
  ·obtain⟨zs,hzs⟩:∃zs,z.snd m.now (m.at' b).addr t=zs:=⟨_,rfl⟩;have ho:m.send a b t=(m.put a {sa with nd:=some zs}).did a zs.ot:=by
    unfold aP.send;rw[hnd];dsimp only;rw[aD h16,aD hd,hzs,zN e2]
   have hdd:∀W5,Below w.heap.size w W5->∀o w2,Ad xa.N xa.g z zs W5 o w2->zs.Inv (κ+1)->∃aG bL bN y2,o=iC zs.bD zs.bq aG bL bN∧gV W5.heap.size zs.aI zs.aT zs.aM aG bL bN w2∧MM y2 (m.put a {sa with nd:=some zs}) w2∧MU y m y2 (m.put a {sa with nd:=some zs}) W5 w2∧A7 (κ+1) (q+1) (m.put a {sa with nd:=some zs}) a zs:=by
    intro W5 hb5 o w2 hcp hI2;obtain⟨k5,s',hp1,hp2⟩:=Cc z m.now (m.at' b).addr t;have hrest:=yD hp1;have hcnt:=uJ hp1;rw[<-hp2,hzs]at hrest hcnt;exact DI (h.later hb5) hok e1 e2 hz hcp hI2 (by rw[<-hzs];exact TY hnk.pos hnk.inv.tl.1 _ _ _) hrest.1 hrest.2 (Nat.le_succ q) (by rw[<-hzs];exact dF (WZ _ _ _ _) (Nat.succ_le_succ hnk.ql)) hcnt
   rw[ho];obtain⟨m',hm'⟩:∃m',m.put a {sa with nd:=some zs}=m':=⟨_,rfl⟩;rw[hm']at hdd ⊢;refine(vg (p:=A7 (κ+1) (q+1) m' a zs) (m':=m') (md:=(m'.did a zs.ot).1) (evs:=(m'.did a zs.ot).2) h a b ha hb t 0 (.inl rfl) zs.bD zs.bq zs.aI zs.aT zs.aM hnd ?_ ?_ (λe=>absurd rfl e)).mono ?_
   ·intro x s g1 g2 W5 hb5;cases e1.symm.trans g1;cases e2.symm.trans g2;obtain⟨nn,tm⟩:=((h.later hb5).st a xa sa e1 e2).nd z hz;refine(Zn nn hnk.inv (by omega) tm m.now (m.at' b).addr t ⟨hnk.nw,hok.now.2⟩ (by rw[f3];exact hml) (by omega) (λe=>hd (.inl e)) (λe=>hd (.inr e)) (dF hnk.ql hq)).mono ?_;rintro e w2 ⟨o,rfl,hI2,hcp⟩;rw[hzs]at hI2 hcp;have hfx:Fx (Ft xa.N xa.g z) W5 w2:=by
     obtain⟨_,_,_,_,_,_,_,_,_,_,_,fx,_⟩:=hcp;exact fx
    obtain⟨aG,bL,bN,y2,rfl,hor,hm2,hu2,hdk⟩:=hdd W5 hb5 o w2 hcp hI2.out;obtain⟨af,kf,rfl,_⟩:=ak hor.aG;obtain⟨ac,kc,rfl,_⟩:=ak hor.bL;obtain⟨ad,kd,rfl,_⟩:=ak hor.bN;exact⟨af,kf,ac,kc,ad,kd,rfl,hfx,⟨y2,hm2,hu2.pre hb5⟩,hor.lower hb5.size,hdk⟩
   ·intro _ aG bL bN W hR;obtain⟨⟨y2,hm2,hu2⟩,hor,hdk⟩:=hR;have hd2:=DX hm2 hdk aG bL bN w.heap.size hor hu2.fx.size;rw[hu2.G]at hd2;refine hd2.mono ?_;rintro e w3 ⟨v2,L2,rfl,hL2,mE,y3,nO,hu3⟩;exact⟨v2,L2,rfl,hL2,mE,y3,nO,hu2.trans hu3⟩
   ·rintro e w2 ⟨hp,hdk⟩;exact⟨hp,(Dw hdk).up (by omega) (aA _)⟩
open Go
section
variable {P:Program} {ops:Array Oper} {Q:Exit->Act->World->Prop} {md:Region.Mode} {S:World->Prop} {U:List Nat}
def kW(P:Program)(md:Region.Mode)(ops:Array Oper)(Q:Exit->Act->World->Prop)(S:World->Prop)(U:List Nat):Nat->Array Bool->Act->World->Prop
 |0,listed,a,w=>Region.ready md ops listed=[]∧Q .normal a w
 |fuel+1,listed,a,w=>
  (Region.ready md ops listed=[]->Q .normal a w)∧
  ∀i∈Region.ready md ops listed,wpOp P ops Q i (λa' w'=>(i ∉ U->S w')∧kW P md ops Q S U fuel (listed.setIfInBounds i true) a' w') a w
theorem qJ:∀(fuel:Nat) (listed:Array Bool) (a:Act) (w:World),kW P md ops Q S U fuel listed a w->wpAny P md ops Q fuel listed a w
 |0,_,_,_,h=>h
 |fuel+1,_,_,_,h=>⟨h.1,λ_ hi=>wpOp_mono (λa' w' h'=>qJ fuel _ a' w' h'.2) (h.2 _ hi)⟩
def Late(md:Region.Mode)(ops:Array Oper)(listed:Array Bool)(i:Nat)(V:List Nat):Prop:=
 ∀u∈V,listed.getD u true=false∧∃o,ops[u]?=some o∧∃e∈o.after,Region.binds md e=true∧(e.on=i∨e.on∈V)
theorem nY{listed:Array Bool}{k:Nat}(h0:listed.getD k true=false)(h1:listed.getD k false=true):False:=by
 rcases Nat.lt_or_ge k listed.size with h'|h'
 ·simp[h']at h0 h1;rw[h0]at h1;cases h1
 ·simp[Array.getElem?_eq_none h']at h1
theorem Late.not{listed:Array Bool}{i:Nat}{V:List Nat}(h:Late md ops listed i V)(hi:i∈Region.ready md ops listed){j:Nat}(hj:j∈Region.ready md ops listed):j ∉ V:=λhv=>by
 obtain⟨_,o,ho,e,he,hb,hon⟩:=h j hv;obtain⟨_,o',ho',hall⟩:=mem_ready.1 hj;rw[ho]at ho';cases ho';have h1:=hall e he hb;rcases hon with hon|hon
 ·rw[hon]at h1;exact nY (mem_ready.1 hi).1 h1
 ·exact nY (h _ hon).1 h1
theorem BS{i:Nat}{oi:Oper}{v:Value}(hi:ops[i]?=some oi)(hsel:∀(j:Nat) (o:Oper) cs b,ops[j]?=some o->o.op≠ .select cs b)
  (hQ:∀c a w,Q (.panic c) (a.put oi.dst v) w->Q (.panic c) a w) {V:List Nat} (hUV:∀u∈U,u∈V):
  ∀(fuel:Nat) (listed:Array Bool) (a:Act) (w:World),
   (∀j oj,ops[j]?=some oj->j≠i->listed.getD j true=false->(∀e∈oj.after,Region.binds md e=true->e.on≠i)->oi.apart ops oj=true)->
   Late md ops listed i V->i∈Region.ready md ops listed->YieldsIf P ops S oi v a->S w->
   kW P md ops Q S U fuel (listed.setIfInBounds i true) (a.put oi.dst v) w->kW P md ops Q S U (fuel+1) listed a w:=by
 intro fuel
 induction fuel with
 |zero=>
  intro listed a w _ _ hr hy hS H;refine⟨λh=>(by rw[h]at hr;cases hr),λj hj=> ?_⟩;by_cases hji:j=i
  ·subst hji;exact hy.wpOp hi hS ⟨λ_=>hS,H⟩
  ·have:=ready_mono hj hji;rw[H.1]at this;cases this
 |succ fuel ih=>
  intro listed a w hfree hV hr hy hS H;refine⟨λh=>(by rw[h]at hr;cases hr),λj hj=> ?_⟩;by_cases hji:j=i
  ·subst hji;exact hy.wpOp hi hS ⟨λ_=>hS,H⟩
  ·have h1:=H.2 j (ready_mono hj hji);have hjV:=hV.not hr hj;obtain⟨hjun,oj,hoj,hall⟩:=mem_ready.1 hj;have hnot:∀e∈oj.after,Region.binds md e=true->e.on≠i:=λe he hb heq=>by
    have h1:=hall e he hb;rw[heq]at h1;exact nY (mem_ready.1 hr).1 h1
   have h2:=wpOp_putIf hoj (hfree j oj hoj hji hjun hnot) (λcs b=>hsel i oi cs b hi) (λcs b=>hsel j oj cs b hoj) hQ hy h1;have hfree':∀k ok,ops[k]?=some ok->k≠i->(listed.setIfInBounds j true).getD k true=false->
     (∀e∈ok.after,Region.binds md e=true->e.on≠i)->oi.apart ops ok=true:=λk ok hk hki hun hno=>by
    refine hfree k ok hk hki ?_ hno;by_cases hjk:j=k
    ·subst hjk;exact hjun
    ·rw[getD_set_ne true hjk]at hun;exact hun
   have hV':Late md ops (listed.setIfInBounds j true) i V:=λu hu=>by
    obtain⟨h5,h6⟩:=hV u hu;have hne:j≠u:=λe=>hjV (by rw[e];exact hu);refine⟨?_,h6⟩;rw[getD_set_ne true hne];exact h5
   refine wpOp_mono (λa' w' h3=> ?_) h2;have hS3:=h3.2.1 (λhu=>hjV (hUV j hu));refine⟨λ_=>hS3,ih (listed.setIfInBounds j true) a' w' hfree' hV' (ready_mono hr (Ne.symm hji)) h3.1 hS3 ?_⟩;rw[Array.setIfInBounds_comm _ _ hji];exact h3.2.2
def V4(md:Region.Mode)(ops:Array Oper)(listed:Array Bool)(i:Nat):List Nat:=
 (List.range ops.size).foldl (λacc u=>if !listed.getD u true&&(match ops[u]? with|some o=>o.after.any λe=>Region.binds md e&&(e.on==i||acc.contains e.on)|none=>false)then acc++ [u]else acc) []
def PU(md:Region.Mode)(ops:Array Oper)(listed:Array Bool)(i:Nat)(U V:List Nat):Bool:=
 U.all (λu=>V.contains u)&&V.all λu=>!listed.getD u true&&(match ops[u]? with|some o=>o.after.any λe=>Region.binds md e&&(e.on==i||V.contains e.on)|none=>false)
theorem Kb{listed:Array Bool}{i:Nat}{V:List Nat}(h:PU md ops listed i U V=true):(∀u∈U,u∈V)∧Late md ops listed i V:=by
 obtain⟨h1,h2⟩:=Bool.and_eq_true_iff.1 h;refine⟨λu hu=>by simpa using List.all_eq_true.1 h1 u hu,λu hu=> ?_⟩;obtain⟨h3,h4⟩:=Bool.and_eq_true_iff.1 (List.all_eq_true.1 h2 u hu);refine⟨by simpa using h3,?_⟩;cases ho:ops[u]? with
 |none=>
  rw[ho]at h4;cases h4
 |some o=>
  rw[ho]at h4;dsimp only at h4;obtain⟨e,he,hb⟩:=Array.any_eq_true'.1 h4;obtain⟨hb1,hb2⟩:=Bool.and_eq_true_iff.1 hb;exact⟨o,rfl,e,he,hb1,by simpa using hb2⟩
theorem Ei{i:Nat}{oi:Oper}{v:Value}{fuel:Nat}{listed:Array Bool}{a:Act}{w:World}(hi:ops[i]?=some oi)
  (hs:Region.noSelect ops=true) (hf:Region.free md ops listed i=true) (hr:(Region.ready md ops listed).contains i=true) (hl:PU md ops listed i U (V4 md ops listed i)=true)
  (hQ:∀c a w,Q (.panic c) (a.put oi.dst v) w->Q (.panic c) a w) (hy:YieldsIf P ops S oi v a) (hS:S w)
  (h:kW P md ops Q S U fuel (listed.setIfInBounds i true) (a.put oi.dst v) w):kW P md ops Q S U (fuel+1) listed a w:=
 BS hi (Region.noSelect_spec hs) hQ (Kb hl).1 fuel listed a w (Region.free_spec hi hf) (Kb hl).2 (by simpa using hr) hy hS h
theorem aZ{i:Nat}{oi:Oper}{v:Value}{fuel:Nat}{listed:Array Bool}{a:Act}{w:World}(hi:ops[i]?=some oi)
  (hB:(Region.noSelect ops&&Region.free md ops listed i&&(Region.ready md ops listed).contains i&&PU md ops listed i U (V4 md ops listed i))=true)
  (hy:YieldsIf P ops S oi v a) (hS:S w)
  (h:kW P md ops Q S U fuel (listed.setIfInBounds i true) (a.put oi.dst v) w) (hQ:∀c a w,Q (.panic c) (a.put oi.dst v) w->Q (.panic c) a w:=by exact λ_ _ _ h=>h):kW P md ops Q S U (fuel+1) listed a w:=by
 simp only[jr]at hB;exact Ei hi hB.1.1.1 hB.1.1.2 hB.1.2 hB.2 hQ hy hS h
theorem jw{i:Nat}{o:Oper}{fuel:Nat}{listed:Array Bool}{a:Act}{w:World}(hr:Region.ready md ops listed=[i])(ho:ops[i]?=some o)
  (h:∀K':Act->World->Prop,Shut (∀a w,(i ∉ U->S w)->kW P md ops Q S U fuel (listed.setIfInBounds i true) a w->K' a w)->if Region.wanted o (yielded ops a.tmps)=true then Oper.wp P o a w K' Q else K' (a.put o.dst undef) w):kW P md ops Q S U (fuel+1) listed a w:=by
 refine⟨λh0=>absurd (hr▸h0) (by simp),λj hj=> ?_⟩;rw[hr,fD]at hj;subst hj;exact wpOp_step ho (λK' hK=>h K' (λa w hS hW=>hK a w ⟨hS,hW⟩))
theorem vX{listed:Array Bool}{a:Act}{w:World}(hr:Region.ready md ops listed=[])(h:Q .normal a w):∀fuel,kW P md ops Q S U fuel listed a w
 |0=>⟨hr,h⟩
 |_+1=>⟨λ_=>h,by rw[hr];simp⟩
theorem o9{id:Nat}{a:Act}{w:World}(S:World->Prop)(U:List Nat)(hm:P.follows .mixedOrders=true)(hS:S w.drew)
  (h:S w.drew->kW P .any ops Q S U ops.size (Array.replicate ops.size false) a w.drew):(Code.region id ops true).wp P Q a w:=
 wp_region_any hm (qJ _ _ _ _ (h hS))
end
open Go.RowKit Go.Maps
theorem RQ{y:MG}{m:aP}{w:World}(h:MM y m w){κ:Int}{q:Nat}(hok:iy κ q m)(FD:0<=κ∧κ<=90000000000)(i j:Nat)(hi:i<m.S.length)(hj:j<m.S.length)(b:ByteArray)(hb:b.size<=65536):
  Calls Tryz.prog 33 #[.pointer (some ⟨y.G,0,none⟩),.int .i64 i,.int .i64 j,.string b] w λe w'=>iW y m (m.hear i j b).1 (m.hear i j b).2 w.heap.size w e w'∧iy (κ+200000) q (m.hear i j b).1:=by
 obtain⟨xi,si,g,c,e1,e2,e3,e4,p0⟩:=h.get hi;obtain⟨xj,sj,g',c',f1,f2,f3,f4,p1⟩:=h.get hj;obtain⟨q0,q1,_,_⟩:=h.cell;have hst:=h.st i xi si e1 e2;have c2:=hst.cell.2.2.1;have ca:=(h.st j xj sj f1 f2).cell.1;have hin:(i:Int)<(m.S.length:Int):=by omega
 have hjn:(j:Int)<(m.S.length:Int):=by omega
 have hgg:g'=g:=by
  rw[f4]at e4;injection e4 with h5 _ _;injection h5 with h5;injection h5 with h5 _ _
 subst hgg;rw[e4]at q1;cases hnd:si.nd with
 |none=>
  rw[hnd]at c2;unfold J7 at c2;have ho:m.hear i j b=(m,[]):=by
   unfold aP.hear;rw[e3,hnd]
  have hfin:iW y m (m.hear i j b).1 (m.hear i j b).2 w.heap.size w (.returned (.slice none 0 0)) w∧iy (κ+200000) q (m.hear i j b).1:=by
   rw[ho];exact⟨⟨_,[],rfl,rfl,f_.nil _ _,MP.refl h⟩,hok.up (by omega) (aA _)⟩
  replace hfin:=hide hfin;clear h hst ho e1 e2 e3 e4 f1 f2 f3 f4 q0 ca p1 hok;go_enter Tryz.func33,Tryz.ntmps33;go_wp2;go_ret;exact hfin.out
 |some z=>
  rw[hnd]at c2;unfold J7 at c2;have hnk:=(hok.at e2).nd z hnd;have hd1:Below w.heap.size w w.drew:=(aR _ _).drew;obtain⟨cap,W8,hcv,qz,h_⟩:=Ra b hb w.drew;have MN:Below w.heap.size w W8:=hd1.trans (qz.mono hd1.size);have h8:=h.later MN;obtain⟨nn,tm⟩:=(h8.st i xi si e1 e2).nd z hnd;have hsr:=nn.JF;obtain⟨nn0,_⟩:=hst.nd z hnd;have Wo:=aB h.blk;have hgl:g'<w.heap.size:=World.block_lt_of_cell? _ _ p0;have hAl:=aB hst.blk;have hBl:=aB (h.st j xj sj f1 f2).blk;have hnF:∀k,k=y.G∨k=g'∨k=xi.B∨k=xj.B->¬Ft xi.N xi.g z k:=by
   intro k hk hF;obtain⟨o,ho,hK⟩:=nn0.kind hF;rcases hk with rfl|rfl|rfl|rfl
   ·rw[h.blk]at ho;cases ho;exact hK.not (by decide)
   ·obtain⟨cc,hc⟩:=aL h.xZ (k:=k) (by rw[e4];rfl);rw[hc]at ho;cases ho;exact hK.not (by decide)
   ·rw[hst.blk]at ho;cases ho;exact hK.not (by decide)
   ·rw[(h.st j xj sj f1 f2).blk]at ho;cases ho;exact hK.not (by decide)
  have hS0:sJ y.G g' i j xi.B xj.B xi.N w.heap.size m.now sj.addr (.slice (some ⟨g',0,none⟩) m.S.length c) w:=⟨⟨q0,q1,p0,c2,p1,ca⟩,Wo,hgl,hAl,hBl,aA _⟩;have V7:=h_.1.1;have HR:=NE nn hnk.inv (by omega) tm m.now sj.addr ⟨hnk.nw,hok.now.2⟩ (hok.at f2).addr _ (aV b) h_;have HR2:Hid (Calls Tryz.prog 25 #[.pointer (some ⟨xi.N,0,none⟩),.int .u64 m.now,.int .u32 sj.addr,.slice (some ⟨w.heap.size,0,none⟩) b.size cap] W8 λe w2=>∃aG bL bN y2,sJ y.G g' i j xi.B xj.B xi.N w.heap.size m.now sj.addr (.slice (some ⟨g',0,none⟩) m.S.length c) w2∧e=.returned (iC (z.rcv m.now sj.addr (aV b)).bD (z.rcv m.now sj.addr (aV b)).bq aG bL bN)∧gV w.heap.size (z.rcv m.now sj.addr (aV b)).aI (z.rcv m.now sj.addr (aV b)).aT (z.rcv m.now sj.addr (aV b)).aM aG bL bN w2∧w.heap.size<=w2.heap.size∧MM y2 (m.put i {si with nd:=some (z.rcv m.now sj.addr (aV b))}) w2∧MU y m y2 (m.put i {si with nd:=some (z.rcv m.now sj.addr (aV b))}) w w2∧A7 (κ+1) q (m.put i {si with nd:=some (z.rcv m.now sj.addr (aV b))}) i (z.rcv m.now sj.addr (aV b))):=by
   refine HR.mono ?_;rintro e w2 ⟨o,rfl,hI2,hcp⟩;have hfx:Fx (Ft xi.N xi.g z) W8 w2:=by
    obtain⟨_,_,_,_,_,_,_,_,_,_,_,fx,_⟩:=hcp;exact fx
   obtain⟨nn2,s',hp1,hp2⟩:=xH z m.now sj.addr (aV b) (λq hq=>(hsr q hq).1);have hrest:=yD hp1;have hcnt:=uJ hp1;rw[<-hp2]at hrest hcnt;obtain⟨aG,bL,bN,y2,rfl,hor,hm2,hu2,hdk⟩:=DI h8 hok e1 e2 hnd hcp hI2.out (TT hnk.pos _ _ _ V7 (λq hq=>(hsr q hq).1)) hrest.1 hrest.2 (aA _) (dF (aaj _ _ _ _) hnk.ql) hcnt;have hz1:=MN.size;have hS2:sJ y.G g' i j xi.B xj.B xi.N w.heap.size m.now sj.addr (.slice (some ⟨g',0,none⟩) m.S.length c) w2:=(hS0.low MN).keep (dF hz1 hfx.size) λk hk=>hfx.block k (by rcases hk with rfl|rfl|rfl|rfl<;>omega) (hnF k hk);exact⟨aG,bL,bN,y2,hS2,rfl,hor.lower hz1,by have:=hu2.fx.size;omega,hm2,hu2.pre MN,hdk⟩
  have ho:m.hear i j b=(m.put i {si with nd:=some (z.rcv m.now sj.addr (aV b))}).did i (z.rcv m.now sj.addr (aV b)).ot:=by
   unfold aP.hear;rw[e3,hnd,f3];dsimp only;rw[zN e2]
  rw[ho];have hS8:=hS0.low MN;have hS:sJ y.G g' i j xi.B xj.B xi.N w.heap.size m.now sj.addr (.slice (some ⟨g',0,none⟩) m.S.length c) w.drew:=hS0.drew;obtain⟨zr,ZE⟩:∃zr,z.rcv m.now sj.addr (aV b)=zr:=⟨_,rfl⟩;rw[ZE]at HR2 ⊢;obtain⟨m2,Qu⟩:∃m2,m.put i {si with nd:=some zr}=m2:=⟨_,rfl⟩;rw[Qu]at HR2 ⊢;obtain⟨N,QJ⟩:∃N,xi.N=N:=⟨_,rfl⟩;rw[QJ]at HR2 c2 hS hS8;have hsz0:w.drew.heap.size=w.heap.size:=rfl;rw[hsz0]at hcv;clear ZE Qu QJ HR h_ V7 hsr nn tm h8 qz hd1 hnk h hst e1 e2 e3 e4 f1 f2 f3 f4 hok ho MN nn0 hnF hS0 Wo hgl hAl hBl hsz0;go_enter Tryz.func33,Tryz.ntmps33;go_upto_region 4 with(fail);clear q0 q1 p0 c2 p1 ca;refine o9 (sJ y.G g' i j xi.B xj.B N w.heap.size m.now sj.addr (.slice (some ⟨g',0,none⟩) m.S.length c)) [23,24] (by kernel_rfl) hS (λhHeld=> ?_);refine aZ (i:=0) (v:=?hv0) rfl (by kernel_rfl) (Or.inl ⟨by rfl,?hy0⟩) hHeld ?hr0
  case hy0=>
   rintro w5 ⟨⟨q0,q1,p0,c2,p1,ca⟩,_⟩;go_simp;try with_reducible rfl
  try go_frame
  refine aZ (i:=1) (v:=?hv1) rfl (by kernel_rfl) (Or.inl ⟨by rfl,?hy1⟩) hHeld ?hr1
  case hy1=>
   rintro w5 ⟨⟨q0,q1,p0,c2,p1,ca⟩,_⟩;go_simp;try with_reducible rfl
  try go_frame
  refine aZ (i:=2) (v:=?hv2) rfl (by kernel_rfl) (Or.inl ⟨by rfl,?hy2⟩) hHeld ?hr2
  case hy2=>
   rintro w5 ⟨⟨q0,q1,p0,c2,p1,ca⟩,_⟩;go_simp;try with_reducible rfl
  try go_frame
  refine aZ (i:=3) (v:=?hv3) rfl (by kernel_rfl) (Or.inl ⟨by rfl,?hy3⟩) hHeld ?hr3
  case hy3=>
   rintro w5 ⟨⟨q0,q1,p0,c2,p1,ca⟩,_⟩;go_simp;try with_reducible rfl
  try go_frame
  refine aZ (i:=4) (v:=?hv4) rfl (by kernel_rfl) (Or.inl ⟨by rfl,?hy4⟩) hHeld ?hr4
  case hy4=>
   rintro w5 ⟨⟨q0,q1,p0,c2,p1,ca⟩,_⟩;go_simp;try with_reducible rfl
  try go_frame
  refine aZ (i:=5) (v:=?hv5) rfl (by kernel_rfl) (Or.inl ⟨by rfl,?hy5⟩) hHeld ?mQ
  case hy5=>
   rintro w5 ⟨⟨q0,q1,p0,c2,p1,ca⟩,_⟩;go_simp;try with_reducible rfl
  try go_frame
  refine aZ (i:=6) (v:=?hv6) rfl (by kernel_rfl) (Or.inl ⟨by rfl,?hy6⟩) hHeld ?rY
  case hy6=>
   rintro w5 ⟨⟨q0,q1,p0,c2,p1,ca⟩,_⟩;go_simp;try with_reducible rfl
  try go_frame
  refine aZ (i:=7) (v:=?hv7) rfl (by kernel_rfl) (Or.inl ⟨by rfl,?hy7⟩) hHeld ?yX
  case hy7=>
   rintro w5 ⟨⟨q0,q1,p0,c2,p1,ca⟩,_⟩;go_simp;try with_reducible rfl
  try go_frame
  refine aZ (i:=8) (v:=?hv8) rfl (by kernel_rfl) (Or.inl ⟨by rfl,?hy8⟩) hHeld ?h_
  case hy8=>
   rintro w5 ⟨⟨q0,q1,p0,c2,p1,ca⟩,_⟩;go_simp;try with_reducible rfl
  try go_frame
  refine aZ (i:=9) (v:=?hv9) rfl (by kernel_rfl) (Or.inl ⟨by rfl,?hy9⟩) hHeld ?mD
  case hy9=>
   rintro w5 ⟨⟨q0,q1,p0,c2,p1,ca⟩,_⟩;go_simp;try with_reducible rfl
  try go_frame
  refine aZ (i:=10) (v:=?ab4) rfl (by kernel_rfl) (Or.inl ⟨by rfl,?XO⟩) hHeld ?acj
  case XO=>
   rintro w5 ⟨⟨q0,q1,p0,c2,p1,ca⟩,_⟩;go_simp;try with_reducible rfl
  try go_frame
  refine aZ (i:=11) (v:=?ab3) rfl (by kernel_rfl) (Or.inl ⟨by rfl,?XM⟩) hHeld ?aci
  case XM=>
   rintro w5 ⟨⟨q0,q1,p0,c2,p1,ca⟩,_⟩;go_simp;try with_reducible rfl
  try go_frame
  refine aZ (i:=12) (v:=?ab2) rfl (by kernel_rfl) (Or.inl ⟨by rfl,?XL⟩) hHeld ?ach
  case XL=>
   rintro w5 ⟨⟨q0,q1,p0,c2,p1,ca⟩,_⟩;go_simp;try with_reducible rfl
  try go_frame
  refine aZ (i:=13) (v:=?ab1) rfl (by kernel_rfl) (Or.inl ⟨by rfl,?XK⟩) hHeld ?acg
  case XK=>
   rintro w5 ⟨⟨q0,q1,p0,c2,p1,ca⟩,_⟩;go_simp;try with_reducible rfl
  try go_frame
  refine aZ (i:=14) (v:=?ab0) rfl (by kernel_rfl) (Or.inl ⟨by rfl,?XJ⟩) hHeld ?acf
  case XJ=>
   rintro w5 ⟨⟨q0,q1,p0,c2,p1,ca⟩,_⟩;go_simp;try with_reducible rfl
  try go_frame
  refine aZ (i:=15) (v:=?adG) rfl (by kernel_rfl) (Or.inl ⟨by rfl,?abX⟩) hHeld ?adR
  case abX=>
   rintro w5 ⟨⟨q0,q1,p0,c2,p1,ca⟩,_⟩;go_simp;try with_reducible rfl
  try go_frame
  refine aZ (i:=16) (v:=?adF) rfl (by kernel_rfl) (Or.inl ⟨by rfl,?abW⟩) hHeld ?adQ
  case abW=>
   rintro w5 ⟨⟨q0,q1,p0,c2,p1,ca⟩,_⟩;go_simp;try with_reducible rfl
  try go_frame
  refine aZ (i:=17) (v:=?adE) rfl (by kernel_rfl) (Or.inl ⟨by rfl,?abV⟩) hHeld ?adP
  case abV=>
   rintro w5 ⟨⟨q0,q1,p0,c2,p1,ca⟩,_⟩;go_simp;try with_reducible rfl
  try go_frame
  refine aZ (i:=18) (v:=?adD) rfl (by kernel_rfl) (Or.inl ⟨by rfl,?abU⟩) hHeld ?adO
  case abU=>
   rintro w5 ⟨⟨q0,q1,p0,c2,p1,ca⟩,_⟩;go_simp;try with_reducible rfl
  try go_frame
  refine aZ (i:=19) (v:=?adC) rfl (by kernel_rfl) (Or.inl ⟨by rfl,?abT⟩) hHeld ?adN
  case abT=>
   rintro w5 ⟨⟨q0,q1,p0,c2,p1,ca⟩,_⟩;go_simp;try with_reducible rfl
  try go_frame
  refine aZ (i:=20) (v:=?adB) rfl (by kernel_rfl) (Or.inl ⟨by rfl,?abS⟩) hHeld ?adM
  case abS=>
   rintro w5 ⟨⟨q0,q1,p0,c2,p1,ca⟩,_⟩;go_simp;try with_reducible rfl
  try go_frame
  refine jw (i:=21) (by kernel_rfl) rfl (λK hK=> ?_);go_simp;refine hK.out _ _ (λ_=>hS8) ?_;clear hK K;refine jw (i:=22) (by kernel_rfl) rfl (λK2 hK2=> ?_);go_simp;go_at_call 25;refine HR2.out.mono ?_;rintro e w2 ⟨aG,bL,bN,y2,hS2,rfl,hor,hsz,hm2,hu2,hdk⟩;have RY:=DX hm2 hdk aG bL bN w.heap.size hor hsz;rw[hu2.G]at RY;go_simp;refine hK2.out _ _ (λ_=>hS2) ?_;clear hK2 K2 HR2;refine jw (i:=23) (by kernel_rfl) rfl (λK3 hK3=> ?_);replace RY:=hide RY;replace hu2:=hide hu2;replace hdk:=hide hdk;clear hor hm2 hS2 hHeld hS hS8;go_simp;go_at_call 36;refine RY.out.mono ?_;rintro e w3 ⟨v,L,rfl,hL,hev,y3,nO,hu3⟩;have hfin:=hide (show iW y m (m2.did i zr.ot).1 (m2.did i zr.ot).2 w.heap.size w (.returned v) w3∧iy (κ+200000) q (m2.did i zr.ot).1 from⟨⟨v,L,rfl,hL,hev,y3,nO,hu2.out.trans hu3⟩,(Dw hdk.out).up (by omega) (aA _)⟩);clear hL hev nO hu3 RY hu2 hdk;go_simp;refine hK3.out _ _ (λh=>(h (by decide)).elim) ?_;clear hK3 K3;refine jw (i:=24) (by kernel_rfl) rfl (λK4 hK4=> ?_);go_simp;refine hK4.out _ _ (λh=>(h (by decide)).elim) ?_;clear hK4 K4;refine vX (by kernel_rfl) ?_ _;go_wp2;go_ret;exact hfin.out
theorem VP{L:List (Nat×Nat×ByteArray)}{k:Nat}{f:Nat×Nat×ByteArray}(h:L[k]?=some f)(b:ByteArray):nC (L.set k (f.1,f.2.1,b))=(nC L).set (k * 3+2) (.string b):=by
 induction L generalizing k with
 |nil=>simp at h
 |cons a L ih=>
  cases k with
  |zero=>
   simp only[List.getElem?_cons_zero,Option.some.injEq]at h;subst h;rfl
  |succ k=>
   rw[List.getElem?_cons_succ]at h;rw[List.set_cons_succ];show [_,_,_]++nC (L.set k _)=(([_,_,_]:List Value)++nC L).set _ _;rw[ih h,show(k+1)* 3+2=(k * 3+2)+1+1+1 by omega];rfl
theorem TK{W:World}{base e size n g c:Nat}{xs:List Value}(h:W.ownsRow base e size (.slice (some ⟨g,0,none⟩) n c) n xs)(j:Nat)(_:j<n * size)(v:Value):(W.setCell ⟨g,j,none⟩ v).ownsRow base e size (.slice (some ⟨g,0,none⟩) n c) n (xs.set j v):=by
 rcases h.2 with⟨he,_⟩|⟨g',cap,cur,he,hb,hg,h1,h2,h3,h4⟩
 ·cases he
 ·cases he;refine⟨by rw[List.length_set];exact h.1,.inr ⟨g,c,cur.setIfInBounds j v,rfl,hb,?_,h1,h2,by simp[h3],?_⟩⟩
  ·simp[World.setCell,dM,hg]
  ·rw[Array.toList_setIfInBounds,<-h4,List.take_set]
theorem abB{y:MG}{m:aP}{w:World}(h:MM y m w)(i:Nat)(hi:i<m.bH.length)(f:Nat×Nat×ByteArray)(hf:m.bH[i]?=some f)(hs:f.2.2.size<=1000000)(n:Int):Calls Tryz.prog 65 #[.pointer (some ⟨y.G,0,none⟩),.int .i64 i,.int .i64 n] w λe w'=>e=.returned (.tuple #[])∧MP y m {m with bH:=m.bH.set i (f.1,f.2.1,f.2.2.extract 0 (f.2.2.size - (min (max 0 n) f.2.2.size).toNat))} w w':=by
 obtain⟨a,b,s⟩:=f;dsimp only at hs ⊢;obtain⟨g,cap,Ag,_⟩:=bS h.bH (by omega);obtain⟨q0,q1,q2⟩:=D7 hf;dsimp only at q0 q1 q2;have hr:=h.bH;rw[Ag]at hr;have c2:=h.cell.2.2.1;rw[Ag]at c2;have d2:=(hr.cellAt (i * 3+2) (by omega)).trans q2;have hil:(i:Int)<(m.bH.length:Int):=by omega
 have hfz:w.frozen? ⟨g,i * 3+2,none⟩=false:=by
  obtain⟨cc,hc⟩:=aL hr (k:=g) rfl;exact mg w g _ _ _ hc
 obtain⟨k,hk⟩:∃k:Nat,s.size - (min (max 0 n) s.size).toNat=k:=⟨_,rfl⟩;rw[hk];have hkI:(s.size:Int) - min (max 0 n) (s.size:Int)=(k:Int):=by omega
 have hks:(k:Int)<=(s.size:Int):=by omega
 have hfin:MP y m {m with bH:=m.bH.set i (a,b,s.extract 0 k)} w (w.setCell ⟨g,i * 3+2,none⟩ (.string (s.extract 0 k))):=by
  have hrow:=TK hr (i * 3+2) (by omega) (.string (s.extract 0 k));rw[<-VP hf (s.extract 0 k)]at hrow;have hg:w.grownBy (w.setCell ⟨g,i * 3+2,none⟩ (.string (s.extract 0 k))) (some g):=ah (ay _ (some g)) _ _;have hgI:uU y m g:=.inr (.inr (.inl (by rw[Ag];rfl)));have hblk:=h.blk;have hgG:y.G≠g:=λe=>by
   obtain⟨cc,hc⟩:=aL hr (k:=g) rfl;rw[e,hc]at hblk;cases hblk
  refine⟨y,⟨(hg.block _ (aB h.blk) λe=>hgG (Option.some.inj e)).trans h.blk,h.xZ.kept hg ?_,?_,h.len,λj x u h1 h2=>(h.st j x u h1 h2).kept λk5 hk5=>hg.block k5 ((h.st j x u h1 h2).lt hk5) λe=> ?_,h.ap⟩,Fx.grown hg λk5 e=>by cases e;exact hgI,λk5 hk5=> .inl hk5,rfl,rfl,rfl,rfl⟩
  ·rcases bP h.xZ hr (by decide)with e|e
   ·exact .inl e
   ·exact .inr e
  ·show World.ownsRow _ 0 _ 3 y.av (m.bH.set i _).length _;rw[List.length_set,Ag];exact hrow
  ·cases e;exact(h.own h1 h2 hk5).2.2 (by rw[Ag];rfl)
 clear h hr hf q0 q1 q2 Ag;have hw:wrap64 ((s.size:Int) - min (max 0 n) (s.size:Int))=(k:Int):=by rw[hkI];unfold wrap64;omega
 replace hfin:=hide (hfin.post (aR _ _).drew);go_enter Tryz.func65,Tryz.ntmps65;go_upto_region 1 with(fail);clear c2;go_region
 go_returns;exact⟨rfl,hfin.out⟩
end Go.Proofs.YtakaadcpaeiccabGreat
