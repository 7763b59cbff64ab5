import Derived.Test.YtakaadcpaeiccabGreatC29
set_option maxHeartbeats 8000000
set_option maxRecDepth 100000
namespace Go.Proofs.YtakaadcpaeiccabGreat
open Go.RowKit Go.Maps
variable{y:MG}{m:aS}{i:Nat}
theorem MM.aag{W:World}(h:MM y m W)(t:Int):MM y {m with now:=t} (W.setCell ⟨y.G,0,none⟩ (.int .u64 t))∧MU y m y {m with now:=t} W (W.setCell ⟨y.G,0,none⟩ (.int .u64 t)):=by
 have hg:W.grownBy (W.setCell ⟨y.G,0,none⟩ (.int .u64 t)) (some y.G):=ah (aC _ (some y.G)) 0 _;refine⟨⟨?_,h.zF.kept hg (.inr (aB h.zF h.blk (λc e=>(by cases e)))),h.bO.kept hg (.inr (aB h.bO h.blk (λc e=>(by cases e)))),h.len,λi x s h1 h2=>(h.st i x s h1 h2).kept λk hk=>hg.block k ((h.st i x s h1 h2).lt hk) λe=>(h.own h1 h2 hk).1 (Option.some.inj e),h.ap⟩,Fx.grown hg λk e=>by cases e;exact .inl rfl,λk hk=> .inl hk,rfl,rfl,rfl,rfl⟩;simp[World.setCell,Array.getElem?_modify,h.blk]
def fB(m:aS)(k:Nat):aS×List Ev:=(List.range k).foldl aS.sH (m,[])
theorem zy(m:aS)(k:Nat):fB m (k+1)=aS.sH (fB m k) k:=by
 unfold fB;rw[List.range_succ,List.foldl_append];rfl
theorem Jv{z:aS×List Ev}(h:(z.1.at' i).nd=none):aS.sH z i=z:=by
 unfold aS.sH;rw[h]
theorem Ju{z:aS×List Ev}{s:St}(h:(z.1.at' i).nd=some s):aS.sH z i=((z.1.act i (s.kU z.1.now)).1,z.2++(z.1.act i (s.kU z.1.now)).2):=by
 unfold aS.sH;rw[h]
theorem IA(φ:aS->Int×ByteArray->aS×List Ev)(hφ:∀m f,(φ m f).1.now=m.now)(m:aS)(i:Nat)(o:Ot):(m.jH φ i o).1.now=m.now:=by
 have hg:∀(L:List (Int×ByteArray)) (z:aS×List Ev),(L.foldl (uy φ) z).1.now=z.1.now:=by
  intro L
  induction L with
  |nil=>intro z;rfl
  |cons f L ih=>
   intro z;rw[gH,ih];exact hφ z.1 f
 unfold aS.jH;split
 ·rfl
 ·split
  ·exact hg _ _
  ·rfl
theorem RL(i:Nat)(m:aS)(f:Int×ByteArray):(m.nX i f).1.now=m.now:=(jk m i f).2
theorem RI(i:Nat)(m:aS)(f:Int×ByteArray):(m.jo i f).1.now=m.now:=by
 unfold aS.jo;split
 ·exact(jk m i f).2
 ·split
  ·exact(jk m i f).2
  ·unfold aS.Ch;rw[IA _ (RL i)];exact(jk m i f).2
theorem YO(m:aS)(i:Nat)(z:St):(m.act i z).1.now=m.now∧(m.act i z).1.S.length=m.S.length:=by
 refine⟨IA _ (RI i) _ i _,?_⟩;show(aS.jH (aS.jo i) (m.put i _) i _).1.S.length=_;rw[Uy _ (RJ i),(ic _ _ _).1,List.length_set]
theorem Ux(φ:aS->Int×ByteArray->aS×List Ev)(hφ:∀m f,(φ m f).2.length<=1)(m:aS)(i:Nat)(o:Ot):(m.jH φ i o).2.length<=1+o.aL.length:=by
 cases hi:o.idle
 ·cases hw:((m.at' i).write o).2
  ·unfold aS.jH;rw[aM (by simp[hi]),aM (by simp[hw])];simp
  ·rw[vP φ m i o hi hw];exact AZ hφ m i o _ (aD _)
 ·unfold aS.jH;rw[aQ hi];simp
theorem acn{w:World}(h:MM y m w){κ:Int}{q:Nat}(hok:iT κ q m)(Hu:0<=κ∧κ<=90000000000)(_:q<=4990)(n:Int)(fK:m.now+60000<=4611686018427387904):
  Calls Tryz.prog 31 #[.pointer (some ⟨y.G,0,none⟩),.int .i64 n] w λe w'=>jD y m (m.tick n).1 (m.tick n).2 w.heap.size w e w'∧iT (κ+1000000) q (m.tick n).1:=by
 by_cases hn:n<1∨n>60000
 ·have ho:m.tick n=(m,[]):=by
   unfold aS.tick;rw[aQ hn]
  have hfin:jD y m (m.tick n).1 (m.tick n).2 w.heap.size w (.returned (.slice none 0 0)) w∧iT (κ+1000000) q (m.tick n).1:=by
   rw[ho];exact⟨⟨_,[],rfl,rfl,gY.nil _ _,MP.refl h⟩,hok.up (by omega) (aD _)⟩
  replace hfin:=hide hfin;clear h ho hok;by_cases h1:n<1
  ·go_enter Tryz.func31,Tryz.ntmps31;go_wp2;go_ret;exact hfin.out
  ·have h2:60000<n:=by omega
   go_enter Tryz.func31,Tryz.ntmps31;go_wp2;go_ret;exact hfin.out
 ·have hn1:¬n<1:=λh=>hn (.inl h);have hn2:¬60000<n:=λh=>hn (.inr h);have ho:m.tick n=fB {m with now:=m.now+n} m.S.length:=by
   unfold aS.tick;rw[aM hn];rfl
  obtain⟨hs1,hu1⟩:=h.aag (m.now+n);have hok1:iT κ q {m with now:=m.now+n}:=⟨hok.n,hok.bO,by have:=hok.now;dsimp only;omega,λs hs=>(hok.st s hs).up (eY _) (aD _) (by dsimp only;omega)⟩;obtain⟨c0,c1,_,fz⟩:=h.cell;have f0:=fz 0;obtain⟨sa,sc,hsv⟩:=h.svf;rw[hsv]at c1;have hw1:IntKind.u64.wrap n=n:=by
   simp only[IntKind.wrap,IntKind.signed,IntKind.bits];simp;omega
  have hw2:IntKind.u64.wrap (m.now+n)=m.now+n:=by
   have:=hok.now;simp only[IntKind.wrap,IntKind.signed,IntKind.bits];simp;omega
  rw[ho];have hnS:({m with now:=m.now+n}:aS).S.length=m.S.length:=rfl;obtain⟨m1,hm1⟩:∃m1,({m with now:=m.now+n}:aS)=m1:=⟨_,rfl⟩;rw[hm1]at hs1 hu1 hok1 hnS ⊢;have rf:Hid (∃y' L,MM y' (fB m1 0).1 (w.setCell ⟨y.G,0,none⟩ (.int .u64 (m.now+n)))∧MU y m y' (fB m1 0).1 w (w.setCell ⟨y.G,0,none⟩ (.int .u64 (m.now+n)))∧iT (κ+100001 * (0:Nat)) q (fB m1 0).1∧(fB m1 0).1.now=m1.now∧(fB m1 0).1.S.length=m.S.length∧gY w.heap.size (.slice none 0 0) L (w.setCell ⟨y.G,0,none⟩ (.int .u64 (m.now+n)))∧L.map (·.1)=(fB m1 0).2∧L.length<=100001 * 0):=
   ⟨y,[],hs1,hu1,hok1.up (by omega) (aD _),rfl,hnS,gY.nil _ _,rfl,by simp⟩
  have u1:=hs1.cell.2.1;rw[hsv]at u1;have hmS:m.S.length<=6:=hok.n;obtain⟨i0,hi0,hz0,hz1,hz2⟩:=info_parts MQ;clear h hs1 hu1 hok1 hok ho fz hm1;go_enter Tryz.func31,Tryz.ntmps31;go_upto_region 4 with(fail);generalize World.setCell _ _ _=W1 at rf u1 ⊢;clear c0 c1 f0;go_wp2_with fail;go_loopw [5,28] (λev iv wr=>∃k:Nat,k<=m.S.length∧iv=.int .i64 k∧Hid (∃y' L,MM y' (fB m1 k).1 wr∧MU y m y' (fB m1 k).1 w wr∧iT (κ+100001 * k) q (fB m1 k).1∧(fB m1 k).1.now=m1.now∧(fB m1 k).1.S.length=m.S.length∧gY w.heap.size ev L wr∧L.map (·.1)=(fB m1 k).2∧L.length<=100001 * k)) (λ_ iv _=>m.S.length - (intOf iv).toNat)
  case atStart=>exact⟨0,dh _,rfl,rf⟩
  case round=>
   clear rf u1;obtain⟨k,hk,rfl,hr⟩:=hrel;by_cases hkl:k<m.S.length
   ·have hki:(k:Int)<(m.S.length:Int):=by omega
    obtain⟨y',L,hm,hu,hmo,hN,XY,hev,hL,X7⟩:=hr.out;obtain⟨x,s,g,c,e1,e2,e3,e4,p0⟩:=hm.get (i:=k) (by rw[XY];exact hkl);have hsa:sa=some ⟨g,0,none⟩:=by
     have h5:=e4;rw[hu.sv,hsv]at h5;injection h5 with h5 _ _
    subst hsa;have c2:=(hm.st k x s e1 e2).cell.2.2.1;have hk1:k+1<=m.S.length:=by omega
    have hme:=jM hkl;cases hnd:s.nd with
    |none=>
     rw[hnd]at c2;unfold MC at c2;have hr2:Hid (∃y' L,MM y' (fB m1 (k+1)).1 wr∧MU y m y' (fB m1 (k+1)).1 w wr∧iT (κ+100001 * (k+1:Nat)) q (fB m1 (k+1)).1∧(fB m1 (k+1)).1.now=m1.now∧(fB m1 (k+1)).1.S.length=m.S.length∧gY w.heap.size u5 L wr∧L.map (·.1)=(fB m1 (k+1)).2∧L.length<=100001 * (k+1)):=by
      show ∃y' L,_;rw[zy,Jv (by rw[e3];exact hnd)];exact⟨y',L,hm,hu,hmo.up (by omega) (aD _),hN,XY,hev,hL,by omega⟩
     have hw64:wrap64 ((k:Int)+1)=(k:Int)+1:=by unfold wrap64;omega
     clear hr hm hu hmo hev hL X7 e1 e2 e3 e4;go_wp2;try rw[hw64]
     go_roundw
     case rel=>
      first
       |exact⟨k+1,hk1,by go_num,hr2⟩
       |exact⟨_,_,⟨k+1,hk1,by go_num,hr2⟩,rfl⟩
       |((repeat apply Exists.intro);refine⟨⟨k+1,hk1,by go_num,hr2⟩,rfl⟩)
     case measure=>exact hme
    |some z=>
     rw[hnd]at c2;unfold MC at c2;have hnk:=(hmo.at e2).nd z hnd;have hd1:Below wr.heap.size wr wr.drew:=(aV _ _).drew;have hmd:=hm.later hd1;obtain⟨nn,tm⟩:=(hmd.st k x s e1 e2).nd z hnd;have hsr:=nn.NU;have HT:=acj nn hnk.inv (by omega) tm hnk.pos m1.now ⟨by have:=hnk.nw;rw[hN]at this;exact this,by have:=hmo.now.2;rw[hN]at this;exact this⟩;have q0:=hm.cell.1;rw[hN,hu.G]at q0;obtain⟨M,hMe⟩:∃M,(fB m1 k).1=M:=⟨_,rfl⟩;have hsucc:fB m1 (k+1)=((M.act k (z.kU m1.now)).1,(fB m1 k).2++(M.act k (z.kU m1.now)).2):=by
      rw[zy,Ju (by rw[e3];exact hnd),hN,hMe]
     rw[hMe]at hm hu hmo hN XY e2 e3 hmd;have HT2:Hid (Calls Tryz.prog 20 #[.pointer (some ⟨x.N,0,none⟩),.int .u64 m1.now] wr.drew λe w2=>∃aK bP bQ y2,e=.returned (iY (z.kU m1.now).bn (z.kU m1.now).bC aK bP bQ)∧iG wr.heap.size (z.kU m1.now).aL (z.kU m1.now).aY (z.kU m1.now).aT aK bP bQ w2∧wr.heap.size<=w2.heap.size∧MM y2 (M.put k {s with nd:=some (z.kU m1.now)}) w2∧MU y' M y2 (M.put k {s with nd:=some (z.kU m1.now)}) wr w2∧Cq (κ+100001 * k+1) q (M.put k {s with nd:=some (z.kU m1.now)}) k (z.kU m1.now)):=by
      refine HT.mono ?_;rintro e w2 ⟨o,rfl,hI2,hcp⟩;obtain⟨s',hp1,hp2⟩:=DK z m1.now hsr;have hrest:=zX hp1;have hcnt:=vQ hp1;rw[<-hp2]at hrest hcnt;obtain⟨aK,bP,bQ,y2,rfl,hor,hm2,hu2,hdk⟩:=Fg hmd hmo e1 e2 hnd hcp hI2.out (Xa hnk.pos hnk.inv.tl.1 m1.now) hrest.1 (hrest.2.trans hN.symm) (aD _) (dH (Z4 _ _) hnk.ql) hcnt;exact⟨aK,bP,bQ,y2,rfl,hor,hu2.fx.size,hm2,hu2.pre hd1,hdk⟩
     have hDD:Hid (∀aK bP bQ y2 w2,iG wr.heap.size (z.kU m1.now).aL (z.kU m1.now).aY (z.kU m1.now).aT aK bP bQ w2->wr.heap.size<=w2.heap.size->MM y2 (M.put k {s with nd:=some (z.kU m1.now)}) w2->MU y' M y2 (M.put k {s with nd:=some (z.kU m1.now)}) wr w2->Cq (κ+100001 * k+1) q (M.put k {s with nd:=some (z.kU m1.now)}) k (z.kU m1.now)->Calls Tryz.prog 36 #[.pointer (some ⟨y.G,0,none⟩),.int .i64 k,iY (z.kU m1.now).bn (z.kU m1.now).bC aK bP bQ] w2 λe w3=>∃v2 L2,e=.returned v2∧L2.length<=100001∧w3.ownsRow w.heap.size 54 7 u5 L.length (EvC L)∧w3.ownsRow wr.heap.size 54 7 v2 L2.length (EvC L2)∧(∀u∈EvC L2,u.oneCell'=true)∧w.heap.size<=w3.heap.size∧∀v' w',w'.ownsRow w.heap.size 54 7 v' (L.length+L2.length) (EvC L++EvC L2)->w3.grownBy w' u5.ownBlock->∃y' L,MM y' (fB m1 (k+1)).1 w'∧MU y m y' (fB m1 (k+1)).1 w w'∧iT (κ+100001 * (k+1:Nat)) q (fB m1 (k+1)).1∧(fB m1 (k+1)).1.now=m1.now∧(fB m1 (k+1)).1.S.length=m.S.length∧gY w.heap.size v' L w'∧L.map (·.1)=(fB m1 (k+1)).2∧L.length<=100001 * (k+1)):=by
      intro aK bP bQ y2 w2 hor hsz hm2 hu2 hdk;have hd:=Fz hm2 hdk aK bP bQ wr.heap.size hor hsz;rw[hu2.G,hu.G]at hd;refine hd.mono ?_;rintro e w3 ⟨v2,L2,rfl,hL2,nH,y3,oL,hu3⟩;have hl2:L2.length<=100001:=by
       have h6:=congrArg List.length hL2;rw[iK]at h6;have h7:=Ux (aS.jo k) (Gw k) (M.put k {s with nd:=some (z.kU m1.now)}) k (z.kU m1.now).ot;obtain⟨_,_,h8⟩:=hdk.pre;have h9:=h8.nd.inv.frl;have h10:(z.kU m1.now).ot.aL.length=(z.kU m1.now).aL.length:=rfl;have h11:((M.put k {s with nd:=some (z.kU m1.now)}).did k (z.kU m1.now).ot).2.length=(aS.jH (aS.jo k) (M.put k {s with nd:=some (z.kU m1.now)}) k (z.kU m1.now).ot).2.length:=rfl;omega
      have acU:=hu2.trans hu3;have abd:=hev.mesh hm acU.fx;have hut:=hu.trans acU;have hz0:=hu.fx.size;have hz3:=hut.fx.size;refine⟨v2,L2,rfl,hl2,abd.row,nH.row,nH.one,hz3,λv' w' ho' hg'=> ?_⟩;have hmk:=E9 hdk;have hac:=YO M k (z.kU m1.now);have hae:=Be e2 (z.kU m1.now);have hbE:∀k5,oZ y3 ((M.put k {s with nd:=some (z.kU m1.now)}).did k (z.kU m1.now).ot).1 k5->w'.heap[k5]?=w3.heap[k5]?:=λk5 hk5=>hg'.block k5 (oL.lt hk5) λe5=>by
       obtain⟨cc,O9⟩:=aR abd.row e5.symm;exact oL.notE (by decide) O9 hk5
      rw[hsucc,hae];rw[hae]at hac;refine⟨y3,L++L2,oL.kept hbE,⟨aW hut.fx hg' (λj5 hj5 e5=> ?_),λk5 hk5=>(hut.sub k5 hk5).imp_right λh=>⟨h.1,fZ h.2 hg'.size⟩,hut.G,hut.n,hut.sv,hut.B⟩,hmk.up (by omega) (aD _),hac.1.trans hN,hac.2.trans XY,abd.append nH hz0 (λx hx k5 hk5=>((hev.out x hx).lt hk5).2) ho' hg',?_,by rw[dw];omega⟩
      ·have:=(hev.row.lt j5 e5).1;omega
      ·rw[List.map_append,hL,hL2]
     have Hz:Hid (∀n2,n2<=100001->L.length+n2<=maxLen∧(L.length+n2)* 112<=140737488355328):=λn2 h2=>by unfold maxLen;omega
     have hw64:wrap64 ((k:Int)+1)=(k:Int)+1:=by unfold wrap64;omega
     obtain⟨zt,hzt⟩:∃zt,z.kU m1.now=zt:=⟨_,rfl⟩;rw[hzt]at HT2 hDD;obtain⟨N,Ue⟩:∃N,x.N=N:=⟨_,rfl⟩;rw[Ue]at HT2 c2;clear hr hm hu hmo hev hL X7 e1 e2 e3 e4 HT hzt Ue hsucc hMe hN XY hnk nn tm hsr hmd hd1;go_upto_region 9 with(fail);go_region_law (first
      |(go_simp;go_at_call 20;refine HT2.out.mono ?_;rintro e w2 ⟨aK,bP,bQ,y2,rfl,hor,hsz,hm2,hu2,hdk⟩;have VR:=hide (hDD.out _ _ _ _ _ hor hsz hm2 hu2 hdk);clear hor hsz hm2 hu2 hdk)
      |(go_simp;go_at_call 36;refine VR.out.mono ?_;rintro e w3 ⟨v2,L2,rfl,hl2,hr1,hr2,h1c,hbw,hnx⟩;replace hnx:=hide hnx;obtain⟨aa3,aa2⟩:=Hz.out _ hl2)
      |(refine kX rfl (.tmp 38) (.tmp 50) 29 rfl w.heap.size 54 i0 (.agg #[.int .i64 0,.int .i64 0,.string ⟨#[]⟩,.bool false,.slice none 0 0,.slice none 0 0,.slice none 0 0]) 7 112 Tryz.underlying29 hi0 hz0 hz1 hz2 rfl (by decide) u5 L.length (EvC L) ?h1 hr1 wr.heap.size v2 L2.length (EvC L2) ?h2 hr2 h1c aa3 aa2 hbw ?_;(case h1=>simp[Act.eval]);(case h2=>simp[Act.eval]);intro v7 w7 iy gP;have y_:=hide (hnx.out v7 w7 iy gP)))
     all_goals
      clear VR hnx Hz HT2 hDD hr1 hr2 h1c;go_wp2;try rw[hw64]
      go_roundw
      case rel=>
       first
        |exact⟨k+1,hk1,by go_num,y_⟩
        |exact⟨_,_,⟨k+1,hk1,by go_num,y_⟩,rfl⟩
        |((repeat apply Exists.intro);refine⟨⟨k+1,hk1,by go_num,y_⟩,rfl⟩)
      case measure=>exact hme
   ·obtain rfl:k=m.S.length:=by omega
    obtain⟨y',L,hm,hu,hmo,hN,XY,hev,hL,X7⟩:=hr.out;have hfin:jD y m (fB m1 m.S.length).1 (fB m1 m.S.length).2 w.heap.size w (.returned u5) wr∧iT (κ+1000000) q (fB m1 m.S.length).1:=⟨⟨_,L,rfl,hL,hev,y',hm,hu⟩,hmo.up (by omega) (aD _)⟩;replace hfin:=hide hfin;clear hr hm hu hmo hev hL X7 hN XY;go_wp2;go_ret;exact hfin.out
variable{bC:Bool}{j:ByteArray}{ad r:Int}{aY aL:List (Int×ByteArray)}{aT:List Int}{y:MG}{m m':aS}{BA BB G N a b kc kd kf:Nat}{o:Obj}{ac af:Option Addr}{p:Prop}{bP bQ aK sv:Value}{W W' w w' w2:World}
@[reducible] def uD(G g a b BA BB N z : Nat)(now ad : Int)(sv : Value)(W : World): Prop :=
 (W.cell? ⟨G,0,none⟩=some (.int .u64 now)∧W.cell? ⟨G,1,none⟩=some sv∧W.cell? ⟨g,a,none⟩=some (.pointer (some ⟨BA,0,none⟩))∧W.cell? ⟨BA,2,none⟩=some (.pointer (some ⟨N,0,none⟩))∧W.cell? ⟨g,b,none⟩=some (.pointer (some ⟨BB,0,none⟩))∧W.cell? ⟨BB,0,none⟩=some (.int .u32 ad))∧G<z∧g<z∧BA<z∧BB<z∧z<=W.heap.size
theorem uD.keep{g z:Nat}{now:Int}(h:uD G g a b BA BB N z now ad sv W)(hz:z<=W'.heap.size)(hb:∀k,k=G∨k=g∨k=BA∨k=BB->W'.heap[k]?=W.heap[k]?):uD G g a b BA BB N z now ad sv W':=by
 obtain⟨⟨c0,c1,c2,c3,c4,c5⟩,h1,h2,h3,h4,_⟩:=h;exact⟨⟨(World.cell?_of_block (a:=⟨G,0,none⟩) (hb _ (.inl rfl))).trans c0,(World.cell?_of_block (a:=⟨G,1,none⟩) (hb _ (.inl rfl))).trans c1,(World.cell?_of_block (a:=⟨g,a,none⟩) (hb _ (.inr (.inl rfl)))).trans c2,(World.cell?_of_block (a:=⟨BA,2,none⟩) (hb _ (.inr (.inr (.inl rfl))))).trans c3,(World.cell?_of_block (a:=⟨g,b,none⟩) (hb _ (.inr (.inl rfl)))).trans c4,(World.cell?_of_block (a:=⟨BB,0,none⟩) (hb _ (.inr (.inr (.inr rfl))))).trans c5⟩,h1,h2,h3,h4,hz⟩
theorem uD.low{g z:Nat}{now:Int}(h:uD G g a b BA BB N z now ad sv W)(hb:Below z W W'):uD G g a b BA BB N z now ad sv W':=by
 have h':=h;obtain⟨_,h1,h2,h3,h4,h5⟩:=h;exact h'.keep (dH h5 hb.size) λk hk=>hb.block k (by rcases hk with rfl|rfl|rfl|rfl<;>assumption)
theorem uD.drew{g z:Nat}{now:Int}(h:uD G g a b BA BB N z now ad sv W):uD G g a b BA BB N z now ad sv W.drew:=h.keep h.2.2.2.2.2 λ_ _=>rfl
theorem uD.kH{g z:Nat}{now:Int}(h:uD G g a b BA BB N z now ad sv W):uD G g a b BA BB N z now ad sv (W.alloc o):=h.low ((aV _ _).alloc h.2.2.2.2.2 _)
theorem uD.eH{g z:Nat}{now:Int}(h:uD G g a b BA BB N z now ad sv W.drew):uD G g a b BA BB N z now ad sv (W.alloc o).drew:=by
 have h':uD G g a b BA BB N z now ad sv W:=⟨h.1,h.2⟩;exact h'.kH.drew
theorem uD.SH{g z:Nat}{now:Int}{v0 v1 v2 v3 v4:Value}(h:uD G g a b BA BB N z now ad sv W):uD G g a b BA BB N z now ad sv (((((W.setCell ⟨z,0,none⟩ v0).setCell ⟨z,1,none⟩ v1).setCell ⟨z,2,none⟩ v2).setCell ⟨z,3,none⟩ v3).setCell ⟨z,4,none⟩ v4):=h.low (uz (aV _ _) (aD _) _ _ _ _ _)
structure xH(p:Prop)(y:MG)(m m':aS)(w:World)(aL aY:List (Int×ByteArray))(aT:List Int)(aK bP bQ:Value)(W:World):Prop where
 mp:MP y m m' w W
 out:iG w.heap.size aL aY aT aK bP bQ W
 p:p
theorem xH.alloc(h:xH p y m m' w aL aY aT aK bP bQ W)(o:Obj):xH p y m m' w aL aY aT aK bP bQ (W.alloc o):=
 ⟨h.mp.post (bq),h.out.later (bq),h.p⟩
theorem xH.set(h:xH p y m m' w aL aY aT aK bP bQ W){D:Nat}{c:Array Value}(hD:W.heap[D]?=some (.cells c 52 (0,0)))(hDl:w.heap.size<=D)(hg:W.grownBy W' (some D)):xH p y m m' w aL aY aT aK bP bQ W':=by
 obtain⟨⟨y',hm,hu⟩,ho,hp⟩:=h;refine⟨⟨y',hm.kept λk hk=>hg.block k (hm.lt hk) λe=> ?_,⟨aW hu.fx hg (λj hj e=> ?_),λk hk=>(hu.sub k hk).imp_right λh=>⟨h.1,fZ h.2 hg.size⟩,hu.G,hu.n,hu.sv,hu.B⟩⟩,ho.at λk c' t ht hk=>hg.block k (aG hk) λe=> ?_,hp⟩
 ·cases e;exact hm.not hD (by decide) hk
 ·cases e;omega
 ·cases e;rw[hD]at hk;cases hk;exact absurd ht (by decide)
def ab3(p:Prop)(y:MG)(m m':aS)(w:World)(j:ByteArray)(bC:Bool)(aL aY:List (Int×ByteArray))(aT:List Int)(r:Int)(nv ov:Value)(W:World):Prop:=∃af kf ac kc ad kd D,nv=.pointer (some ⟨D,0,none⟩)∧ov=.int .i64 r∧qc D j bC (.slice af aL.length kf) (.slice ac aY.length kc) (.slice ad aT.length kd) W∧xH p y m m' w aL aY aT (.slice af aL.length kf) (.slice ac aY.length kc) (.slice ad aT.length kd) W
theorem NV{ad:Option Addr}(h:xH p y m m' w aL aY aT (.slice af aL.length kf) (.slice ac aY.length kc) (.slice ad aT.length kd) w2):ab3 p y m m' w j bC aL aY aT r (.pointer (some ⟨w2.heap.size,0,none⟩)) (.int .i64 r) (w2.alloc (.cells #[.string j,.bool bC,.slice af aL.length kf,.slice ac aY.length kc,.slice ad aT.length kd] 52)):=
 ⟨af,kf,ac,kc,ad,kd,_,rfl,rfl,bS _ _,h.alloc _⟩
theorem Wz{ad:Option Addr}{j0:ByteArray}{r0:Bool}{f0 c0 d0:Value}(h:xH p y m m' w aL aY aT (.slice af aL.length kf) (.slice ac aY.length kc) (.slice ad aT.length kd) w2)(hD:Hid (qc w.heap.size j0 r0 f0 c0 d0 w2)):ab3 p y m m' w j bC aL aY aT r (.pointer (some ⟨w.heap.size,0,none⟩)) (.int .i64 r) (((((w2.setCell ⟨w.heap.size,0,none⟩ (.string j)).setCell ⟨w.heap.size,1,none⟩ (.bool bC)).setCell ⟨w.heap.size,2,none⟩ (.slice af aL.length kf)).setCell ⟨w.heap.size,3,none⟩ (.slice ac aY.length kc)).setCell ⟨w.heap.size,4,none⟩ (.slice ad aT.length kd)):=
 ⟨af,kf,ac,kc,ad,kd,_,rfl,rfl,hD.out.NY,h.set hD.out (aD _) (uo _ _ _ _ _ _ _)⟩
theorem MP.size(h:MP y m m' w w'):w.heap.size<=w'.heap.size:=by
 obtain⟨_,_,hu⟩:=h;exact hu.fx.size
theorem wG{md:aS}{evs:List Ev}(h:MM y m w)(a b:Nat)(ha:a<m.S.length)(hb:b<m.S.length)(t:ByteArray)(r:Int)(hr:r=0∨r=6∨r=2)(j:ByteArray)(bC:Bool)(aL aY:List (Int×ByteArray))(aT:List Int){z:St}(hnd:(m.at' a).nd=some z)
  (HC:∀x s,y.L[a]?=some x->m.S[a]?=some s->∀W5,Below w.heap.size w W5->Calls Tryz.prog 21 #[.pointer (some ⟨x.N,0,none⟩),.int .u64 m.now,.int .u32 (m.at' b).addr,.string t] W5 λe w2=>∃af kf ac kc ad kd,e=.returned (.tuple #[.agg #[.string j,.bool bC,.slice af aL.length kf,.slice ac aY.length kc,.slice ad aT.length kd],.int .i64 r])∧Fx (Ft x.N x.g z) W5 w2∧xH p y m m' w aL aY aT (.slice af aL.length kf) (.slice ac aY.length kc) (.slice ad aT.length kd) w2)
  (HD:r=0->∀aK bP bQ W,xH p y m m' w aL aY aT aK bP bQ W->Calls Tryz.prog 36 #[.pointer (some ⟨y.G,0,none⟩),.int .i64 a,.agg #[.string j,.bool bC,aK,bP,bQ]] W (jD y m md evs w.heap.size w))
  (HE:r≠0->md=m'∧evs=[⟨a,r,Ot.none⟩]):
  Calls Tryz.prog 30 #[.pointer (some ⟨y.G,0,none⟩),.int .i64 a,.int .i64 b,.string t] w λe w'=>jD y m md evs w.heap.size w e w'∧p:=by
 obtain⟨xa,sa,g,c,e1,e2,e3,e4,p0⟩:=h.get ha;obtain⟨xb,sb,g',c',f1,f2,f3,f4,p1⟩:=h.get hb;obtain⟨q0,q1,_,_⟩:=h.cell;have hgg:g'=g∧c'=c:=by
  rw[f4]at e4;injection e4 with h5 _ h6;injection h5 with h5;injection h5 with h5 _ _;exact⟨h5,h6⟩
 obtain⟨rfl,rfl⟩:=hgg;have hst:=h.st a xa sa e1 e2;have c2:=hst.cell.2.2.1;rw[e3]at hnd;rw[hnd]at c2;unfold MC at c2;have ca:=(h.st b xb sb f1 f2).cell.1;rw[e4]at q1;obtain⟨nn,_⟩:=hst.nd z hnd;have hin:(a:Int)<(m.S.length:Int):=by omega
 have hjn:(b:Int)<(m.S.length:Int):=by omega
 have Zz:=aG h.blk;have hgl:g'<w.heap.size:=World.block_lt_of_cell? _ _ p0;have hAl:=aG hst.blk;have hBl:=aG (h.st b xb sb f1 f2).blk;have hgI:oZ y m g':=.inr (.inl (by rw[e4];rfl));have hnF:∀k,k=y.G∨k=g'∨k=xa.B∨k=xb.B->¬Ft xa.N xa.g z k:=by
  intro k hk hF;obtain⟨o,ho,hK⟩:=nn.kind hF;rcases hk with rfl|rfl|rfl|rfl
  ·rw[h.blk]at ho;cases ho;exact hK.not (by decide)
  ·obtain⟨cc,hc⟩:=aR h.zF (k:=k) (by rw[e4];rfl);rw[hc]at ho;cases ho;exact hK.not (by decide)
  ·rw[hst.blk]at ho;cases ho;exact hK.not (by decide)
  ·rw[(h.st b xb sb f1 f2).blk]at ho;cases ho;exact hK.not (by decide)
 rw[f3]at HC;have hS0:uD y.G g' a b xa.B xb.B xa.N w.heap.size m.now sb.addr (.slice (some ⟨g',0,none⟩) m.S.length c') w:=⟨⟨q0,q1,p0,c2,p1,ca⟩,Zz,hgl,hAl,hBl,aD _⟩;have HC2:Hid (∀W5,Below w.heap.size w W5->Calls Tryz.prog 21 #[.pointer (some ⟨xa.N,0,none⟩),.int .u64 m.now,.int .u32 sb.addr,.string t] W5 λe w2=>∃af kf ac kc ad kd,e=.returned (.tuple #[.agg #[.string j,.bool bC,.slice af aL.length kf,.slice ac aY.length kc,.slice ad aT.length kd],.int .i64 r])∧uD y.G g' a b xa.B xb.B xa.N w.heap.size m.now sb.addr (.slice (some ⟨g',0,none⟩) m.S.length c') w2∧(∀j r f c d,qc w.heap.size j r f c d W5->qc w.heap.size j r f c d w2)∧Hid (xH p y m m' w aL aY aT (.slice af aL.length kf) (.slice ac aY.length kc) (.slice ad aT.length kd) w2)):=by
  intro W5 hb5;refine(HC xa sa e1 e2 W5 hb5).mono ?_;rintro e w2 ⟨af,kf,ac,kc,ad,kd,rfl,hfx,hR⟩;have hz5:=hb5.size;refine⟨af,kf,ac,kc,ad,kd,rfl,(hS0.low hb5).keep (dH hz5 hfx.size) λk hk=>hfx.block k ?_ (hnF k hk),λj r f c d hO=>(hfx.block _ (aG hO) λhF=> ?_).trans hO,hR⟩
  ·rcases hk with rfl|rfl|rfl|rfl<;>omega
  ·have:=nn.lt hF;omega
 have hS:uD y.G g' a b xa.B xb.B xa.N w.heap.size m.now sb.addr (.slice (some ⟨g',0,none⟩) m.S.length c') w.drew:=hS0.drew;replace HD:=hide HD;replace HE:=hide HE;clear HC hnF hgI Zz hgl hAl hBl nn hst e1 e2 e3 e4 f1 f2 f3 f4 hS0 h q0 q1 p0 c2 p1 ca;obtain⟨N,Ue⟩:∃N,xa.N=N:=⟨_,rfl⟩;rw[Ue]at HC2 hS;clear Ue;go_enter Tryz.func30,Tryz.ntmps30;go_upto_region 1 with(fail);go_cut [9,10]from 12 to 39 (ab3 p y m m' w j bC aL aY aT r)
 case first=>
  clear HD HE hr hnd;go_region_held3 (uD y.G g' a b xa.B xb.B N w.heap.size m.now sb.addr (.slice (some ⟨g',0,none⟩) m.S.length c')) (first|with_reducible exact hS|with_reducible assumption|(with_reducible apply uD.eH;with_reducible exact hS)|(with_reducible apply uD.SH;assumption)|(with_reducible apply uD.kH;assumption)) ((go_at_call 21;refine(HC2.out _ (by first|with_reducible exact(aV _ _).drew|with_reducible exact(bq).drew)).mono ?_;rintro e w2 ⟨af,kf,ac,kc,ad,kd,rfl,hS2,hpr,hnr⟩;try ((with_reducible have hD:=hpr _ _ _ _ _ (L8 w));have hD':Hid (qc w.heap.size ⟨#[]⟩ false (.slice none 0 0) (.slice none 0 0) (.slice none 0 0) w2):=hD;obtain⟨d0,d1,d2,d3,d4,dq⟩:=hD'.out.cell;have q0:=dq 0;have q1:=dq 1;have q2:=dq 2;have q3:=dq 3;have q4:=dq 4;clear hD dq);clear hpr))
  all_goals
   go_wp2_with fail;go_meet;first|with_reducible exact NV hnr.out|with_reducible exact Wz hnr.out hD'
 case rest=>
  obtain⟨af,kf,ac,kc,ad,kd,D,rfl,rfl,hD,hR⟩:=hcut;clear HC2 hS;obtain⟨d0,d1,d2,d3,d4,_⟩:=hD.cell;have hp:=hide hR.p;rcases hr with rfl|hr
  ·have VR:=hide (HD.out rfl _ _ _ _ hR);clear HD HE hD hR hnd;go_wp2_with(go_at_call 36;refine VR.out.mono ?_;rintro e w3 ⟨v2,L2,rfl,hL2,nH,aa4⟩;replace hL2:=hide hL2;replace nH:=hide nH;replace aa4:=hide aa4);go_ret;exact⟨⟨_,_,rfl,hL2.out,nH.out,aa4.out⟩,hp.out⟩
  ·have hr0:r≠0:=by omega
   have hrb:(r==0)=false:=by simpa using hr0
   obtain⟨rfl,rfl⟩:=HE.out hr0;have hev:=EY (b:=w.heap.size) (W:=wc) (x:=(⟨a,r,Ot.none⟩,⟨.slice none 0 0,.slice none 0 0,.slice none 0 0⟩)) hR.mp.size ⟨⟨rfl,.inl ⟨rfl,rfl⟩⟩,⟨rfl,.inl ⟨rfl,rfl⟩⟩,⟨rfl,.inl ⟨rfl,rfl⟩⟩⟩;have hb5:Below wc.heap.size wc (wc.alloc (.cells (AQ (⟨a,r,Ot.none⟩,⟨.slice none 0 0,.slice none 0 0,.slice none 0 0⟩)).toArray 54)):=bq;have hfin:jD y m md [⟨a,r,Ot.none⟩] w.heap.size w (.returned (.slice (some ⟨wc.heap.size,0,none⟩) 1 1)) (wc.alloc (.cells (AQ (⟨a,r,Ot.none⟩,⟨.slice none 0 0,.slice none 0 0,.slice none 0 0⟩)).toArray 54)):=⟨_,_,rfl,rfl,hev,hR.mp.post hb5⟩;have nH:(AQ (⟨a,r,Ot.none⟩,⟨.slice none 0 0,.slice none 0 0,.slice none 0 0⟩)).toArray=#[.int .i64 a,.int .i64 r,.string ⟨#[]⟩,.bool false,.slice none 0 0,.slice none 0 0,.slice none 0 0]:=rfl;rw[nH]at hfin;clear hev hb5 nH HD HE hR hD hnd hr;go_wp2;go_ret;exact⟨hfin,hp.out⟩
theorem nJ.same{x:SG}{s:bJ}{z:St}(h:mZ x s w)(hz:s.nd=some z)(nn:Nn x.N x.g z x.TL w')(fx:Fx (Ft x.N x.g z) w w'):nJ x s s w w':=by
 obtain⟨n0,_⟩:=h.nd z hz;have hB:¬Ft x.N x.g z x.B:=λhk=>by
  obtain⟨o,ho,hK⟩:=n0.kind hk;rw[h.blk]at ho;cases ho;exact hK.not (by decide)
 have hJ:∀k,x.jv.ownBlock=some k->¬Ft x.N x.g z k:=λk hk hf=>by
  obtain⟨o,ho,hK⟩:=n0.kind hf;obtain⟨cc,hc⟩:=aR h.row hk;rw[hc]at ho;cases ho;exact hK.not (by decide)
 refine⟨x,rfl,⟨(fx.block _ (aG h.blk) hB).trans h.blk,h.hl,bK h.row λk hk=>fx.block k (h.row.lt k hk).2 (hJ k hk),λu hu=> ?_⟩,fx.mono λk hk=> .inr (.inr ⟨z,hz,hk⟩),λk hk=> .inl hk⟩;cases hz.symm.trans hu;exact⟨nn,(h.nd z hz).2⟩
theorem aco(h:MM y m w){κ:Int}{q:Nat}(hok:iT κ q m)(Hu:0<=κ∧κ<=90000000000)(hq:q<=4999)(a b:Nat)(ha:a<m.S.length)(hb:b<m.S.length)(t:ByteArray)(hr:m.runs a=true):
  Calls Tryz.prog 30 #[.pointer (some ⟨y.G,0,none⟩),.int .i64 a,.int .i64 b,.string t] w λe w'=>jD y m (m.send a b t).1 (m.send a b t).2 w.heap.size w e w'∧iT (κ+200000) (q+1) (m.send a b t).1:=by
 obtain⟨xa,sa,g,c,e1,e2,e3,e4,p0⟩:=h.get ha;obtain⟨xb,sb,g',c',f1,f2,f3,f4,p1⟩:=h.get hb;obtain⟨z,hz⟩:∃z,sa.nd=some z:=by
  unfold aS.runs at hr;rw[iU,e3]at hr;exact Option.isSome_iff_exists.1 (Bool.and_eq_true_iff.1 hr).2
 have hnd:(m.at' a).nd=some z:=by rw[e3];exact hz
 have hnk:=(hok.at e2).nd z hz;have hml:=(hok.at f2).addr;have HNo:∀r,((16<t.size∧r=6)∨(t.size<=16∧((m.at' b).addr=z.me∨(m.at' b).addr=0)∧r=2))->∀x s,y.L[a]?=some x->m.S[a]?=some s->∀W5,Below w.heap.size w W5->Calls Tryz.prog 21 #[.pointer (some ⟨x.N,0,none⟩),.int .u64 m.now,.int .u32 (m.at' b).addr,.string t] W5 λe w2=>∃af kf ac kc ad kd,e=.returned (.tuple #[.agg #[.string ⟨#[]⟩,.bool false,.slice af ([]:List (Int×ByteArray)).length kf,.slice ac ([]:List (Int×ByteArray)).length kc,.slice ad ([]:List Int).length kd],.int .i64 r])∧Fx (Ft x.N x.g z) W5 w2∧xH True y m m w [] [] [] (.slice af ([]:List (Int×ByteArray)).length kf) (.slice ac ([]:List (Int×ByteArray)).length kc) (.slice ad ([]:List Int).length kd) w2:=by
  intro r hc x s g1 g2 W5 hb5;cases e1.symm.trans g1;cases e2.symm.trans g2;have h5:=h.later hb5;have hst:=h5.st a xa sa e1 e2;obtain⟨nn,_⟩:=hst.nd z hz;refine(Vg nn hnk.inv.lk m.now (m.at' b).addr t r hc).mono ?_;rintro e w2 ⟨rfl,n2,fx⟩;have hp:=h5.Z8 e1 e2 (nJ.same hst hz n2 fx);have hpe:m.put a sa=m:=by
   unfold aS.put;rw[show m.S.set a sa=m.S from by
    rw[<-(eB.1 e2).2];exact List.set_getElem_self _]
  rw[hpe]at hp;exact⟨none,0,none,0,none,0,rfl,fx,hp.pre hb5,⟨⟨rfl,.inl ⟨rfl,rfl⟩⟩,⟨rfl,.inl ⟨rfl,rfl⟩⟩,⟨rfl,.inl ⟨rfl,rfl⟩⟩⟩,trivial⟩
 by_cases h16:16<t.size
 ·have ho:m.send a b t=(m,[⟨a,6,Ot.none⟩]):=by
   unfold aS.send;rw[hnd];dsimp only;rw[aQ h16]
  rw[ho];refine(wG h a b ha hb t 6 (.inr (.inl rfl)) ⟨#[]⟩ false [] [] [] hnd (HNo 6 (.inl ⟨h16,rfl⟩)) (λe=>absurd e (by decide)) (λ_=>⟨rfl,rfl⟩)).mono ?_;intro e w2 hp;exact⟨hp.1,hok.up (by omega) (Nat.le_succ _)⟩
 ·by_cases hd:(m.at' b).addr=z.me∨(m.at' b).addr=0
  ·have ho:m.send a b t=(m,[⟨a,2,Ot.none⟩]):=by
    unfold aS.send;rw[hnd];dsimp only;rw[aM h16,aQ hd]
   rw[ho];refine(wG h a b ha hb t 2 (.inr (.inr rfl)) ⟨#[]⟩ false [] [] [] hnd (HNo 2 (.inr ⟨by omega,hd,rfl⟩)) (λe=>absurd e (by decide)) (λ_=>⟨rfl,rfl⟩)).mono ?_;intro e w2 hp;exact⟨hp.1,hok.up (by omega) (Nat.le_succ _)⟩
  ·obtain⟨zs,hzs⟩:∃zs,z.snd m.now (m.at' b).addr t=zs:=⟨_,rfl⟩;have ho:m.send a b t=(m.put a {sa with nd:=some zs}).did a zs.ot:=by
    unfold aS.send;rw[hnd];dsimp only;rw[aM h16,aM hd,hzs,Be e2]
   have hdd:∀W5,Below w.heap.size w W5->∀o w2,BH xa.N xa.g z zs W5 o w2->zs.Inv (κ+1)->∃aK bP bQ y2,o=iY zs.bn zs.bC aK bP bQ∧iG W5.heap.size zs.aL zs.aY zs.aT aK bP bQ w2∧MM y2 (m.put a {sa with nd:=some zs}) w2∧MU y m y2 (m.put a {sa with nd:=some zs}) W5 w2∧Cq (κ+1) (q+1) (m.put a {sa with nd:=some zs}) a zs:=by
    intro W5 hb5 o w2 hcp hI2;obtain⟨k5,s',hp1,hp2⟩:=LJ z m.now (m.at' b).addr t;have hrest:=zX hp1;have hcnt:=vQ hp1;rw[<-hp2,hzs]at hrest hcnt;exact Fg (h.later hb5) hok e1 e2 hz hcp hI2 (by rw[<-hzs];exact Xb hnk.pos hnk.inv.tl.1 _ _ _) hrest.1 hrest.2 (Nat.le_succ q) (by rw[<-hzs];exact dH (aae _ _ _ _) (Nat.succ_le_succ hnk.ql)) hcnt
   rw[ho];obtain⟨m',hm'⟩:∃m',m.put a {sa with nd:=some zs}=m':=⟨_,rfl⟩;rw[hm']at hdd ⊢;refine(wG (p:=Cq (κ+1) (q+1) m' a zs) (m':=m') (md:=(m'.did a zs.ot).1) (evs:=(m'.did a zs.ot).2) h a b ha hb t 0 (.inl rfl) zs.bn zs.bC zs.aL zs.aY zs.aT hnd ?_ ?_ (λe=>absurd rfl e)).mono ?_
   ·intro x s g1 g2 W5 hb5;cases e1.symm.trans g1;cases e2.symm.trans g2;obtain⟨nn,tm⟩:=((h.later hb5).st a xa sa e1 e2).nd z hz;refine(ack nn hnk.inv (by omega) tm m.now (m.at' b).addr t ⟨hnk.nw,hok.now.2⟩ (by rw[f3];exact hml) (by omega) (λe=>hd (.inl e)) (λe=>hd (.inr e)) (dH hnk.ql hq)).mono ?_;rintro e w2 ⟨o,rfl,hI2,hcp⟩;rw[hzs]at hI2 hcp;have hfx:Fx (Ft xa.N xa.g z) W5 w2:=by
     obtain⟨_,_,_,_,_,_,_,_,_,_,_,fx,_⟩:=hcp;exact fx
    obtain⟨aK,bP,bQ,y2,rfl,hor,hm2,hu2,hdk⟩:=hdd W5 hb5 o w2 hcp hI2.out;obtain⟨af,kf,rfl,_⟩:=ak hor.aK;obtain⟨ac,kc,rfl,_⟩:=ak hor.bP;obtain⟨ad,kd,rfl,_⟩:=ak hor.bQ;exact⟨af,kf,ac,kc,ad,kd,rfl,hfx,⟨y2,hm2,hu2.pre hb5⟩,hor.lower hb5.size,hdk⟩
   ·intro _ aK bP bQ W hR;obtain⟨⟨y2,hm2,hu2⟩,hor,hdk⟩:=hR;have hd2:=Fz hm2 hdk aK bP bQ w.heap.size hor hu2.fx.size;rw[hu2.G]at hd2;refine hd2.mono ?_;rintro e w3 ⟨v2,L2,rfl,hL2,nH,y3,oL,hu3⟩;exact⟨v2,L2,rfl,hL2,nH,y3,oL,hu2.trans hu3⟩
   ·rintro e w2 ⟨hp,hdk⟩;exact⟨hp,(E9 hdk).up (by omega) (aD _)⟩
open Go
section
variable {P:Program} {ops:Array Oper} {Q:Exit->Act->World->Prop} {md:Region.Mode} {S:World->Prop} {U:List Nat}
def jS(P:Program)(md:Region.Mode)(ops:Array Oper)(Q:Exit->Act->World->Prop)(S:World->Prop)(U:List Nat):Nat->Array Bool->Act->World->Prop
 |0,listed,a,w=>Region.ready md ops listed=[]∧Q .normal a w
 |fuel+1,listed,a,w=>
  (Region.ready md ops listed=[]->Q .normal a w)∧
  ∀i∈Region.ready md ops listed,wpOp P ops Q i (λa' w'=>(i ∉ U->S w')∧jS P md ops Q S U fuel (listed.setIfInBounds i true) a' w') a w
theorem sG:∀(fuel:Nat) (listed:Array Bool) (a:Act) (w:World),jS P md ops Q S U fuel listed a w->wpAny P md ops Q fuel listed a w
 |0,_,_,_,h=>h
 |fuel+1,_,_,_,h=>⟨h.1,λ_ hi=>wpOp_mono (λa' w' h'=>sG fuel _ a' w' h'.2) (h.2 _ hi)⟩
def Late(md:Region.Mode)(ops:Array Oper)(listed:Array Bool)(i:Nat)(V:List Nat):Prop:=
 ∀u∈V,listed.getD u true=false∧∃o,ops[u]?=some o∧∃e∈o.after,Region.binds md e=true∧(e.on=i∨e.on∈V)
theorem o8{listed:Array Bool}{k:Nat}(h0:listed.getD k true=false)(h1:listed.getD k false=true):False:=by
 rcases Nat.lt_or_ge k listed.size with h'|h'
 ·simp[h']at h0 h1;rw[h0]at h1;cases h1
 ·simp[Array.getElem?_eq_none h']at h1
theorem Late.not{listed:Array Bool}{i:Nat}{V:List Nat}(h:Late md ops listed i V)(hi:i∈Region.ready md ops listed){j:Nat}(hj:j∈Region.ready md ops listed):j ∉ V:=λhv=>by
 obtain⟨_,o,ho,e,he,hb,hon⟩:=h j hv;obtain⟨_,o',ho',hall⟩:=mem_ready.1 hj;rw[ho]at ho';cases ho';have h1:=hall e he hb;rcases hon with hon|hon
 ·rw[hon]at h1;exact o8 (mem_ready.1 hi).1 h1
 ·exact o8 (h _ hon).1 h1
theorem DC{i:Nat}{oi:Oper}{v:Value}(hi:ops[i]?=some oi)(hsel:∀(j:Nat) (o:Oper) cs b,ops[j]?=some o->o.op≠ .select cs b)
  (hQ:∀c a w,Q (.panic c) (a.put oi.dst v) w->Q (.panic c) a w) {V:List Nat} (hUV:∀u∈U,u∈V):
  ∀(fuel:Nat) (listed:Array Bool) (a:Act) (w:World),
   (∀j oj,ops[j]?=some oj->j≠i->listed.getD j true=false->(∀e∈oj.after,Region.binds md e=true->e.on≠i)->oi.apart ops oj=true)->
   Late md ops listed i V->i∈Region.ready md ops listed->YieldsIf P ops S oi v a->S w->
   jS P md ops Q S U fuel (listed.setIfInBounds i true) (a.put oi.dst v) w->jS P md ops Q S U (fuel+1) listed a w:=by
 intro fuel
 induction fuel with
 |zero=>
  intro listed a w _ _ hr hy hS H;refine⟨λh=>(by rw[h]at hr;cases hr),λj hj=> ?_⟩;by_cases hji:j=i
  ·subst hji;exact hy.wpOp hi hS ⟨λ_=>hS,H⟩
  ·have:=ready_mono hj hji;rw[H.1]at this;cases this
 |succ fuel ih=>
  intro listed a w hfree hV hr hy hS H;refine⟨λh=>(by rw[h]at hr;cases hr),λj hj=> ?_⟩;by_cases hji:j=i
  ·subst hji;exact hy.wpOp hi hS ⟨λ_=>hS,H⟩
  ·have h1:=H.2 j (ready_mono hj hji);have hjV:=hV.not hr hj;obtain⟨hjun,oj,hoj,hall⟩:=mem_ready.1 hj;have hnot:∀e∈oj.after,Region.binds md e=true->e.on≠i:=λe he hb heq=>by
    have h1:=hall e he hb;rw[heq]at h1;exact o8 (mem_ready.1 hr).1 h1
   have h2:=wpOp_putIf hoj (hfree j oj hoj hji hjun hnot) (λcs b=>hsel i oi cs b hi) (λcs b=>hsel j oj cs b hoj) hQ hy h1;have hfree':∀k ok,ops[k]?=some ok->k≠i->(listed.setIfInBounds j true).getD k true=false->
     (∀e∈ok.after,Region.binds md e=true->e.on≠i)->oi.apart ops ok=true:=λk ok hk hki hun hno=>by
    refine hfree k ok hk hki ?_ hno;by_cases hjk:j=k
    ·subst hjk;exact hjun
    ·rw[getD_set_ne true hjk]at hun;exact hun
   have hV':Late md ops (listed.setIfInBounds j true) i V:=λu hu=>by
    obtain⟨h5,h6⟩:=hV u hu;have hne:j≠u:=λe=>hjV (by rw[e];exact hu);refine⟨?_,h6⟩;rw[getD_set_ne true hne];exact h5
   refine wpOp_mono (λa' w' h3=> ?_) h2;have hS3:=h3.2.1 (λhu=>hjV (hUV j hu));refine⟨λ_=>hS3,ih (listed.setIfInBounds j true) a' w' hfree' hV' (ready_mono hr (Ne.symm hji)) h3.1 hS3 ?_⟩;rw[Array.setIfInBounds_comm _ _ hji];exact h3.2.2
def Zj(md:Region.Mode)(ops:Array Oper)(listed:Array Bool)(i:Nat):List Nat:=
 (List.range ops.size).foldl (λacc u=>if !listed.getD u true&&(match ops[u]? with|some o=>o.after.any λe=>Region.binds md e&&(e.on==i||acc.contains e.on)|none=>false)then acc++ [u]else acc) []
def SB(md:Region.Mode)(ops:Array Oper)(listed:Array Bool)(i:Nat)(U V:List Nat):Bool:=
 U.all (λu=>V.contains u)&&V.all λu=>!listed.getD u true&&(match ops[u]? with|some o=>o.after.any λe=>Region.binds md e&&(e.on==i||V.contains e.on)|none=>false)
theorem MK{listed:Array Bool}{i:Nat}{V:List Nat}(h:SB md ops listed i U V=true):(∀u∈U,u∈V)∧Late md ops listed i V:=by
 obtain⟨h1,h2⟩:=Bool.and_eq_true_iff.1 h;refine⟨λu hu=>by simpa using List.all_eq_true.1 h1 u hu,λu hu=> ?_⟩;obtain⟨h3,h4⟩:=Bool.and_eq_true_iff.1 (List.all_eq_true.1 h2 u hu);refine⟨by simpa using h3,?_⟩;cases ho:ops[u]? with
 |none=>
  rw[ho]at h4;cases h4
 |some o=>
  rw[ho]at h4;dsimp only at h4;obtain⟨e,he,hb⟩:=Array.any_eq_true'.1 h4;obtain⟨hb1,hb2⟩:=Bool.and_eq_true_iff.1 hb;exact⟨o,rfl,e,he,hb1,by simpa using hb2⟩
theorem FV{i:Nat}{oi:Oper}{v:Value}{fuel:Nat}{listed:Array Bool}{a:Act}{w:World}(hi:ops[i]?=some oi)
  (hs:Region.noSelect ops=true) (hf:Region.free md ops listed i=true) (hr:(Region.ready md ops listed).contains i=true) (hl:SB md ops listed i U (Zj md ops listed i)=true)
  (hQ:∀c a w,Q (.panic c) (a.put oi.dst v) w->Q (.panic c) a w) (hy:YieldsIf P ops S oi v a) (hS:S w)
  (h:jS P md ops Q S U fuel (listed.setIfInBounds i true) (a.put oi.dst v) w):jS P md ops Q S U (fuel+1) listed a w:=
 DC hi (Region.noSelect_spec hs) hQ (MK hl).1 fuel listed a w (Region.free_spec hi hf) (MK hl).2 (by simpa using hr) hy hS h
theorem aN{i:Nat}{oi:Oper}{v:Value}{fuel:Nat}{listed:Array Bool}{a:Act}{w:World}(hi:ops[i]?=some oi)
  (hB:(Region.noSelect ops&&Region.free md ops listed i&&(Region.ready md ops listed).contains i&&SB md ops listed i U (Zj md ops listed i))=true)
  (hQ:∀c a w,Q (.panic c) (a.put oi.dst v) w->Q (.panic c) a w) (hy:YieldsIf P ops S oi v a) (hS:S w)
  (h:jS P md ops Q S U fuel (listed.setIfInBounds i true) (a.put oi.dst v) w):jS P md ops Q S U (fuel+1) listed a w:=by
 simp only[fF]at hB;exact FV hi hB.1.1.1 hB.1.1.2 hB.1.2 hB.2 hQ hy hS h
theorem cK{i:Nat}{o:Oper}{fuel:Nat}{listed:Array Bool}{a:Act}{w:World}(hr:Region.ready md ops listed=[i])(ho:ops[i]?=some o)
  (h:∀K':Act->World->Prop,Shut (∀a w,(i ∉ U->S w)->jS P md ops Q S U fuel (listed.setIfInBounds i true) a w->K' a w)->if Region.wanted o (yielded ops a.tmps)=true then Oper.wp P o a w K' Q else K' (a.put o.dst undef) w):jS P md ops Q S U (fuel+1) listed a w:=by
 refine⟨λh0=>absurd (hr▸h0) (by simp),λj hj=> ?_⟩;rw[hr,eZ]at hj;subst hj;exact wpOp_step ho (λK' hK=>h K' (λa w hS hW=>hK a w ⟨hS,hW⟩))
theorem jZ{listed:Array Bool}{a:Act}{w:World}(hr:Region.ready md ops listed=[])(h:Q .normal a w):∀fuel,jS P md ops Q S U fuel listed a w
 |0=>⟨hr,h⟩
 |_+1=>⟨λ_=>h,by rw[hr];simp⟩
theorem kz{id:Nat}{a:Act}{w:World}(S:World->Prop)(U:List Nat)(hm:P.follows .mixedOrders=true)(hS:S w.drew)
  (h:S w.drew->jS P .any ops Q S U ops.size (Array.replicate ops.size false) a w.drew):(Code.region id ops true).wp P Q a w:=
 wp_region_any hm (sG _ _ _ _ (h hS))
end
open Go.RowKit Go.Maps
theorem Vk{y:MG}{m:aS}{w:World}(h:MM y m w){κ:Int}{q:Nat}(hok:iT κ q m)(Hu:0<=κ∧κ<=90000000000)(i j:Nat)(hi:i<m.S.length)(hj:j<m.S.length)(b:ByteArray)(hb:b.size<=65536):
  Calls Tryz.prog 33 #[.pointer (some ⟨y.G,0,none⟩),.int .i64 i,.int .i64 j,.string b] w λe w'=>jD y m (m.hear i j b).1 (m.hear i j b).2 w.heap.size w e w'∧iT (κ+200000) q (m.hear i j b).1:=by
 obtain⟨xi,si,g,c,e1,e2,e3,e4,p0⟩:=h.get hi;obtain⟨xj,sj,g',c',f1,f2,f3,f4,p1⟩:=h.get hj;obtain⟨q0,q1,_,_⟩:=h.cell;have hst:=h.st i xi si e1 e2;have c2:=hst.cell.2.2.1;have ca:=(h.st j xj sj f1 f2).cell.1;have hin:(i:Int)<(m.S.length:Int):=by omega
 have hjn:(j:Int)<(m.S.length:Int):=by omega
 have hgg:g'=g:=by
  rw[f4]at e4;injection e4 with h5 _ _;injection h5 with h5;injection h5 with h5 _ _
 subst hgg;rw[e4]at q1;cases hnd:si.nd with
 |none=>
  rw[hnd]at c2;unfold MC at c2;have ho:m.hear i j b=(m,[]):=by
   unfold aS.hear;rw[e3,hnd]
  have hfin:jD y m (m.hear i j b).1 (m.hear i j b).2 w.heap.size w (.returned (.slice none 0 0)) w∧iT (κ+200000) q (m.hear i j b).1:=by
   rw[ho];exact⟨⟨_,[],rfl,rfl,gY.nil _ _,MP.refl h⟩,hok.up (by omega) (aD _)⟩
  replace hfin:=hide hfin;clear h hst ho e1 e2 e3 e4 f1 f2 f3 f4 q0 ca p1 hok;go_enter Tryz.func33,Tryz.ntmps33;go_wp2;go_ret;exact hfin.out
 |some z=>
  rw[hnd]at c2;unfold MC at c2;have hnk:=(hok.at e2).nd z hnd;have hd1:Below w.heap.size w w.drew:=(aV _ _).drew;obtain⟨cap,W8,hcv,l7,iN⟩:=UB b hb w.drew;have O_:Below w.heap.size w W8:=hd1.trans (l7.mono hd1.size);have h8:=h.later O_;obtain⟨nn,tm⟩:=(h8.st i xi si e1 e2).nd z hnd;have hsr:=nn.NU;obtain⟨nn0,_⟩:=hst.nd z hnd;have Zz:=aG h.blk;have hgl:g'<w.heap.size:=World.block_lt_of_cell? _ _ p0;have hAl:=aG hst.blk;have hBl:=aG (h.st j xj sj f1 f2).blk;have hnF:∀k,k=y.G∨k=g'∨k=xi.B∨k=xj.B->¬Ft xi.N xi.g z k:=by
   intro k hk hF;obtain⟨o,ho,hK⟩:=nn0.kind hF;rcases hk with rfl|rfl|rfl|rfl
   ·rw[h.blk]at ho;cases ho;exact hK.not (by decide)
   ·obtain⟨cc,hc⟩:=aR h.zF (k:=k) (by rw[e4];rfl);rw[hc]at ho;cases ho;exact hK.not (by decide)
   ·rw[hst.blk]at ho;cases ho;exact hK.not (by decide)
   ·rw[(h.st j xj sj f1 f2).blk]at ho;cases ho;exact hK.not (by decide)
  have hS0:uD y.G g' i j xi.B xj.B xi.N w.heap.size m.now sj.addr (.slice (some ⟨g',0,none⟩) m.S.length c) w:=⟨⟨q0,q1,p0,c2,p1,ca⟩,Zz,hgl,hAl,hBl,aD _⟩;have Zm:=iN.1.1;have HR:=Qf nn hnk.inv (by omega) tm m.now sj.addr ⟨hnk.nw,hok.now.2⟩ (hok.at f2).addr _ (aI b) iN;have HR2:Hid (Calls Tryz.prog 25 #[.pointer (some ⟨xi.N,0,none⟩),.int .u64 m.now,.int .u32 sj.addr,.slice (some ⟨w.heap.size,0,none⟩) b.size cap] W8 λe w2=>∃aK bP bQ y2,uD y.G g' i j xi.B xj.B xi.N w.heap.size m.now sj.addr (.slice (some ⟨g',0,none⟩) m.S.length c) w2∧e=.returned (iY (z.rcv m.now sj.addr (aI b)).bn (z.rcv m.now sj.addr (aI b)).bC aK bP bQ)∧iG w.heap.size (z.rcv m.now sj.addr (aI b)).aL (z.rcv m.now sj.addr (aI b)).aY (z.rcv m.now sj.addr (aI b)).aT aK bP bQ w2∧w.heap.size<=w2.heap.size∧MM y2 (m.put i {si with nd:=some (z.rcv m.now sj.addr (aI b))}) w2∧MU y m y2 (m.put i {si with nd:=some (z.rcv m.now sj.addr (aI b))}) w w2∧Cq (κ+1) q (m.put i {si with nd:=some (z.rcv m.now sj.addr (aI b))}) i (z.rcv m.now sj.addr (aI b))):=by
   refine HR.mono ?_;rintro e w2 ⟨o,rfl,hI2,hcp⟩;have hfx:Fx (Ft xi.N xi.g z) W8 w2:=by
    obtain⟨_,_,_,_,_,_,_,_,_,_,_,fx,_⟩:=hcp;exact fx
   obtain⟨nn2,s',hp1,hp2⟩:=LW z m.now sj.addr (aI b) (λq hq=>(hsr q hq).1);have hrest:=zX hp1;have hcnt:=vQ hp1;rw[<-hp2]at hrest hcnt;obtain⟨aK,bP,bQ,y2,rfl,hor,hm2,hu2,hdk⟩:=Fg h8 hok e1 e2 hnd hcp hI2.out (WX hnk.pos _ _ _ Zm (λq hq=>(hsr q hq).1)) hrest.1 hrest.2 (aD _) (dH (acH _ _ _ _) hnk.ql) hcnt;have hz1:=O_.size;have hS2:uD y.G g' i j xi.B xj.B xi.N w.heap.size m.now sj.addr (.slice (some ⟨g',0,none⟩) m.S.length c) w2:=(hS0.low O_).keep (dH hz1 hfx.size) λk hk=>hfx.block k (by rcases hk with rfl|rfl|rfl|rfl<;>omega) (hnF k hk);exact⟨aK,bP,bQ,y2,hS2,rfl,hor.lower hz1,by have:=hu2.fx.size;omega,hm2,hu2.pre O_,hdk⟩
  have ho:m.hear i j b=(m.put i {si with nd:=some (z.rcv m.now sj.addr (aI b))}).did i (z.rcv m.now sj.addr (aI b)).ot:=by
   unfold aS.hear;rw[e3,hnd,f3];dsimp only;rw[Be e2]
  rw[ho];have Az:=hS0.low O_;have hS:uD y.G g' i j xi.B xj.B xi.N w.heap.size m.now sj.addr (.slice (some ⟨g',0,none⟩) m.S.length c) w.drew:=hS0.drew;obtain⟨zr,hzr⟩:∃zr,z.rcv m.now sj.addr (aI b)=zr:=⟨_,rfl⟩;rw[hzr]at HR2 ⊢;obtain⟨m2,TF⟩:∃m2,m.put i {si with nd:=some zr}=m2:=⟨_,rfl⟩;rw[TF]at HR2 ⊢;obtain⟨N,Ue⟩:∃N,xi.N=N:=⟨_,rfl⟩;rw[Ue]at HR2 c2 hS Az;have hsz0:w.drew.heap.size=w.heap.size:=rfl;rw[hsz0]at hcv;clear hzr TF Ue HR iN Zm hsr nn tm h8 l7 hd1 hnk h hst e1 e2 e3 e4 f1 f2 f3 f4 hok ho O_ nn0 hnF hS0 Zz hgl hAl hBl hsz0;go_enter Tryz.func33,Tryz.ntmps33;go_upto_region 4 with(fail);clear q0 q1 p0 c2 p1 ca;refine kz (uD y.G g' i j xi.B xj.B N w.heap.size m.now sj.addr (.slice (some ⟨g',0,none⟩) m.S.length c)) [23,24] (by kernel_rfl) hS (λhHeld=> ?_);refine aN (i:=0) (v:=?hv0) rfl (by kernel_rfl) (λ_ _ _ h=>h) (Or.inl ⟨by rfl,?hy0⟩) hHeld ?hr0
  case hy0=>
   rintro w5 ⟨⟨q0,q1,p0,c2,p1,ca⟩,_⟩;go_simp;try with_reducible rfl
  try go_frame
  refine aN (i:=1) (v:=?hv1) rfl (by kernel_rfl) (λ_ _ _ h=>h) (Or.inl ⟨by rfl,?hy1⟩) hHeld ?hr1
  case hy1=>
   rintro w5 ⟨⟨q0,q1,p0,c2,p1,ca⟩,_⟩;go_simp;try with_reducible rfl
  try go_frame
  refine aN (i:=2) (v:=?hv2) rfl (by kernel_rfl) (λ_ _ _ h=>h) (Or.inl ⟨by rfl,?hy2⟩) hHeld ?hr2
  case hy2=>
   rintro w5 ⟨⟨q0,q1,p0,c2,p1,ca⟩,_⟩;go_simp;try with_reducible rfl
  try go_frame
  refine aN (i:=3) (v:=?hv3) rfl (by kernel_rfl) (λ_ _ _ h=>h) (Or.inl ⟨by rfl,?hy3⟩) hHeld ?hr3
  case hy3=>
   rintro w5 ⟨⟨q0,q1,p0,c2,p1,ca⟩,_⟩;go_simp;try with_reducible rfl
  try go_frame
  refine aN (i:=4) (v:=?hv4) rfl (by kernel_rfl) (λ_ _ _ h=>h) (Or.inl ⟨by rfl,?hy4⟩) hHeld ?hr4
  case hy4=>
   rintro w5 ⟨⟨q0,q1,p0,c2,p1,ca⟩,_⟩;go_simp;try with_reducible rfl
  try go_frame
  refine aN (i:=5) (v:=?hv5) rfl (by kernel_rfl) (λ_ _ _ h=>h) (Or.inl ⟨by rfl,?hy5⟩) hHeld ?nG
  case hy5=>
   rintro w5 ⟨⟨q0,q1,p0,c2,p1,ca⟩,_⟩;go_simp;try with_reducible rfl
  try go_frame
  refine aN (i:=6) (v:=?hv6) rfl (by kernel_rfl) (λ_ _ _ h=>h) (Or.inl ⟨by rfl,?hy6⟩) hHeld ?sM
  case hy6=>
   rintro w5 ⟨⟨q0,q1,p0,c2,p1,ca⟩,_⟩;go_simp;try with_reducible rfl
  try go_frame
  refine aN (i:=7) (v:=?hv7) rfl (by kernel_rfl) (λ_ _ _ h=>h) (Or.inl ⟨by rfl,?hy7⟩) hHeld ?y_
  case hy7=>
   rintro w5 ⟨⟨q0,q1,p0,c2,p1,ca⟩,_⟩;go_simp;try with_reducible rfl
  try go_frame
  refine aN (i:=8) (v:=?hv8) rfl (by kernel_rfl) (λ_ _ _ h=>h) (Or.inl ⟨by rfl,?hy8⟩) hHeld ?iN
  case hy8=>
   rintro w5 ⟨⟨q0,q1,p0,c2,p1,ca⟩,_⟩;go_simp;try with_reducible rfl
  try go_frame
  refine aN (i:=9) (v:=?hv9) rfl (by kernel_rfl) (λ_ _ _ h=>h) (Or.inl ⟨by rfl,?hy9⟩) hHeld ?nE
  case hy9=>
   rintro w5 ⟨⟨q0,q1,p0,c2,p1,ca⟩,_⟩;go_simp;try with_reducible rfl
  try go_frame
  refine aN (i:=10) (v:=?aeS) rfl (by kernel_rfl) (λ_ _ _ h=>h) (Or.inl ⟨by rfl,?aaK⟩) hHeld ?ae5
  case aaK=>
   rintro w5 ⟨⟨q0,q1,p0,c2,p1,ca⟩,_⟩;go_simp;try with_reducible rfl
  try go_frame
  refine aN (i:=11) (v:=?acT) rfl (by kernel_rfl) (λ_ _ _ h=>h) (Or.inl ⟨by rfl,?Tf⟩) hHeld ?ac7
  case Tf=>
   rintro w5 ⟨⟨q0,q1,p0,c2,p1,ca⟩,_⟩;go_simp;try with_reducible rfl
  try go_frame
  refine aN (i:=12) (v:=?acS) rfl (by kernel_rfl) (λ_ _ _ h=>h) (Or.inl ⟨by rfl,?Te⟩) hHeld ?ac5
  case Te=>
   rintro w5 ⟨⟨q0,q1,p0,c2,p1,ca⟩,_⟩;go_simp;try with_reducible rfl
  try go_frame
  refine aN (i:=13) (v:=?acR) rfl (by kernel_rfl) (λ_ _ _ h=>h) (Or.inl ⟨by rfl,?Td⟩) hHeld ?ac2
  case Td=>
   rintro w5 ⟨⟨q0,q1,p0,c2,p1,ca⟩,_⟩;go_simp;try with_reducible rfl
  try go_frame
  refine aN (i:=14) (v:=?aeR) rfl (by kernel_rfl) (λ_ _ _ h=>h) (Or.inl ⟨by rfl,?aaJ⟩) hHeld ?ae4
  case aaJ=>
   rintro w5 ⟨⟨q0,q1,p0,c2,p1,ca⟩,_⟩;go_simp;try with_reducible rfl
  try go_frame
  refine aN (i:=15) (v:=?agj) rfl (by kernel_rfl) (λ_ _ _ h=>h) (Or.inl ⟨by rfl,?aeL⟩) hHeld ?agu
  case aeL=>
   rintro w5 ⟨⟨q0,q1,p0,c2,p1,ca⟩,_⟩;go_simp;try with_reducible rfl
  try go_frame
  refine aN (i:=16) (v:=?agi) rfl (by kernel_rfl) (λ_ _ _ h=>h) (Or.inl ⟨by rfl,?aeK⟩) hHeld ?agt
  case aeK=>
   rintro w5 ⟨⟨q0,q1,p0,c2,p1,ca⟩,_⟩;go_simp;try with_reducible rfl
  try go_frame
  refine aN (i:=17) (v:=?agh) rfl (by kernel_rfl) (λ_ _ _ h=>h) (Or.inl ⟨by rfl,?aeJ⟩) hHeld ?ags
  case aeJ=>
   rintro w5 ⟨⟨q0,q1,p0,c2,p1,ca⟩,_⟩;go_simp;try with_reducible rfl
  try go_frame
  refine aN (i:=18) (v:=?aeQ) rfl (by kernel_rfl) (λ_ _ _ h=>h) (Or.inl ⟨by rfl,?aaI⟩) hHeld ?ae3
  case aaI=>
   rintro w5 ⟨⟨q0,q1,p0,c2,p1,ca⟩,_⟩;go_simp;try with_reducible rfl
  try go_frame
  refine aN (i:=19) (v:=?aeP) rfl (by kernel_rfl) (λ_ _ _ h=>h) (Or.inl ⟨by rfl,?aaH⟩) hHeld ?ae2
  case aaH=>
   rintro w5 ⟨⟨q0,q1,p0,c2,p1,ca⟩,_⟩;go_simp;try with_reducible rfl
  try go_frame
  refine aN (i:=20) (v:=?aeO) rfl (by kernel_rfl) (λ_ _ _ h=>h) (Or.inl ⟨by rfl,?aaG⟩) hHeld ?ae1
  case aaG=>
   rintro w5 ⟨⟨q0,q1,p0,c2,p1,ca⟩,_⟩;go_simp;try with_reducible rfl
  try go_frame
  refine cK (i:=21) (by kernel_rfl) rfl (λK hK=> ?_);go_simp;refine hK.out _ _ (λ_=>Az) ?_;clear hK K;refine cK (i:=22) (by kernel_rfl) rfl (λK2 hK2=> ?_);go_simp;go_at_call 25;refine HR2.out.mono ?_;rintro e w2 ⟨aK,bP,bQ,y2,hS2,rfl,hor,hsz,hm2,hu2,hdk⟩;have Vq:=Fz hm2 hdk aK bP bQ w.heap.size hor hsz;rw[hu2.G]at Vq;go_simp;refine hK2.out _ _ (λ_=>hS2) ?_;clear hK2 K2 HR2;refine cK (i:=23) (by kernel_rfl) rfl (λK3 hK3=> ?_);replace Vq:=hide Vq;replace hu2:=hide hu2;replace hdk:=hide hdk;clear hor hm2 hS2 hHeld hS Az;go_simp;go_at_call 36;refine Vq.out.mono ?_;rintro e w3 ⟨v,L,rfl,hL,hev,y3,oL,hu3⟩;have hfin:=hide (show jD y m (m2.did i zr.ot).1 (m2.did i zr.ot).2 w.heap.size w (.returned v) w3∧iT (κ+200000) q (m2.did i zr.ot).1 from⟨⟨v,L,rfl,hL,hev,y3,oL,hu2.out.trans hu3⟩,(E9 hdk.out).up (by omega) (aD _)⟩);clear hL hev oL hu3 Vq hu2 hdk;go_simp;refine hK3.out _ _ (λh=>(h (by decide)).elim) ?_;clear hK3 K3;refine cK (i:=24) (by kernel_rfl) rfl (λK4 hK4=> ?_);go_simp;refine hK4.out _ _ (λh=>(h (by decide)).elim) ?_;clear hK4 K4;refine jZ (by kernel_rfl) ?_ _;go_wp2;go_ret;exact hfin.out
end Go.Proofs.YtakaadcpaeiccabGreat
