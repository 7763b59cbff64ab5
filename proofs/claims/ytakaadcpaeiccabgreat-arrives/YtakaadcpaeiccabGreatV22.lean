import Derived.Test.YtakaadcpaeiccabGreatV21
set_option maxHeartbeats 8000000
set_option maxRecDepth 100000
namespace Go.Proofs.YtakaadcpaeiccabGreat
open Go.RowKit Go.Maps
variable{y:MG}{m:aM}{i:Nat}
theorem MM.Zl{W:World}(h:MM y m W)(t:Int):MM y {m with now:=t} (W.setCell ⟨y.G,0,none⟩ (.int .u64 t))∧MU y m y {m with now:=t} W (W.setCell ⟨y.G,0,none⟩ (.int .u64 t)):=by
 have hg:W.grownBy (W.setCell ⟨y.G,0,none⟩ (.int .u64 t)) (some y.G):=ah (aC _ (some y.G)) 0 _;refine⟨⟨?_,h.zJ.kept hg (.inr (aL h.zJ h.blk (λc e=>(by cases e)))),h.aT.kept hg (.inr (aL h.aT h.blk (λc e=>(by cases e)))),h.len,λi x s h1 h2=>(h.st i x s h1 h2).kept λk hk=>hg.block k ((h.st i x s h1 h2).lt hk) λe=>(h.own h1 h2 hk).1 (Option.some.inj e),h.ap⟩,Fx.grown hg λk e=>by cases e;exact .inl rfl,λk hk=> .inl hk,rfl,rfl,rfl,rfl⟩;simp[World.setCell,d_,h.blk]
def fB(m:aM)(k:Nat):aM×List Ev:=(List.range k).foldl aM.kz (m,[])
theorem zF(m:aM)(k:Nat):fB m (k+1)=aM.kz (fB m k) k:=by
 unfold fB;rw[List.range_succ,List.foldl_append];rfl
theorem Jo{z:aM×List Ev}(h:(z.1.at' i).nd=none):aM.kz z i=z:=by
 unfold aM.kz;rw[h]
theorem Jm{z:aM×List Ev}{s:St}(h:(z.1.at' i).nd=some s):aM.kz z i=((z.1.act i (s.iW z.1.now)).1,z.2++(z.1.act i (s.iW z.1.now)).2):=by
 unfold aM.kz;rw[h]
theorem Io(φ:aM->Int×ByteArray->aM×List Ev)(hφ:∀m f,(φ m f).1.now=m.now)(m:aM)(i:Nat)(o:Ot):(m.jH φ i o).1.now=m.now:=by
 have hg:∀(L:List (Int×ByteArray)) (z:aM×List Ev),(L.foldl (uD φ) z).1.now=z.1.now:=by
  intro L
  induction L with
  |nil=>intro z;rfl
  |cons f L ih=>
   intro z;rw[gZ,ih];exact hφ z.1 f
 unfold aM.jH;split
 ·rfl
 ·split
  ·exact hg _ _
  ·rfl
theorem Q8(i:Nat)(m:aM)(f:Int×ByteArray):(m.nW i f).1.now=m.now:=(iQ m i f).2
theorem Q6(i:Nat)(m:aM)(f:Int×ByteArray):(m.iX i f).1.now=m.now:=by
 unfold aM.iX;split
 ·exact(iQ m i f).2
 ·split
  ·exact(iQ m i f).2
  ·unfold aM.Ch;rw[Io _ (Q8 i)];exact(iQ m i f).2
theorem MX(m:aM)(i:Nat)(z:St):(m.act i z).1.now=m.now∧(m.act i z).1.S.length=m.S.length:=by
 refine⟨Io _ (Q6 i) _ i _,?_⟩;show(aM.jH (aM.iX i) (m.put i _) i _).1.S.length=_;rw[TP _ (Q7 i),(fJ _ _ _).1,List.length_set]
theorem TN(φ:aM->Int×ByteArray->aM×List Ev)(hφ:∀m f,(φ m f).2.length<=1)(m:aM)(i:Nat)(o:Ot):(m.jH φ i o).2.length<=1+o.aF.length:=by
 cases hi:o.idle
 ·cases hw:((m.at' i).write o).2
  ·unfold aM.jH;rw[ay (by simp[hi]),ay (by simp[hw])];simp
  ·rw[vU φ m i o hi hw];exact AY hφ m i o _ (aB _)
 ·unfold aM.jH;rw[aI hi];simp
theorem abr{w:World}(h:MM y m w){κ:Int}{q:Nat}(hok:ja κ q m)(Hf:0<=κ∧κ<=90000000000)(_:q<=4990)(n:Int)(di:m.now+60000<=4611686018427387904):
  Calls Tryz.prog 31 #[.pointer (some ⟨y.G,0,none⟩),.int .i64 n] w λe w'=>jK y m (m.tick n).1 (m.tick n).2 w.heap.size w e w'∧ja (κ+1000000) q (m.tick n).1:=by
 by_cases hn:n<1∨n>60000
 ·have ho:m.tick n=(m,[]):=by
   unfold aM.tick;rw[aI hn]
  have hfin:jK y m (m.tick n).1 (m.tick n).2 w.heap.size w (.returned (.slice none 0 0)) w∧ja (κ+1000000) q (m.tick n).1:=by
   rw[ho];exact⟨⟨_,[],rfl,rfl,gL.nil _ _,MP.refl h⟩,hok.up (by omega) (aB _)⟩
  replace hfin:=hide hfin;clear h ho hok;by_cases h1:n<1
  ·go_enter Tryz.func31,Tryz.ntmps31;go_wp2;go_ret;exact hfin.out
  ·have h2:60000<n:=by omega
   go_enter Tryz.func31,Tryz.ntmps31;go_wp2;go_ret;exact hfin.out
 ·have hn1:¬n<1:=λh=>hn (.inl h);have hn2:¬60000<n:=λh=>hn (.inr h);have ho:m.tick n=fB {m with now:=m.now+n} m.S.length:=by
   unfold aM.tick;rw[ay hn];rfl
  obtain⟨hs1,hu1⟩:=h.Zl (m.now+n);have hok1:ja κ q {m with now:=m.now+n}:=⟨hok.n,hok.aT,by have:=hok.now;dsimp only;omega,λs hs=>(hok.st s hs).up (gP _) (aB _) (by dsimp only;omega)⟩;obtain⟨c0,c1,_,fz⟩:=h.cell;have f0:=fz 0;obtain⟨sa,sc,hsv⟩:=h.svf;rw[hsv]at c1;have hw1:IntKind.u64.wrap n=n:=by
   simp only[IntKind.wrap,IntKind.signed,IntKind.bits];simp;omega
  have hw2:IntKind.u64.wrap (m.now+n)=m.now+n:=by
   have:=hok.now;simp only[IntKind.wrap,IntKind.signed,IntKind.bits];simp;omega
  rw[ho];have hnS:({m with now:=m.now+n}:aM).S.length=m.S.length:=rfl;obtain⟨m1,hm1⟩:∃m1,({m with now:=m.now+n}:aM)=m1:=⟨_,rfl⟩;rw[hm1]at hs1 hu1 hok1 hnS ⊢;have qW:Hid (∃y' L,MM y' (fB m1 0).1 (w.setCell ⟨y.G,0,none⟩ (.int .u64 (m.now+n)))∧MU y m y' (fB m1 0).1 w (w.setCell ⟨y.G,0,none⟩ (.int .u64 (m.now+n)))∧ja (κ+100001 * (0:Nat)) q (fB m1 0).1∧(fB m1 0).1.now=m1.now∧(fB m1 0).1.S.length=m.S.length∧gL w.heap.size (.slice none 0 0) L (w.setCell ⟨y.G,0,none⟩ (.int .u64 (m.now+n)))∧L.map (·.1)=(fB m1 0).2∧L.length<=100001 * 0):=
   ⟨y,[],hs1,hu1,hok1.up (by omega) (aB _),rfl,hnS,gL.nil _ _,rfl,by simp⟩
  have u1:=hs1.cell.2.1;rw[hsv]at u1;have hmS:m.S.length<=6:=hok.n;obtain⟨i0,hi0,hz0,hz1,hz2⟩:=info_parts Md;clear h hs1 hu1 hok1 hok ho fz hm1;go_enter Tryz.func31,Tryz.ntmps31;go_upto_region 4 with(fail);generalize World.setCell _ _ _=W1 at qW u1 ⊢;clear c0 c1 f0;go_wp2_with fail;go_loopw [5,28] (λev iv wr=>∃k:Nat,k<=m.S.length∧iv=.int .i64 k∧Hid (∃y' L,MM y' (fB m1 k).1 wr∧MU y m y' (fB m1 k).1 w wr∧ja (κ+100001 * k) q (fB m1 k).1∧(fB m1 k).1.now=m1.now∧(fB m1 k).1.S.length=m.S.length∧gL w.heap.size ev L wr∧L.map (·.1)=(fB m1 k).2∧L.length<=100001 * k)) (λ_ iv _=>m.S.length - (intOf iv).toNat)
  case atStart=>exact⟨0,dm _,rfl,qW⟩
  case round=>
   clear qW u1;obtain⟨k,hk,rfl,hr⟩:=hrel;by_cases hkl:k<m.S.length
   ·have hki:(k:Int)<(m.S.length:Int):=by omega
    obtain⟨y',L,hm,hu,hmo,hN,hSl,hev,hL,Xp⟩:=hr.out;obtain⟨x,s,g,c,e1,e2,e3,e4,p0⟩:=hm.get (i:=k) (by rw[hSl];exact hkl);have hsa:sa=some ⟨g,0,none⟩:=by
     have h5:=e4;rw[hu.sv,hsv]at h5;injection h5 with h5 _ _
    subst hsa;have c2:=(hm.st k x s e1 e2).cell.2.2.1;have hk1:k+1<=m.S.length:=by omega
    have hme:=pE hkl;cases hnd:s.nd with
    |none=>
     rw[hnd]at c2;unfold Oi at c2;have hr2:Hid (∃y' L,MM y' (fB m1 (k+1)).1 wr∧MU y m y' (fB m1 (k+1)).1 w wr∧ja (κ+100001 * (k+1:Nat)) q (fB m1 (k+1)).1∧(fB m1 (k+1)).1.now=m1.now∧(fB m1 (k+1)).1.S.length=m.S.length∧gL w.heap.size u5 L wr∧L.map (·.1)=(fB m1 (k+1)).2∧L.length<=100001 * (k+1)):=by
      show ∃y' L,_;rw[zF,Jo (by rw[e3];exact hnd)];exact⟨y',L,hm,hu,hmo.up (by omega) (aB _),hN,hSl,hev,hL,by omega⟩
     have hw64:wrap64 ((k:Int)+1)=(k:Int)+1:=by unfold wrap64;omega
     clear hr hm hu hmo hev hL Xp e1 e2 e3 e4;go_wp2;try rw[hw64]
     go_roundw
     case rel=>
      first
       |exact⟨k+1,hk1,by go_num,hr2⟩
       |exact⟨_,_,⟨k+1,hk1,by go_num,hr2⟩,rfl⟩
       |((repeat apply Exists.intro);refine⟨⟨k+1,hk1,by go_num,hr2⟩,rfl⟩)
     case measure=>exact hme
    |some z=>
     rw[hnd]at c2;unfold Oi at c2;have hnk:=(hmo.at e2).nd z hnd;have hd1:Below wr.heap.size wr wr.drew:=(aV _ _).drew;have hmd:=hm.later hd1;obtain⟨nn,tm⟩:=(hmd.st k x s e1 e2).nd z hnd;have hsr:=nn.K9;have HT:=abp nn hnk.inv (by omega) tm hnk.pos m1.now ⟨by have:=hnk.nw;rw[hN]at this;exact this,by have:=hmo.now.2;rw[hN]at this;exact this⟩;have q0:=hm.cell.1;rw[hN,hu.G]at q0;obtain⟨M,hMe⟩:∃M,(fB m1 k).1=M:=⟨_,rfl⟩;have hsucc:fB m1 (k+1)=((M.act k (z.iW m1.now)).1,(fB m1 k).2++(M.act k (z.iW m1.now)).2):=by
      rw[zF,Jm (by rw[e3];exact hnd),hN,hMe]
     rw[hMe]at hm hu hmo hN hSl e2 e3 hmd;have HT2:Hid (Calls Tryz.prog 20 #[.pointer (some ⟨x.N,0,none⟩),.int .u64 m1.now] wr.drew λe w2=>∃aH bO bP y2,e=.returned (jg (z.iW m1.now).bH (z.iW m1.now).bB aH bO bP)∧iH wr.heap.size (z.iW m1.now).aF (z.iW m1.now).aO (z.iW m1.now).aP aH bO bP w2∧wr.heap.size<=w2.heap.size∧MM y2 (M.put k {s with nd:=some (z.iW m1.now)}) w2∧MU y' M y2 (M.put k {s with nd:=some (z.iW m1.now)}) wr w2∧Ct (κ+100001 * k+1) q (M.put k {s with nd:=some (z.iW m1.now)}) k (z.iW m1.now)):=by
      refine HT.mono ?_;rintro e w2 ⟨o,rfl,hI2,hcp⟩;obtain⟨s',hp1,hp2⟩:=DI z m1.now hsr;have hrest:=zX hp1;have hcnt:=vV hp1;rw[<-hp2]at hrest hcnt;obtain⟨aH,bO,bP,y2,rfl,hor,hm2,hu2,hdk⟩:=Fg hmd hmo e1 e2 hnd hcp hI2.out (Wl hnk.pos hnk.inv.tl.1 m1.now) hrest.1 (hrest.2.trans hN.symm) (aB _) (dN (Y_ _ _) hnk.ql) hcnt;exact⟨aH,bO,bP,y2,rfl,hor,hu2.fx.size,hm2,hu2.pre hd1,hdk⟩
     have hDD:Hid (∀aH bO bP y2 w2,iH wr.heap.size (z.iW m1.now).aF (z.iW m1.now).aO (z.iW m1.now).aP aH bO bP w2->wr.heap.size<=w2.heap.size->MM y2 (M.put k {s with nd:=some (z.iW m1.now)}) w2->MU y' M y2 (M.put k {s with nd:=some (z.iW m1.now)}) wr w2->Ct (κ+100001 * k+1) q (M.put k {s with nd:=some (z.iW m1.now)}) k (z.iW m1.now)->Calls Tryz.prog 36 #[.pointer (some ⟨y.G,0,none⟩),.int .i64 k,jg (z.iW m1.now).bH (z.iW m1.now).bB aH bO bP] w2 λe w3=>∃v2 L2,e=.returned v2∧L2.length<=100001∧w3.ownsRow w.heap.size 54 7 u5 L.length (EvC L)∧w3.ownsRow wr.heap.size 54 7 v2 L2.length (EvC L2)∧(∀u∈EvC L2,u.oneCell'=true)∧w.heap.size<=w3.heap.size∧∀v' w',w'.ownsRow w.heap.size 54 7 v' (L.length+L2.length) (EvC L++EvC L2)->w3.grownBy w' u5.ownBlock->∃y' L,MM y' (fB m1 (k+1)).1 w'∧MU y m y' (fB m1 (k+1)).1 w w'∧ja (κ+100001 * (k+1:Nat)) q (fB m1 (k+1)).1∧(fB m1 (k+1)).1.now=m1.now∧(fB m1 (k+1)).1.S.length=m.S.length∧gL w.heap.size v' L w'∧L.map (·.1)=(fB m1 (k+1)).2∧L.length<=100001 * (k+1)):=by
      intro aH bO bP y2 w2 hor hsz hm2 hu2 hdk;have hd:=Fz hm2 hdk aH bO bP wr.heap.size hor hsz;rw[hu2.G,hu.G]at hd;refine hd.mono ?_;rintro e w3 ⟨v2,L2,rfl,hL2,nE,y3,oI,hu3⟩;have hl2:L2.length<=100001:=by
       have h6:=congrArg List.length hL2;rw[gY]at h6;have h7:=TN (aM.iX k) (Gw k) (M.put k {s with nd:=some (z.iW m1.now)}) k (z.iW m1.now).ot;obtain⟨_,_,h8⟩:=hdk.pre;have h9:=h8.nd.inv.frl;have h10:(z.iW m1.now).ot.aF.length=(z.iW m1.now).aF.length:=rfl;have h11:((M.put k {s with nd:=some (z.iW m1.now)}).did k (z.iW m1.now).ot).2.length=(aM.jH (aM.iX k) (M.put k {s with nd:=some (z.iW m1.now)}) k (z.iW m1.now).ot).2.length:=rfl;omega
      have ab2:=hu2.trans hu3;have aar:=hev.mesh hm ab2.fx;have hut:=hu.trans ab2;have hz0:=hu.fx.size;have hz3:=hut.fx.size;refine⟨v2,L2,rfl,hl2,aar.row,nE.row,nE.one,hz3,λv' w' ho' hg'=> ?_⟩;have hmk:=E9 hdk;have hac:=MX M k (z.iW m1.now);have hae:=xJ e2 (z.iW m1.now);have hbE:∀k5,wE y3 ((M.put k {s with nd:=some (z.iW m1.now)}).did k (z.iW m1.now).ot).1 k5->w'.heap[k5]?=w3.heap[k5]?:=λk5 hk5=>hg'.block k5 (oI.lt hk5) λe5=>by
       obtain⟨cc,OL⟩:=aS aar.row e5.symm;exact oI.notE (by decide) OL hk5
      rw[hsucc,hae];rw[hae]at hac;refine⟨y3,L++L2,oI.kept hbE,⟨aW hut.fx hg' (λj5 hj5 e5=> ?_),λk5 hk5=>(hut.sub k5 hk5).imp_right λh=>⟨h.1,fZ h.2 hg'.size⟩,hut.G,hut.n,hut.sv,hut.B⟩,hmk.up (by omega) (aB _),hac.1.trans hN,hac.2.trans hSl,aar.append nE hz0 (λx hx k5 hk5=>((hev.out x hx).lt hk5).2) ho' hg',?_,by rw[bU];omega⟩
      ·have:=(hev.row.lt j5 e5).1;omega
      ·rw[List.map_append,hL,hL2]
     have Hl:Hid (∀n2,n2<=100001->L.length+n2<=maxLen∧(L.length+n2)* 112<=140737488355328):=λn2 h2=>by unfold maxLen;omega
     have hw64:wrap64 ((k:Int)+1)=(k:Int)+1:=by unfold wrap64;omega
     obtain⟨zt,hzt⟩:∃zt,z.iW m1.now=zt:=⟨_,rfl⟩;rw[hzt]at HT2 hDD;obtain⟨N,Tk⟩:∃N,x.N=N:=⟨_,rfl⟩;rw[Tk]at HT2 c2;clear hr hm hu hmo hev hL Xp e1 e2 e3 e4 HT hzt Tk hsucc hMe hN hSl hnk nn tm hsr hmd hd1;go_upto_region 9 with(fail);go_region_law (first
      |(go_simp;go_at_call 20;refine HT2.out.mono ?_;rintro e w2 ⟨aH,bO,bP,y2,rfl,hor,hsz,hm2,hu2,hdk⟩;have Ve:=hide (hDD.out _ _ _ _ _ hor hsz hm2 hu2 hdk);clear hor hsz hm2 hu2 hdk)
      |(go_simp;go_at_call 36;refine Ve.out.mono ?_;rintro e w3 ⟨v2,L2,rfl,hl2,hr1,hr2,h1c,hbw,hnx⟩;replace hnx:=hide hnx;obtain⟨aak,aaj⟩:=Hl.out _ hl2)
      |(refine kS rfl (.tmp 38) (.tmp 50) 29 rfl w.heap.size 54 i0 (.agg #[.int .i64 0,.int .i64 0,.string ⟨#[]⟩,.bool false,.slice none 0 0,.slice none 0 0,.slice none 0 0]) 7 112 Tryz.underlying29 hi0 hz0 hz1 hz2 rfl (by decide) u5 L.length (EvC L) ?h1 hr1 wr.heap.size v2 L2.length (EvC L2) ?h2 hr2 h1c aak aaj hbw ?_;(case h1=>simp[Act.eval]);(case h2=>simp[Act.eval]);intro v7 w7 ig gQ;have zk:=hide (hnx.out v7 w7 ig gQ)))
     all_goals
      clear Ve hnx Hl HT2 hDD hr1 hr2 h1c;go_wp2;try rw[hw64]
      go_roundw
      case rel=>
       first
        |exact⟨k+1,hk1,by go_num,zk⟩
        |exact⟨_,_,⟨k+1,hk1,by go_num,zk⟩,rfl⟩
        |((repeat apply Exists.intro);refine⟨⟨k+1,hk1,by go_num,zk⟩,rfl⟩)
      case measure=>exact hme
   ·obtain rfl:k=m.S.length:=by omega
    obtain⟨y',L,hm,hu,hmo,hN,hSl,hev,hL,Xp⟩:=hr.out;have hfin:jK y m (fB m1 m.S.length).1 (fB m1 m.S.length).2 w.heap.size w (.returned u5) wr∧ja (κ+1000000) q (fB m1 m.S.length).1:=⟨⟨_,L,rfl,hL,hev,y',hm,hu⟩,hmo.up (by omega) (aB _)⟩;replace hfin:=hide hfin;clear hr hm hu hmo hev hL Xp hN hSl;go_wp2;go_ret;exact hfin.out
variable{bB:Bool}{j:ByteArray}{ad r:Int}{aO aF:List (Int×ByteArray)}{aP:List Int}{y:MG}{m m':aM}{BA BB G N a b kc kd kf:Nat}{o:Obj}{ac af:Option Addr}{p:Prop}{bO bP aH sv:Value}{W W' w w' w2:World}
@[reducible] def uG(G g a b BA BB N z : Nat)(now ad : Int)(sv : Value)(W : World): Prop :=
 (W.cell? ⟨G,0,none⟩=some (.int .u64 now)∧W.cell? ⟨G,1,none⟩=some sv∧W.cell? ⟨g,a,none⟩=some (.pointer (some ⟨BA,0,none⟩))∧W.cell? ⟨BA,2,none⟩=some (.pointer (some ⟨N,0,none⟩))∧W.cell? ⟨g,b,none⟩=some (.pointer (some ⟨BB,0,none⟩))∧W.cell? ⟨BB,0,none⟩=some (.int .u32 ad))∧G<z∧g<z∧BA<z∧BB<z∧z<=W.heap.size
theorem uG.keep{g z:Nat}{now:Int}(h:uG G g a b BA BB N z now ad sv W)(hz:z<=W'.heap.size)(hb:∀k,k=G∨k=g∨k=BA∨k=BB->W'.heap[k]?=W.heap[k]?):uG G g a b BA BB N z now ad sv W':=by
 obtain⟨⟨c0,c1,c2,c3,c4,c5⟩,h1,h2,h3,h4,_⟩:=h;exact⟨⟨(World.cell?_of_block (a:=⟨G,0,none⟩) (hb _ (.inl rfl))).trans c0,(World.cell?_of_block (a:=⟨G,1,none⟩) (hb _ (.inl rfl))).trans c1,(World.cell?_of_block (a:=⟨g,a,none⟩) (hb _ (.inr (.inl rfl)))).trans c2,(World.cell?_of_block (a:=⟨BA,2,none⟩) (hb _ (.inr (.inr (.inl rfl))))).trans c3,(World.cell?_of_block (a:=⟨g,b,none⟩) (hb _ (.inr (.inl rfl)))).trans c4,(World.cell?_of_block (a:=⟨BB,0,none⟩) (hb _ (.inr (.inr (.inr rfl))))).trans c5⟩,h1,h2,h3,h4,hz⟩
theorem uG.low{g z:Nat}{now:Int}(h:uG G g a b BA BB N z now ad sv W)(hb:Below z W W'):uG G g a b BA BB N z now ad sv W':=by
 have h':=h;obtain⟨_,h1,h2,h3,h4,h5⟩:=h;exact h'.keep (dN h5 hb.size) λk hk=>hb.block k (by rcases hk with rfl|rfl|rfl|rfl<;>assumption)
theorem uG.drew{g z:Nat}{now:Int}(h:uG G g a b BA BB N z now ad sv W):uG G g a b BA BB N z now ad sv W.drew:=h.keep h.2.2.2.2.2 λ_ _=>rfl
theorem uG.kF{g z:Nat}{now:Int}(h:uG G g a b BA BB N z now ad sv W):uG G g a b BA BB N z now ad sv (W.alloc o):=h.low ((aV _ _).alloc h.2.2.2.2.2 _)
theorem uG.eT{g z:Nat}{now:Int}(h:uG G g a b BA BB N z now ad sv W.drew):uG G g a b BA BB N z now ad sv (W.alloc o).drew:=by
 have h':uG G g a b BA BB N z now ad sv W:=⟨h.1,h.2⟩;exact h'.kF.drew
theorem uG.R4{g z:Nat}{now:Int}{v0 v1 v2 v3 v4:Value}(h:uG G g a b BA BB N z now ad sv W):uG G g a b BA BB N z now ad sv (((((W.setCell ⟨z,0,none⟩ v0).setCell ⟨z,1,none⟩ v1).setCell ⟨z,2,none⟩ v2).setCell ⟨z,3,none⟩ v3).setCell ⟨z,4,none⟩ v4):=h.low (uF (aV _ _) (aB _) _ _ _ _ _)
structure xM(p:Prop)(y:MG)(m m':aM)(w:World)(aF aO:List (Int×ByteArray))(aP:List Int)(aH bO bP:Value)(W:World):Prop where
 mp:MP y m m' w W
 out:iH w.heap.size aF aO aP aH bO bP W
 p:p
theorem xM.alloc(h:xM p y m m' w aF aO aP aH bO bP W)(o:Obj):xM p y m m' w aF aO aP aH bO bP (W.alloc o):=
 ⟨h.mp.post (bC),h.out.later (bC),h.p⟩
theorem xM.set(h:xM p y m m' w aF aO aP aH bO bP W){D:Nat}{c:Array Value}(hD:W.heap[D]?=some (.cells c 52 (0,0)))(hDl:w.heap.size<=D)(hg:W.grownBy W' (some D)):xM p y m m' w aF aO aP aH bO bP W':=by
 obtain⟨⟨y',hm,hu⟩,ho,hp⟩:=h;refine⟨⟨y',hm.kept λk hk=>hg.block k (hm.lt hk) λe=> ?_,⟨aW hu.fx hg (λj hj e=> ?_),λk hk=>(hu.sub k hk).imp_right λh=>⟨h.1,fZ h.2 hg.size⟩,hu.G,hu.n,hu.sv,hu.B⟩⟩,ho.at λk c' t ht hk=>hg.block k (aG hk) λe=> ?_,hp⟩
 ·cases e;exact hm.not hD (by decide) hk
 ·cases e;omega
 ·cases e;rw[hD]at hk;cases hk;exact absurd ht (by decide)
def aa8(p:Prop)(y:MG)(m m':aM)(w:World)(j:ByteArray)(bB:Bool)(aF aO:List (Int×ByteArray))(aP:List Int)(r:Int)(nv ov:Value)(W:World):Prop:=∃af kf ac kc ad kd D,nv=.pointer (some ⟨D,0,none⟩)∧ov=.int .i64 r∧pU D j bB (.slice af aF.length kf) (.slice ac aO.length kc) (.slice ad aP.length kd) W∧xM p y m m' w aF aO aP (.slice af aF.length kf) (.slice ac aO.length kc) (.slice ad aP.length kd) W
theorem Ny{ad:Option Addr}(h:xM p y m m' w aF aO aP (.slice af aF.length kf) (.slice ac aO.length kc) (.slice ad aP.length kd) w2):aa8 p y m m' w j bB aF aO aP r (.pointer (some ⟨w2.heap.size,0,none⟩)) (.int .i64 r) (w2.alloc (.cells #[.string j,.bool bB,.slice af aF.length kf,.slice ac aO.length kc,.slice ad aP.length kd] 52)):=
 ⟨af,kf,ac,kc,ad,kd,_,rfl,rfl,bV _ _,h.alloc _⟩
theorem VR{ad:Option Addr}{j0:ByteArray}{r0:Bool}{f0 c0 d0:Value}(h:xM p y m m' w aF aO aP (.slice af aF.length kf) (.slice ac aO.length kc) (.slice ad aP.length kd) w2)(hD:Hid (pU w.heap.size j0 r0 f0 c0 d0 w2)):aa8 p y m m' w j bB aF aO aP r (.pointer (some ⟨w.heap.size,0,none⟩)) (.int .i64 r) (((((w2.setCell ⟨w.heap.size,0,none⟩ (.string j)).setCell ⟨w.heap.size,1,none⟩ (.bool bB)).setCell ⟨w.heap.size,2,none⟩ (.slice af aF.length kf)).setCell ⟨w.heap.size,3,none⟩ (.slice ac aO.length kc)).setCell ⟨w.heap.size,4,none⟩ (.slice ad aP.length kd)):=
 ⟨af,kf,ac,kc,ad,kd,_,rfl,rfl,hD.out.NC,h.set hD.out (aB _) (uw _ _ _ _ _ _ _)⟩
theorem MP.size(h:MP y m m' w w'):w.heap.size<=w'.heap.size:=by
 obtain⟨_,_,hu⟩:=h;exact hu.fx.size
theorem wO{md:aM}{evs:List Ev}(h:MM y m w)(a b:Nat)(ha:a<m.S.length)(hb:b<m.S.length)(t:ByteArray)(r:Int)(hr:r=0∨r=6∨r=2)(j:ByteArray)(bB:Bool)(aF aO:List (Int×ByteArray))(aP:List Int){z:St}(hnd:(m.at' a).nd=some z)
  (HC:∀x s,y.L[a]?=some x->m.S[a]?=some s->∀W5,Below w.heap.size w W5->Calls Tryz.prog 21 #[.pointer (some ⟨x.N,0,none⟩),.int .u64 m.now,.int .u32 (m.at' b).addr,.string t] W5 λe w2=>∃af kf ac kc ad kd,e=.returned (.tuple #[.agg #[.string j,.bool bB,.slice af aF.length kf,.slice ac aO.length kc,.slice ad aP.length kd],.int .i64 r])∧Fx (Ft x.N x.g z) W5 w2∧xM p y m m' w aF aO aP (.slice af aF.length kf) (.slice ac aO.length kc) (.slice ad aP.length kd) w2)
  (HD:r=0->∀aH bO bP W,xM p y m m' w aF aO aP aH bO bP W->Calls Tryz.prog 36 #[.pointer (some ⟨y.G,0,none⟩),.int .i64 a,.agg #[.string j,.bool bB,aH,bO,bP]] W (jK y m md evs w.heap.size w))
  (HE:r≠0->md=m'∧evs=[⟨a,r,Ot.none⟩]):
  Calls Tryz.prog 30 #[.pointer (some ⟨y.G,0,none⟩),.int .i64 a,.int .i64 b,.string t] w λe w'=>jK y m md evs w.heap.size w e w'∧p:=by
 obtain⟨xa,sa,g,c,e1,e2,e3,e4,p0⟩:=h.get ha;obtain⟨xb,sb,g',c',f1,f2,f3,f4,p1⟩:=h.get hb;obtain⟨q0,q1,_,_⟩:=h.cell;have hgg:g'=g∧c'=c:=by
  rw[f4]at e4;injection e4 with h5 _ h6;injection h5 with h5;injection h5 with h5 _ _;exact⟨h5,h6⟩
 obtain⟨rfl,rfl⟩:=hgg;have hst:=h.st a xa sa e1 e2;have c2:=hst.cell.2.2.1;rw[e3]at hnd;rw[hnd]at c2;unfold Oi at c2;have ca:=(h.st b xb sb f1 f2).cell.1;rw[e4]at q1;obtain⟨nn,_⟩:=hst.nd z hnd;have hin:(a:Int)<(m.S.length:Int):=by omega
 have hjn:(b:Int)<(m.S.length:Int):=by omega
 have YN:=aG h.blk;have hgl:g'<w.heap.size:=World.block_lt_of_cell? _ _ p0;have hAl:=aG hst.blk;have hBl:=aG (h.st b xb sb f1 f2).blk;have hgI:wE y m g':=.inr (.inl (by rw[e4];rfl));have hnF:∀k,k=y.G∨k=g'∨k=xa.B∨k=xb.B->¬Ft xa.N xa.g z k:=by
  intro k hk hF;obtain⟨o,ho,hK⟩:=nn.kind hF;rcases hk with rfl|rfl|rfl|rfl
  ·rw[h.blk]at ho;cases ho;exact hK.not (by decide)
  ·obtain⟨cc,hc⟩:=aS h.zJ (k:=k) (by rw[e4];rfl);rw[hc]at ho;cases ho;exact hK.not (by decide)
  ·rw[hst.blk]at ho;cases ho;exact hK.not (by decide)
  ·rw[(h.st b xb sb f1 f2).blk]at ho;cases ho;exact hK.not (by decide)
 rw[f3]at HC;have hS0:uG y.G g' a b xa.B xb.B xa.N w.heap.size m.now sb.addr (.slice (some ⟨g',0,none⟩) m.S.length c') w:=⟨⟨q0,q1,p0,c2,p1,ca⟩,YN,hgl,hAl,hBl,aB _⟩;have HC2:Hid (∀W5,Below w.heap.size w W5->Calls Tryz.prog 21 #[.pointer (some ⟨xa.N,0,none⟩),.int .u64 m.now,.int .u32 sb.addr,.string t] W5 λe w2=>∃af kf ac kc ad kd,e=.returned (.tuple #[.agg #[.string j,.bool bB,.slice af aF.length kf,.slice ac aO.length kc,.slice ad aP.length kd],.int .i64 r])∧uG y.G g' a b xa.B xb.B xa.N w.heap.size m.now sb.addr (.slice (some ⟨g',0,none⟩) m.S.length c') w2∧(∀j r f c d,pU w.heap.size j r f c d W5->pU w.heap.size j r f c d w2)∧Hid (xM p y m m' w aF aO aP (.slice af aF.length kf) (.slice ac aO.length kc) (.slice ad aP.length kd) w2)):=by
  intro W5 hb5;refine(HC xa sa e1 e2 W5 hb5).mono ?_;rintro e w2 ⟨af,kf,ac,kc,ad,kd,rfl,hfx,hR⟩;have hz5:=hb5.size;refine⟨af,kf,ac,kc,ad,kd,rfl,(hS0.low hb5).keep (dN hz5 hfx.size) λk hk=>hfx.block k ?_ (hnF k hk),λj r f c d hO=>(hfx.block _ (aG hO) λhF=> ?_).trans hO,hR⟩
  ·rcases hk with rfl|rfl|rfl|rfl<;>omega
  ·have:=nn.lt hF;omega
 have hS:uG y.G g' a b xa.B xb.B xa.N w.heap.size m.now sb.addr (.slice (some ⟨g',0,none⟩) m.S.length c') w.drew:=hS0.drew;replace HD:=hide HD;replace HE:=hide HE;clear HC hnF hgI YN hgl hAl hBl nn hst e1 e2 e3 e4 f1 f2 f3 f4 hS0 h q0 q1 p0 c2 p1 ca;obtain⟨N,Tk⟩:∃N,xa.N=N:=⟨_,rfl⟩;rw[Tk]at HC2 hS;clear Tk;go_enter Tryz.func30,Tryz.ntmps30;go_upto_region 1 with(fail);go_cut [9,10]from 12 to 39 (aa8 p y m m' w j bB aF aO aP r)
 case first=>
  clear HD HE hr hnd;go_region_held3 (uG y.G g' a b xa.B xb.B N w.heap.size m.now sb.addr (.slice (some ⟨g',0,none⟩) m.S.length c')) (first|with_reducible exact hS|with_reducible assumption|(with_reducible apply uG.eT;with_reducible exact hS)|(with_reducible apply uG.R4;assumption)|(with_reducible apply uG.kF;assumption)) ((go_at_call 21;refine(HC2.out _ (by first|with_reducible exact(aV _ _).drew|with_reducible exact(bC).drew)).mono ?_;rintro e w2 ⟨af,kf,ac,kc,ad,kd,rfl,hS2,hpr,hnr⟩;try ((with_reducible have hD:=hpr _ _ _ _ _ (Lr w));have hD':Hid (pU w.heap.size ⟨#[]⟩ false (.slice none 0 0) (.slice none 0 0) (.slice none 0 0) w2):=hD;obtain⟨d0,d1,d2,d3,d4,dq⟩:=hD'.out.cell;have q0:=dq 0;have q1:=dq 1;have q2:=dq 2;have q3:=dq 3;have q4:=dq 4;clear hD dq);clear hpr))
  all_goals
   go_wp2_with fail;go_meet;first|with_reducible exact Ny hnr.out|with_reducible exact VR hnr.out hD'
 case rest=>
  obtain⟨af,kf,ac,kc,ad,kd,D,rfl,rfl,hD,hR⟩:=hcut;clear HC2 hS;obtain⟨d0,d1,d2,d3,d4,_⟩:=hD.cell;have hp:=hide hR.p;rcases hr with rfl|hr
  ·have Ve:=hide (HD.out rfl _ _ _ _ hR);clear HD HE hD hR hnd;go_wp2_with(go_at_call 36;refine Ve.out.mono ?_;rintro e w3 ⟨v2,L2,rfl,hL2,nE,aal⟩;replace hL2:=hide hL2;replace nE:=hide nE;replace aal:=hide aal);go_ret;exact⟨⟨_,_,rfl,hL2.out,nE.out,aal.out⟩,hp.out⟩
  ·have hr0:r≠0:=by omega
   have hrb:(r==0)=false:=by simpa using hr0
   obtain⟨rfl,rfl⟩:=HE.out hr0;have hev:=EY (b:=w.heap.size) (W:=wc) (x:=(⟨a,r,Ot.none⟩,⟨.slice none 0 0,.slice none 0 0,.slice none 0 0⟩)) hR.mp.size ⟨⟨rfl,.inl ⟨rfl,rfl⟩⟩,⟨rfl,.inl ⟨rfl,rfl⟩⟩,⟨rfl,.inl ⟨rfl,rfl⟩⟩⟩;have hb5:Below wc.heap.size wc (wc.alloc (.cells (xE (⟨a,r,Ot.none⟩,⟨.slice none 0 0,.slice none 0 0,.slice none 0 0⟩)).toArray 54)):=bC;have hfin:jK y m md [⟨a,r,Ot.none⟩] w.heap.size w (.returned (.slice (some ⟨wc.heap.size,0,none⟩) 1 1)) (wc.alloc (.cells (xE (⟨a,r,Ot.none⟩,⟨.slice none 0 0,.slice none 0 0,.slice none 0 0⟩)).toArray 54)):=⟨_,_,rfl,rfl,hev,hR.mp.post hb5⟩;have nE:(xE (⟨a,r,Ot.none⟩,⟨.slice none 0 0,.slice none 0 0,.slice none 0 0⟩)).toArray=#[.int .i64 a,.int .i64 r,.string ⟨#[]⟩,.bool false,.slice none 0 0,.slice none 0 0,.slice none 0 0]:=rfl;rw[nE]at hfin;clear hev hb5 nE HD HE hR hD hnd hr;go_wp2;go_ret;exact⟨hfin,hp.out⟩
theorem nG.same{x:SG}{s:eB}{z:St}(h:m_ x s w)(hz:s.nd=some z)(nn:Nn x.N x.g z x.TL w')(fx:Fx (Ft x.N x.g z) w w'):nG x s s w w':=by
 obtain⟨n0,_⟩:=h.nd z hz;have hB:¬Ft x.N x.g z x.B:=λhk=>by
  obtain⟨o,ho,hK⟩:=n0.kind hk;rw[h.blk]at ho;cases ho;exact hK.not (by decide)
 have hJ:∀k,x.jv.ownBlock=some k->¬Ft x.N x.g z k:=λk hk hf=>by
  obtain⟨o,ho,hK⟩:=n0.kind hf;obtain⟨cc,hc⟩:=aS h.row hk;rw[hc]at ho;cases ho;exact hK.not (by decide)
 refine⟨x,rfl,⟨(fx.block _ (aG h.blk) hB).trans h.blk,h.hl,bQ h.row λk hk=>fx.block k (h.row.lt k hk).2 (hJ k hk),λu hu=> ?_⟩,fx.mono λk hk=> .inr (.inr ⟨z,hz,hk⟩),λk hk=> .inl hk⟩;cases hz.symm.trans hu;exact⟨nn,(h.nd z hz).2⟩
theorem abt(h:MM y m w){κ:Int}{q:Nat}(hok:ja κ q m)(Hf:0<=κ∧κ<=90000000000)(hq:q<=4999)(a b:Nat)(ha:a<m.S.length)(hb:b<m.S.length)(t:ByteArray)(hr:m.runs a=true):
  Calls Tryz.prog 30 #[.pointer (some ⟨y.G,0,none⟩),.int .i64 a,.int .i64 b,.string t] w λe w'=>jK y m (m.send a b t).1 (m.send a b t).2 w.heap.size w e w'∧ja (κ+200000) (q+1) (m.send a b t).1:=by
 obtain⟨xa,sa,g,c,e1,e2,e3,e4,p0⟩:=h.get ha;obtain⟨xb,sb,g',c',f1,f2,f3,f4,p1⟩:=h.get hb;obtain⟨z,hz⟩:∃z,sa.nd=some z:=by
  unfold aM.runs at hr;rw[iU,e3]at hr;exact Option.isSome_iff_exists.1 (Bool.and_eq_true_iff.1 hr).2
 have hnd:(m.at' a).nd=some z:=by rw[e3];exact hz
 have hnk:=(hok.at e2).nd z hz;have hml:=(hok.at f2).addr;have HNo:∀r,((16<t.size∧r=6)∨(t.size<=16∧((m.at' b).addr=z.me∨(m.at' b).addr=0)∧r=2))->∀x s,y.L[a]?=some x->m.S[a]?=some s->∀W5,Below w.heap.size w W5->Calls Tryz.prog 21 #[.pointer (some ⟨x.N,0,none⟩),.int .u64 m.now,.int .u32 (m.at' b).addr,.string t] W5 λe w2=>∃af kf ac kc ad kd,e=.returned (.tuple #[.agg #[.string ⟨#[]⟩,.bool false,.slice af ([]:List (Int×ByteArray)).length kf,.slice ac ([]:List (Int×ByteArray)).length kc,.slice ad ([]:List Int).length kd],.int .i64 r])∧Fx (Ft x.N x.g z) W5 w2∧xM True y m m w [] [] [] (.slice af ([]:List (Int×ByteArray)).length kf) (.slice ac ([]:List (Int×ByteArray)).length kc) (.slice ad ([]:List Int).length kd) w2:=by
  intro r hc x s g1 g2 W5 hb5;cases e1.symm.trans g1;cases e2.symm.trans g2;have h5:=h.later hb5;have hst:=h5.st a xa sa e1 e2;obtain⟨nn,_⟩:=hst.nd z hz;refine(UF nn hnk.inv.lk m.now (m.at' b).addr t r hc).mono ?_;rintro e w2 ⟨rfl,n2,fx⟩;have hp:=h5.Zd e1 e2 (nG.same hst hz n2 fx);have hpe:m.put a sa=m:=by
   unfold aM.put;rw[show m.S.set a sa=m.S from by
    rw[<-(fO.1 e2).2];exact List.set_getElem_self _]
  rw[hpe]at hp;exact⟨none,0,none,0,none,0,rfl,fx,hp.pre hb5,⟨⟨rfl,.inl ⟨rfl,rfl⟩⟩,⟨rfl,.inl ⟨rfl,rfl⟩⟩,⟨rfl,.inl ⟨rfl,rfl⟩⟩⟩,trivial⟩
 by_cases h16:16<t.size
 ·have ho:m.send a b t=(m,[⟨a,6,Ot.none⟩]):=by
   unfold aM.send;rw[hnd];dsimp only;rw[aI h16]
  rw[ho];refine(wO h a b ha hb t 6 (.inr (.inl rfl)) ⟨#[]⟩ false [] [] [] hnd (HNo 6 (.inl ⟨h16,rfl⟩)) (λe=>absurd e (by decide)) (λ_=>⟨rfl,rfl⟩)).mono ?_;intro e w2 hp;exact⟨hp.1,hok.up (by omega) (Nat.le_succ _)⟩
 ·by_cases hd:(m.at' b).addr=z.me∨(m.at' b).addr=0
  ·have ho:m.send a b t=(m,[⟨a,2,Ot.none⟩]):=by
    unfold aM.send;rw[hnd];dsimp only;rw[ay h16,aI hd]
   rw[ho];refine(wO h a b ha hb t 2 (.inr (.inr rfl)) ⟨#[]⟩ false [] [] [] hnd (HNo 2 (.inr ⟨by omega,hd,rfl⟩)) (λe=>absurd e (by decide)) (λ_=>⟨rfl,rfl⟩)).mono ?_;intro e w2 hp;exact⟨hp.1,hok.up (by omega) (Nat.le_succ _)⟩
  ·obtain⟨zs,hzs⟩:∃zs,z.snd m.now (m.at' b).addr t=zs:=⟨_,rfl⟩;have ho:m.send a b t=(m.put a {sa with nd:=some zs}).did a zs.ot:=by
    unfold aM.send;rw[hnd];dsimp only;rw[ay h16,ay hd,hzs,xJ e2]
   have hdd:∀W5,Below w.heap.size w W5->∀o w2,BD xa.N xa.g z zs W5 o w2->zs.Inv (κ+1)->∃aH bO bP y2,o=jg zs.bH zs.bB aH bO bP∧iH W5.heap.size zs.aF zs.aO zs.aP aH bO bP w2∧MM y2 (m.put a {sa with nd:=some zs}) w2∧MU y m y2 (m.put a {sa with nd:=some zs}) W5 w2∧Ct (κ+1) (q+1) (m.put a {sa with nd:=some zs}) a zs:=by
    intro W5 hb5 o w2 hcp hI2;obtain⟨k5,s',hp1,hp2⟩:=DR z m.now (m.at' b).addr t;have hrest:=zX hp1;have hcnt:=vV hp1;rw[<-hp2,hzs]at hrest hcnt;exact Fg (h.later hb5) hok e1 e2 hz hcp hI2 (by rw[<-hzs];exact Wm hnk.pos hnk.inv.tl.1 _ _ _) hrest.1 hrest.2 (Nat.le_succ q) (by rw[<-hzs];exact dN (Zj _ _ _ _) (Nat.succ_le_succ hnk.ql)) hcnt
   rw[ho];obtain⟨m',hm'⟩:∃m',m.put a {sa with nd:=some zs}=m':=⟨_,rfl⟩;rw[hm']at hdd ⊢;refine(wO (p:=Ct (κ+1) (q+1) m' a zs) (m':=m') (md:=(m'.did a zs.ot).1) (evs:=(m'.did a zs.ot).2) h a b ha hb t 0 (.inl rfl) zs.bH zs.bB zs.aF zs.aO zs.aP hnd ?_ ?_ (λe=>absurd rfl e)).mono ?_
   ·intro x s g1 g2 W5 hb5;cases e1.symm.trans g1;cases e2.symm.trans g2;obtain⟨nn,tm⟩:=((h.later hb5).st a xa sa e1 e2).nd z hz;refine(abq nn hnk.inv (by omega) tm m.now (m.at' b).addr t ⟨hnk.nw,hok.now.2⟩ (by rw[f3];exact hml) (by omega) (λe=>hd (.inl e)) (λe=>hd (.inr e)) (dN hnk.ql hq)).mono ?_;rintro e w2 ⟨o,rfl,hI2,hcp⟩;rw[hzs]at hI2 hcp;have hfx:Fx (Ft xa.N xa.g z) W5 w2:=by
     obtain⟨_,_,_,_,_,_,_,_,_,_,_,fx,_⟩:=hcp;exact fx
    obtain⟨aH,bO,bP,y2,rfl,hor,hm2,hu2,hdk⟩:=hdd W5 hb5 o w2 hcp hI2.out;obtain⟨af,kf,rfl,_⟩:=ax hor.aH;obtain⟨ac,kc,rfl,_⟩:=ax hor.bO;obtain⟨ad,kd,rfl,_⟩:=ax hor.bP;exact⟨af,kf,ac,kc,ad,kd,rfl,hfx,⟨y2,hm2,hu2.pre hb5⟩,hor.lower hb5.size,hdk⟩
   ·intro _ aH bO bP W hR;obtain⟨⟨y2,hm2,hu2⟩,hor,hdk⟩:=hR;have hd2:=Fz hm2 hdk aH bO bP w.heap.size hor hu2.fx.size;rw[hu2.G]at hd2;refine hd2.mono ?_;rintro e w3 ⟨v2,L2,rfl,hL2,nE,y3,oI,hu3⟩;exact⟨v2,L2,rfl,hL2,nE,y3,oI,hu2.trans hu3⟩
   ·rintro e w2 ⟨hp,hdk⟩;exact⟨hp,(E9 hdk).up (by omega) (aB _)⟩
open Go
section
variable {P:Program} {ops:Array Oper} {Q:Exit->Act->World->Prop} {md:Region.Mode} {S:World->Prop} {U:List Nat}
def lW(P:Program)(md:Region.Mode)(ops:Array Oper)(Q:Exit->Act->World->Prop)(S:World->Prop)(U:List Nat):Nat->Array Bool->Act->World->Prop
 |0,listed,a,w=>Region.ready md ops listed=[]∧Q .normal a w
 |fuel+1,listed,a,w=>
  (Region.ready md ops listed=[]->Q .normal a w)∧
  ∀i∈Region.ready md ops listed,wpOp P ops Q i (λa' w'=>(i ∉ U->S w')∧lW P md ops Q S U fuel (listed.setIfInBounds i true) a' w') a w
theorem sK:∀(fuel:Nat) (listed:Array Bool) (a:Act) (w:World),lW P md ops Q S U fuel listed a w->wpAny P md ops Q fuel listed a w
 |0,_,_,_,h=>h
 |fuel+1,_,_,_,h=>⟨h.1,λ_ hi=>wpOp_mono (λa' w' h'=>sK fuel _ a' w' h'.2) (h.2 _ hi)⟩
def Late(md:Region.Mode)(ops:Array Oper)(listed:Array Bool)(i:Nat)(V:List Nat):Prop:=
 ∀u∈V,listed.getD u true=false∧∃o,ops[u]?=some o∧∃e∈o.after,Region.binds md e=true∧(e.on=i∨e.on∈V)
theorem oW{listed:Array Bool}{k:Nat}(h0:listed.getD k true=false)(h1:listed.getD k false=true):False:=by
 rcases Nat.lt_or_ge k listed.size with h'|h'
 ·simp[h']at h0 h1;rw[h0]at h1;cases h1
 ·simp[Array.getElem?_eq_none h']at h1
theorem Late.not{listed:Array Bool}{i:Nat}{V:List Nat}(h:Late md ops listed i V)(hi:i∈Region.ready md ops listed){j:Nat}(hj:j∈Region.ready md ops listed):j ∉ V:=λhv=>by
 obtain⟨_,o,ho,e,he,hb,hon⟩:=h j hv;obtain⟨_,o',ho',hall⟩:=mem_ready.1 hj;rw[ho]at ho';cases ho';have h1:=hall e he hb;rcases hon with hon|hon
 ·rw[hon]at h1;exact oW (mem_ready.1 hi).1 h1
 ·exact oW (h _ hon).1 h1
theorem Dx{i:Nat}{oi:Oper}{v:Value}(hi:ops[i]?=some oi)(hsel:∀(j:Nat) (o:Oper) cs b,ops[j]?=some o->o.op≠ .select cs b)
  (hQ:∀c a w,Q (.panic c) (a.put oi.dst v) w->Q (.panic c) a w) {V:List Nat} (hUV:∀u∈U,u∈V):
  ∀(fuel:Nat) (listed:Array Bool) (a:Act) (w:World),
   (∀j oj,ops[j]?=some oj->j≠i->listed.getD j true=false->(∀e∈oj.after,Region.binds md e=true->e.on≠i)->oi.apart ops oj=true)->
   Late md ops listed i V->i∈Region.ready md ops listed->YieldsIf P ops S oi v a->S w->
   lW P md ops Q S U fuel (listed.setIfInBounds i true) (a.put oi.dst v) w->lW P md ops Q S U (fuel+1) listed a w:=by
 intro fuel
 induction fuel with
 |zero=>
  intro listed a w _ _ hr hy hS H;refine⟨λh=>(by rw[h]at hr;cases hr),λj hj=> ?_⟩;by_cases hji:j=i
  ·subst hji;exact hy.wpOp hi hS ⟨λ_=>hS,H⟩
  ·have:=ready_mono hj hji;rw[H.1]at this;cases this
 |succ fuel ih=>
  intro listed a w hfree hV hr hy hS H;refine⟨λh=>(by rw[h]at hr;cases hr),λj hj=> ?_⟩;by_cases hji:j=i
  ·subst hji;exact hy.wpOp hi hS ⟨λ_=>hS,H⟩
  ·have h1:=H.2 j (ready_mono hj hji);have hjV:=hV.not hr hj;obtain⟨hjun,oj,hoj,hall⟩:=mem_ready.1 hj;have hnot:∀e∈oj.after,Region.binds md e=true->e.on≠i:=λe he hb heq=>by
    have h1:=hall e he hb;rw[heq]at h1;exact oW (mem_ready.1 hr).1 h1
   have h2:=wpOp_putIf hoj (hfree j oj hoj hji hjun hnot) (λcs b=>hsel i oi cs b hi) (λcs b=>hsel j oj cs b hoj) hQ hy h1;have hfree':∀k ok,ops[k]?=some ok->k≠i->(listed.setIfInBounds j true).getD k true=false->
     (∀e∈ok.after,Region.binds md e=true->e.on≠i)->oi.apart ops ok=true:=λk ok hk hki hun hno=>by
    refine hfree k ok hk hki ?_ hno;by_cases hjk:j=k
    ·subst hjk;exact hjun
    ·rw[getD_set_ne true hjk]at hun;exact hun
   have hV':Late md ops (listed.setIfInBounds j true) i V:=λu hu=>by
    obtain⟨h5,h6⟩:=hV u hu;have hne:j≠u:=λe=>hjV (by rw[e];exact hu);refine⟨?_,h6⟩;rw[getD_set_ne true hne];exact h5
   refine wpOp_mono (λa' w' h3=> ?_) h2;have hS3:=h3.2.1 (λhu=>hjV (hUV j hu));refine⟨λ_=>hS3,ih (listed.setIfInBounds j true) a' w' hfree' hV' (ready_mono hr (Ne.symm hji)) h3.1 hS3 ?_⟩;rw[Array.setIfInBounds_comm _ _ hji];exact h3.2.2
def Yy(md:Region.Mode)(ops:Array Oper)(listed:Array Bool)(i:Nat):List Nat:=
 (List.range ops.size).foldl (λacc u=>if !listed.getD u true&&(match ops[u]? with|some o=>o.after.any λe=>Region.binds md e&&(e.on==i||acc.contains e.on)|none=>false)then acc++ [u]else acc) []
def RQ(md:Region.Mode)(ops:Array Oper)(listed:Array Bool)(i:Nat)(U V:List Nat):Bool:=
 U.all (λu=>V.contains u)&&V.all λu=>!listed.getD u true&&(match ops[u]? with|some o=>o.after.any λe=>Region.binds md e&&(e.on==i||V.contains e.on)|none=>false)
theorem L8{listed:Array Bool}{i:Nat}{V:List Nat}(h:RQ md ops listed i U V=true):(∀u∈U,u∈V)∧Late md ops listed i V:=by
 obtain⟨h1,h2⟩:=Bool.and_eq_true_iff.1 h;refine⟨λu hu=>by simpa using List.all_eq_true.1 h1 u hu,λu hu=> ?_⟩;obtain⟨h3,h4⟩:=Bool.and_eq_true_iff.1 (List.all_eq_true.1 h2 u hu);refine⟨by simpa using h3,?_⟩;cases ho:ops[u]? with
 |none=>
  rw[ho]at h4;cases h4
 |some o=>
  rw[ho]at h4;dsimp only at h4;obtain⟨e,he,hb⟩:=Array.any_eq_true'.1 h4;obtain⟨hb1,hb2⟩:=Bool.and_eq_true_iff.1 hb;exact⟨o,rfl,e,he,hb1,by simpa using hb2⟩
theorem FU{i:Nat}{oi:Oper}{v:Value}{fuel:Nat}{listed:Array Bool}{a:Act}{w:World}(hi:ops[i]?=some oi)
  (hs:Region.noSelect ops=true) (hf:Region.free md ops listed i=true) (hr:(Region.ready md ops listed).contains i=true) (hl:RQ md ops listed i U (Yy md ops listed i)=true)
  (hQ:∀c a w,Q (.panic c) (a.put oi.dst v) w->Q (.panic c) a w) (hy:YieldsIf P ops S oi v a) (hS:S w)
  (h:lW P md ops Q S U fuel (listed.setIfInBounds i true) (a.put oi.dst v) w):lW P md ops Q S U (fuel+1) listed a w:=
 Dx hi (Region.noSelect_spec hs) hQ (L8 hl).1 fuel listed a w (Region.free_spec hi hf) (L8 hl).2 (by simpa using hr) hy hS h
theorem aQ{i:Nat}{oi:Oper}{v:Value}{fuel:Nat}{listed:Array Bool}{a:Act}{w:World}(hi:ops[i]?=some oi)
  (hB:(Region.noSelect ops&&Region.free md ops listed i&&(Region.ready md ops listed).contains i&&RQ md ops listed i U (Yy md ops listed i))=true)
  (hy:YieldsIf P ops S oi v a) (hS:S w)
  (h:lW P md ops Q S U fuel (listed.setIfInBounds i true) (a.put oi.dst v) w) (hQ:∀c a w,Q (.panic c) (a.put oi.dst v) w->Q (.panic c) a w:=by exact λ_ _ _ h=>h):lW P md ops Q S U (fuel+1) listed a w:=by
 simp only[jr]at hB;exact FU hi hB.1.1.1 hB.1.1.2 hB.1.2 hB.2 hQ hy hS h
theorem gm{i:Nat}{o:Oper}{fuel:Nat}{listed:Array Bool}{a:Act}{w:World}(hr:Region.ready md ops listed=[i])(ho:ops[i]?=some o)
  (h:∀K':Act->World->Prop,Shut (∀a w,(i ∉ U->S w)->lW P md ops Q S U fuel (listed.setIfInBounds i true) a w->K' a w)->if Region.wanted o (yielded ops a.tmps)=true then Oper.wp P o a w K' Q else K' (a.put o.dst undef) w):lW P md ops Q S U (fuel+1) listed a w:=by
 refine⟨λh0=>absurd (hr▸h0) (by simp),λj hj=> ?_⟩;rw[hr,fM]at hj;subst hj;exact wpOp_step ho (λK' hK=>h K' (λa w hS hW=>hK a w ⟨hS,hW⟩))
theorem qA{listed:Array Bool}{a:Act}{w:World}(hr:Region.ready md ops listed=[])(h:Q .normal a w):∀fuel,lW P md ops Q S U fuel listed a w
 |0=>⟨hr,h⟩
 |_+1=>⟨λ_=>h,by rw[hr];simp⟩
theorem mI{id:Nat}{a:Act}{w:World}(S:World->Prop)(U:List Nat)(hm:P.follows .mixedOrders=true)(hS:S w.drew)
  (h:S w.drew->lW P .any ops Q S U ops.size (Array.replicate ops.size false) a w.drew):(Code.region id ops true).wp P Q a w:=
 wp_region_any hm (sK _ _ _ _ (h hS))
end
open Go.RowKit Go.Maps
theorem UH{y:MG}{m:aM}{w:World}(h:MM y m w){κ:Int}{q:Nat}(hok:ja κ q m)(Hf:0<=κ∧κ<=90000000000)(i j:Nat)(hi:i<m.S.length)(hj:j<m.S.length)(b:ByteArray)(hb:b.size<=65536):
  Calls Tryz.prog 33 #[.pointer (some ⟨y.G,0,none⟩),.int .i64 i,.int .i64 j,.string b] w λe w'=>jK y m (m.hear i j b).1 (m.hear i j b).2 w.heap.size w e w'∧ja (κ+200000) q (m.hear i j b).1:=by
 obtain⟨xi,si,g,c,e1,e2,e3,e4,p0⟩:=h.get hi;obtain⟨xj,sj,g',c',f1,f2,f3,f4,p1⟩:=h.get hj;obtain⟨q0,q1,_,_⟩:=h.cell;have hst:=h.st i xi si e1 e2;have c2:=hst.cell.2.2.1;have ca:=(h.st j xj sj f1 f2).cell.1;have hin:(i:Int)<(m.S.length:Int):=by omega
 have hjn:(j:Int)<(m.S.length:Int):=by omega
 have hgg:g'=g:=by
  rw[f4]at e4;injection e4 with h5 _ _;injection h5 with h5;injection h5 with h5 _ _
 subst hgg;rw[e4]at q1;cases hnd:si.nd with
 |none=>
  rw[hnd]at c2;unfold Oi at c2;have ho:m.hear i j b=(m,[]):=by
   unfold aM.hear;rw[e3,hnd]
  have hfin:jK y m (m.hear i j b).1 (m.hear i j b).2 w.heap.size w (.returned (.slice none 0 0)) w∧ja (κ+200000) q (m.hear i j b).1:=by
   rw[ho];exact⟨⟨_,[],rfl,rfl,gL.nil _ _,MP.refl h⟩,hok.up (by omega) (aB _)⟩
  replace hfin:=hide hfin;clear h hst ho e1 e2 e3 e4 f1 f2 f3 f4 q0 ca p1 hok;go_enter Tryz.func33,Tryz.ntmps33;go_wp2;go_ret;exact hfin.out
 |some z=>
  rw[hnd]at c2;unfold Oi at c2;have hnk:=(hok.at e2).nd z hnd;have hd1:Below w.heap.size w w.drew:=(aV _ _).drew;obtain⟨cap,W8,hcv,rX,iO⟩:=TT b hb w.drew;have OM:Below w.heap.size w W8:=hd1.trans (rX.mono hd1.size);have h8:=h.later OM;obtain⟨nn,tm⟩:=(h8.st i xi si e1 e2).nd z hnd;have hsr:=nn.K9;obtain⟨nn0,_⟩:=hst.nd z hnd;have YN:=aG h.blk;have hgl:g'<w.heap.size:=World.block_lt_of_cell? _ _ p0;have hAl:=aG hst.blk;have hBl:=aG (h.st j xj sj f1 f2).blk;have hnF:∀k,k=y.G∨k=g'∨k=xi.B∨k=xj.B->¬Ft xi.N xi.g z k:=by
   intro k hk hF;obtain⟨o,ho,hK⟩:=nn0.kind hF;rcases hk with rfl|rfl|rfl|rfl
   ·rw[h.blk]at ho;cases ho;exact hK.not (by decide)
   ·obtain⟨cc,hc⟩:=aS h.zJ (k:=k) (by rw[e4];rfl);rw[hc]at ho;cases ho;exact hK.not (by decide)
   ·rw[hst.blk]at ho;cases ho;exact hK.not (by decide)
   ·rw[(h.st j xj sj f1 f2).blk]at ho;cases ho;exact hK.not (by decide)
  have hS0:uG y.G g' i j xi.B xj.B xi.N w.heap.size m.now sj.addr (.slice (some ⟨g',0,none⟩) m.S.length c) w:=⟨⟨q0,q1,p0,c2,p1,ca⟩,YN,hgl,hAl,hBl,aB _⟩;have YB:=iO.1.1;have HR:=PE nn hnk.inv (by omega) tm m.now sj.addr ⟨hnk.nw,hok.now.2⟩ (hok.at f2).addr _ (aA b) iO;have HR2:Hid (Calls Tryz.prog 25 #[.pointer (some ⟨xi.N,0,none⟩),.int .u64 m.now,.int .u32 sj.addr,.slice (some ⟨w.heap.size,0,none⟩) b.size cap] W8 λe w2=>∃aH bO bP y2,uG y.G g' i j xi.B xj.B xi.N w.heap.size m.now sj.addr (.slice (some ⟨g',0,none⟩) m.S.length c) w2∧e=.returned (jg (z.rcv m.now sj.addr (aA b)).bH (z.rcv m.now sj.addr (aA b)).bB aH bO bP)∧iH w.heap.size (z.rcv m.now sj.addr (aA b)).aF (z.rcv m.now sj.addr (aA b)).aO (z.rcv m.now sj.addr (aA b)).aP aH bO bP w2∧w.heap.size<=w2.heap.size∧MM y2 (m.put i {si with nd:=some (z.rcv m.now sj.addr (aA b))}) w2∧MU y m y2 (m.put i {si with nd:=some (z.rcv m.now sj.addr (aA b))}) w w2∧Ct (κ+1) q (m.put i {si with nd:=some (z.rcv m.now sj.addr (aA b))}) i (z.rcv m.now sj.addr (aA b))):=by
   refine HR.mono ?_;rintro e w2 ⟨o,rfl,hI2,hcp⟩;have hfx:Fx (Ft xi.N xi.g z) W8 w2:=by
    obtain⟨_,_,_,_,_,_,_,_,_,_,_,fx,_⟩:=hcp;exact fx
   obtain⟨nn2,s',hp1,hp2⟩:=yZ z m.now sj.addr (aA b) (λq hq=>(hsr q hq).1);have hrest:=zX hp1;have hcnt:=vV hp1;rw[<-hp2]at hrest hcnt;obtain⟨aH,bO,bP,y2,rfl,hor,hm2,hu2,hdk⟩:=Fg h8 hok e1 e2 hnd hcp hI2.out (Wi hnk.pos _ _ _ YB (λq hq=>(hsr q hq).1)) hrest.1 hrest.2 (aB _) (dN (abQ _ _ _ _) hnk.ql) hcnt;have hz1:=OM.size;have hS2:uG y.G g' i j xi.B xj.B xi.N w.heap.size m.now sj.addr (.slice (some ⟨g',0,none⟩) m.S.length c) w2:=(hS0.low OM).keep (dN hz1 hfx.size) λk hk=>hfx.block k (by rcases hk with rfl|rfl|rfl|rfl<;>omega) (hnF k hk);exact⟨aH,bO,bP,y2,hS2,rfl,hor.lower hz1,by have:=hu2.fx.size;omega,hm2,hu2.pre OM,hdk⟩
  have ho:m.hear i j b=(m.put i {si with nd:=some (z.rcv m.now sj.addr (aA b))}).did i (z.rcv m.now sj.addr (aA b)).ot:=by
   unfold aM.hear;rw[e3,hnd,f3];dsimp only;rw[xJ e2]
  rw[ho];have hS8:=hS0.low OM;have hS:uG y.G g' i j xi.B xj.B xi.N w.heap.size m.now sj.addr (.slice (some ⟨g',0,none⟩) m.S.length c) w.drew:=hS0.drew;obtain⟨zr,hzr⟩:∃zr,z.rcv m.now sj.addr (aA b)=zr:=⟨_,rfl⟩;rw[hzr]at HR2 ⊢;obtain⟨m2,SL⟩:∃m2,m.put i {si with nd:=some zr}=m2:=⟨_,rfl⟩;rw[SL]at HR2 ⊢;obtain⟨N,Tk⟩:∃N,xi.N=N:=⟨_,rfl⟩;rw[Tk]at HR2 c2 hS hS8;have hsz0:w.drew.heap.size=w.heap.size:=rfl;rw[hsz0]at hcv;clear hzr SL Tk HR iO YB hsr nn tm h8 rX hd1 hnk h hst e1 e2 e3 e4 f1 f2 f3 f4 hok ho OM nn0 hnF hS0 YN hgl hAl hBl hsz0;go_enter Tryz.func33,Tryz.ntmps33;go_upto_region 4 with(fail);clear q0 q1 p0 c2 p1 ca;refine mI (uG y.G g' i j xi.B xj.B N w.heap.size m.now sj.addr (.slice (some ⟨g',0,none⟩) m.S.length c)) [23,24] (by kernel_rfl) hS (λhHeld=> ?_);refine aQ (i:=0) (v:=?hv0) rfl (by kernel_rfl) (Or.inl ⟨by rfl,?hy0⟩) hHeld ?hr0
  case hy0=>
   rintro w5 ⟨⟨q0,q1,p0,c2,p1,ca⟩,_⟩;go_simp;try with_reducible rfl
  try go_frame
  refine aQ (i:=1) (v:=?hv1) rfl (by kernel_rfl) (Or.inl ⟨by rfl,?hy1⟩) hHeld ?hr1
  case hy1=>
   rintro w5 ⟨⟨q0,q1,p0,c2,p1,ca⟩,_⟩;go_simp;try with_reducible rfl
  try go_frame
  refine aQ (i:=2) (v:=?hv2) rfl (by kernel_rfl) (Or.inl ⟨by rfl,?hy2⟩) hHeld ?hr2
  case hy2=>
   rintro w5 ⟨⟨q0,q1,p0,c2,p1,ca⟩,_⟩;go_simp;try with_reducible rfl
  try go_frame
  refine aQ (i:=3) (v:=?hv3) rfl (by kernel_rfl) (Or.inl ⟨by rfl,?hy3⟩) hHeld ?hr3
  case hy3=>
   rintro w5 ⟨⟨q0,q1,p0,c2,p1,ca⟩,_⟩;go_simp;try with_reducible rfl
  try go_frame
  refine aQ (i:=4) (v:=?hv4) rfl (by kernel_rfl) (Or.inl ⟨by rfl,?hy4⟩) hHeld ?hr4
  case hy4=>
   rintro w5 ⟨⟨q0,q1,p0,c2,p1,ca⟩,_⟩;go_simp;try with_reducible rfl
  try go_frame
  refine aQ (i:=5) (v:=?hv5) rfl (by kernel_rfl) (Or.inl ⟨by rfl,?hy5⟩) hHeld ?nD
  case hy5=>
   rintro w5 ⟨⟨q0,q1,p0,c2,p1,ca⟩,_⟩;go_simp;try with_reducible rfl
  try go_frame
  refine aQ (i:=6) (v:=?hv6) rfl (by kernel_rfl) (Or.inl ⟨by rfl,?hy6⟩) hHeld ?uo
  case hy6=>
   rintro w5 ⟨⟨q0,q1,p0,c2,p1,ca⟩,_⟩;go_simp;try with_reducible rfl
  try go_frame
  refine aQ (i:=7) (v:=?hv7) rfl (by kernel_rfl) (Or.inl ⟨by rfl,?hy7⟩) hHeld ?zk
  case hy7=>
   rintro w5 ⟨⟨q0,q1,p0,c2,p1,ca⟩,_⟩;go_simp;try with_reducible rfl
  try go_frame
  refine aQ (i:=8) (v:=?hv8) rfl (by kernel_rfl) (Or.inl ⟨by rfl,?hy8⟩) hHeld ?iO
  case hy8=>
   rintro w5 ⟨⟨q0,q1,p0,c2,p1,ca⟩,_⟩;go_simp;try with_reducible rfl
  try go_frame
  refine aQ (i:=9) (v:=?hv9) rfl (by kernel_rfl) (Or.inl ⟨by rfl,?hy9⟩) hHeld ?mY
  case hy9=>
   rintro w5 ⟨⟨q0,q1,p0,c2,p1,ca⟩,_⟩;go_simp;try with_reducible rfl
  try go_frame
  refine aQ (i:=10) (v:=?ab1) rfl (by kernel_rfl) (Or.inl ⟨by rfl,?Sk⟩) hHeld ?acd
  case Sk=>
   rintro w5 ⟨⟨q0,q1,p0,c2,p1,ca⟩,_⟩;go_simp;try with_reducible rfl
  try go_frame
  refine aQ (i:=11) (v:=?ab0) rfl (by kernel_rfl) (Or.inl ⟨by rfl,?Sj⟩) hHeld ?ab9
  case Sj=>
   rintro w5 ⟨⟨q0,q1,p0,c2,p1,ca⟩,_⟩;go_simp;try with_reducible rfl
  try go_frame
  refine aQ (i:=12) (v:=?abZ) rfl (by kernel_rfl) (Or.inl ⟨by rfl,?Si⟩) hHeld ?ab8
  case Si=>
   rintro w5 ⟨⟨q0,q1,p0,c2,p1,ca⟩,_⟩;go_simp;try with_reducible rfl
  try go_frame
  refine aQ (i:=13) (v:=?adO) rfl (by kernel_rfl) (Or.inl ⟨by rfl,?ZY⟩) hHeld ?adY
  case ZY=>
   rintro w5 ⟨⟨q0,q1,p0,c2,p1,ca⟩,_⟩;go_simp;try with_reducible rfl
  try go_frame
  refine aQ (i:=14) (v:=?adN) rfl (by kernel_rfl) (Or.inl ⟨by rfl,?ZX⟩) hHeld ?adX
  case ZX=>
   rintro w5 ⟨⟨q0,q1,p0,c2,p1,ca⟩,_⟩;go_simp;try with_reducible rfl
  try go_frame
  refine aQ (i:=15) (v:=?aff) rfl (by kernel_rfl) (Or.inl ⟨by rfl,?adK⟩) hHeld ?afr
  case adK=>
   rintro w5 ⟨⟨q0,q1,p0,c2,p1,ca⟩,_⟩;go_simp;try with_reducible rfl
  try go_frame
  refine aQ (i:=16) (v:=?afe) rfl (by kernel_rfl) (Or.inl ⟨by rfl,?adJ⟩) hHeld ?afq
  case adJ=>
   rintro w5 ⟨⟨q0,q1,p0,c2,p1,ca⟩,_⟩;go_simp;try with_reducible rfl
  try go_frame
  refine aQ (i:=17) (v:=?afd) rfl (by kernel_rfl) (Or.inl ⟨by rfl,?adI⟩) hHeld ?afp
  case adI=>
   rintro w5 ⟨⟨q0,q1,p0,c2,p1,ca⟩,_⟩;go_simp;try with_reducible rfl
  try go_frame
  refine aQ (i:=18) (v:=?afc) rfl (by kernel_rfl) (Or.inl ⟨by rfl,?adH⟩) hHeld ?afo
  case adH=>
   rintro w5 ⟨⟨q0,q1,p0,c2,p1,ca⟩,_⟩;go_simp;try with_reducible rfl
  try go_frame
  refine aQ (i:=19) (v:=?afb) rfl (by kernel_rfl) (Or.inl ⟨by rfl,?adG⟩) hHeld ?afn
  case adG=>
   rintro w5 ⟨⟨q0,q1,p0,c2,p1,ca⟩,_⟩;go_simp;try with_reducible rfl
  try go_frame
  refine aQ (i:=20) (v:=?afa) rfl (by kernel_rfl) (Or.inl ⟨by rfl,?adF⟩) hHeld ?afm
  case adF=>
   rintro w5 ⟨⟨q0,q1,p0,c2,p1,ca⟩,_⟩;go_simp;try with_reducible rfl
  try go_frame
  refine gm (i:=21) (by kernel_rfl) rfl (λK hK=> ?_);go_simp;refine hK.out _ _ (λ_=>hS8) ?_;clear hK K;refine gm (i:=22) (by kernel_rfl) rfl (λK2 hK2=> ?_);go_simp;go_at_call 25;refine HR2.out.mono ?_;rintro e w2 ⟨aH,bO,bP,y2,hS2,rfl,hor,hsz,hm2,hu2,hdk⟩;have UN:=Fz hm2 hdk aH bO bP w.heap.size hor hsz;rw[hu2.G]at UN;go_simp;refine hK2.out _ _ (λ_=>hS2) ?_;clear hK2 K2 HR2;refine gm (i:=23) (by kernel_rfl) rfl (λK3 hK3=> ?_);replace UN:=hide UN;replace hu2:=hide hu2;replace hdk:=hide hdk;clear hor hm2 hS2 hHeld hS hS8;go_simp;go_at_call 36;refine UN.out.mono ?_;rintro e w3 ⟨v,L,rfl,hL,hev,y3,oI,hu3⟩;have hfin:=hide (show jK y m (m2.did i zr.ot).1 (m2.did i zr.ot).2 w.heap.size w (.returned v) w3∧ja (κ+200000) q (m2.did i zr.ot).1 from⟨⟨v,L,rfl,hL,hev,y3,oI,hu2.out.trans hu3⟩,(E9 hdk.out).up (by omega) (aB _)⟩);clear hL hev oI hu3 UN hu2 hdk;go_simp;refine hK3.out _ _ (λh=>(h (by decide)).elim) ?_;clear hK3 K3;refine gm (i:=24) (by kernel_rfl) rfl (λK4 hK4=> ?_);go_simp;refine hK4.out _ _ (λh=>(h (by decide)).elim) ?_;clear hK4 K4;refine qA (by kernel_rfl) ?_ _;go_wp2;go_ret;exact hfin.out
theorem Yj{L:List (Nat×Nat×ByteArray)}{k:Nat}{f:Nat×Nat×ByteArray}(h:L[k]?=some f)(b:ByteArray):oh (L.set k (f.1,f.2.1,b))=(oh L).set (k * 3+2) (.string b):=by
 induction L generalizing k with
 |nil=>simp at h
 |cons a L ih=>
  cases k with
  |zero=>
   simp only[List.getElem?_cons_zero,Option.some.injEq]at h;subst h;rfl
  |succ k=>
   rw[List.getElem?_cons_succ]at h;rw[List.set_cons_succ];show [_,_,_]++oh (L.set k _)=(([_,_,_]:List Value)++oh L).set _ _;rw[ih h,show(k+1)* 3+2=(k * 3+2)+1+1+1 by omega];rfl
theorem V7{W:World}{base e size n g c:Nat}{xs:List Value}(h:W.ownsRow base e size (.slice (some ⟨g,0,none⟩) n c) n xs)(j:Nat)(_:j<n * size)(v:Value):(W.setCell ⟨g,j,none⟩ v).ownsRow base e size (.slice (some ⟨g,0,none⟩) n c) n (xs.set j v):=by
 rcases h.2 with⟨he,_⟩|⟨g',cap,cur,he,hb,hg,h1,h2,h3,h4⟩
 ·cases he
 ·cases he;refine⟨by rw[List.length_set];exact h.1,.inr ⟨g,c,cur.setIfInBounds j v,rfl,hb,?_,h1,h2,by simp[h3],?_⟩⟩
  ·simp[World.setCell,d_,hg]
  ·rw[Array.toList_setIfInBounds,<-h4,List.take_set]
theorem ado{y:MG}{m:aM}{w:World}(h:MM y m w)(i:Nat)(hi:i<m.aT.length)(f:Nat×Nat×ByteArray)(hf:m.aT[i]?=some f)(hs:f.2.2.size<=1000000)(n:Int):Calls Tryz.prog 65 #[.pointer (some ⟨y.G,0,none⟩),.int .i64 i,.int .i64 n] w λe w'=>e=.returned (.tuple #[])∧MP y m {m with aT:=m.aT.set i (f.1,f.2.1,f.2.2.extract 0 (f.2.2.size - (min (max 0 n) f.2.2.size).toNat))} w w':=by
 obtain⟨a,b,s⟩:=f;dsimp only at hs ⊢;obtain⟨g,cap,BH,_⟩:=bZ h.aT (by omega);obtain⟨q0,q1,q2⟩:=FH hf;dsimp only at q0 q1 q2;have hr:=h.aT;rw[BH]at hr;have c2:=h.cell.2.2.1;rw[BH]at c2;have d2:=(hr.cellAt (i * 3+2) (by omega)).trans q2;have hil:(i:Int)<(m.aT.length:Int):=by omega
 have hfz:w.frozen? ⟨g,i * 3+2,none⟩=false:=by
  obtain⟨cc,hc⟩:=aS hr (k:=g) rfl;exact ng w g _ _ _ hc
 obtain⟨k,hk⟩:∃k:Nat,s.size - (min (max 0 n) s.size).toNat=k:=⟨_,rfl⟩;rw[hk];have hkI:(s.size:Int) - min (max 0 n) (s.size:Int)=(k:Int):=by omega
 have hks:(k:Int)<=(s.size:Int):=by omega
 have hfin:MP y m {m with aT:=m.aT.set i (a,b,s.extract 0 k)} w (w.setCell ⟨g,i * 3+2,none⟩ (.string (s.extract 0 k))):=by
  have hrow:=V7 hr (i * 3+2) (by omega) (.string (s.extract 0 k));rw[<-Yj hf (s.extract 0 k)]at hrow;have hg:w.grownBy (w.setCell ⟨g,i * 3+2,none⟩ (.string (s.extract 0 k))) (some g):=ah (aC _ (some g)) _ _;have hgI:wE y m g:=.inr (.inr (.inl (by rw[BH];rfl)));have hblk:=h.blk;have hgG:y.G≠g:=λe=>by
   obtain⟨cc,hc⟩:=aS hr (k:=g) rfl;rw[e,hc]at hblk;cases hblk
  refine⟨y,⟨(hg.block _ (aG h.blk) λe=>hgG (Option.some.inj e)).trans h.blk,h.zJ.kept hg ?_,?_,h.len,λj x u h1 h2=>(h.st j x u h1 h2).kept λk5 hk5=>hg.block k5 ((h.st j x u h1 h2).lt hk5) λe=> ?_,h.ap⟩,Fx.grown hg λk5 e=>by cases e;exact hgI,λk5 hk5=> .inl hk5,rfl,rfl,rfl,rfl⟩
  ·rcases bX h.zJ hr (by decide)with e|e
   ·exact .inl e
   ·exact .inr e
  ·show World.ownsRow _ 0 _ 3 y.av (m.aT.set i _).length _;rw[List.length_set,BH];exact hrow
  ·cases e;exact(h.own h1 h2 hk5).2.2 (by rw[BH];rfl)
 clear h hr hf q0 q1 q2 BH;have hw:wrap64 ((s.size:Int) - min (max 0 n) (s.size:Int))=(k:Int):=by rw[hkI];unfold wrap64;omega
 replace hfin:=hide (hfin.post (aV _ _).drew);go_enter Tryz.func65,Tryz.ntmps65;go_upto_region 1 with(fail);clear c2;go_region
 go_returns;exact⟨rfl,hfin.out⟩
variable{m:aM}
def qw(m:aM):Prop:=∀f∈m.aT,f.1<m.S.length∧f.2.1<m.S.length∧f.2.2.size<=65536
theorem ja.X8{κ:Int}{q:Nat}(h:ja κ q m){F:List (Nat×Nat×ByteArray)}(hF:F.length<=48):ja κ q {m with aT:=F}:=⟨h.n,hF,h.now,h.st⟩
theorem UJ{y:MG}{w:World}(h:MM y m w){κ:Int}{q:Nat}(hok:ja κ q m)(Hf:0<=κ∧κ<=90000000000)(hfl:qw m)(o:Op)(ho:o.fe=4∨o.fe=5∨o.fe=6∨o.fe=7):
  Calls Tryz.prog 32 #[.pointer (some ⟨y.G,0,none⟩),Ee o] w λe w'=>jK y m (m.flight o).1 (m.flight o).2 w.heap.size w e w'∧ja (κ+200000) q (m.flight o).1:=by
 have hb0:Below w.heap.size w (w.alloc (.cells #[.int .i64 o.fe,.int .i64 o.a,.int .i64 o.b,.int .i64 o.n,.bool o.on,.string o.txt] 28)):=bC;have hC:=bV w (.cells #[.int .i64 o.fe,.int .i64 o.a,.int .i64 o.b,.int .i64 o.n,.bool o.on,.string o.txt] 28);have h1:=h.later hb0;obtain⟨fe,a,b,n,on,txt⟩:=o;dsimp only at hb0 hC h1 ho;have EL:=hok.aT;have hcase:Hid (∀w1:World,Below w.heap.size w w1->(a<0∨m.aT.length=0)->jK y m (m.flight ⟨fe,a,b,n,on,txt⟩).1 (m.flight ⟨fe,a,b,n,on,txt⟩).2 w.heap.size w (.returned (.slice none 0 0)) w1∧ja (κ+200000) q (m.flight ⟨fe,a,b,n,on,txt⟩).1):=by
  intro w1 hb1 hc;have he:m.flight ⟨fe,a,b,n,on,txt⟩=(m,[]):=by
   unfold aM.flight;rw[aI hc]
  rw[he];exact⟨⟨_,[],rfl,rfl,gL.nil _ _,(MP.refl h).post hb1⟩,hok.up (by omega) (aB _)⟩
 unfold Ee;dsimp only;by_cases ha:a<0
 ·have had:decide (a<0)=true:=by simpa using ha
  clear hok hfl h h1 EL;go_enter Tryz.func32,Tryz.ntmps32;go_upto_region 1 with(fail);generalize World.alloc _ _=W1 at hb0 hC ⊢;have t1:W1.cell? ⟨w.heap.size,1,none⟩=some (.int .i64 a):=aJ _ _ 1 _ _ _ hC;have hfin:=hide (hcase.out _ hb0 (.inl ha));clear hcase hC ho;go_wp2;go_ret;exact hfin.out
 ·have had:decide (a<0)=false:=by simpa using ha
  obtain⟨_,_,q2,_⟩:=h1.cell;by_cases hl:m.aT.length=0
  ·obtain⟨ao,c,BH,_⟩:=ax h.aT;rw[hl]at BH;rw[BH]at q2;clear hok hfl h h1 EL;go_enter Tryz.func32,Tryz.ntmps32;go_upto_region 1 with(fail);generalize World.alloc _ _=W1 at hb0 hC q2 ⊢;have t1:W1.cell? ⟨w.heap.size,1,none⟩=some (.int .i64 a):=aJ _ _ 1 _ _ _ hC;have hfin:=hide (hcase.out _ hb0 (.inr hl));clear hcase hC ho hl BH;go_wp2;go_ret;exact hfin.out
  ·obtain⟨g,cap,BH,_⟩:=bZ h.aT (by omega);rw[BH]at q2;have hln:(decide ((m.aT.length:Int)=0))=false:=by
    have:¬(m.aT.length:Int)=0:=by omega
    simpa using this
   obtain⟨k,hk⟩:∃k,a.toNat%m.aT.length=k:=⟨_,rfl⟩;have hkl:k<m.aT.length:=by rw[<-hk];exact Nat.mod_lt _ (by omega)
   have afl:a.tmod (m.aT.length:Int)=(k:Int):=by
    have e:(a.toNat:Int)=a:=Int.toNat_of_nonneg (by omega);rw[Int.tmod_eq_emod_of_nonneg (by omega),<-hk];first|rw[Int.natCast_emod,e]|rw[Int.natCast_mod,e]|rw[Int.ofNat_emod,e]
   obtain⟨f,hf⟩:∃f,m.aT[k]?=some f:=⟨_,bS hkl⟩;have OJ:=hfl f (iV hf);have hgd:m.aT.getD k (0,0,⟨#[]⟩)=f:=by rw[List.getD_eq_getElem?_getD,hf];rfl
   have hfo:∀d,d=fe->m.flight ⟨fe,a,b,n,on,txt⟩=if d=4 then {m with aT:=m.aT.eraseIdx k}.hear f.2.1 f.1 f.2.2 else if d=5 then({m with aT:=m.aT.eraseIdx k},[])else if d=6 then(m.launch f,[])else({m with aT:=m.aT.set k (f.1,f.2.1,f.2.2.extract 0 (f.2.2.size - (min (max 0 n) f.2.2.size).toNat))},[]):=by
    rintro d rfl;unfold aM.flight;rw[ay (show ¬(a<0∨m.aT.length=0)from by omega)];dsimp only;rw[hk,hgd]
   replace hfo:=hfo fe rfl;clear hk hgd hcase hfl;rcases ho with rfl|rfl|rfl|rfl
   ·rw[aI rfl]at hfo;rw[hfo];have HL:=hide λW (hW:MM y m W)=>KI hW k hkl (by omega) f hf;have hmk:=hok.X8 (F:=m.aT.eraseIdx k) (by rw[List.length_eraseIdx];split<;>omega);obtain⟨fa,fb,fs⟩:=f;dsimp only at OJ hfo HL ⊢;obtain⟨m',hm'⟩:∃m',({m with aT:=m.aT.eraseIdx k}:aM)=m':=⟨_,rfl⟩;have hS':m'.S.length=m.S.length:=by rw[<-hm']
    rw[hm']at hmk HL ⊢;have HH:=hide λ(y':MG) W (hW:MM y' m' W)=>UH hW hmk Hf fb fa (by omega) (by omega) fs OJ.2.2;clear hfo hok EL hf OJ hm' hmk;go_enter Tryz.func32,Tryz.ntmps32;go_upto_region 1 with(fail);generalize World.alloc _ _=W1 at hb0 hC q2 h1 ⊢;have t0:W1.cell? ⟨w.heap.size,0,none⟩=some (.int .i64 4):=aJ _ _ 0 _ _ _ hC;have t1:W1.cell? ⟨w.heap.size,1,none⟩=some (.int .i64 a):=aJ _ _ 1 _ _ _ hC;go_upto_region 3 with(fail);go_region
    unfold flV at HL;dsimp only at HL;go_upto_region 7 with(go_at_call 63;refine(HL.out _ h1.drew).mono ?_;rintro e w2 ⟨rfl,y2,hm2,hu2⟩);have hb3:Below w2.heap.size w2 (w2.alloc (.cells #[.int .i64 fa,.int .i64 fb,.string fs] 149)):=bC;have qj:=bV w2 (.cells #[.int .i64 fa,.int .i64 fb,.string fs] 149);have oI:=hm2.later hb3;have hu3:=(hu2.post hb3).pre hb0.drew;clear hm2 hu2 hb3 t0 t1 q2 hC h1 hb0 HL h;generalize World.alloc _ _=W3 at oI hu3 qj ⊢;generalize w2.heap.size=D at qj ⊢;have t0:W3.cell? ⟨D,0,none⟩=some (.int .i64 fa):=aJ _ _ 0 _ _ _ qj;have t1:W3.cell? ⟨D,1,none⟩=some (.int .i64 fb):=aJ _ _ 1 _ _ _ qj;have t2:W3.cell? ⟨D,2,none⟩=some (.string fs):=aJ _ _ 2 _ _ _ qj;have HH3:=HH.out y2 W3 oI;rw[hu3.G]at HH3;replace HH3:=hide HH3;replace hu3:=hide hu3;clear HH oI qj;go_wp2_with(go_at_call 33;refine HH3.out.mono ?_;rintro e w4 ⟨⟨v,L,rfl,hL,hev,y4,Cb,U1⟩,acu⟩;have hfin:=hide (show jK y m (m'.hear fb fa fs).1 (m'.hear fb fa fs).2 w.heap.size w (.returned v) w4∧ja (κ+200000) q (m'.hear fb fa fs).1 from⟨⟨v,L,rfl,hL,hev.lower hu3.out.fx.size,y4,Cb,hu3.out.trans U1⟩,acu⟩);clear hL hev Cb U1 acu);go_ret;exact hfin.out
   ·rw[ay (by decide),aI rfl]at hfo;rw[hfo];have HL:=hide λW (hW:MM y m W)=>KI hW k hkl (by omega) f hf;have hmk:=hide (hok.X8 (F:=m.aT.eraseIdx k) (by rw[List.length_eraseIdx];split<;>omega));clear hfo hok EL hf OJ;go_enter Tryz.func32,Tryz.ntmps32;go_upto_region 1 with(fail);generalize World.alloc _ _=W1 at hb0 hC q2 h1 ⊢;have t0:W1.cell? ⟨w.heap.size,0,none⟩=some (.int .i64 5):=aJ _ _ 0 _ _ _ hC;have t1:W1.cell? ⟨w.heap.size,1,none⟩=some (.int .i64 a):=aJ _ _ 1 _ _ _ hC;go_upto_region 3 with(fail);go_region
    go_wp2_with(go_at_call 63;refine(HL.out _ h1.drew).mono ?_;rintro e w2 ⟨rfl,hmp⟩;have hfin:=hide (show jK y m {m with aT:=m.aT.eraseIdx k} [] w.heap.size w (.returned (.slice none 0 0)) w2 from⟨_,[],rfl,rfl,gL.nil _ _,hmp.pre (hb0.drew)⟩));go_ret;exact⟨hfin.out,hmk.out.up (by omega) (aB _)⟩
   ·rw[ay (by decide),ay (by decide),aI rfl]at hfo;rw[hfo];obtain⟨q0,q1,q5⟩:=FH hf;have hr1:=h1.aT;rw[BH]at hr1;have d0:=(hr1.cellAt (k * 3) (by omega)).trans q0;have d1:=(hr1.cellAt (k * 3+1) (by omega)).trans q1;have d2:=(hr1.cellAt (k * 3+2) (by omega)).trans q5;have hmk:ja κ q (m.launch f):=hok.X8 (Aj m f hok.aT);have HL:=hide λW (hW:MM y m W)=>IX hW (by omega) f;obtain⟨fa,fb,fs⟩:=f;have hkn:(k:Int)<(m.aT.length:Int):=by omega
    obtain⟨m',hm'⟩:∃m',m.launch (fa,fb,fs)=m':=⟨_,rfl⟩;rw[hm']at hmk HL ⊢;unfold flV at HL;dsimp only at HL d0 d1 d2;clear hfo hok EL hf OJ hm' hr1 q0 q1 q5 h;go_enter Tryz.func32,Tryz.ntmps32;go_upto_region 1 with(fail);generalize World.alloc _ _=W1 at hb0 hC q2 h1 d0 d1 d2 ⊢;have t0:W1.cell? ⟨w.heap.size,0,none⟩=some (.int .i64 6):=aJ _ _ 0 _ _ _ hC;have t1:W1.cell? ⟨w.heap.size,1,none⟩=some (.int .i64 a):=aJ _ _ 1 _ _ _ hC;go_upto_region 3 with(fail);go_region
    go_wp2_with(go_at_call 64;refine(HL.out _ h1.drew).mono ?_;rintro e w2 ⟨rfl,hmp⟩;have hfin:=hide (show jK y m m' [] w.heap.size w (.returned (.slice none 0 0)) w2∧ja (κ+200000) q m' from⟨⟨_,[],rfl,rfl,gL.nil _ _,hmp.pre (hb0.drew)⟩,hmk.up (by omega) (aB _)⟩);clear hmp);go_ret;exact hfin.out
   ·rw[ay (by decide),ay (by decide),ay (by decide)]at hfo;rw[hfo];have HL:=hide λW (hW:MM y m W)=>ado hW k hkl f hf (by omega) n;have hmk:=hide (hok.X8 (F:=m.aT.set k (f.1,f.2.1,f.2.2.extract 0 (f.2.2.size - (min (max 0 n) f.2.2.size).toNat))) (by rw[List.length_set];omega));obtain⟨m',hm'⟩:∃m',({m with aT:=m.aT.set k (f.1,f.2.1,f.2.2.extract 0 (f.2.2.size - (min (max 0 n) f.2.2.size).toNat))}:aM)=m':=⟨_,rfl⟩;rw[hm']at hmk HL ⊢;clear hfo hok EL hf OJ hm' h;go_enter Tryz.func32,Tryz.ntmps32;go_upto_region 1 with(fail);generalize World.alloc _ _=W1 at hb0 hC q2 h1 ⊢;have t0:W1.cell? ⟨w.heap.size,0,none⟩=some (.int .i64 7):=aJ _ _ 0 _ _ _ hC;have t1:W1.cell? ⟨w.heap.size,1,none⟩=some (.int .i64 a):=aJ _ _ 1 _ _ _ hC;have t3:W1.cell? ⟨w.heap.size,3,none⟩=some (.int .i64 n):=aJ _ _ 3 _ _ _ hC;go_upto_region 3 with(fail);go_region
    go_wp2_with(go_at_call 65;refine(HL.out _ h1.drew).mono ?_;rintro e w2 ⟨rfl,hmp⟩;have hfin:=hide (show jK y m m' [] w.heap.size w (.returned (.slice none 0 0)) w2∧ja (κ+200000) q m' from⟨⟨_,[],rfl,rfl,gL.nil _ _,hmp.pre (hb0.drew)⟩,hmk.out.up (by omega) (aB _)⟩);clear hmp);go_ret;exact hfin.out
end Go.Proofs.YtakaadcpaeiccabGreat
