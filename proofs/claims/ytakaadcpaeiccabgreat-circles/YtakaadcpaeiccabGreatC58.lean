import Derived.Test.YtakaadcpaeiccabGreatC57
set_option maxHeartbeats 8000000
set_option maxRecDepth 100000
namespace Go.Proofs.YtakaadcpaeiccabGreat
open Go.RowKit Go.Maps
theorem MM.Zu {y:MG} {m:aK} {W:World}(h:MM y m W)(t:Int):MM y {m with now:=t}(W.setCell⟨y.G,0,none⟩(.int .u64 t))∧MU y m y {m with now:=t}W(W.setCell⟨y.G,0,none⟩(.int .u64 t)):=by
 have hg:W.grownBy(W.setCell⟨y.G,0,none⟩(.int .u64 t))(some y.G):=aa(aC _(some y.G))0 _;refine⟨⟨?_,h.yD.kept hg(.inr(aA h.yD h.blk(fun c e=>(by cases e)))),h.bG.kept hg(.inr(aA h.bG h.blk(fun c e=>(by cases e)))),h.len,fun i x s h1 h2=>(h.st i x s h1 h2).kept fun k hk=>hg.block k((h.st i x s h1 h2).lt hk)fun e=>(h.own h1 h2 hk).1(Option.some.inj e),h.ap⟩,Fx.grown hg fun k e=>by cases e;exact .inl rfl,fun k hk=> .inl hk,rfl,rfl,rfl,rfl⟩;simp [World.setCell,Array.getElem?_modify,h.blk]
def eP(m:aK)(k:Nat):aK×List Ev:=(List.range k).foldl aK.rP(m,[])
theorem yA(m:aK)(k:Nat):eP m(k+1)=aK.rP(eP m k)k:=by
 unfold eP;rw [List.range_succ,List.foldl_append];rfl
theorem Ir {z:aK×List Ev} {i:Nat}(h:(z.1.at' i).nd=none):aK.rP z i=z:=by
 unfold aK.rP;rw [h]
theorem Iq {z:aK×List Ev} {i:Nat} {s:St}(h:(z.1.at' i).nd=some s):aK.rP z i=((z.1.act i(s.j6 z.1.now)).1,z.2++(z.1.act i(s.j6 z.1.now)).2):=by
 unfold aK.rP;rw [h]
theorem GQ(φ:aK→Int×ByteArray→aK×List Ev)(hφ:∀m f,(φ m f).1.now=m.now)(m:aK)(i:Nat)(o:Ot):(m.iZ φ i o).1.now=m.now:=by
 have hg:∀(L:List(Int×ByteArray))(z:aK×List Ev),(L.foldl(tL φ)z).1.now=z.1.now:=by
  intro L
  induction L with
  |nil=>intro z;rfl
  |cons f L ih=>
   intro z;rw [List.foldl_cons,ih];exact hφ z.1 f
 unfold aK.iZ;split
 ·rfl
 ·split
  ·exact hg _ _
  ·rfl
theorem QZ(i:Nat)(m:aK)(f:Int×ByteArray):(m.m_ i f).1.now=m.now:=(iM m i f).2
theorem QX(i:Nat)(m:aK)(f:Int×ByteArray):(m.iO i f).1.now=m.now:=by
 unfold aK.iO;split
 ·exact(iM m i f).2
 ·split
  ·exact(iM m i f).2
  ·unfold aK.Be;rw [GQ _(QZ i)];exact(iM m i f).2
theorem X5(m:aK)(i:Nat)(z:St):(m.act i z).1.now=m.now∧(m.act i z).1.S.length=m.S.length:=by
 refine⟨GQ _(QX i)_ i _,?_⟩;show(aK.iZ(aK.iO i)(m.put i _)i _).1.S.length=_;rw [TF _(QY i),(gK _ _ _).1,List.length_set]
theorem TE(φ:aK→Int×ByteArray→aK×List Ev)(hφ:∀m f,(φ m f).2.length≤1)(m:aK)(i:Nat)(o:Ot):(m.iZ φ i o).2.length≤1+o.aH.length:=by
 cases hi:o.idle
 ·cases hw:((m.at' i).write o).2
  ·unfold aK.iZ;rw [if_neg(by simp [hi]),if_neg(by simp [hw])];simp
  ·rw [uX φ m i o hi hw];exact zW hφ m i o _(Nat.le_refl _)
 ·unfold aK.iZ;rw [if_pos hi];simp
theorem abF {y:MG} {m:aK} {w:World}(h:MM y m w) {κ:Int} {q:Nat}(hok:iC κ q m)(Gg:0≤κ∧κ≤90000000000)(hq:q≤4990)(n:Int)(fq:m.now+60000≤4611686018427387904):
  Calls Tryz.prog 31 #[.pointer(some⟨y.G,0,none⟩),.int .i64 n]w fun e w'=>iV y m(m.tick n).1(m.tick n).2 w.heap.size w e w'∧iC(κ+1000000)q(m.tick n).1:=by
 by_cases hn:n<1∨n>60000
 ·have ho:m.tick n=(m,[]):=by
   unfold aK.tick;rw [if_pos hn]
  have hfin:iV y m(m.tick n).1(m.tick n).2 w.heap.size w(.returned(.slice none 0 0))w∧iC(κ+1000000)q(m.tick n).1:=by
   rw [ho];exact⟨⟨_,[],rfl,rfl,gH.nil _ _,MP.refl h⟩,hok.up(by omega)(Nat.le_refl _)⟩
  replace hfin:=hide hfin;clear h ho hok;by_cases h1:n<1
  ·go_enter Tryz.func31,Tryz.ntmps31
   go_wp2
   go_ret
   exact hfin.out
  ·have h2:60000<n:=by omega
   go_enter Tryz.func31,Tryz.ntmps31
   go_wp2
   go_ret
   exact hfin.out
 ·have hn1:¬n<1:=fun h=>hn(.inl h);have hn2:¬60000<n:=fun h=>hn(.inr h);have ho:m.tick n=eP {m with now:=m.now+n}m.S.length:=by
   unfold aK.tick;rw [if_neg hn];rfl
  obtain⟨hs1,hu1⟩:=h.Zu(m.now+n);have hok1:iC κ q {m with now:=m.now+n}:=⟨hok.n,hok.bG,by have:=hok.now;dsimp only;omega,fun s hs=>(hok.st s hs).up(Int.le_refl _)(Nat.le_refl _)(by dsimp only;omega)⟩;obtain⟨c0,c1,_,fz⟩:=h.cell;have f0:=fz 0;obtain⟨sa,sc,hsv⟩:=h.svf;rw [hsv]at c1;have hw1:IntKind.u64.wrap n=n:=by
   simp only [IntKind.wrap,IntKind.signed,IntKind.bits];simp;omega
  have hw2:IntKind.u64.wrap(m.now+n)=m.now+n:=by
   have:=hok.now;simp only [IntKind.wrap,IntKind.signed,IntKind.bits];simp;omega
  rw [ho];have hnS:({m with now:=m.now+n}:aK).S.length=m.S.length:=rfl;obtain⟨m1,hm1⟩:∃m1,({m with now:=m.now+n}:aK)=m1:=⟨_,rfl⟩;rw [hm1]at hs1 hu1 hok1 hnS ⊢;have qH:Hid(∃y' L,MM y'(eP m1 0).1(w.setCell⟨y.G,0,none⟩(.int .u64(m.now+n)))∧MU y m y'(eP m1 0).1 w(w.setCell⟨y.G,0,none⟩(.int .u64(m.now+n)))∧iC(κ+100001 * (0:Nat))q(eP m1 0).1∧(eP m1 0).1.now=m1.now∧(eP m1 0).1.S.length=m.S.length∧gH w.heap.size(.slice none 0 0)L(w.setCell⟨y.G,0,none⟩(.int .u64(m.now+n)))∧L.map(·.1)=(eP m1 0).2∧L.length≤100001 * 0):=
   ⟨y,[],hs1,hu1,hok1.up(by omega)(Nat.le_refl _),rfl,hnS,gH.nil _ _,rfl,by simp⟩
  have u1:=hs1.cell.2.1;rw [hsv]at u1;have hmS:m.S.length≤6:=hok.n;obtain⟨i0,hi0,hz0,hz1,hz2⟩:=info_parts LA;clear h hs1 hu1 hok1 hok ho fz hm1;go_enter Tryz.func31,Tryz.ntmps31
  go_upto_region 4 with(fail)
  generalize World.setCell _ _ _=W1 at qH u1 ⊢;clear c0 c1 f0;go_wp2_with fail
  go_loopw [5,28](fun ev iv wr=>∃k:Nat,k≤m.S.length∧iv=.int .i64 k∧Hid(∃y' L,MM y'(eP m1 k).1 wr∧MU y m y'(eP m1 k).1 w wr∧iC(κ+100001 * k)q(eP m1 k).1∧(eP m1 k).1.now=m1.now∧(eP m1 k).1.S.length=m.S.length∧gH w.heap.size ev L wr∧L.map(·.1)=(eP m1 k).2∧L.length≤100001 * k))(fun _ iv _=>m.S.length - (intOf iv).toNat)
  case atStart=>exact⟨0,Nat.zero_le _,rfl,qH⟩
  case round=>
   clear qH u1;obtain⟨k,hk,rfl,hr⟩:=hrel;by_cases hkl:k<m.S.length
   ·have hki:(k:Int)<(m.S.length:Int):=by omega
    obtain⟨y',L,hm,hu,hmo,hN,Xd,hev,hL,Xk⟩:=hr.out;obtain⟨x,s,g,c,e1,e2,e3,e4,p0⟩:=hm.get(i:=k)(by rw [Xd];exact hkl);have hsa:sa=some⟨g,0,none⟩:=by
     have h5:=e4;rw [hu.sv,hsv]at h5;injection h5 with h5 _ _
    subst hsa;have c2:=(hm.st k x s e1 e2).cell.2.2.1;have hk1:k+1≤m.S.length:=by omega
    have hme:=jg hkl;cases hnd:s.nd with
    |none=>
     rw [hnd]at c2;unfold Lg at c2;have hr2:Hid(∃y' L,MM y'(eP m1(k+1)).1 wr∧MU y m y'(eP m1(k+1)).1 w wr∧iC(κ+100001 * (k+1:Nat))q(eP m1(k+1)).1∧(eP m1(k+1)).1.now=m1.now∧(eP m1(k+1)).1.S.length=m.S.length∧gH w.heap.size u5 L wr∧L.map(·.1)=(eP m1(k+1)).2∧L.length≤100001 * (k+1)):=by
      show ∃y' L,_;rw [yA,Ir(by rw [e3];exact hnd)];exact⟨y',L,hm,hu,hmo.up(by omega)(Nat.le_refl _),hN,Xd,hev,hL,by omega⟩
     have hw64:wrap64((k:Int)+1)=(k:Int)+1:=by unfold wrap64;omega
     clear hr hm hu hmo hev hL Xk e1 e2 e3 e4;go_wp2
     try rw [hw64]
     go_roundw
     case rel=>
      first
       |exact⟨k+1,hk1,by go_num,hr2⟩
       |exact⟨_,_,⟨k+1,hk1,by go_num,hr2⟩,rfl⟩
       |(repeat apply Exists.intro
        refine⟨⟨k+1,hk1,by go_num,hr2⟩,rfl⟩)
     case measure=>exact hme
    |some z=>
     rw [hnd]at c2;unfold Lg at c2;have hnk:=(hmo.at e2).nd z hnd;have hd1:Below wr.heap.size wr wr.drew:=(Below.refl _ _).drew;have hmd:=hm.later hd1;obtain⟨nn,tm⟩:=(hmd.st k x s e1 e2).nd z hnd;have Ie:=nn.MZ;have HT:=abD nn hnk.inv(by omega)tm hnk.pos m1.now⟨by have:=hnk.nw;rw [hN]at this;exact this,by have:=hmo.now.2;rw [hN]at this;exact this⟩;have q0:=hm.cell.1;rw [hN,hu.G]at q0;obtain⟨M,hMe⟩:∃M,(eP m1 k).1=M:=⟨_,rfl⟩;have hsucc:eP m1(k+1)=((M.act k(z.j6 m1.now)).1,(eP m1 k).2++(M.act k(z.j6 m1.now)).2):=by
      rw [yA,Iq(by rw [e3];exact hnd),hN,hMe]
     rw [hMe]at hm hu hmo hN Xd e2 e3 hmd;have HT2:Hid(Calls Tryz.prog 20 #[.pointer(some⟨x.N,0,none⟩),.int .u64 m1.now]wr.drew fun e w2=>∃aI bH bI y2,e=.returned(iE(z.j6 m1.now).aY(z.j6 m1.now).aZ aI bH bI)∧h_ wr.heap.size(z.j6 m1.now).aH(z.j6 m1.now).aR(z.j6 m1.now).aN aI bH bI w2∧wr.heap.size≤w2.heap.size∧MM y2(M.put k {s with nd:=some(z.j6 m1.now)})w2∧MU y' M y2(M.put k {s with nd:=some(z.j6 m1.now)})wr w2∧Bn(κ+100001 * k+1)q(M.put k {s with nd:=some(z.j6 m1.now)})k(z.j6 m1.now)):=by
      refine HT.mono ?_;rintro e w2⟨o,rfl,hI2,hcp⟩;obtain⟨s',hp1,hp2⟩:=Cy z m1.now Ie;have hrest:=yV hp1;have hcnt:=uY hp1;rw [←hp2]at hrest hcnt;obtain⟨aI,bH,bI,y2,rfl,hor,hm2,hu2,hdk⟩:=Ei hmd hmo e1 e2 hnd hcp hI2.out(V_ hnk.pos hnk.inv.tl.1 m1.now)hrest.1(hrest.2.trans hN.symm)(Nat.le_refl _)(Nat.le_trans(Zi _ _)hnk.ql)hcnt;exact⟨aI,bH,bI,y2,rfl,hor,hu2.fx.size,hm2,hu2.pre hd1,hdk⟩
     have hDD:Hid(∀aI bH bI y2 w2,h_ wr.heap.size(z.j6 m1.now).aH(z.j6 m1.now).aR(z.j6 m1.now).aN aI bH bI w2→wr.heap.size≤w2.heap.size→MM y2(M.put k {s with nd:=some(z.j6 m1.now)})w2→MU y' M y2(M.put k {s with nd:=some(z.j6 m1.now)})wr w2→Bn(κ+100001 * k+1)q(M.put k {s with nd:=some(z.j6 m1.now)})k(z.j6 m1.now)→Calls Tryz.prog 36 #[.pointer(some⟨y.G,0,none⟩),.int .i64 k,iE(z.j6 m1.now).aY(z.j6 m1.now).aZ aI bH bI]w2 fun e w3=>∃v2 L2,e=.returned v2∧L2.length≤100001∧w3.ownsRow w.heap.size 54 7 u5 L.length(EvC L)∧w3.ownsRow wr.heap.size 54 7 v2 L2.length(EvC L2)∧(∀u∈EvC L2,u.oneCell'=true)∧w.heap.size≤w3.heap.size∧∀v' w',w'.ownsRow w.heap.size 54 7 v'(L.length+L2.length)(EvC L++EvC L2)→w3.grownBy w' u5.ownBlock→∃y' L,MM y'(eP m1(k+1)).1 w'∧MU y m y'(eP m1(k+1)).1 w w'∧iC(κ+100001 * (k+1:Nat))q(eP m1(k+1)).1∧(eP m1(k+1)).1.now=m1.now∧(eP m1(k+1)).1.S.length=m.S.length∧gH w.heap.size v' L w'∧L.map(·.1)=(eP m1(k+1)).2∧L.length≤100001 * (k+1)):=by
      intro aI bH bI y2 w2 hor hsz hm2 hu2 hdk;have hd:=Eu hm2 hdk aI bH bI wr.heap.size hor hsz;rw [hu2.G,hu.G]at hd;refine hd.mono ?_;rintro e w3⟨v2,L2,rfl,hL2,mD,y3,nW,hu3⟩;have hl2:L2.length≤100001:=by
       have h6:=congrArg List.length hL2;rw [List.length_map]at h6;have h7:=TE(aK.iO k)(Fy k)(M.put k {s with nd:=some(z.j6 m1.now)})k(z.j6 m1.now).ot;obtain⟨_,_,h8⟩:=hdk.pre;have h9:=h8.nd.inv.frl;have h10:(z.j6 m1.now).ot.aH.length=(z.j6 m1.now).aH.length:=rfl;have h11:((M.put k {s with nd:=some(z.j6 m1.now)}).did k(z.j6 m1.now).ot).2.length=(aK.iZ(aK.iO k)(M.put k {s with nd:=some(z.j6 m1.now)})k(z.j6 m1.now).ot).2.length:=rfl;omega
      have ach:=hu2.trans hu3;have aaz:=hev.mesh hm ach.fx;have hut:=hu.trans ach;have hz0:=hu.fx.size;have hz3:=hut.fx.size;refine⟨v2,L2,rfl,hl2,aaz.row,mD.row,mD.one,hz3,fun v' w' ho' hg'=> ?_⟩;have hmk:=Eb hdk;have hac:=X5 M k(z.j6 m1.now);have hae:=Ad e2(z.j6 m1.now);have hbE:∀k5,oz y3((M.put k {s with nd:=some(z.j6 m1.now)}).did k(z.j6 m1.now).ot).1 k5→w'.heap[k5]?=w3.heap[k5]?:=fun k5 hk5=>hg'.block k5(nW.lt hk5)fun e5=>by
       obtain⟨cc,Oq⟩:=aP aaz.row e5.symm;exact nW.notE(by decide)Oq hk5
      rw [hsucc,hae];rw [hae]at hac;refine⟨y3,L++L2,nW.kept hbE,⟨aT hut.fx hg'(fun j5 hj5 e5=> ?_),fun k5 hk5=>(hut.sub k5 hk5).dh fun h=>⟨h.1,Nat.lt_of_lt_of_le h.2 hg'.size⟩,hut.G,hut.n,hut.sv,hut.B⟩,hmk.up(by omega)(Nat.le_refl _),hac.1.trans hN,hac.2.trans Xd,aaz.append mD hz0(fun x hx k5 hk5=>((hev.out x hx).lt hk5).2)ho' hg',?_,by rw [List.length_append];omega⟩
      ·have:=(hev.row.lt j5 e5).1;omega
      ·rw [List.map_append,hL,hL2]
     have Gj:Hid(∀n2,n2≤100001→L.length+n2≤maxLen∧(L.length+n2)* 112≤140737488355328):=fun n2 h2=>by unfold maxLen;omega
     have hw64:wrap64((k:Int)+1)=(k:Int)+1:=by unfold wrap64;omega
     obtain⟨zt,hzt⟩:∃zt,z.j6 m1.now=zt:=⟨_,rfl⟩;rw [hzt]at HT2 hDD;obtain⟨N,Te⟩:∃N,x.N=N:=⟨_,rfl⟩;rw [Te]at HT2 c2;clear hr hm hu hmo hev hL Xk e1 e2 e3 e4 HT hzt Te hsucc hMe hN Xd hnk nn tm Ie hmd hd1;go_upto_region 9 with(fail)
     go_region_law(first
      |(go_simp;go_at_call 20;refine HT2.out.mono ?_;rintro e w2⟨aI,bH,bI,y2,rfl,hor,hsz,hm2,hu2,hdk⟩;have Va:=hide(hDD.out _ _ _ _ _ hor hsz hm2 hu2 hdk);clear hor hsz hm2 hu2 hdk)
      |(go_simp;go_at_call 36;refine Va.out.mono ?_;rintro e w3⟨v2,L2,rfl,hl2,hr1,hr2,h1c,hbw,hnx⟩;replace hnx:=hide hnx;obtain⟨aar,aaq⟩:=Gj.out _ hl2)
      |(refine kr rfl(.tmp 38)(.tmp 50)29 rfl w.heap.size 54 i0(.agg #[.int .i64 0,.int .i64 0,.string⟨#[]⟩,.bool false,.slice none 0 0,.slice none 0 0,.slice none 0 0])7 112 Tryz.underlying29 hi0 hz0 hz1 hz2 rfl(by decide)u5 L.length(EvC L) ?h1 hr1 wr.heap.size v2 L2.length(EvC L2) ?h2 hr2 h1c aar aaq hbw ?_;(case h1=>simp [Act.eval,Act.put]);(case h2=>simp [Act.eval,Act.put]);intro v7 w7 gP eu;have pO:=hide(hnx.out v7 w7 gP eu)))
     all_goals
      clear Va hnx Gj HT2 hDD hr1 hr2 h1c;go_wp2
      try rw [hw64]
      go_roundw
      case rel=>
       first
        |exact⟨k+1,hk1,by go_num,pO⟩
        |exact⟨_,_,⟨k+1,hk1,by go_num,pO⟩,rfl⟩
        |(repeat apply Exists.intro
         refine⟨⟨k+1,hk1,by go_num,pO⟩,rfl⟩)
      case measure=>exact hme
   ·obtain rfl:k=m.S.length:=by omega
    obtain⟨y',L,hm,hu,hmo,hN,Xd,hev,hL,Xk⟩:=hr.out;have hfin:iV y m(eP m1 m.S.length).1(eP m1 m.S.length).2 w.heap.size w(.returned u5)wr∧iC(κ+1000000)q(eP m1 m.S.length).1:=⟨⟨_,L,rfl,hL,hev,y',hm,hu⟩,hmo.up(by omega)(Nat.le_refl _)⟩;replace hfin:=hide hfin;clear hr hm hu hmo hev hL Xk hN Xd;go_wp2
    go_ret
    exact hfin.out
end Go.Proofs.YtakaadcpaeiccabGreat
