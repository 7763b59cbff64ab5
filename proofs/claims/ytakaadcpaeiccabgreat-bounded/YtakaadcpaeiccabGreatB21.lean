import Derived.Test.YtakaadcpaeiccabGreatB20
set_option maxHeartbeats 8000000
set_option maxRecDepth 100000
namespace Go.Proofs.YtakaadcpaeiccabGreat
variable{c:sP}{k now' κ Sz:Int}{m:aP}{φ:aP->Int×ByteArray->aP×List Ev}{d i n q q':Nat}{s s':St}
theorem IQ(h:Pr c s s'):s'.cnt - s'.aY.length=s.cnt - s.aY.length∧s'.bq=s.bq:=by
 cases h with
 |yK h=>rw[h.cnt,h.aY,h.bq];exact⟨rfl,rfl⟩
 |tab _=>exact⟨rfl,rfl⟩
 |aG _ _ _ _ _=>exact⟨rfl,rfl⟩
 |grw=>exact⟨rfl,rfl⟩
 |mx _ _ _ _=>exact⟨rfl,rfl⟩
 |wr=>
  refine⟨?_,rfl⟩;show s.cnt+((bI s.seq s.own s.f s.A).2.length:Int) - ((s.aY++(bI s.seq s.own s.f s.A).2).length:Int)=_;rw[bZ];omega
theorem Vq(h:fJ c n s s'):s'.cnt - s'.aY.length=s.cnt - s.aY.length∧s'.bq=s.bq:=by
 induction h with
 |nil=>exact⟨rfl,rfl⟩
 |snoc _ k ih=>
  have h2:=IQ k;exact⟨h2.1.trans ih.1,h2.2.trans ih.2⟩
structure Js(c0:Int)(s:St):Prop where
 no:s.bq=false->s.cnt=c0+s.aY.length
 yes:s.bq=true->s.cnt=s.aY.length∧0<s.aY.length
theorem zI{c0:Int}(h1:s.cnt - s.aY.length=c0)(h2:s.bq=false∨(c0=0∧0<s.write.aY.length)):Js c0 s.finish:=by
 have hw:=IQ (c:=none) (.wr:Pr none s s.write);unfold St.finish;split
 ·refine⟨λh=> ?_,λ_=>⟨rfl,?_⟩⟩
  ·cases h
  ·have:=xN s.write;dsimp only;omega
 ·refine⟨λ_=>by omega,λh=> ?_⟩;have hr:s.bq=true:=by rw[<-hw.2];exact h
  rcases h2 with h2|⟨h2,h3⟩
  ·rw[h2]at hr;cases hr
  ·exact⟨by omega,h3⟩
theorem Ni(s:St)(now:Int):(s.begin now).cnt - (s.begin now).aY.length=s.cnt∧(s.begin now).bq=false:=by
 have hw:=IQ (c:=none) (.wr:Pr none {s with now:=now,A:=iM s.A now,aY:=[],aI:=[],aT:=[],aM:=[],bq:=false} ({s with now:=now,A:=iM s.A now,aY:=[],aI:=[],aT:=[],aM:=[],bq:=false}:St).write);refine⟨?_,hw.2⟩;have:=hw.1;simp only[List.length_nil]at this;show({s with now:=now,A:=iM s.A now,aY:=[],aI:=[],aT:=[],aM:=[],bq:=false}:St).write.cnt - _=_;have h2:(s.begin now)=({s with now:=now,A:=iM s.A now,aY:=[],aI:=[],aT:=[],aM:=[],bq:=false}:St).write:=rfl;rw[h2];omega
theorem uJ{now:Int}(h:fJ c n (s.locked.begin now) s'):Js s.cnt s'.finish.freed:=by
 have h1:=Ni s.locked now;have h2:=Vq h;have h3:=zI (c0:=s.cnt) (s:=s') (by rw[h2.1];exact h1.1) (.inl (h2.2.trans h1.2));exact⟨h3.no,h3.yes⟩
theorem DC(s:St)(now eu:Int):∃s',fJ none 2 (s.locked.begin now) s'∧s.brk now eu=s'.finish.freed:=by
 refine⟨_,fJ.trans (n:=1) (k:=1) (.one (.tab (.brk eu))) (tT none _ 0 (ng eu (s.locked.begin now).A) ?_),rfl⟩;intro x hx;obtain⟨y,hy,e⟩:=List.mem_filterMap.1 hx;unfold AP at e;split at e
 ·rename_i hc;cases e;simp only[jr]at hc;refine .inr ⟨cO eu 0 y,dO.2 ⟨y,hy,rfl⟩,fG _ _ y,?_,.inl (Int.le_max_right _ _)⟩;unfold cO;rw[aO (by simp[hc.1.1,hc.1.2])];exact iB _
 ·cases e
theorem PN{y:Rt}(h:y.Ok){fr q:Int}(hq:bg q):(cO fr q y).Ok:=by
 unfold cO;split
 ·exact uF h hq
 ·exact h
theorem Ww(s:St)(now eu:Int):(s.brk now eu).A=(iM s.A now).map (cO eu 0):=(aW _).A
theorem Vt(s:St)(now eu:Int):∀f∈(s.brk now eu).aI,f.1=0:=by
 intro f hf;have e:(s.brk now eu).aI=NU 0 (ng eu (s.locked.begin now).A):=(aW _).aI;rw[e]at hf;unfold NU at hf;split at hf
 ·cases hf
 ·rw[fD]at hf;rw[hf]
theorem Vs(h:s.Inv k)(hA:∀y∈s.A,y.Ok)(hl:s.A.length<=8)(now eu:Int)(hn:s.now<=now∧now<=4611686018427387904):(s.brk now eu).Inv (k+1)∧(∀y∈(s.brk now eu).A,y.Ok)∧(s.brk now eu).A.length<=8:=by
 have hm:=(pM h).2 now hn hA hl;have hA':∀y∈(iM s.A now).map (cO eu 0),y.Ok:=λy hy=>by
  obtain⟨z,hz,rfl⟩:=dO.1 hy;exact PN (KD hA now z hz) (by simp[bg])
 have hl':((iM s.A now).map (cO eu 0)).length<=8:=by rw[jq];unfold iM;rw[jq];exact hl
 have e1:=oQ (s.locked.begin now) (A:=(s.locked.begin now).A.map (cO eu 0)) (λy hy=>⟨_,dO.2 ⟨y,hy,rfl⟩,fG _ _ y⟩);have e2:=e1.trans (qg _ 0 (ng eu (s.locked.begin now).A));have hm2:=uf hm e2;refine⟨lK hm2 (by omega) hA' hl',?_,?_⟩
 ·rw[Ww];exact hA'
 ·rw[Ww];exact hl'
theorem Gh(s:St)(now eu:Int):(s.brk now eu).me=s.me∧(s.brk now eu).now=now∧(s.brk now eu).Q=s.Q:=⟨(aW _).me,(aW _).now,(aW _).Q⟩
theorem Vu(s:St)(now eu:Int):Js s.cnt (s.brk now eu):=by
 obtain⟨s',h1,h2⟩:=DC s now eu;rw[h2];exact uJ h1
structure VN(κ:Int)(q:Nat)(now:Int)(s:eU)(z:St):Prop where
 inv:z.Inv κ
 pos:z.Pos
 me:z.me=s.addr
 nw:z.now<=now
 ql:z.Q.length<=q
 ok:∀y∈z.A,y.Ok
 len:z.A.length<=8
structure AR(κ:Int)(q:Nat)(now:Int)(s:eU):Prop where
 addr:bg s.addr
 a0:s.addr≠0
 jb:∀x∈s.bD,0<=x∧x<=255
 jl:s.bD.length<=2000
 wh:0<=s.whole
 nd:∀z,s.nd=some z->VN κ q now s z
 jn:∀z,s.nd=some z->(s.bD.length:Int)=13 * z.cnt∧0<z.cnt
structure Gn(κ:Int)(q:Nat)(now:Int)(s:eU)(z:St):Prop where
 addr:bg s.addr
 a0:s.addr≠0
 jb:∀x∈s.bD,0<=x∧x<=255
 jl:s.bD.length<=2000
 wh:0<=s.whole
 hz:s.nd=some z
 nd:VN κ q now s z
 no:z.bq=false->13 * z.cnt=s.bD.length+13 * z.aY.length
 yes:z.bq=true->z.cnt=z.aY.length
 pos:0<z.cnt
structure iy(κ:Int)(q:Nat)(m:aP):Prop where
 n:m.S.length<=6
 bH:m.bH.length<=48
 now:0<=m.now∧m.now<=4611686018427387904
 st:∀s∈m.S,AR κ q m.now s
theorem Qb{k':Int}(h:s.Inv k)(hk:k<=k'):s.Inv k':=
 ⟨h.me,h.seq,h.now,h.mem,h.dom,h.cnt,by have:=h.tn;omega,by have:=h.tl;omega,h.lk,h.Af,h.yH,h.yI,h.Cn,h.bd,h.ZB,h.frl,h.cml,h.drl⟩
theorem VN.up{now:Int}{s s':eU}{z:St}(h:VN κ q now s z)(h1:κ<=Sz)(h2:q<=q')(h3:now<=now')(h4:s'.addr=s.addr):VN Sz q' now' s' z:=
 ⟨Qb h.inv h1,h.pos,h.me.trans h4.symm,by have:=h.nw;omega,by have:=h.ql;omega,h.ok,h.len⟩
theorem AR.up{now:Int}{s:eU}(h:AR κ q now s)(h1:κ<=Sz)(h2:q<=q')(h3:now<=now'):AR Sz q' now' s:=
 ⟨h.addr,h.a0,h.jb,h.jl,h.wh,λz hz=>(h.nd z hz).up h1 h2 h3 rfl,h.jn⟩
theorem iy.up(h:iy κ q m)(h1:κ<=Sz)(h2:q<=q'):iy Sz q' m:=⟨h.n,h.bH,h.now,λs hs=>(h.st s hs).up h1 h2 (iB _)⟩
theorem Gn.ZB{now:Int}{s:eU}{z:St}(h:Gn κ q now s z):z.aY.length<=24:=by
 have hc:=h.nd.inv.cnt;cases hr:z.bq
 ·have:=h.no hr;omega
 ·have:=h.yes hr;omega
theorem Gn.write{now:Int}{s:eU}{z:St}(h:Gn κ q now s z):AR κ q now (s.write z.ot).1:=by
 have hn:=h.ZB;have hc:=h.nd.inv.cnt;have hbd:=Dp h.nd.inv.bd;have hfl:=gU z.aY;have hjl:=h.jl;by_cases h1:z.aY≠ []∨z.bq=true
 ·cases ht:s.tears
  ·rw[eU.kI (o:=z.ot) h1 ht];show AR κ q now {s with bD:=(if z.bq then []else s.bD)++bA z.aY};have hlen:(((if z.bq then []else s.bD)++bA z.aY).length:Int)=13 * z.cnt:=by
    cases hr:z.bq
    ·have:=h.no hr;simp only[Bool.false_eq_true,if_false,bZ,hfl];omega
    ·have:=h.yes hr;simp only[if_true,List.nil_append,hfl];omega
   refine⟨h.addr,h.a0,λx hx=> ?_,?_,h.wh,λu hu=> ?_,λu hu=> ?_⟩
   ·rcases fA.1 hx with hx|hx
    ·split at hx
     ·cases hx
     ·exact h.jb x hx
    ·exact hbd x hx
   ·dsimp only;omega
   ·have hu':s.nd=some u:=hu;rw[h.hz]at hu';cases hu';exact h.nd.up (iB _) (aA _) (iB _) rfl
   ·have hu':s.nd=some u:=hu;rw[h.hz]at hu';cases hu';exact⟨hlen,h.pos⟩
  ·rw[eU.rf (o:=z.ot) h1 ht];show AR κ q now ({s with bD:=if z.bq then s.bD else s.bD++(bA z.aY).take s.whole.toNat}:eU).stop;refine⟨h.addr,h.a0,λx hx=> ?_,?_,iB _,λu hu=>(by cases hu),λu hu=>(by cases hu)⟩
   ·have hx':x∈(if z.bq then s.bD else s.bD++(bA z.aY).take s.whole.toNat):=hx;split at hx'
    ·exact h.jb x hx'
    ·rcases fA.1 hx' with hx'|hx'
     ·exact h.jb x hx'
     ·exact hbd x (List.mem_of_mem_take hx')
   ·show(if z.bq then s.bD else s.bD++(bA z.aY).take s.whole.toNat).length<=2000;cases hr:z.bq
    ·have h5:=h.no hr;simp only[Bool.false_eq_true,if_false,bZ,List.length_take,hfl];omega
    ·simp only[if_true];exact hjl
 ·simp only[not_or,Classical.not_not]at h1;obtain⟨h1,h2⟩:=h1;have h2':z.bq=false:=by simpa using h2
  rw[eU.sU (o:=z.ot) h1 h2'];have h5:=h.no h2';rw[h1]at h5;simp only[List.length_nil]at h5;exact⟨h.addr,h.a0,h.jb,h.jl,h.wh,λu hu=>by rw[h.hz]at hu;cases hu;exact h.nd,λu hu=>by
   rw[h.hz]at hu;cases hu;refine⟨?_,h.pos⟩;show(s.bD.length:Int)=13 * z.cnt;omega⟩
theorem AR.call{now:Int}{s:eU}{z z':St}(h:AR κ q now s)(hz:s.nd=some z)(hc:Js z.cnt z')(hn:VN κ q now s z'):Gn κ q now {s with nd:=some z'} z':=
 ⟨h.addr,h.a0,h.jb,h.jl,h.wh,rfl,hn.up (iB _) (aA _) (iB _) rfl,λhr=>by
  have h1:=hc.no hr;have h2:=(h.jn z hz).1;show 13 * z'.cnt=(s.bD.length:Int)+13 * z'.aY.length;omega,λhr=>(hc.yes hr).1,by
  have h3:=(h.jn z hz).2;cases hr:z'.bq
  ·have:=hc.no hr;omega
  ·have:=hc.yes hr;omega⟩
structure A7(κ:Int)(q:Nat)(m:aP)(i:Nat)(z:St):Prop where
 n:m.S.length<=6
 bH:m.bH.length<=48
 now:0<=m.now∧m.now<=4611686018427387904
 st:∀j s,m.S[j]?=some s->j≠i->AR κ q m.now s
 pre:∃s,m.S[i]?=some s∧Gn κ q m.now s z
theorem gG(m:aP)(i:Nat)(s:eU):(m.put i s).S=m.S.set i s∧(m.put i s).now=m.now∧(m.put i s).bH=m.bH:=⟨rfl,rfl,rfl⟩
theorem A7.write{z:St}(h:A7 κ q m i z):iy κ q (m.put i ((m.at' i).write z.ot).1):=by
 obtain⟨s,h1,h2⟩:=h.pre;rw[gL h1];refine⟨by rw[(gG _ _ _).1,List.length_set];exact h.n,h.bH,h.now,λu hu=> ?_⟩;rw[(gG _ _ _).1]at hu;obtain⟨j,hj⟩:=List.getElem?_of_mem hu;rcases dz hj with⟨_,rfl⟩|⟨hne,hj⟩
 ·exact h2.write
 ·exact h.st j u hj hne
theorem iy.at(h:iy κ q m){i:Nat}{s:eU}(hs:m.S[i]?=some s):AR κ q m.now s:=h.st s (jY hs)
theorem iy.bU(h:iy κ q m)(i:Nat)(f:Int×ByteArray):iy κ q (m.bU i f):=by
 have hS:=nH m i f m.S.length;have ha:=yj m i f m.S.length h.bH;rw[oh]at hS ha;exact⟨by rw[hS.1];exact h.n,ha,by rw[hS.2];exact h.now,λs hs=>by rw[hS.2];rw[hS.1]at hs;exact h.st s hs⟩
theorem iy.called(h:iy κ q m)(FD:κ<=Sz)(hq:q<=q'){i:Nat}{s:eU}{z z':St}(hs:m.S[i]?=some s)(hz:s.nd=some z)(hc:Js z.cnt z')(hn:VN Sz q' m.now s z'):A7 Sz q' (m.put i {s with nd:=some z'}) i z':=by
 refine⟨by rw[(gG _ _ _).1,List.length_set];exact h.n,h.bH,h.now,λj u hj hne=> ?_,?_⟩
 ·rw[(gG _ _ _).1]at hj;rcases dz hj with⟨e,_⟩|⟨_,hj⟩
  ·exact absurd e hne
  ·exact(h.at hj).up FD hq (iB _)
 ·refine⟨_,?_,((h.at hs).up FD hq (iB _)).call hz hc hn⟩;rw[(gG _ _ _).1,List.getElem?_set_self (gm.1 hs).1]
theorem iy.broken(h:iy κ q m){i:Nat}{s:eU}{z:St}(hs:m.S[i]?=some s)(hz:s.nd=some z)(t:Int):A7 (κ+1) q (m.put i {s with nd:=some (z.brk m.now t)}) i (z.brk m.now t):=by
 have hn:=(h.at hs).nd z hz;obtain⟨h1,h2,h3⟩:=Vs hn.inv hn.ok hn.len m.now t ⟨hn.nw,h.now.2⟩;obtain⟨e1,e2,e3⟩:=Gh z m.now t;refine h.called (by omega) (aA _) hs hz (Vu z m.now t) ⟨h1,λu hu=> ?_,e1.trans hn.me,by rw[e2];exact iB _,by rw[e3];exact hn.ql,h2,h3⟩;rw[e3]at hu;exact hn.pos u hu
theorem A7.toM{z:St}(h:A7 κ q m i z)(hi:z.ot.idle=true):iy κ q m:=by
 obtain⟨s,h1,h2⟩:=h.pre;have hw:=h.write;rw[CW]at hi;simp only[jr,qE,Bool.not_eq_true']at hi;rw[gL h1,eU.sU hi.1.1 hi.1.2]at hw;refine⟨h.n,h.bH,h.now,λu hu=> ?_⟩;obtain⟨j,hj⟩:=List.getElem?_of_mem hu;by_cases e:j=i
 ·subst e;rw[h1]at hj;cases hj;refine hw.at (i:=j) ?_;rw[(gG _ _ _).1,List.getElem?_set_self (gm.1 h1).1]
 ·exact h.st j u hj e
theorem FX(hφ:∀κ m f,iy κ q m->iy (κ+d) q (φ m f).1):∀(L:List (Int×ByteArray)) (κ:Int) (z:aP×List Ev),iy κ q z.1->iy (κ+d * L.length) q (L.foldl (sG φ) z).1
 | [],κ,z,h=>by simpa using h
 |f::L,κ,z,h=>by
  rw[iH];have h1:=FX hφ L (κ+d) (sG φ z f) (hφ κ z.1 f h);refine h1.up ?_ (aA _);rw[dR,Int.natCast_add,Int.mul_add];omega
theorem Dx(hφ:∀κ m f,iy κ q m->iy (κ+d) q (φ m f).1){κ:Int}{m:aP}{i:Nat}{z:St}(h:A7 κ q m i z)(k:Nat)(hk:k<=z.aI.length):iy (κ+d * k) q (jd φ m i z.ot k).1:=by
 have h1:=FX hφ (z.aI.take k) κ (m.put i ((m.at' i).write z.ot).1,[⟨i,0,z.ot⟩]) h.write;rw[List.length_take,Nat.min_eq_left hk]at h1;exact h1
theorem KF(hφ:∀κ m f,iy κ q m->iy (κ+d) q (φ m f).1){κ:Int}{m:aP}{i:Nat}{z:St}(h:A7 κ q m i z):iy (κ+d * z.aI.length) q (m.jc φ i z.ot).1:=by
 cases hi:z.ot.idle
 ·cases hw:((m.at' i).write z.ot).2
  ·unfold aP.jc;rw[aD (by simp[hi]),aD (by simp[hw])];exact h.write.up (by have:=Int.mul_nonneg (Int.natCast_nonneg d) (Int.natCast_nonneg z.aI.length);omega) (aA _)
  ·rw[uI φ m i z.ot hi hw];exact Dx hφ h z.aI.length (aA _)
 ·unfold aP.jc;rw[aO hi];exact(h.toM hi).up (by have:=Int.mul_nonneg (Int.natCast_nonneg d) (Int.natCast_nonneg z.aI.length);omega) (aA _)
theorem JS(i:Nat):∀(κ:Int) (m:aP) (f:Int×ByteArray),iy κ q m->iy (κ+(0:Nat)) q (m.mX i f).1:=λκ m f h=>(h.bU i f).up (by omega) (aA _)
theorem O8(i:Nat)(m:aP)(f:Int×ByteArray):(m.mX i f).2.length<=1:=bX _
theorem Gb(hφ:∀m f,(φ m f).2=[]):∀(L:List (Int×ByteArray)) (z:aP×List Ev),(L.foldl (sG φ) z).2=z.2
 | [],_=>rfl
 |f::L,z=>by
  rw[iH,Gb hφ L];unfold sG;rw[hφ,gX]
theorem Q8(m:aP)(i:Nat)(o:Ot):(m.AO i o).2.length<=1:=by
 unfold aP.AO aP.jc;split
 ·exact bX _
 ·split
  ·rw[show(λ(z:aP×List Ev) (f:Int×ByteArray)=>((aP.mX i z.1 f).1,z.2++(aP.mX i z.1 f).2))=sG (aP.mX i)from rfl,Gb (λ_ _=>rfl)];exact aA _
  ·exact aA _
theorem ES(i:Nat)(m:aP)(f:Int×ByteArray):(m.iL i f).2.length<=1:=by
 unfold aP.iL;split
 ·exact bX _
 ·split
  ·exact bX _
  ·exact Q8 _ _ _
theorem JR(i:Nat):∀(κ:Int) (m:aP) (f:Int×ByteArray),iy κ q m->iy (κ+(1:Nat)) q (m.iL i f).1:=by
 intro κ m f h;have hf:=h.bU i f;unfold aP.iL;split
 ·exact hf.up (by omega) (aA _)
 ·split
  ·exact hf.up (by omega) (aA _)
  ·rename_i s hs;have hS:=(nH m i f m.S.length);rw[oh]at hS;obtain⟨u,hu⟩:∃u,(m.bU i f).S[i]?=some u:=by
    cases hu:(m.bU i f).S[i]? with
    |some u=>exact⟨u,rfl⟩
    |none=>
     unfold aP.at' at hs;rw[List.getD_eq_getElem?_getD,hu]at hs;cases hs
   rw[gL hu]at hs ⊢;have hb:=hf.broken hu hs f.1;rw[hS.2]at hb;have:=KF (JS i) hb;exact this.up (by omega) (aA _)
open Go.RowKit Go.Maps
variable{κ:Int}{y:MG}{m:aP}{i q:Nat}{w:World}
theorem A7.pre'{z:St}(h:A7 κ q m i z):∃s,m.S[i]?=some s∧m.at' i=s∧Gn κ q m.now s z:=by
 obtain⟨s,h1,h2⟩:=h.pre;exact⟨s,h1,gL h1,h2⟩
theorem iy.node(h:iy κ q m){i:Nat}(hi:i<m.S.length){z:St}(hz:(m.at' i).nd=some z):VN κ q m.now (m.at' i) z:=by
 have hs:m.S[i]?=some m.S[i]:=bW hi;rw[gL hs]at hz ⊢;exact(h.at hs).nd z hz
theorem IL(φ:aP->Int×ByteArray->aP×List Ev)(hφ:∀m f,(φ m f).1.S.length=m.S.length)(m:aP)(i:Nat)(o:Ot)(k:Nat):(jd φ m i o k).1.S.length=m.S.length:=by
 have hg:∀(L:List (Int×ByteArray)) (z:aP×List Ev),(L.foldl (sG φ) z).1.S.length=z.1.S.length:=by
  intro L
  induction L with
  |nil=>intro z;rfl
  |cons f L ih=>
   intro z;rw[iH,ih];exact hφ z.1 f
 unfold jd;rw[hg,(gG _ _ _).1,List.length_set]
theorem g_(m:aP)(i:Nat)(f:Int×ByteArray):(m.bU i f).S=m.S∧(m.bU i f).now=m.now:=by
 have:=nH m i f m.S.length;rw[oh]at this;exact this
theorem Q7(φ:aP->Int×ByteArray->aP×List Ev)(hφ:∀m f,(φ m f).1.S.length=m.S.length)(m:aP)(i:Nat)(o:Ot):(m.jc φ i o).1.S.length=m.S.length:=by
 cases hi:o.idle
 ·cases hw:((m.at' i).write o).2
  ·unfold aP.jc;rw[aD (by simp[hi]),aD (by simp[hw])];rw[(gG _ _ _).1,List.length_set]
  ·rw[uI φ m i o hi hw];exact IL φ hφ m i o _
 ·unfold aP.jc;rw[aO hi]
theorem O9(i:Nat)(m:aP)(f:Int×ByteArray):(m.mX i f).1.S.length=m.S.length:=by
 show(m.bU i f).S.length=_;rw[(g_ m i f).1]
theorem O6(i:Nat)(m:aP)(f:Int×ByteArray):(m.iL i f).1.S.length=m.S.length:=by
 unfold aP.iL;split
 ·dsimp only;rw[(g_ m i f).1]
 ·split
  ·dsimp only;rw[(g_ m i f).1]
  ·unfold aP.AO;rw[Q7 _ (O9 i),(gG _ _ _).1,List.length_set,(g_ m i f).1]
theorem Zr(h:MM y m w){κ:Int}{q:Nat}{i:Nat}{z:St}(hd:A7 κ q m i z)(h0:∀f∈z.aI,f.1=0)(aG bL bN:Value)(b:Nat)(hor:gV b z.aI z.aT z.aM aG bL bN w)(hb:b<=w.heap.size):
  Calls Tryz.prog 36 #[.pointer (some ⟨y.G,0,none⟩),.int .i64 i,iC z.bD z.bq aG bL bN] w (iW y m (m.AO i z.ot).1 (m.AO i z.ot).2 b w):=by
 obtain⟨s,h1,h2,h3⟩:=hd.pre';have hi:=(gm.1 h1).1;have hI:=h3.nd.inv;have hnw:=h3.ZB;refine WG h i hi hd.n (aP.mX i) z.ot aG bL bN b hor hb hI.bd (by show z.aY.length<=_;omega) ⟨hI.frl,hI.cml,hI.drl⟩ (by rw[h2];have:=h3.jl;omega) (by rw[h2];exact h3.wh) (O8 i) ?_;intro k f hf _ _ y1 w1 hm1;have hk:=(gm.1 hf).1;have hok:=Dx (JS i) hd k (Nat.le_of_lt hk);have hS:=IL (aP.mX i) (O9 i) m i z.ot k;have hf0:=h0 f (jY hf);have e:aP.iL i (jd (aP.mX i) m i z.ot k).1 f=aP.mX i (jd (aP.mX i) m i z.ot k).1 f:=by
  unfold aP.iL;rw[aO (.inr hf0)];rfl
 rw[<-e];exact wT hm1 i (by rw[hS];exact hi) hok.n hok.bH f (λu hu=>⟨_,(hok.node (by rw[hS];exact hi) hu).inv,(hok.node (by rw[hS];exact hi) hu).nw⟩) hok.now.2 (λhne=>absurd hf0 hne)
theorem DX(h:MM y m w){κ:Int}{q:Nat}{i:Nat}{z:St}(hd:A7 κ q m i z)(aG bL bN:Value)(b:Nat)(hor:gV b z.aI z.aT z.aM aG bL bN w)(hb:b<=w.heap.size):
  Calls Tryz.prog 36 #[.pointer (some ⟨y.G,0,none⟩),.int .i64 i,iC z.bD z.bq aG bL bN] w (iW y m (m.did i z.ot).1 (m.did i z.ot).2 b w):=by
 obtain⟨s,h1,h2,h3⟩:=hd.pre';have hi:=(gm.1 h1).1;have hI:=h3.nd.inv;have hnw:=h3.ZB;refine WG h i hi hd.n (aP.iL i) z.ot aG bL bN b hor hb hI.bd (by show z.aY.length<=_;omega) ⟨hI.frl,hI.cml,hI.drl⟩ (by rw[h2];have:=h3.jl;omega) (by rw[h2];exact h3.wh) (ES i) ?_;intro k f hf _ _ y1 w1 hm1;have hk:=(gm.1 hf).1;have hok:=Dx (JR i) hd k (Nat.le_of_lt hk);have hS:=IL (aP.iL i) (O6 i) m i z.ot k;refine wT hm1 i (by rw[hS];exact hi) hok.n hok.bH f (λu hu=>⟨_,(hok.node (by rw[hS];exact hi) hu).inv,(hok.node (by rw[hS];exact hi) hu).nw⟩) hok.now.2 ?_;intro _ u hu y2 w2 b2 adg adn adi hm2 hb2 hor2;have hsf:=hok.bU i f;obtain⟨eS,eN⟩:=g_ (jd (aP.iL i) m i z.ot k).1 i f;obtain⟨v,hv⟩:∃v,((jd (aP.iL i) m i z.ot k).1.bU i f).S[i]?=some v:=⟨_,bW (by rw[eS,hS];exact hi)⟩;rw[gL hv]at hu hm2 ⊢;have hbk:=hsf.broken hv hu f.1;rw[eN]at hbk;exact Zr hm2 hbk (Vt u _ _) adg adn adi b2 hor2 hb2
theorem Dw{z:St}(hd:A7 κ q m i z):iy (κ+100000) q (m.did i z.ot).1:=by
 have h:=KF (JR i) hd;obtain⟨s,_,_,h3⟩:=hd.pre';have:=h3.nd.inv.frl;exact h.up (by omega) (aA _)
variable{q:Sr}{s:St}
theorem QX(A:List Rt)(now:Int):∀y∈iM A now,y.valid=true->now<y.exp:=by
 intro y hy hv;obtain⟨z,hz,rfl⟩:=dO.1 hy;unfold sF at hv ⊢;split at hv
 ·cases hv
 ·rename_i h;rw[aD h];unfold Na at h;simp only[jr,qE,not_and]at h;have:=h hv;omega
theorem EL(s:St)(fr:Int)(p:aC)(L:List (Int×Int))(hk:p.kind=1∨p.kind=2∨p.kind=3∨p.kind=9)(h4:∀q∈s.Q,q.txt.length<=4)(hx:∀y∈s.A,y.valid=true->s.now<y.exp):fJ (some (fr,p,L)) (L.length+15) s (s.gT fr p L):=by
 unfold St.gT;split
 ·exact(yE _ s fr p).up (by omega)
 ·split
  ·rename_i h;exact(wX s fr p L h).up (by omega)
  ·split
   ·rename_i h;exact(Ao s fr p L h h4).up (by omega)
   ·split
    ·exact(Cq s fr p L).up (by omega)
    ·rename_i h1 h2 h3;have h9:p.kind=9:=by
      rcases hk with h|h|h|h
      ·exact absurd h h1
      ·exact absurd h h2
      ·exact absurd h h3
      ·exact h
     exact(Cr s fr p L h9 hx).up (by omega)
theorem OW(x0 x1 x2 x4:Int)(r:List Int):(iZ x0 x1 x2 x4 r).kind=x1:=by
 unfold iZ;split
 ·rename_i h;exact h.symm
 ·split
  ·rename_i h;exact h.symm
  ·split
   ·rename_i h;exact h.symm
   ·split
    ·rename_i h;exact h.symm
    ·rfl
theorem H8{xs:List Int}(h:D_ xs=true):(iZ (xs.getD 0 0) (xs.getD 1 0) (xs.getD 2 0) (xs.getD 4 0) (xs.drop 5)).kind=xs.getD 1 0∧(xs.getD 1 0=1∨xs.getD 1 0=2∨xs.getD 1 0=3∨xs.getD 1 0=9):=by
 refine⟨OW _ _ _ _ _,?_⟩
 match xs,h with
 |x0::x1::x2::x3::x4::r,h=>
  simp only[D_,jr]at h;have hk:=(l6 h.2).2.2.2.2.2.2;rw[OW]at hk;show x1=1∨x1=2∨x1=3∨x1=9;rcases hk with h|h|h|h
  ·exact .inl h
  ·exact .inr (.inl h)
  ·exact .inr (.inr (.inr h))
  ·exact .inr (.inr (.inl h.1))
def V5(fr:Int)(xs:List Int):sP:=some (fr,iZ (xs.getD 0 0) (xs.getD 1 0) (xs.getD 2 0) (xs.getD 4 0) (xs.drop 5),pO (xs.getD 1 0) (xs.getD 4 0) (xs.drop 5))
theorem OT(s:St)(fr:Int)(xs:List Int)(h4:∀q∈s.Q,q.txt.length<=4)(hx:∀y∈s.A,y.valid=true->s.now<y.exp):fJ (V5 fr xs) ((pO (xs.getD 1 0) (xs.getD 4 0) (xs.drop 5)).length+15) s (s.hear fr xs):=by
 unfold St.hear;split
 ·exact(fF _ s 0).up (by omega)
 ·rename_i h;simp only[not_or]at h;have hF:D_ xs=true:=by simpa using h.1
  obtain⟨h1,h2⟩:=H8 hF;exact EL s fr _ _ (by rw[h1];exact h2) h4 hx
theorem xH(s:St)(now fr:Int)(xs:List Int)(h4:∀q∈s.Q,q.txt.length<=4):∃n s',fJ (V5 fr xs) n (s.locked.begin now) s'∧s.rcv now fr xs=s'.finish.freed:=
 ⟨_,_,OT _ fr xs h4 (QX s.A now),rfl⟩
theorem Cc(s:St)(now d:Int)(t:ByteArray):∃n s',fJ none n (s.locked.begin now) s'∧s.snd now d t=s'.finish.freed:=by
 unfold St.snd St.sends;dsimp only;split
 ·exact⟨_,_,tQ none _ d t,rfl⟩
 ·exact⟨_,_,LH none _ d t,rfl⟩
def lq(s:St):Prop:=∀q∈s.Q,q.txt.length<=4∧1<=q.ttl∧q.ttl<=8
theorem tL(h:lq s)(hq:q.txt.length<=4∧1<=q.ttl∧q.ttl<=8):lq (s.ask q):=by
 intro z hz;obtain⟨o,h1,_⟩:∃o,(s.ask q).Q=_∧True:=⟨(),rfl,trivial⟩;unfold St.ask at hz;split at hz
 ·rcases eY hz with rfl|⟨k1,_⟩
  ·exact hq
  ·exact h z k1
 ·split at hz
  ·rcases eY hz with rfl|⟨k1,_⟩
   ·exact hq
   ·exact h z k1
  ·rcases eY hz with rfl|⟨k1,_⟩
   ·exact hq
   ·exact h z k1
theorem EJ(h:lq s)(d:Int):lq (s.sendAll d):=λz hz=>h z ((Bh s d).1 z hz)
theorem EI(h:lq s)(hq:q.txt.length<=4∧1<=q.ttl∧q.ttl<=8):lq (s.step q):=by
 unfold St.step;split
 ·exact EJ h _
 ·split
  ·unfold St.widen;split
   ·exact tL h ⟨hq.1,by dsimp only;omega⟩
   ·split
    ·exact tL h ⟨hq.1,by dsimp only;omega⟩
    ·split
     ·exact tL h hq
     ·exact λz hz=>h z (List.mem_filter.1 hz).1
  ·exact tL h hq
theorem Bl:∀(D:List Sr) (s:St),(∀q∈D,q.txt.length<=4∧1<=q.ttl∧q.ttl<=8)->lq s->fJ none (13 * D.length) s (D.foldl St.step s)
 | [],s,_,_=> .nil _ _
 |q::D,s,hD,h=>by
  rw[iH,dR];have hq:=hD q jo;exact((OQ none s q ⟨hq.2.1,hq.2.2⟩ (λz hz=>(h z hz).1)).trans (Bl D (s.step q) (λz hz=>hD z (kU _ hz)) (EI h hq))).up (by omega)
theorem F6{Q:List Sr}{now:Int}(h:q∈St.lF Q now):q∈Q:=by
 unfold St.lF at h;exact(List.mem_filter.1 ((List.mergeSort_perm _ _).mem_iff.1 h)).1
theorem BX(s:St)(now:Int)(h:lq s):∃s',fJ none (13 * (St.lF s.Q now).length) (s.locked.begin now) s'∧s.kJ now=s'.finish.freed:=
 ⟨_,Bl (St.lF s.Q now) (s.locked.begin now) (λq hq=>h q (F6 hq)) h,rfl⟩
theorem Ve(s:St):s.finish.freed.me=s.me∧s.finish.freed.now=s.now∧s.finish.freed.Q=s.Q:=⟨(aW s).me,(aW s).now,(aW s).Q⟩
theorem yD{c:sP}{n:Nat}{s':St}{now:Int}(h:fJ c n (s.locked.begin now) s'):s'.finish.freed.me=s.me∧s'.finish.freed.now=now:=by
 obtain⟨h1,h2,_⟩:=Ve s';exact⟨h1.trans h.me,h2.trans h.now⟩
theorem zL(s:St)(q:Sr):(s.ask q).Q.length=s.Q.length:=by
 obtain⟨o,h1,_⟩:=KJ s q;rw[h1,nG]
theorem rG(s:St)(d:Int):(s.sendAll d).Q.length<=s.Q.length:=by
 unfold St.sendAll;split
 ·exact aA _
 ·split
  ·exact List.length_filter_le _ _
  ·exact aA _
theorem Tx(s:St)(q:Sr):(s.step q).Q.length<=s.Q.length:=by
 unfold St.step;split
 ·exact rG _ _
 ·split
  ·unfold St.widen;split
   ·rw[zL];exact aA _
   ·split
    ·rw[zL];exact aA _
    ·split
     ·rw[zL];exact aA _
     ·exact List.length_filter_le _ _
  ·rw[zL];exact aA _
theorem Ep:∀(D:List Sr) (s:St),(D.foldl St.step s).Q.length<=s.Q.length
 | [],_=>aA _
 |q::D,s=>by
  rw[iH];exact dF (Ep D _) (Tx s q)
theorem WR(s:St)(now:Int):(s.kJ now).Q.length<=s.Q.length:=by
 show((St.lF s.Q now).foldl St.step (s.locked.begin now)).finish.Q.length<=_;rw[(aW _).Q];exact Ep _ _
theorem WZ(s:St)(now d:Int)(t:ByteArray):(s.snd now d t).Q.length<=s.Q.length+1:=by
 show(if (bJ (s.locked.begin now).A d (s.locked.begin now).now).2 then(s.locked.begin now).aX d t else(s.locked.begin now).await d t).finish.Q.length<=_;rw[(aW _).Q];split
 ·rw[(iY _ _ _).1];exact Nat.le_succ _
 ·unfold St.await;split
  ·unfold St.hold;split<;>(dsimp only;rw[nG];exact Nat.le_succ _)
  ·rw[zL];show((s.locked.begin now).Q++ [_]).length<=_;rw[bZ];exact aA _
theorem uM(s:St)(p:aC):(s.answer p).Q=s.Q:=by unfold St.answer;split<;>rfl
theorem qP(s:St)(fr:Int)(p:aC):(s.dm fr p).Q=s.Q:=by
 have ha:∀s:St,(s.asked p).Q=s.Q:=λs=>by
  unfold St.asked;split
  ·unfold St.iD;rw[uM]
  ·split
   ·unfold St.gM;rw[uM]
   ·split<;>rfl
 unfold St.dm;split
 ·rfl
 ·unfold St.learn;split
  ·rfl
  ·split
   ·rw[ha]
   ·rw[ha]
theorem XA(s:St)(t:Int)(L:List (Int×Int)):(s.lose t L).Q=s.Q:=rfl
theorem UG(s:St)(fr:Int)(xs:List Int):(s.hear fr xs).Q.length<=s.Q.length:=by
 unfold St.hear;split
 ·exact aA _
 ·unfold St.gT;split
  ·unfold St.eH;split<;>exact aA _
  ·split
   ·rw[qP];exact aA _
   ·split
    ·unfold St.fC;split
     ·exact aA _
     ·dsimp only;split
      ·exact aA _
      ·split
       ·split
        ·exact rG _ _
        ·exact rG _ _
       ·split
        ·exact aA _
        ·unfold St.iJ;split<;>exact aA _
    ·split
     ·unfold St.gZ;dsimp only;rw[XA];split<;>exact aA _
     ·unfold St.fH;split
      ·exact aA _
      ·split
       ·exact aA _
       ·split<;>exact aA _
theorem aaj(s:St)(now fr:Int)(xs:List Int):(s.rcv now fr xs).Q.length<=s.Q.length:=by
 show((s.locked.begin now).hear fr xs).finish.Q.length<=_;rw[(aW _).Q];exact UG _ _ _
theorem TT(h:s.Pos)(now fr:Int)(xs:List Int)(hb:∀x∈xs,0<=x∧x<=255)(h4:∀q∈s.Q,q.txt.length<=4):(s.rcv now fr xs).Pos:=by
 intro q hq;have hq':q∈((s.locked.begin now).hear fr xs).Q:=by
  have e:=(aW ((s.locked.begin now).hear fr xs)).Q;rw[<-e];exact hq
 exact h q ((zC (s.locked.begin now) fr xs hb h4).qs q hq')
variable{B N:Nat}{s:St}{w:World}
theorem FP(w:World):
  Calls Tryz.prog 94 #[] w λe w'=>e=.returned (.agg #[.nilFunc,.func (.func 130) #[] #[],.func (.func 131) #[] #[],.func (.func 132) #[] #[],.nilFunc,.nilFunc,.nilFunc,.nilFunc,.nilFunc,.func (.func 133) #[] #[]])∧Below w.heap.size w w':=by
 go_enter Tryz.func94,Tryz.ntmps94;go_wp2;go_returns;exact⟨rfl,bn⟩
theorem Cj(s:St)(t:Int)(p:aC)(ao:Option Addr)(c:Nat)(L:List (Int×Int)):s.send t {p with la:=ao,lc:=c} L=s.send t p L:=by
 unfold St.send;rw[KE]
theorem Rp(s:St)(p:aC)(ao:Option Addr)(c:Nat):s.askOn {p with la:=ao,lc:=c}=s.askOn p:=by
 unfold St.askOn;dsimp only;exact Cj s 0 {p with ttl:=p.ttl - 1,hops:=St.far p.hops,bC:=if (aK s.A p.dest).isSome then max p.bC (eB s.A p.dest)else p.bC,unk:=if (aK s.A p.dest).isSome then false else p.unk} ao c []
theorem Ro(s:St)(p:aC)(ao:Option Addr)(c:Nat):s.asked {p with la:=ao,lc:=c}=s.asked p:=by
 unfold St.asked;dsimp only;rw[Rp];rfl
theorem PS(s:St)(fr:Int)(p:aC)(ao:Option Addr)(c:Nat):s.learn fr {p with la:=ao,lc:=c}=s.learn fr p:=by
 simp only[St.learn,Ro]
theorem zh(s:St)(fr:Int)(p:aC)(ao:Option Addr)(c:Nat):s.dm fr {p with la:=ao,lc:=c}=s.dm fr p:=by
 unfold St.dm;dsimp only;rw[PS];try rfl
theorem Hu(s:St)(fr:Int)(p:aC)(ao:Option Addr)(c:Nat):s.iJ fr {p with la:=ao,lc:=c}=s.iJ fr p:=by
 unfold St.iJ;dsimp only;split
 ·exact Cj _ _ {p with ttl:=p.ttl - 1,hops:=St.far p.hops} ao c []
 ·rfl
theorem C_(s:St)(fr:Int)(p:aC)(ao:Option Addr)(c:Nat):s.fC fr {p with la:=ao,lc:=c}=s.fC fr p:=by
 unfold St.fC;dsimp only;rw[Hu];try rfl
theorem FQ(s:St)(fr:Int)(p:aC)(ao:Option Addr)(c:Nat):s.fH fr {p with la:=ao,lc:=c}=s.fH fr p:=by
 unfold St.fH;dsimp only;split
 ·rfl
 ·split
  ·rfl
  ·split
   ·exact Cj _ _ {p with ttl:=p.ttl - 1} ao c []
   ·rfl
theorem Ir(s:St)(fr:Int)(p:aC)(ao:Option Addr)(c:Nat)(L:List (Int×Int)):s.gT fr {p with la:=ao,lc:=c} L=s.gT fr p L:=by
 unfold St.gT;dsimp only;rw[zh,C_,FQ];rfl
theorem DU{g:bF}{TL:List Hp.Tm}(n:Nd N B g s TL w)(fr:Int)(p:aC)(hp:p.Wf)(eZ:0<=s.now∧s.now<=4611686018427387904)(hfl:s.aI.length<=1000000)(hdl:s.aM.length<=1000000):
  Calls Tryz.prog 93 #[.pointer (some ⟨N,0,none⟩),.pointer (some ⟨B,0,none⟩),.int .u32 fr,p.val] w λe w'=>e=.returned (.tuple #[])∧kT N B g s (s.eH fr p) TL w w':=by
 obtain⟨_,hde,_,_,_,_⟩:=hp.num;have hb0:Below w.heap.size w (w.alloc p.box):=bn;have fZ:=PB.new p w;have n0:=n.later hb0;have jV:¬Ft N g s w.heap.size:=n.new (aA _);obtain⟨s2,cK⟩:∃s2,s.eH fr p=s2:=⟨_,rfl⟩;rw[cK];replace cK:=hide cK;have HX:=hide (iV n0 8 hdl);dsimp only[aC.box]at hb0 n0 HX;unfold PB at fZ;dsimp only[aC.box]at fZ;go_enter Tryz.func93,Tryz.ntmps93;go_upto_region 1 with(fail);generalize World.alloc _ _=W1 at hb0 fZ n0 HX ⊢;generalize kZ:w.heap.size=C at fZ jV ⊢;replace kZ:=hide kZ;go_wp2_with fail;refine aN HX.out ?_;rintro e w2 ⟨rfl,g2,n2,u2,t2⟩;obtain⟨hP2,FU⟩:=u2.jQ fZ jV;obtain⟨s1,hs1⟩:∃z,s.drop 8=z:=⟨_,rfl⟩;have h1:Hid (s1.me=s.me∧s1.now=s.now∧s1.aI=s.aI∧s1.A=s.A):=by
  show _∧_;rw[<-hs1];exact⟨rfl,rfl,rfl,rfl⟩
 have hs2:Hid ((if p.kind=9∧p.dest≠s1.me then {s1.kF fr p.dest with bR:=s1.now+2000}else s1)=s2):=by
  rw[<-hs1];have:=cK.out;unfold St.eH at this;exact this
 rw[hs1]at n2 u2 FU;have GI:=(Up.below hb0:Up B (Ft N g s) (Ft N g s) w W1).trans u2;have Km:0<=s1.now∧s1.now<=4611686018427387904:=by rw[h1.out.2.1];exact eZ
 have za:s1.aI.length<=1000000:=by rw[h1.out.2.2.1];exact hfl
 clear hs1 cK HX hb0 n0 u2 fZ jV;obtain⟨c2,c3,c4,c7,c0⟩:=n2.cell;obtain⟨p0,p1,p2,p3,p4,p5,p6,p7,p8,p9,jg,ja⟩:=PB.cell hP2;have hq:∀q,Below w2.heap.size w2 (w2.drewN q):=λq=>below_drewN (aR _ _) q;by_cases hk:p.kind=9∧p.dest≠s1.me
 ·replace hs2:=hide ((aO hk).symm.trans hs2.out);obtain⟨ZL,hkd⟩:=hk;have b9:(p.kind==9)=true:=by simpa using ZL
  have bd:(p.dest !=s1.me)=true:=by simpa using hkd
  clear ZL hkd;go_wp2_with fail;go_quiet (fail);generalize hg:World.drewN _ _=W3;obtain⟨n3,hP3,hb3⟩:=(show ∀q w3,w2.drewN q=w3->Nd N B g2 s1 TL w3∧PB p C w3∧Below w2.heap.size w2 w3 from by
   rintro q _ rfl;exact⟨n2.later (hq q),PB.below hP2 (hq q),hq q⟩) _ _ hg
  have NT:=GI.trans (.below hb3:Up B (Ft N g2 s1) (Ft N g2 s1) w2 W3);clear hg n2 hP2 c2 c3 c4 c7 c0 p0 p1 p2 p3 p4 p5 p6 p7 p8 p9 jg ja hq GI hb3 b9 bd;obtain⟨p0,p1,p2,p3,p4,p5,p6,p7,p8,p9,jg,ja⟩:=PB.cell hP3;have HL:=hide (BR n3 fr p.dest hde za);go_wp2_with fail;refine aN HL.out ?_;rintro e w4 ⟨rfl,g4,n4,u4,t4⟩;obtain⟨s3,hs3⟩:∃z,s1.kF fr p.dest=z:=⟨_,rfl⟩;have h3:Hid (s3.now=s1.now∧ {s3 with bR:=s1.now+2000}=s2):=by
   show _∧_;rw[<-hs3];exact⟨rfl,hs2.out⟩
  rw[hs3]at n4 u4;have oM:=NT.trans u4;have tt:Hid (g4.x.T=g.x.T):=t4.out.trans t2.out;clear hs3 hs2 HL u4 NT n3 hP3 p0 p1 p2 p3 p4 p5 p6 p7 p8 p9 jg ja;obtain⟨c2,c3,c4,c7,c0⟩:=n4.cell;rw[h3.out.1]at c0;have f4:=n4.nn.cr.nd.free 4;have hg1:w4.grownBy (w4.setCell ⟨N,4,none⟩ (.int .u64 (s1.now+2000))) (some N):=ah (ay _ (some N)) 4 _;obtain⟨e1,e2,e3,e4,e5,e6,e7,e8,e9⟩:=n4.nn.eq;obtain⟨n5,u5⟩:=n4.cells (s':={s3 with bR:=s1.now+2000}) (n4.nn.cr.nd.Oo (s1.now+2000)) (Fx.grown hg1 λk e=>by cases e;rfl) ⟨e1,e2,rfl,e4,e5,e6,e7,e8,e9⟩ ⟨rfl,rfl,rfl,rfl,rfl,rfl⟩ ⟨rfl,rfl,rfl,rfl,rfl,rfl,rfl,rfl,rfl⟩ ⟨rfl,rfl,rfl,rfl,rfl⟩;rw[h3.out.2]at n5 u5;have hw:IntKind.u64.wrap (s1.now+2000)=s1.now+2000:=lU Km (by omega);have hfin:Hid (kT N B g s s2 TL w (w4.setCell ⟨N,4,none⟩ (.int .u64 (s1.now+2000)))):=⟨_,n5,oM.trans u5,tt.out⟩;clear n4 n5 u5 oM hg1 e1 e2 e3 e4 e5 e6 e7 e8 e9 h3;go_wp2;go_returns;first
   |exact⟨rfl,hfin.out⟩
   |(rw[hw];exact⟨rfl,hfin.out⟩)
 ·replace hs2:=hide ((aD hk).symm.trans hs2.out);have hk':p.kind≠9∨(p.kind=9∧p.dest=s1.me):=by
   by_cases h9:p.kind=9
   ·exact .inr ⟨h9,Classical.byContradiction λh=>hk ⟨h9,h⟩⟩
   ·exact .inl h9
  clear hk;have hfin:Hid (∀w3,Below w2.heap.size w2 w3->kT N B g s s2 TL w w3):=by
   intro w3 hb;rw[<-hs2.out];exact⟨g2,n2.later hb,GI.trans (.below hb),t2⟩
  have hq:=hide hq;clear hs2 hP2 n2;rcases hk' with h9|⟨h9,hd⟩
  ·have b9:(p.kind==9)=false:=by simpa using h9
   clear h9;go_wp2_with fail;go_quiet (fail);go_wp2;go_returns;exact⟨rfl,hfin.out _ (hq.out _)⟩
  ·have b9:(p.kind==9)=true:=by simpa using h9
   have bd:(p.dest !=s1.me)=false:=by simpa using hd
   clear h9 hd;go_wp2_with fail;go_quiet (fail);go_wp2;go_returns;exact⟨rfl,hfin.out _ (hq.out _)⟩
def Sw(N B:Nat)(g:bF)(s s2:St)(TL:List Hp.Tm)(w w':World):Prop:=∃dG,kT N B g s s2 dG w w'∧∃d,VF d s TL s2 dG
theorem Sw.of{g:bF}{s2:St}{TL:List Hp.Tm}{w':World}(h:kT N B g s s2 TL w w')(hQ:s2.Q=s.Q):Sw N B g s s2 TL w w':=⟨TL,h,0,.inl ⟨rfl,hQ⟩⟩
theorem Vy(s:St)(p:aC):(s.asked p).Q=s.Q:=by
 unfold St.asked St.iD St.gM;split
 ·exact uM _ _
 ·split
  ·exact uM _ _
  ·split<;>rfl
theorem abH(s:St)(fr:Int)(p:aC):(s.learn fr p).Q=s.Q:=by
 unfold St.learn;split
 ·rfl
 ·split<;>exact Vy _ _
theorem Iu(s:St)(fr:Int)(L:List (Int×Int)):(s.gZ fr L).Q=s.Q:=by
 unfold St.gZ;dsimp only;split<;>rfl
theorem Iw(s:St)(fr:Int)(p:aC):(s.fH fr p).Q=s.Q:=by
 unfold St.fH;split
 ·rfl
 ·split
  ·rfl
  ·split<;>rfl
theorem C9(s:St)(fr:Int)(p:aC):(s.eH fr p).Q=s.Q:=by
 unfold St.eH;split<;>rfl
theorem TS{x0 x1 x2 x3 x4:Int}{r:List Int}(ao:Option Addr)(c:Nat)(hb:∀x∈x0::x1::x2::x3::x4::r,0<=x∧x<=255)(hF:D_ (x0::x1::x2::x3::x4::r)=true):
  ({iZ x0 x1 x2 x4 r with la:=ao,lc:=c}:aC).Hd∧(x1=1∨x1=2∨x1=3∨x1=9)∧(iZ x0 x1 x2 x4 r).kind=x1:=by
 have h1:=T9 (x2:=x2) (λy hy=>hb y (by simp[hy])) (hb x0 (by simp)) (hb x1 (by simp)) (hb x4 (by simp)) (r:=r);have hg:(iZ x0 x1 x2 x4 r).gJ=true:=by
  simp only[D_,jr]at hF;exact hF.2
 obtain⟨_,t0,t1,q0,q1,_,hk⟩:=l6 hg;have hkk:(iZ x0 x1 x2 x4 r).kind=x1:=by
  unfold iZ;split
  ·rename_i h;exact h.symm
  split
  ·rename_i h;exact h.symm
  split
  ·rename_i h;exact h.symm
  split
  ·rename_i h;exact h.symm
  ·rfl
 refine⟨⟨⟨h1.1,h1.2,h1.3,h1.4,h1.5,h1.6,h1.7,h1.8,h1.9,h1.10,h1.11,h1.12,h1.13,h1.14,h1.15,h1.16,h1.17,h1.18,h1.19,h1.20⟩,⟨t0,t1⟩,⟨q0,q1⟩⟩,?_,hkk⟩;rw[hkk]at hk;rcases hk with h|h|h|⟨h,_⟩
 ·exact .inl h
 ·exact .inr (.inl h)
 ·exact .inr (.inr (.inr h))
 ·exact .inr (.inr (.inl h))
theorem Tj(w:World):(Instr.index 199 (.agg #[.nilFunc,.func (.func 130) #[] #[],.func (.func 131) #[] #[],.func (.func 132) #[] #[],.nilFunc,.nilFunc,.nilFunc,.nilFunc,.nilFunc,.func (.func 133) #[] #[]]) (.int .i64 1)).run Tryz.prog w=.ok (.func (.func 130) #[] #[]) w:=by kernel_rfl
theorem Ti(w:World):(Instr.index 199 (.agg #[.nilFunc,.func (.func 130) #[] #[],.func (.func 131) #[] #[],.func (.func 132) #[] #[],.nilFunc,.nilFunc,.nilFunc,.nilFunc,.nilFunc,.func (.func 133) #[] #[]]) (.int .i64 2)).run Tryz.prog w=.ok (.func (.func 131) #[] #[]) w:=by kernel_rfl
theorem Tg(w:World):(Instr.index 199 (.agg #[.nilFunc,.func (.func 130) #[] #[],.func (.func 131) #[] #[],.func (.func 132) #[] #[],.nilFunc,.nilFunc,.nilFunc,.nilFunc,.nilFunc,.func (.func 133) #[] #[]]) (.int .i64 3)).run Tryz.prog w=.ok (.func (.func 132) #[] #[]) w:=by kernel_rfl
theorem Tf(w:World):(Instr.index 199 (.agg #[.nilFunc,.func (.func 130) #[] #[],.func (.func 131) #[] #[],.func (.func 132) #[] #[],.nilFunc,.nilFunc,.nilFunc,.nilFunc,.nilFunc,.func (.func 133) #[] #[]]) (.int .i64 9)).run Tryz.prog w=.ok (.func (.func 133) #[] #[]) w:=by kernel_rfl
theorem Zh{g:bF}{TL:List Hp.Tm}(n:Nd N B g s TL w)(hF:s.NP)(htn:s.tn<=4000000000000000000)(htl:TL.length<=1000000)(fr:Int)(hfr:bg fr)(v:Value)(xs:List Int)(hv:d_ w v xs):
  Calls Tryz.prog 59 #[.pointer (some ⟨N,0,none⟩),.pointer (some ⟨B,0,none⟩),.int .u32 fr,v] w λe w'=>e=.returned (.tuple #[])∧Sw N B g s (s.hear fr xs) TL w w':=by
 have hby:=hv.1;have HD:=hide (Jr v xs w hv);clear hv;obtain⟨s2,cK⟩:∃s2,s.hear fr xs=s2:=⟨_,rfl⟩;rw[cK];replace cK:=hide cK;have hfl:s.aI.length<=900000:=hF.aI;have hdl:s.aM.length<=900000:=hF.aM;go_enter Tryz.func59,Tryz.ntmps59;go_wp2_with fail;refine aN HD.out ?_;rintro e w1 ⟨hb1,h⟩;have n1:=n.later hb1;clear HD;rcases h with⟨hFt,v1,rfl,x0,x1,x2,x3,x4,r,ao,c,hxs,hv1,hlen,hA,FN⟩|⟨hFt,rfl⟩
 ·subst hxs;obtain⟨hq,hk,hkk⟩:=TS (ao:=ao) (c:=c) hby hFt;have hs2:Hid ((if fr=0∨fr=s.me then s.drop 0 else s.gT fr {iZ x0 x1 x2 x4 r with la:=ao,lc:=c} (pO x1 x4 r))=s2):=by
   show _=_;rw[<-cK.out,Ir];unfold St.hear;rw[hFt];by_cases h:fr=0∨fr=s.me
   ·rw[aO h,aO (.inr h)]
   ·rw[aD h,aD (by rintro(h1|h1)<;>first|(cases h1;done)|exact h h1)];rfl
  have hL1:eT w1 {iZ x0 x1 x2 x4 r with la:=ao,lc:=c} (pO x1 x4 r):=⟨hlen,hA⟩;have hap:∀b,ao=some b->¬Ft N g s b.block:=λb hb=>n.new (FN b hb);have hL0:x1≠3->pO x1 x4 r=[]:=λh=>by unfold pO;rw[aD h]
  have hpk:({iZ x0 x1 x2 x4 r with la:=ao,lc:=c}:aC).kind=x1:=hkk;have hpa:({iZ x0 x1 x2 x4 r with la:=ao,lc:=c}:aC).la=ao:=rfl;generalize ({iZ x0 x1 x2 x4 r with la:=ao,lc:=c}:aC)=p at hv1 hq hs2 hL1 hpk hpa;generalize pO x1 x4 r=L at hs2 hL1 hL0;subst hv1 hpa;have hap:DY N g s p.la:=hap;clear hby hFt hlen hA FN cK hkk;rw[<-hpk]at hk hL0;clear hpk;have hp:=hq.wf;have hb2:Below w1.heap.size w1 (w1.alloc p.box):=bn;have hP2:=PB.new p w1;have n2:=n1.later hb2;have vI:=hb1.trans (hb2.mono hb1.size);have hL2:=hL1.below hb2;clear n1 hL1 hb2;dsimp only[aC.box]at n2 vI hL2;unfold PB at hP2;dsimp only[aC.box]at hP2;dsimp only[aC.val];go_upto_region 2 with(fail);generalize World.alloc _ _=W2 at hP2 n2 vI hL2 ⊢;generalize w1.heap.size=C at hP2 ⊢;obtain⟨c2,c3,c4,c7,c0⟩:=n2.cell;obtain⟨p0,p1,p2,p3,p4,p5,p6,p7,p8,p9,jg,ja⟩:=PB.cell hP2;by_cases hf:fr=0∨fr=s.me
  ·replace hs2:=hide ((aO hf).symm.trans hs2.out);have HX:=hide (iV n2 0 (by omega));rw[hs2.out]at HX;have hQ:Hid (s2.Q=s.Q):=by show _=_;rw[<-hs2.out];rfl
   have hfin:Hid (∀w9,kT N B g s s2 TL W2 w9->Sw N B g s s2 TL w w9):=λw9 h=> .of (h.pre vI) hQ.out;have hf':fr=0∨(¬fr=0∧fr=s.me):=by
    by_cases h:fr=0
    ·exact .inl h
    ·exact .inr ⟨h,hf.resolve_left h⟩
   clear hs2 hQ vI hf n2 hL2 hP2 hap;rcases hf' with h|⟨h,h'⟩
   ·have b0:(fr==0)=true:=by simpa using h
    clear h;go_wp2_with fail;refine aN HX.out ?_;rintro e w9 ⟨rfl,hN⟩;have FO:=hide (hfin.out _ hN);clear hN HX;go_wp2;go_returns;exact⟨rfl,FO.out⟩
   ·have b0:(fr==0)=false:=by simpa using h
    have b1:(fr==s.me)=true:=by simpa using h'
    clear h h';go_wp2_with fail;refine aN HX.out ?_;rintro e w9 ⟨rfl,hN⟩;have FO:=hide (hfin.out _ hN);clear hN HX;go_wp2;go_returns;exact⟨rfl,FO.out⟩
  ·replace hs2:=hide ((aD hf).symm.trans hs2.out);have b0:(fr==0)=false:=by
    have:¬fr=0:=λh=>hf (.inl h);simpa using this
   have b1:(fr==s.me)=false:=by
    have:¬fr=s.me:=λh=>hf (.inr h);simpa using this
   clear hf;go_wp2_with fail;by_cases w_:s.now<s.bR
   ·have bs:decide (s.now<s.bR)=true:=eX w_;have hs3:Hid (s.eH fr p=s2):=by
     show _=_;rw[<-hs2.out];unfold St.gT;rw[aO w_]
    have HX:Hid (∀W5,Below W2.heap.size W2 W5->Calls Tryz.prog 93 #[.pointer (some ⟨N,0,none⟩),.pointer (some ⟨B,0,none⟩),.int .u32 fr,p.val] W5 λe w'=>e=.returned (.tuple #[])∧Sw N B g s s2 TL w w'):=by
     intro W5 h5;refine(DU (n2.later h5) fr p hp hF.now (by omega) (by omega)).mono ?_;rintro e w9 ⟨rfl,hN⟩;rw[hs3.out]at hN;exact⟨rfl,.of (hN.pre (vI.trans (h5.mono vI.size))) (by rw[<-hs3.out];exact C9 _ _ _)⟩
    dsimp only[aC.val]at HX;clear hs2 hs3 w_;go_quiet (fail);generalize hg:World.drewN _ _=W3;obtain⟨hP3,hb3⟩:=(show ∀q w3,W2.drewN q=w3->PB p C w3∧Below W2.heap.size W2 w3 from by
     rintro q _ rfl;have hbq:Below W2.heap.size W2 (W2.drewN q):=below_drewN (aR _ _) q;exact⟨PB.below hP2 hbq,hbq⟩) _ _ hg
    clear hg n2 hP2 c2 c3 c4 c7 c0 p0 p1 p2 p3 p4 p5 p6 p7 p8 p9 jg ja;obtain⟨p0,p1,p2,p3,p4,p5,p6,p7,p8,p9,jg,ja⟩:=PB.cell hP3;go_wp2_with fail;refine aN (HX.out _ hb3) ?_;rintro e w9 ⟨rfl,hN⟩;replace hN:=hide hN;clear HX hb3 hP3 p0 p1 p2 p3 p4 p5 p6 p7 p8 p9 jg ja;go_wp2;go_returns;exact⟨rfl,hN.out⟩
   ·have bs:decide (s.now<s.bR)=false:=dL w_;go_quiet (fail);generalize hg:World.drewN _ _=W3;obtain⟨n3,hP3,hb3⟩:=(show ∀q w3,W2.drewN q=w3->Nd N B g s TL w3∧PB p C w3∧Below W2.heap.size W2 w3 from by
     rintro q _ rfl;have hbq:Below W2.heap.size W2 (W2.drewN q):=below_drewN (aR _ _) q;exact⟨n2.later hbq,PB.below hP2 hbq,hbq⟩) _ _ hg
    have hL3:=hL2.below hb3;have xu:=vI.trans (hb3.mono vI.size);clear hg n2 hP2 hL2 vI hb3 c2 c3 c4 c7 c0 p0 p1 p2 p3 p4 p5 p6 p7 p8 p9 jg ja bs b0 b1;have HH:Hid (∀W',Below W3.heap.size W3 W'->Calls Tryz.prog 94 #[] W' λe w5=>e=.returned (.agg #[.nilFunc,.func (.func 130) #[] #[],.func (.func 131) #[] #[],.func (.func 132) #[] #[],.nilFunc,.nilFunc,.nilFunc,.nilFunc,.nilFunc,.func (.func 133) #[] #[]])∧Below W3.heap.size W3 w5):=by
     intro W' h;refine(FP W').mono ?_;rintro e w5 ⟨rfl,h5⟩;exact⟨rfl,h.trans (h5.mono h.size)⟩
    have Oa:Hid (∀W5,Below W3.heap.size W3 W5->W5.cell? ⟨C,0,none⟩=some (.int .i64 p.ttl)∧W5.cell? ⟨C,1,none⟩=some (.int .i64 p.kind)∧W5.cell? ⟨C,2,none⟩=some (.int .i64 p.hops)∧W5.cell? ⟨C,3,none⟩=some (.bool p.unk)∧W5.cell? ⟨C,4,none⟩=some (.int .u32 p.id)∧W5.cell? ⟨C,5,none⟩=some (.int .u32 p.dest)∧W5.cell? ⟨C,6,none⟩=some (.int .u32 p.bC)∧W5.cell? ⟨C,7,none⟩=some (.int .u32 p.aG)∧W5.cell? ⟨C,8,none⟩=some (.int .u32 p.dX)∧W5.cell? ⟨C,9,none⟩=some (.int .u32 p.life)∧W5.cell? ⟨C,10,none⟩=some (.slice p.la p.ln p.lc)∧W5.cell? ⟨C,11,none⟩=some (.string p.pay)):=λW5 h5=>PB.cell (PB.below hP3 h5);rcases hk with hk|hk|hk|hk
    ·have hs3:Hid (s.dm fr p=s2):=by
      show _=_;rw[<-hs2.out];unfold St.gT;rw[aD w_,hk];rfl
     have HX:Hid (∀W5,Below W3.heap.size W3 W5->Calls Tryz.prog 130 #[.pointer (some ⟨N,0,none⟩),.pointer (some ⟨B,0,none⟩),.int .u32 fr,p.val] W5 λe w'=>e=.returned (.tuple #[])∧Sw N B g s s2 TL w w'):=by
      intro W5 h5;refine(AX (n3.later h5) hF htn fr hfr p hq (by have:=hL3.below h5;rwa [hL0 (by omega)]at this)).mono ?_;rintro e w9 ⟨rfl,hN⟩;rw[hs3.out]at hN;exact⟨rfl,.of (hN.pre (xu.trans (h5.mono xu.size))) (by rw[<-hs3.out];exact qP _ _ _)⟩
     have hix:=Tj;dsimp only[aC.val]at HX;rw[hk]at Oa HX;clear hs2 hs3 w_ hL3 hL0 hap n3 hP3 hq hp hk xu;obtain⟨p0,p1,p2,p3,p4,p5,p6,p7,p8,p9,jg,ja⟩:=Oa.out _ (aR _ _);go_wp2_with fail;go_region_law (first
      |(go_simp;go_at_call 94;refine(HH.out _ (by first|exact aR _ _|exact(aR _ _).drew|exact below_drewN (aR _ _) _)).mono ?_;rintro e w5 ⟨rfl,hb5⟩;obtain⟨q0,q1,q2,q3,q4,q5,q6,q7,q8,q9,q10,q11⟩:=Oa.out _ hb5)
      |(go_simp;go_at_call 130;refine(HX.out _ (by first|exact hb5|exact hb5.drew|exact below_drewN hb5 _)).mono ?_;rintro e w9 ⟨rfl,hN⟩;replace hN:=hide hN))
     all_goals
      go_wp2;go_returns;exact⟨rfl,hN.out⟩
    ·have hs3:Hid (s.fC fr p=s2):=by
      show _=_;rw[<-hs2.out];unfold St.gT;rw[aD w_,hk];rfl
     have HX:Hid (∀W5,Below W3.heap.size W3 W5->Calls Tryz.prog 131 #[.pointer (some ⟨N,0,none⟩),.pointer (some ⟨B,0,none⟩),.int .u32 fr,p.val] W5 λe w'=>e=.returned (.tuple #[])∧Sw N B g s s2 TL w w'):=by
      intro W5 h5;refine(Gt (n3.later h5) fr hfr p hq (by have:=hL3.below h5;rwa [hL0 (by omega)]at this) hF.me hF.now (by omega) (by omega) htl).mono ?_;rintro e w9 ⟨rfl,dG,hN,hT⟩;rw[hs3.out]at hN hT;exact⟨rfl,dG,hN.pre (xu.trans (h5.mono xu.size)),_,hT⟩
     have hix:=Ti;dsimp only[aC.val]at HX;rw[hk]at Oa HX;clear hs2 hs3 w_ hL3 hL0 hap n3 hP3 hq hp hk xu;obtain⟨p0,p1,p2,p3,p4,p5,p6,p7,p8,p9,jg,ja⟩:=Oa.out _ (aR _ _);go_wp2_with fail;go_region_law (first
      |(go_simp;go_at_call 94;refine(HH.out _ (by first|exact aR _ _|exact(aR _ _).drew|exact below_drewN (aR _ _) _)).mono ?_;rintro e w5 ⟨rfl,hb5⟩;obtain⟨q0,q1,q2,q3,q4,q5,q6,q7,q8,q9,q10,q11⟩:=Oa.out _ hb5)
      |(go_simp;go_at_call 131;refine(HX.out _ (by first|exact hb5|exact hb5.drew|exact below_drewN hb5 _)).mono ?_;rintro e w9 ⟨rfl,hN⟩;replace hN:=hide hN))
     all_goals
      go_wp2;go_returns;exact⟨rfl,hN.out⟩
    ·have hs3:Hid (s.gZ fr L=s2):=by
      show _=_;rw[<-hs2.out];unfold St.gT;rw[aD w_,hk];rfl
     have HX:Hid (∀W5,Below W3.heap.size W3 W5->Calls Tryz.prog 132 #[.pointer (some ⟨N,0,none⟩),.pointer (some ⟨B,0,none⟩),.int .u32 fr,p.val] W5 λe w'=>e=.returned (.tuple #[])∧Sw N B g s s2 TL w w'):=by
      intro W5 h5;refine(Jh (n3.later h5) fr hfr p hp L (hL3.below h5) hap (by omega) (by omega)).mono ?_;rintro e w9 ⟨rfl,hN⟩;rw[hs3.out]at hN;exact⟨rfl,.of (hN.pre (xu.trans (h5.mono xu.size))) (by rw[<-hs3.out];exact Iu _ _ _)⟩
     have hix:=Tg;dsimp only[aC.val]at HX;rw[hk]at Oa HX;clear hs2 hs3 w_ hL3 hL0 hap n3 hP3 hq hp hk xu;obtain⟨p0,p1,p2,p3,p4,p5,p6,p7,p8,p9,jg,ja⟩:=Oa.out _ (aR _ _);go_wp2_with fail;go_region_law (first
      |(go_simp;go_at_call 94;refine(HH.out _ (by first|exact aR _ _|exact(aR _ _).drew|exact below_drewN (aR _ _) _)).mono ?_;rintro e w5 ⟨rfl,hb5⟩;obtain⟨q0,q1,q2,q3,q4,q5,q6,q7,q8,q9,q10,q11⟩:=Oa.out _ hb5)
      |(go_simp;go_at_call 132;refine(HX.out _ (by first|exact hb5|exact hb5.drew|exact below_drewN hb5 _)).mono ?_;rintro e w9 ⟨rfl,hN⟩;replace hN:=hide hN))
     all_goals
      go_wp2;go_returns;exact⟨rfl,hN.out⟩
    ·have hs3:Hid (s.fH fr p=s2):=by
      show _=_;rw[<-hs2.out];unfold St.gT;rw[aD w_,hk];rfl
     have HX:Hid (∀W5,Below W3.heap.size W3 W5->Calls Tryz.prog 133 #[.pointer (some ⟨N,0,none⟩),.pointer (some ⟨B,0,none⟩),.int .u32 fr,p.val] W5 λe w'=>e=.returned (.tuple #[])∧Sw N B g s s2 TL w w'):=by
      intro W5 h5;refine(Ji (n3.later h5) fr hfr p hq (by have:=hL3.below h5;rwa [hL0 (by omega)]at this) hF.now (by omega) (by omega) (by have:=hF.aT;omega)).mono ?_;rintro e w9 ⟨rfl,hN⟩;rw[hs3.out]at hN;exact⟨rfl,.of (hN.pre (xu.trans (h5.mono xu.size))) (by rw[<-hs3.out];exact Iw _ _ _)⟩
     have hix:=Tf;dsimp only[aC.val]at HX;rw[hk]at Oa HX;clear hs2 hs3 w_ hL3 hL0 hap n3 hP3 hq hp hk xu;obtain⟨p0,p1,p2,p3,p4,p5,p6,p7,p8,p9,jg,ja⟩:=Oa.out _ (aR _ _);go_wp2_with fail;go_region_law (first
      |(go_simp;go_at_call 94;refine(HH.out _ (by first|exact aR _ _|exact(aR _ _).drew|exact below_drewN (aR _ _) _)).mono ?_;rintro e w5 ⟨rfl,hb5⟩;obtain⟨q0,q1,q2,q3,q4,q5,q6,q7,q8,q9,q10,q11⟩:=Oa.out _ hb5)
      |(go_simp;go_at_call 133;refine(HX.out _ (by first|exact hb5|exact hb5.drew|exact below_drewN hb5 _)).mono ?_;rintro e w9 ⟨rfl,hN⟩;replace hN:=hide hN))
     all_goals
      go_wp2;go_returns;exact⟨rfl,hN.out⟩
 ·have hs2:Hid (s.drop 0=s2):=by
   show _=_;rw[<-cK.out];unfold St.hear;rw[aO (.inl hFt)]
  have hb2:Below w1.heap.size w1 (w1.alloc aC.zero.box):=bn;have n2:=n1.later hb2;have vI:=hb1.trans (hb2.mono hb1.size);have HX:=hide (iV n2 0 (by omega));rw[hs2.out]at HX;have hQ:Hid (s2.Q=s.Q):=by show _=_;rw[<-hs2.out];rfl
  clear hs2 cK n1 hb2;dsimp only[aC.box,aC.zero]at HX vI n2;dsimp only[aC.val,aC.zero];go_upto_region 3 with(fail);generalize World.alloc _ _=W2 at HX vI n2 ⊢;go_wp2_with fail;refine aN HX.out ?_;rintro e w9 ⟨rfl,hN⟩;have FO:Hid (Sw N B g s s2 TL w w9):=.of (hN.pre vI) hQ.out;clear hN HX;go_wp2;go_returns;exact⟨rfl,FO.out⟩
open Go.MuLone
theorem NE{N:Nat}{g:bF}{s:St}{TL:List Hp.Tm}{w:World}(n:Nn N g s TL w){k:Int}(hI:s.Inv k)(hk:k<=100000000000)(hT:dD s TL)(now fr:Int)(eZ:s.now<=now∧now<=4611686018427387904)(hfr:bg fr)(v:Value)(xs:List Int)(hv:VB w v xs):
  Calls Tryz.prog 25 #[.pointer (some ⟨N,0,none⟩),.int .u64 now,.int .u32 fr,v] w λe w'=>∃o,e=.returned o∧Hid ((s.rcv now fr xs).Inv (k+1))∧Ad N g s (s.rcv now fr xs) w o w':=by
 have hA:=n.cr.tb.ok;have hl:=n.cr.tb.len;have hb0:Below w.heap.size w (w.alloc iK):=bn;have hC0:(w.alloc iK).heap[w.heap.size]?=some iK:=bO _ _;have jV:¬Ft N g s w.heap.size:=λh=>by have:=n.lt h;omega
 have hs0:(w.alloc iK).heap.size=w.heap.size+1:=by simp
 have n0:=n.later hb0;have hv0:=hv.later hb0;have hM:=(pM hI).2 now eZ hA hl;obtain⟨s3,hs3⟩:∃z,s.locked.begin now=z:=⟨_,rfl⟩;rw[hs3]at hM;have FM:Hid (s3.lk=1):=by show _=_;rw[<-hs3];rfl
 have Kw:Hid (s3.Q=s.Q):=by show _=_;rw[<-hs3];rfl
 have wG:Hid (s3.now=now):=by show _=_;rw[<-hs3];rfl
 have Qt:Hid (s3.me=s.me):=by show _=_;rw[<-hs3];rfl
 replace hM:=hide hM;dsimp only[iK]at hb0 hC0 hs0 n0 hv0
 go_enter_defers Tryz.func25,Tryz.ntmps25
 go_upto_region 1 with(fail);generalize World.alloc _ _=W1 at hb0 hC0 hs0 n0 hv0 ⊢;obtain⟨c0,f0⟩:=n0.GN;rw[hI.lk]at c0;go_wp2_with fail;refine aN (lock_free lm ⟨N,0,none⟩ W1 c0 f0) ?_;rintro e w2 ⟨rfl,rfl⟩;obtain⟨n2,hg2⟩:=n0.j4 1;have hf2:Fx (Ft N g s) w (W1.setCell ⟨N,0,none⟩ (.int .i32 1)):=aQ (Fx.below hb0) hg2 (λi _ e=>by cases e;exact .inl (.inl rfl));have hv2:=n0.vb hv0 (Fx.grown hg2 λk e=>by cases e;exact .inl (.inl rfl));have hC2:=(hg2.block w.heap.size (by omega) (λe=>jV (by cases e;exact .inl (.inl rfl)))).trans hC0;have hs2:w.heap.size+1<=(W1.setCell ⟨N,0,none⟩ (.int .i32 1)).heap.size:=by
  have:=hg2.size;omega
 have hcn:=hI.cnt;have HB:=hide (xP n2 now ⟨hI.dom.mb,hI.dom.on,hI.dom.own⟩ ⟨hcn.1,by dsimp only;omega⟩);rw[show({s with lk:=1}:St).begin now=s3 from hs3]at HB;have hF1:Hid (∀k,Ft N ({g with x:={g.x with lk:=1}}:bF) ({s with lk:=1}:St) k->Ft N g s k):=λk h=>h;replace hs3:=hide hs3;clear n0 hv0 hC0 hs0 hb0 c0 f0 hg2 hA hl hcn;generalize ({g with x:={g.x with lk:=1}}:bF)=g1 at n2 HB hF1;generalize ({s with lk:=1}:St)=s1 at n2 HB hF1;generalize World.setCell _ _ _=W2 at n2 hf2 hv2 hC2 hs2 HB ⊢;go_wp2_with fail;refine aN HB.out ?_;rintro e w3 ⟨g3,rfl,n3,u3,Wq,t3⟩;clear t3;have hv3:=n2.vb hv2 Wq;clear HB;have QG:Hid (dD s3 TL):=by
  show dD _ _;unfold dD;rw[Kw.out];exact hT
 have hlen:=n3.nn.Xh QG.out;have wJ:=hM.out.fine (by omega);have HH:=hide (Zh n3 wJ (by have:=hM.out.tn;omega) (by omega) fr hfr v xs hv3.1);have ME:=hide n3.nn.ids;have CY:=hide n3.nn.rs.sr.pK;have aaE:Hid (∀q∈s3.Q,q.txt.length<=4):=λq hq=>(n3.nn.rs.sr.ok q hq).txt;have hpk:Hid (Eff 5 s3 (s3.hear fr xs)):=zC s3 fr xs hv3.1.1 aaE.out;clear hv2 hv3 Wq n2 n3;go_wp2_with fail;refine aN HH.out ?_;rintro e w5 ⟨rfl,N9,⟨g5,n5,u5,t5⟩,d5,NV⟩;obtain⟨s5,hs5⟩:∃z,s3.hear fr xs=z:=⟨_,rfl⟩;rw[hs5]at n5 u5 NV hpk;have UL:Hid (dD s5 N9):=WQ NV QG.out ME.out CY.out;have m_:Hid (s5.Mid k 6):=uf hM.out hpk.out;have C8:Hid (s5.lk=1):=hpk.out.lk.trans FM.out;have wU:=u3.trans u5;replace hs5:=hide hs5;clear HH u3 u5 NV ME CY aaE hpk wJ hlen;have Ky:=hide (lK m_.out (by omega) n5.nn.cr.tb.ok n5.nn.cr.tb.len);have KW:=hide (nV n5 m_.out.dom (by have:=m_.out.cnt;omega) (by have:=m_.out.aY;omega) m_.out.bd m_.out.seq);go_wp2_with fail;refine aN KW.out ?_;rintro e w6 ⟨g6,rfl,n6,u6,t6⟩;obtain⟨s6,hs6⟩:∃z,s5.finish=z:=⟨_,rfl⟩;have CZ:s6.lk=1:=by rw[<-hs6,(aW s5).lk];exact C8.out
 have UK:Hid (dD s6 N9):=by
  show dD _ _;unfold dD;rw[<-hs6,(aW s5).Q];exact UL.out
 have jA:Hid (s.rcv now fr xs=s6.freed):=by
  show _=_;rw[<-hs6];unfold St.rcv St.receive;rw[hs3.out,hs5.out]
 rw[hs6]at n6 u6 Ky ⊢;have mI:=wU.trans u6;clear KW hs6 u6 n5 wU;have Dl:=mI.Oe (aA _);have mP:∀k,Ft N g6 s6 k->Ft N g s k∨(w.heap.size<=k∧k<w6.heap.size):=λk hk=>(mI.sub k hk).elim (λh=> .inl (hF1.out k h)) λh=> .inr ⟨by omega,h.2⟩;have gy:=(Dl.block w.heap.size (by omega) (λh=>jV (hF1.out _ h))).trans hC2;have jZ:¬Ft N g6 s6 w.heap.size:=λh=>(mI.sub _ h).elim (λh=>jV (hF1.out _ h)) (by omega);have Kq:=hf2.trans Dl (λi _ h=>hF1.out i h);have r1:=ownsRow_base_a n6.ac.aG (show w.heap.size<=W2.heap.size+1 by omega);have r2:=ownsRow_base_a n6.ac.bL (show w.heap.size<=W2.heap.size+1 by omega);have r3:=ownsRow_base_a n6.ac.bN (show w.heap.size<=W2.heap.size+1 by omega);have m6:=n6.nn;obtain⟨af,kf,hf,_⟩:=ak r1;obtain⟨ac,kc,hc,_⟩:=ak r2;obtain⟨ad,kd,hdd,_⟩:=ak r3;rw[hf]at r1;rw[hc]at r2;rw[hdd]at r3;rw[hf,hc,hdd];simp only[iC];clear n6 hf hc hdd mI Dl hf2 hC2;generalize hjj:s6.bD=jj;replace hjj:=hide hjj;obtain⟨z0,z1,z2,z3,z4⟩:=cells5 gy;obtain⟨y0,y1,y2,y3,y4⟩:=wM gy;have iq:=ah (ah (ah (ah (ah (ay w6 (some w.heap.size)) 0 (.string jj)) 1 (.bool s6.bq)) 2 (.slice af s6.aI.length kf)) 3 (.slice ac s6.aT.length kc)) 4 (.slice ad s6.aM.length kd);have fQ:(((((w6.setCell ⟨w.heap.size,0,none⟩ (.string jj)).setCell ⟨w.heap.size,1,none⟩ (.bool s6.bq)).setCell ⟨w.heap.size,2,none⟩ (.slice af s6.aI.length kf)).setCell ⟨w.heap.size,3,none⟩ (.slice ac s6.aT.length kc)).setCell ⟨w.heap.size,4,none⟩ (.slice ad s6.aM.length kd)).heap[w.heap.size]?=some (.cells #[.string jj,.bool s6.bq,.slice af s6.aI.length kf,.slice ac s6.aT.length kc,.slice ad s6.aM.length kd] 52):=by
  simp[World.setCell,dM,gy]
 obtain⟨r1,r2,r3⟩:=qN iq gy r1 r2 r3 (by decide);have m7:=m6.kept λk hk=>iq.block k (m6.lt hk) (λe=>jZ (by cases e;exact hk));have oF:=aQ Kq iq (λi hi e=>by cases e;omega);have jS:=λk hk=>(mP k hk).imp_right λh=>(⟨h.1,fB h.2 iq.size⟩:w.heap.size<=k∧_);clear m6 iq Kq gy mP;go_wp2_with fail;generalize World.setCell _ _ _=W7 at fQ r1 r2 r3 m7 oF jS ⊢;obtain⟨p0,p1,p2,p3,p4⟩:=cells5 fQ;obtain⟨c0,f0⟩:=m7.GN;rw[CZ]at c0;refine leaves_cons (f:=50) (args:=#[.pointer (some ⟨N,0,none⟩)]) (by simp) (by simp[go_sem]) ?_;refine(unlock_deferred lm ⟨N,0,none⟩ .returning W7 c0 f0).mono ?_;rintro e u' w'' ⟨rfl,rfl,rfl⟩;obtain⟨m8,kG⟩:=m7.j4 0;have Ai:N≠w.heap.size:=λe=>jZ (by rw[<-e];exact .inl (.inl rfl));have gF:=(kG.block w.heap.size (aB fQ) (λe=>by cases e;exact Ai rfl)).trans fQ;obtain⟨r1,r2,r3⟩:=qN kG m7.cr.nd r1 r2 r3 (by decide);have wH:=aQ oF kG (λi hi e=>by cases e;exact .inl (.inl rfl));have mO:=λk hk=>(jS k hk).imp_right λh=>(⟨h.1,fB h.2 kG.size⟩:w.heap.size<=k∧_);clear p0 p1 p2 p3 p4 c0 f0 kG m7 oF jS fQ;generalize World.setCell _ _ _=W8 at gF r1 r2 r3 m8 wH mO ⊢;obtain⟨p0,p1,p2,p3,p4⟩:=cells5 gF;refine⟨.agg #[.string jj,.bool s6.bq,.slice af s6.aI.length kf,.slice ac s6.aT.length kc,.slice ad s6.aM.length kd],by simp[results,Tryz.results25,go_sem,p0,p1,p2,p3,p4],_,rfl,?_⟩;rw[jA.out];refine⟨Ky,_,N9,.slice af s6.aI.length kf,.slice ac s6.aT.length kc,.slice ad s6.aM.length kd,?_,m8,UK.out,r1,r2,r3,wH,mO⟩;rw[<-hjj.out];rfl
variable{m:aP}{W:World}
theorem DI{y:MG}{W':World}(h:MM y m W){κ:Int}{q q':Nat}(hok:iy κ q m){i:Nat}{x:SG}{s:eU}{z z':St}{o:Value}(h1:y.L[i]?=some x)(h2:m.S[i]?=some s)(hz:s.nd=some z)(c:Ad x.N x.g z z' W o W')(hI:z'.Inv (κ+1))(hp:z'.Pos)(hme:z'.me=z.me)(eZ:z'.now=m.now)(hq:q<=q')(hql:z'.Q.length<=q')(hc:Js z.cnt z'):
  ∃aG bL bN y2,o=iC z'.bD z'.bq aG bL bN∧gV W.heap.size z'.aI z'.aT z'.aM aG bL bN W'∧MM y2 (m.put i {s with nd:=some z'}) W'∧MU y m y2 (m.put i {s with nd:=some z'}) W W'∧A7 (κ+1) q' (m.put i {s with nd:=some z'}) i z':=by
 obtain⟨aG,bL,bN,e,hor,y2,hm2,hu2⟩:=h.call h1 h2 hz c;have hi:=(gm.1 h2).1;have hS:(m.put i {s with nd:=some z'}).S[i]?=some {s with nd:=some z'}:=by rw[(gG _ _ _).1,List.getElem?_set_self hi]
 obtain⟨x2,hx2⟩:∃x2,y2.L[i]?=some x2:=⟨_,bW (by rw[hm2.len,(gG _ _ _).1,List.length_set];exact hi)⟩;obtain⟨nn,_⟩:=(hm2.st i x2 _ hx2 hS).nd z' rfl;exact⟨aG,bL,bN,y2,e,hor,hm2,hu2,hok.called (by omega) hq h2 hz hc ⟨hI,hp,hme.trans ((hok.at h2).nd z hz).me,by rw[eZ];exact iB _,hql,nn.cr.tb.ok,nn.cr.tb.len⟩⟩
theorem Nn.JF{N:Nat}{g:bF}{s:St}{TL:List Hp.Tm}(n:Nn N g s TL W):lq s:=λq hq=>⟨(n.rs.sr.ok q hq).txt,(n.rs.sr.ok q hq).ttl⟩
theorem zN{i:Nat}{s:eU}(h:m.S[i]?=some s)(z:St):m.act i z=(m.put i {s with nd:=some z}).did i z.ot:=by
 unfold aP.act;rw[gL h]
theorem Ra(s:ByteArray)(hs:s.size<=65536)(w:World):∃cap W,(convert 9 58 (.string s)).run Tryz.prog w=.ok (.slice (some ⟨w.heap.size,0,none⟩) s.size cap) W∧Below w.heap.size w W∧VB W (.slice (some ⟨w.heap.size,0,none⟩) s.size cap) (aV s):=by
 refine⟨_,_,run_bytes_of_string (P:=Tryz.prog) w 9 58 5 s Tryz.underlying9 Tryz.underlying58 Tryz.underlying5,(aR w.heap.size w).drew.alloc (aA _) _,OC s hs w _,λb o n c hv=> ?_⟩;simp only[Value.slice.injEq,Option.some.injEq,Addr.mk.injEq,and_true]at hv;obtain⟨⟨rfl,rfl⟩,_⟩:=hv;exact⟨_,_,bO w.drew _⟩
variable{y:MG}{m:aP}{w:World}
theorem Eo{x:SG}{s:eU}{W:World}(h:l7 x s W)(b:Nat)(hb:b<6)(on:Bool):mG x s {s with hrs:=s.hrs.set b on} W (W.setCell ⟨x.B,3+b,none⟩ (.bool on)):=by
 have hl:=h.hl;refine h.set (x':=x) (s':={s with hrs:=s.hrs.set b on}) (3+b) (.bool on) rfl ?_ (by rw[List.length_set];exact hl) ⟨rfl,rfl⟩ (λz hz=>⟨hz,rfl,rfl,rfl⟩);have hbl:b<s.hrs.length:=by omega
 simp[D9,List.set_append,List.map_set,hl,Nat.add_comm 3 b];omega
theorem Zq(h:MM y m w)(a b:Nat)(ha:a<m.S.length)(hb:b<m.S.length)(hn:m.S.length<=6)(on:Bool):Calls Tryz.prog 29 #[.pointer (some ⟨y.G,0,none⟩),.int .i64 a,.int .i64 b,.bool on] w λe w'=>e=.returned (.tuple #[])∧MP y m (m.link a b on) w w':=by
 by_cases hab:a=b
 ·subst hab;have ho:m.link a a on=m:=by unfold aP.link;rw[aO rfl]
  have hfin:MP y m (m.link a a on) w w:=by rw[ho];exact MP.refl h
  clear h ho;go_enter Tryz.func29,Tryz.ntmps29;go_wp2;go_returns;exact⟨rfl,hfin⟩
 ·obtain⟨xa,sa,g,c,e1,e2,e3,e4,p0⟩:=h.get ha;obtain⟨_,q1,_,_⟩:=h.cell;rw[e4]at q1;have hab':((a:Int)==(b:Int))=false:=by
   have:¬(a:Int)=(b:Int):=by omega
   simpa using this
  have han:(a:Int)<(m.S.length:Int):=by omega
  have hbn:(b:Int)<(m.S.length:Int):=by omega
  have ha6:(a:Int)<6:=by omega
  have hb6:(b:Int)<6:=by omega
  obtain⟨_,_,_,_,_,hh,fz⟩:=(h.st a xa sa e1 e2).cell;have hhl:=(h.st a xa sa e1 e2).hl;have k0:=hh b _ (bW (by omega));have k1:=fz (3+b);obtain⟨y1,hm1,hu1⟩:=h.WU e1 e2 (Eo (h.st a xa sa e1 e2) b (by omega) on);obtain⟨m1,UE⟩:∃m1,m.put a {sa with hrs:=sa.hrs.set b on}=m1:=⟨_,rfl⟩;have hS1:m1.S.length=m.S.length:=by rw[<-UE,(gG _ _ _).1,List.length_set]
  have hl:m.link a b on=m1.put b {m1.at' b with hrs:=(m1.at' b).hrs.set a on}:=by
   unfold aP.link;rw[aD hab,e3,UE]
  rw[UE]at hm1 hu1;obtain⟨xb,sb,g',c',f1,f2,f3,f4,p1⟩:=hm1.get (i:=b) (by rw[hS1];exact hb);obtain⟨_,r1,_,_⟩:=hm1.cell;obtain⟨_,_,_,_,_,hh',fz'⟩:=(hm1.st b xb sb f1 f2).cell;have adU:=(hm1.st b xb sb f1 f2).hl;have k2:=hh' a _ (bW (by omega));have k3:=fz' (3+a);have hp2:=hm1.WU f1 f2 (Eo (hm1.st b xb sb f1 f2) a (by omega) on);rw[f4,hS1]at r1;rw[hu1.G]at r1;have hfin:MP y m (m.link a b on) w ((w.setCell ⟨xa.B,3+b,none⟩ (.bool on)).setCell ⟨xb.B,3+a,none⟩ (.bool on)):=by
   rw[hl,f3];exact MP.comp hu1 hp2
  generalize sa.hrs[b]=v0 at k0;generalize sb.hrs[a]=v1 at k2;clear h hm1 hu1 hp2 hl UE e1 e2 e3 e4 f1 f2 f3 f4 hh hh' fz fz' hab;go_enter Tryz.func29,Tryz.ntmps29;go_wp2;go_returns;exact⟨rfl,hfin⟩
theorem abD(h:MM y m w)(hl:m.bH.length<=100000):Calls Tryz.prog 17 #[.pointer (some ⟨y.G,0,none⟩)] w λe w'=>∃v,e=.returned v∧w'.ownsRow w.heap.size 149 3 v m.bH.length (nC m.bH)∧Below w.heap.size w w':=by
 obtain⟨i0,hi,hz0,hz1,hz2⟩:=info_parts Kh;obtain⟨_,_,c2,_⟩:=h.cell;have hrow:=h.bH;have h0:w.ownsRow w.heap.size 149 3 (.slice none 0 0) 0 []:=⟨rfl,.inl ⟨rfl,rfl⟩⟩;have hsrc:Src Tryz.prog 3 45 y.av m.bH.length (nC m.bH) w:=Src.ofRow Tryz.underlying45 hrow (Ia _);have b1:0+m.bH.length<=maxLen:=by unfold maxLen;omega
 have b2:(0+m.bH.length)* 32<=140737488355328:=by omega
 clear h hrow;go_enter Tryz.func17,Tryz.ntmps17;go_wp2_with(at_builtin;refine mH rfl _ _ 45 45 rfl w.heap.size 149 i0 (.agg #[.int .i64 0,.int .i64 0,.string ⟨#[]⟩]) 3 32 Tryz.underlying45 hi hz0 hz1 hz2 rfl (.slice none 0 0) 0 [] rfl h0 y.av m.bH.length (nC m.bH) rfl hsrc b1 b2 (aA _) ?_);intro v7 w7 ho hg hv;have hb:Below w.heap.size w w7:=⟨hg.os,hg.tape,hg.output,hg.size,λk hk=>hg.block k hk (by simp[Value.ownBlock])⟩;clear hg hv h0 hsrc;go_wp2;go_ret;exact⟨v7,rfl,ho,hb⟩
end Go.Proofs.YtakaadcpaeiccabGreat
