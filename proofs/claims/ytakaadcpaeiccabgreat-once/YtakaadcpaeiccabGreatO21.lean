import Derived.Test.YtakaadcpaeiccabGreatO20
set_option maxHeartbeats 8000000
set_option maxRecDepth 100000
namespace Go.Proofs.YtakaadcpaeiccabGreat
variable{c:sO}{k now' κ Wp:Int}{m:aP}{φ:aP->Int×ByteArray->aP×List Ev}{d i n q q':Nat}{s s':St}
theorem Lc(h:Pr c s s'):s'.cnt - s'.bg.length=s.cnt - s.bg.length∧s'.bn=s.bn:=by
 cases h with
 |zy h=>rw[h.cnt,h.bg,h.bn];exact⟨rfl,rfl⟩
 |tab _=>exact⟨rfl,rfl⟩
 |aI _ _ _ _ _=>exact⟨rfl,rfl⟩
 |grw=>exact⟨rfl,rfl⟩
 |mx _ _ _ _=>exact⟨rfl,rfl⟩
 |wr=>
  refine⟨?_,rfl⟩;show s.cnt+((bJ s.seq s.own s.f s.A).2.length:Int) - ((s.bg++(bJ s.seq s.own s.f s.A).2).length:Int)=_;rw[dx];omega
theorem NV(h:fV c n s s'):s'.cnt - s'.bg.length=s.cnt - s.bg.length∧s'.bn=s.bn:=by
 induction h with
 |nil=>exact⟨rfl,rfl⟩
 |snoc _ k ih=>
  have h2:=Lc k;exact⟨h2.1.trans ih.1,h2.2.trans ih.2⟩
structure L9(c0:Int)(s:St):Prop where
 no:s.bn=false->s.cnt=c0+s.bg.length
 yes:s.bn=true->s.cnt=s.bg.length∧0<s.bg.length
theorem BR{c0:Int}(h1:s.cnt - s.bg.length=c0)(h2:s.bn=false∨(c0=0∧0<s.write.bg.length)):L9 c0 s.finish:=by
 have hw:=Lc (c:=none) (.wr:Pr none s s.write);unfold St.finish;split
 ·refine⟨λh=> ?_,λ_=>⟨rfl,?_⟩⟩
  ·cases h
  ·have:=zW s.write;dsimp only;omega
 ·refine⟨λ_=>by omega,λh=> ?_⟩;have hr:s.bn=true:=by rw[<-hw.2];exact h
  rcases h2 with h2|⟨h2,h3⟩
  ·rw[h2]at hr;cases hr
  ·exact⟨by omega,h3⟩
theorem Qu(s:St)(now:Int):(s.begin now).cnt - (s.begin now).bg.length=s.cnt∧(s.begin now).bn=false:=by
 have hw:=Lc (c:=none) (.wr:Pr none {s with now:=now,A:=iW s.A now,bg:=[],aH:=[],aR:=[],aQ:=[],bn:=false} ({s with now:=now,A:=iW s.A now,bg:=[],aH:=[],aR:=[],aQ:=[],bn:=false}:St).write);refine⟨?_,hw.2⟩;have:=hw.1;simp only[List.length_nil]at this;show({s with now:=now,A:=iW s.A now,bg:=[],aH:=[],aR:=[],aQ:=[],bn:=false}:St).write.cnt - _=_;have h2:(s.begin now)=({s with now:=now,A:=iW s.A now,bg:=[],aH:=[],aR:=[],aQ:=[],bn:=false}:St).write:=rfl;rw[h2];omega
theorem wm{now:Int}(h:fV c n (s.locked.begin now) s'):L9 s.cnt s'.finish.freed:=by
 have h1:=Qu s.locked now;have h2:=NV h;have h3:=BR (c0:=s.cnt) (s:=s') (by rw[h2.1];exact h1.1) (.inl (h2.2.trans h1.2));exact⟨h3.no,h3.yes⟩
theorem F6(s:St)(now eu:Int):∃s',fV none 2 (s.locked.begin now) s'∧s.brk now eu=s'.finish.freed:=by
 refine⟨_,fV.trans (n:=1) (k:=1) (.one (.tab (.brk eu))) (vG none _ 0 (nD eu (s.locked.begin now).A) ?_),rfl⟩;intro x hx;obtain⟨y,hy,e⟩:=List.mem_filterMap.1 hx;unfold Da at e;split at e
 ·rename_i hc;cases e;simp only[eG]at hc;refine .inr ⟨bQ eu 0 y,dh.2 ⟨y,hy,rfl⟩,eX _ _ y,?_,.inl (Int.le_max_right _ _)⟩;unfold bQ;rw[aM (by simp[hc.1.1,hc.1.2])];exact fq _
 ·cases e
theorem Tt{y:Rt}(h:y.Ok){fr q:Int}(hq:a_ q):(bQ fr q y).Ok:=by
 unfold bQ;split
 ·exact vY h hq
 ·exact h
theorem Z_(s:St)(now eu:Int):(s.brk now eu).A=(iW s.A now).map (bQ eu 0):=(aO _).A
theorem NZ(s:St)(now eu:Int):∀f∈(s.brk now eu).aH,f.1=0:=by
 intro f hf;have e:(s.brk now eu).aH=Py 0 (nD eu (s.locked.begin now).A):=(aO _).aH;rw[e]at hf;unfold Py at hf;split at hf
 ·cases hf
 ·rw[dO]at hf;rw[hf]
theorem Y8(h:s.Inv k)(hA:∀y∈s.A,y.Ok)(hl:s.A.length<=8)(now eu:Int)(hn:s.now<=now∧now<=4611686018427387904):(s.brk now eu).Inv (k+1)∧(∀y∈(s.brk now eu).A,y.Ok)∧(s.brk now eu).A.length<=8:=by
 have hm:=(rf h).2 now hn hA hl;have hA':∀y∈(iW s.A now).map (bQ eu 0),y.Ok:=λy hy=>by
  obtain⟨z,hz,rfl⟩:=dh.1 hy;exact Tt (NQ hA now z hz) (by simp[a_])
 have hl':((iW s.A now).map (bQ eu 0)).length<=8:=by rw[iK];unfold iW;rw[iK];exact hl
 have e1:=qj (s.locked.begin now) (A:=(s.locked.begin now).A.map (bQ eu 0)) (λy hy=>⟨_,dh.2 ⟨y,hy,rfl⟩,eX _ _ y⟩);have e2:=e1.trans (rQ _ 0 (nD eu (s.locked.begin now).A));have hm2:=vM hm e2;refine⟨mI hm2 (by omega) hA' hl',?_,?_⟩
 ·rw[Z_];exact hA'
 ·rw[Z_];exact hl'
theorem wu(s:St)(now eu:Int):(s.brk now eu).me=s.me∧(s.brk now eu).now=now∧(s.brk now eu).Q=s.Q:=⟨(aO _).me,(aO _).now,(aO _).Q⟩
theorem Y9(s:St)(now eu:Int):L9 s.cnt (s.brk now eu):=by
 obtain⟨s',h1,h2⟩:=F6 s now eu;rw[h2];exact wm h1
structure Zp(κ:Int)(q:Nat)(now:Int)(s:bG)(z:St):Prop where
 inv:z.Inv κ
 pos:z.Pos
 me:z.me=s.addr
 nw:z.now<=now
 ql:z.Q.length<=q
 ok:∀y∈z.A,y.Ok
 len:z.A.length<=8
structure Db(κ:Int)(q:Nat)(now:Int)(s:bG):Prop where
 addr:a_ s.addr
 a0:s.addr≠0
 jb:∀x∈s.aZ,0<=x∧x<=255
 jl:s.aZ.length<=2000
 wh:0<=s.whole
 nd:∀z,s.nd=some z->Zp κ q now s z
 jn:∀z,s.nd=some z->(s.aZ.length:Int)=13 * z.cnt∧0<z.cnt
structure JE(κ:Int)(q:Nat)(now:Int)(s:bG)(z:St):Prop where
 addr:a_ s.addr
 a0:s.addr≠0
 jb:∀x∈s.aZ,0<=x∧x<=255
 jl:s.aZ.length<=2000
 wh:0<=s.whole
 hz:s.nd=some z
 nd:Zp κ q now s z
 no:z.bn=false->13 * z.cnt=s.aZ.length+13 * z.bg.length
 yes:z.bn=true->z.cnt=z.bg.length
 pos:0<z.cnt
structure iX(κ:Int)(q:Nat)(m:aP):Prop where
 n:m.S.length<=6
 bD:m.bD.length<=48
 now:0<=m.now∧m.now<=4611686018427387904
 st:∀s∈m.S,Db κ q m.now s
theorem TK{k':Int}(h:s.Inv k)(hk:k<=k'):s.Inv k':=
 ⟨h.me,h.seq,h.now,h.mem,h.dom,h.cnt,by have:=h.tn;omega,by have:=h.tl;omega,h.lk,h.Cx,h.AV,h.AX,h.EH,h.bd,h.nwl,h.frl,h.cml,h.drl⟩
theorem Zp.up{now:Int}{s s':bG}{z:St}(h:Zp κ q now s z)(h1:κ<=Wp)(h2:q<=q')(h3:now<=now')(h4:s'.addr=s.addr):Zp Wp q' now' s' z:=
 ⟨TK h.inv h1,h.pos,h.me.trans h4.symm,by have:=h.nw;omega,by have:=h.ql;omega,h.ok,h.len⟩
theorem Db.up{now:Int}{s:bG}(h:Db κ q now s)(h1:κ<=Wp)(h2:q<=q')(h3:now<=now'):Db Wp q' now' s:=
 ⟨h.addr,h.a0,h.jb,h.jl,h.wh,λz hz=>(h.nd z hz).up h1 h2 h3 rfl,h.jn⟩
theorem iX.up(h:iX κ q m)(h1:κ<=Wp)(h2:q<=q'):iX Wp q' m:=⟨h.n,h.bD,h.now,λs hs=>(h.st s hs).up h1 h2 (fq _)⟩
theorem JE.nwl{now:Int}{s:bG}{z:St}(h:JE κ q now s z):z.bg.length<=24:=by
 have hc:=h.nd.inv.cnt;cases hr:z.bn
 ·have:=h.no hr;omega
 ·have:=h.yes hr;omega
theorem JE.write{now:Int}{s:bG}{z:St}(h:JE κ q now s z):Db κ q now (s.write z.ot).1:=by
 have hn:=h.nwl;have hc:=h.nd.inv.cnt;have hbd:=FR h.nd.inv.bd;have hfl:=iE z.bg;have hjl:=h.jl;by_cases h1:z.bg≠ []∨z.bn=true
 ·cases ht:s.tears
  ·rw[bG.jX (o:=z.ot) h1 ht];show Db κ q now {s with aZ:=(if z.bn then []else s.aZ)++bB z.bg};have hlen:(((if z.bn then []else s.aZ)++bB z.bg).length:Int)=13 * z.cnt:=by
    cases hr:z.bn
    ·have:=h.no hr;simp only[Bool.false_eq_true,if_false,dx,hfl];omega
    ·have:=h.yes hr;simp only[if_true,List.nil_append,hfl];omega
   refine⟨h.addr,h.a0,λx hx=> ?_,?_,h.wh,λu hu=> ?_,λu hu=> ?_⟩
   ·rcases dG.1 hx with hx|hx
    ·split at hx
     ·cases hx
     ·exact h.jb x hx
    ·exact hbd x hx
   ·dsimp only;omega
   ·have hu':s.nd=some u:=hu;rw[h.hz]at hu';cases hu';exact h.nd.up (fq _) (aA _) (fq _) rfl
   ·have hu':s.nd=some u:=hu;rw[h.hz]at hu';cases hu';exact⟨hlen,h.pos⟩
  ·rw[bG.o6 (o:=z.ot) h1 ht];show Db κ q now ({s with aZ:=if z.bn then s.aZ else s.aZ++(bB z.bg).take s.whole.toNat}:bG).stop;refine⟨h.addr,h.a0,λx hx=> ?_,?_,fq _,λu hu=>(by cases hu),λu hu=>(by cases hu)⟩
   ·have hx':x∈(if z.bn then s.aZ else s.aZ++(bB z.bg).take s.whole.toNat):=hx;split at hx'
    ·exact h.jb x hx'
    ·rcases dG.1 hx' with hx'|hx'
     ·exact h.jb x hx'
     ·exact hbd x (List.mem_of_mem_take hx')
   ·show(if z.bn then s.aZ else s.aZ++(bB z.bg).take s.whole.toNat).length<=2000;cases hr:z.bn
    ·have h5:=h.no hr;simp only[Bool.false_eq_true,if_false,dx,List.length_take,hfl];omega
    ·simp only[if_true];exact hjl
 ·simp only[not_or,Classical.not_not]at h1;obtain⟨h1,h2⟩:=h1;have h2':z.bn=false:=by simpa using h2
  rw[bG.ol (o:=z.ot) h1 h2'];have h5:=h.no h2';rw[h1]at h5;simp only[List.length_nil]at h5;exact⟨h.addr,h.a0,h.jb,h.jl,h.wh,λu hu=>by rw[h.hz]at hu;cases hu;exact h.nd,λu hu=>by
   rw[h.hz]at hu;cases hu;refine⟨?_,h.pos⟩;show(s.aZ.length:Int)=13 * z.cnt;omega⟩
theorem Db.call{now:Int}{s:bG}{z z':St}(h:Db κ q now s)(hz:s.nd=some z)(hc:L9 z.cnt z')(hn:Zp κ q now s z'):JE κ q now {s with nd:=some z'} z':=
 ⟨h.addr,h.a0,h.jb,h.jl,h.wh,rfl,hn.up (fq _) (aA _) (fq _) rfl,λhr=>by
  have h1:=hc.no hr;have h2:=(h.jn z hz).1;show 13 * z'.cnt=(s.aZ.length:Int)+13 * z'.bg.length;omega,λhr=>(hc.yes hr).1,by
  have h3:=(h.jn z hz).2;cases hr:z'.bn
  ·have:=hc.no hr;omega
  ·have:=hc.yes hr;omega⟩
structure Dj(κ:Int)(q:Nat)(m:aP)(i:Nat)(z:St):Prop where
 n:m.S.length<=6
 bD:m.bD.length<=48
 now:0<=m.now∧m.now<=4611686018427387904
 st:∀j s,m.S[j]?=some s->j≠i->Db κ q m.now s
 pre:∃s,m.S[i]?=some s∧JE κ q m.now s z
theorem gP(m:aP)(i:Nat)(s:bG):(m.put i s).S=m.S.set i s∧(m.put i s).now=m.now∧(m.put i s).bD=m.bD:=⟨rfl,rfl,rfl⟩
theorem Dj.write{z:St}(h:Dj κ q m i z):iX κ q (m.put i ((m.at' i).write z.ot).1):=by
 obtain⟨s,h1,h2⟩:=h.pre;rw[dX h1];refine⟨by rw[(gP _ _ _).1,List.length_set];exact h.n,h.bD,h.now,λu hu=> ?_⟩;rw[(gP _ _ _).1]at hu;obtain⟨j,hj⟩:=List.getElem?_of_mem hu;rcases cO hj with⟨_,rfl⟩|⟨hne,hj⟩
 ·exact h2.write
 ·exact h.st j u hj hne
theorem iX.at(h:iX κ q m){i:Nat}{s:bG}(hs:m.S[i]?=some s):Db κ q m.now s:=h.st s (gH hs)
theorem iX.bK(h:iX κ q m)(i:Nat)(f:Int×ByteArray):iX κ q (m.bK i f):=by
 have hS:=oz m i f m.S.length;have ha:=Aq m i f m.S.length h.bD;rw[pu]at hS ha;exact⟨by rw[hS.1];exact h.n,ha,by rw[hS.2];exact h.now,λs hs=>by rw[hS.2];rw[hS.1]at hs;exact h.st s hs⟩
theorem iX.called(h:iX κ q m)(IV:κ<=Wp)(hq:q<=q'){i:Nat}{s:bG}{z z':St}(hs:m.S[i]?=some s)(hz:s.nd=some z)(hc:L9 z.cnt z')(hn:Zp Wp q' m.now s z'):Dj Wp q' (m.put i {s with nd:=some z'}) i z':=by
 refine⟨by rw[(gP _ _ _).1,List.length_set];exact h.n,h.bD,h.now,λj u hj hne=> ?_,?_⟩
 ·rw[(gP _ _ _).1]at hj;rcases cO hj with⟨e,_⟩|⟨_,hj⟩
  ·exact absurd e hne
  ·exact(h.at hj).up IV hq (fq _)
 ·refine⟨_,?_,((h.at hs).up IV hq (fq _)).call hz hc hn⟩;rw[(gP _ _ _).1,List.getElem?_set_self (fA.1 hs).1]
theorem iX.broken(h:iX κ q m){i:Nat}{s:bG}{z:St}(hs:m.S[i]?=some s)(hz:s.nd=some z)(t:Int):Dj (κ+1) q (m.put i {s with nd:=some (z.brk m.now t)}) i (z.brk m.now t):=by
 have hn:=(h.at hs).nd z hz;obtain⟨h1,h2,h3⟩:=Y8 hn.inv hn.ok hn.len m.now t ⟨hn.nw,h.now.2⟩;obtain⟨e1,e2,e3⟩:=wu z m.now t;refine h.called (by omega) (aA _) hs hz (Y9 z m.now t) ⟨h1,λu hu=> ?_,e1.trans hn.me,by rw[e2];exact fq _,by rw[e3];exact hn.ql,h2,h3⟩;rw[e3]at hu;exact hn.pos u hu
theorem Dj.toM{z:St}(h:Dj κ q m i z)(hi:z.ot.idle=true):iX κ q m:=by
 obtain⟨s,h1,h2⟩:=h.pre;have hw:=h.write;rw[Fq]at hi;simp only[eG,iL,Bool.not_eq_true']at hi;rw[dX h1,bG.ol hi.1.1 hi.1.2]at hw;refine⟨h.n,h.bD,h.now,λu hu=> ?_⟩;obtain⟨j,hj⟩:=List.getElem?_of_mem hu;by_cases e:j=i
 ·subst e;rw[h1]at hj;cases hj;refine hw.at (i:=j) ?_;rw[(gP _ _ _).1,List.getElem?_set_self (fA.1 h1).1]
 ·exact h.st j u hj e
theorem Jf(hφ:∀κ m f,iX κ q m->iX (κ+d) q (φ m f).1):∀(L:List (Int×ByteArray)) (κ:Int) (z:aP×List Ev),iX κ q z.1->iX (κ+d * L.length) q (L.foldl (uJ φ) z).1
 | [],κ,z,h=>by simpa using h
 |f::L,κ,z,h=>by
  rw[fQ];have h1:=Jf hφ L (κ+d) (uJ φ z f) (hφ κ z.1 f h);refine h1.up ?_ (aA _);rw[dY,Int.natCast_add,Int.mul_add];omega
theorem FZ(hφ:∀κ m f,iX κ q m->iX (κ+d) q (φ m f).1){κ:Int}{m:aP}{i:Nat}{z:St}(h:Dj κ q m i z)(k:Nat)(hk:k<=z.aH.length):iX (κ+d * k) q (jI φ m i z.ot k).1:=by
 have h1:=Jf hφ (z.aH.take k) κ (m.put i ((m.at' i).write z.ot).1,[⟨i,0,z.ot⟩]) h.write;rw[List.length_take,Nat.min_eq_left hk]at h1;exact h1
theorem NU(hφ:∀κ m f,iX κ q m->iX (κ+d) q (φ m f).1){κ:Int}{m:aP}{i:Nat}{z:St}(h:Dj κ q m i z):iX (κ+d * z.aH.length) q (m.jH φ i z.ot).1:=by
 cases hi:z.ot.idle
 ·cases hw:((m.at' i).write z.ot).2
  ·unfold aP.jH;rw[aG (by simp[hi]),aG (by simp[hw])];exact h.write.up (by have:=Int.mul_nonneg (Int.natCast_nonneg d) (Int.natCast_nonneg z.aH.length);omega) (aA _)
  ·rw[v_ φ m i z.ot hi hw];exact FZ hφ h z.aH.length (aA _)
 ·unfold aP.jH;rw[aM hi];exact(h.toM hi).up (by have:=Int.mul_nonneg (Int.natCast_nonneg d) (Int.natCast_nonneg z.aH.length);omega) (aA _)
theorem MV(i:Nat):∀(κ:Int) (m:aP) (f:Int×ByteArray),iX κ q m->iX (κ+(0:Nat)) q (m.nV i f).1:=λκ m f h=>(h.bK i f).up (by omega) (aA _)
theorem Sz(i:Nat)(m:aP)(f:Int×ByteArray):(m.nV i f).2.length<=1:=b_ _
theorem Ju(hφ:∀m f,(φ m f).2=[]):∀(L:List (Int×ByteArray)) (z:aP×List Ev),(L.foldl (uJ φ) z).2=z.2
 | [],_=>rfl
 |f::L,z=>by
  rw[fQ,Ju hφ L];unfold uJ;rw[hφ,gT]
theorem UZ(m:aP)(i:Nat)(o:Ot):(m.C9 i o).2.length<=1:=by
 unfold aP.C9 aP.jH;split
 ·exact b_ _
 ·split
  ·rw[show(λ(z:aP×List Ev) (f:Int×ByteArray)=>((aP.nV i z.1 f).1,z.2++(aP.nV i z.1 f).2))=uJ (aP.nV i)from rfl,Ju (λ_ _=>rfl)];exact aA _
  ·exact aA _
theorem H7(i:Nat)(m:aP)(f:Int×ByteArray):(m.jh i f).2.length<=1:=by
 unfold aP.jh;split
 ·exact b_ _
 ·split
  ·exact b_ _
  ·exact UZ _ _ _
theorem MS(i:Nat):∀(κ:Int) (m:aP) (f:Int×ByteArray),iX κ q m->iX (κ+(1:Nat)) q (m.jh i f).1:=by
 intro κ m f h;have hf:=h.bK i f;unfold aP.jh;split
 ·exact hf.up (by omega) (aA _)
 ·split
  ·exact hf.up (by omega) (aA _)
  ·rename_i s hs;have hS:=(oz m i f m.S.length);rw[pu]at hS;obtain⟨u,hu⟩:∃u,(m.bK i f).S[i]?=some u:=by
    cases hu:(m.bK i f).S[i]? with
    |some u=>exact⟨u,rfl⟩
    |none=>
     unfold aP.at' at hs;rw[List.getD_eq_getElem?_getD,hu]at hs;cases hs
   rw[dX hu]at hs ⊢;have hb:=hf.broken hu hs f.1;rw[hS.2]at hb;have:=NU (MV i) hb;exact this.up (by omega) (aA _)
open Go.RowKit Go.Maps
variable{κ:Int}{y:MG}{m:aP}{i q:Nat}{w:World}
theorem Dj.pre'{z:St}(h:Dj κ q m i z):∃s,m.S[i]?=some s∧m.at' i=s∧JE κ q m.now s z:=by
 obtain⟨s,h1,h2⟩:=h.pre;exact⟨s,h1,dX h1,h2⟩
theorem iX.node(h:iX κ q m){i:Nat}(hi:i<m.S.length){z:St}(hz:(m.at' i).nd=some z):Zp κ q m.now (m.at' i) z:=by
 have hs:m.S[i]?=some m.S[i]:=cK hi;rw[dX hs]at hz ⊢;exact(h.at hs).nd z hz
theorem La(φ:aP->Int×ByteArray->aP×List Ev)(hφ:∀m f,(φ m f).1.S.length=m.S.length)(m:aP)(i:Nat)(o:Ot)(k:Nat):(jI φ m i o k).1.S.length=m.S.length:=by
 have hg:∀(L:List (Int×ByteArray)) (z:aP×List Ev),(L.foldl (uJ φ) z).1.S.length=z.1.S.length:=by
  intro L
  induction L with
  |nil=>intro z;rfl
  |cons f L ih=>
   intro z;rw[fQ,ih];exact hφ z.1 f
 unfold jI;rw[hg,(gP _ _ _).1,List.length_set]
theorem iP(m:aP)(i:Nat)(f:Int×ByteArray):(m.bK i f).S=m.S∧(m.bK i f).now=m.now:=by
 have:=oz m i f m.S.length;rw[pu]at this;exact this
theorem UY(φ:aP->Int×ByteArray->aP×List Ev)(hφ:∀m f,(φ m f).1.S.length=m.S.length)(m:aP)(i:Nat)(o:Ot):(m.jH φ i o).1.S.length=m.S.length:=by
 cases hi:o.idle
 ·cases hw:((m.at' i).write o).2
  ·unfold aP.jH;rw[aG (by simp[hi]),aG (by simp[hw])];rw[(gP _ _ _).1,List.length_set]
  ·rw[v_ φ m i o hi hw];exact La φ hφ m i o _
 ·unfold aP.jH;rw[aM hi]
theorem SA(i:Nat)(m:aP)(f:Int×ByteArray):(m.nV i f).1.S.length=m.S.length:=by
 show(m.bK i f).S.length=_;rw[(iP m i f).1]
theorem Sw(i:Nat)(m:aP)(f:Int×ByteArray):(m.jh i f).1.S.length=m.S.length:=by
 unfold aP.jh;split
 ·dsimp only;rw[(iP m i f).1]
 ·split
  ·dsimp only;rw[(iP m i f).1]
  ·unfold aP.C9;rw[UY _ (SA i),(gP _ _ _).1,List.length_set,(iP m i f).1]
theorem acL(h:MM y m w){κ:Int}{q:Nat}{i:Nat}{z:St}(hd:Dj κ q m i z)(h0:∀f∈z.aH,f.1=0)(aI bL bO:Value)(b:Nat)(hor:iG b z.aH z.aR z.aQ aI bL bO w)(hb:b<=w.heap.size):
  Calls Tryz.prog 36 #[.pointer (some ⟨y.G,0,none⟩),.int .i64 i,ja z.aZ z.bn aI bL bO] w (jC y m (m.C9 i z.ot).1 (m.C9 i z.ot).2 b w):=by
 obtain⟨s,h1,h2,h3⟩:=hd.pre';have hi:=(fA.1 h1).1;have hI:=h3.nd.inv;have hnw:=h3.nwl;refine aad h i hi hd.n (aP.nV i) z.ot aI bL bO b hor hb hI.bd (by show z.bg.length<=_;omega) ⟨hI.frl,hI.cml,hI.drl⟩ (by rw[h2];have:=h3.jl;omega) (by rw[h2];exact h3.wh) (Sz i) ?_;intro k f hf _ _ y1 w1 hm1;have hk:=(fA.1 hf).1;have hok:=FZ (MV i) hd k (Nat.le_of_lt hk);have hS:=La (aP.nV i) (SA i) m i z.ot k;have hf0:=h0 f (gH hf);have e:aP.jh i (jI (aP.nV i) m i z.ot k).1 f=aP.nV i (jI (aP.nV i) m i z.ot k).1 f:=by
  unfold aP.jh;rw[aM (.inr hf0)];rfl
 rw[<-e];exact zl hm1 i (by rw[hS];exact hi) hok.n hok.bD f (λu hu=>⟨_,(hok.node (by rw[hS];exact hi) hu).inv,(hok.node (by rw[hS];exact hi) hu).nw⟩) hok.now.2 (λhne=>absurd hf0 hne)
theorem Gi(h:MM y m w){κ:Int}{q:Nat}{i:Nat}{z:St}(hd:Dj κ q m i z)(aI bL bO:Value)(b:Nat)(hor:iG b z.aH z.aR z.aQ aI bL bO w)(hb:b<=w.heap.size):
  Calls Tryz.prog 36 #[.pointer (some ⟨y.G,0,none⟩),.int .i64 i,ja z.aZ z.bn aI bL bO] w (jC y m (m.did i z.ot).1 (m.did i z.ot).2 b w):=by
 obtain⟨s,h1,h2,h3⟩:=hd.pre';have hi:=(fA.1 h1).1;have hI:=h3.nd.inv;have hnw:=h3.nwl;refine aad h i hi hd.n (aP.jh i) z.ot aI bL bO b hor hb hI.bd (by show z.bg.length<=_;omega) ⟨hI.frl,hI.cml,hI.drl⟩ (by rw[h2];have:=h3.jl;omega) (by rw[h2];exact h3.wh) (H7 i) ?_;intro k f hf _ _ y1 w1 hm1;have hk:=(fA.1 hf).1;have hok:=FZ (MS i) hd k (Nat.le_of_lt hk);have hS:=La (aP.jh i) (Sw i) m i z.ot k;refine zl hm1 i (by rw[hS];exact hi) hok.n hok.bD f (λu hu=>⟨_,(hok.node (by rw[hS];exact hi) hu).inv,(hok.node (by rw[hS];exact hi) hu).nw⟩) hok.now.2 ?_;intro _ u hu y2 w2 b2 af0 af8 af3 hm2 hb2 hor2;have hsf:=hok.bK i f;obtain⟨eS,eN⟩:=iP (jI (aP.jh i) m i z.ot k).1 i f;obtain⟨v,hv⟩:∃v,((jI (aP.jh i) m i z.ot k).1.bK i f).S[i]?=some v:=⟨_,cK (by rw[eS,hS];exact hi)⟩;rw[dX hv]at hu hm2 ⊢;have hbk:=hsf.broken hv hu f.1;rw[eN]at hbk;exact acL hm2 hbk (NZ u _ _) af0 af8 af3 b2 hor2 hb2
theorem FY{z:St}(hd:Dj κ q m i z):iX (κ+100000) q (m.did i z.ot).1:=by
 have h:=NU (MS i) hd;obtain⟨s,_,_,h3⟩:=hd.pre';have:=h3.nd.inv.frl;exact h.up (by omega) (aA _)
variable{q:Sr}{s:St}
theorem Jk(A:List Rt)(now:Int):∀y∈iW A now,y.valid=true->now<y.exp:=by
 intro y hy hv;obtain⟨z,hz,rfl⟩:=dh.1 hy;unfold og at hv ⊢;split at hv
 ·cases hv
 ·rename_i h;rw[aG h];unfold K_ at h;simp only[eG,iL,not_and]at h;have:=h hv;omega
theorem Ho(s:St)(fr:Int)(p:aC)(L:List (Int×Int))(hk:p.kind=1∨p.kind=2∨p.kind=3∨p.kind=9)(h4:∀q∈s.Q,q.txt.length<=4)(hx:∀y∈s.A,y.valid=true->s.now<y.exp):fV (some (fr,p,L)) (L.length+15) s (s.gF fr p L):=by
 unfold St.gF;split
 ·exact(AP _ s fr p).up (by omega)
 ·split
  ·rename_i h;exact(zw s fr p L h).up (by omega)
  ·split
   ·rename_i h;exact(CO s fr p L h h4).up (by omega)
   ·split
    ·exact(EJ s fr p L).up (by omega)
    ·rename_i h1 h2 h3;have h9:p.kind=9:=by
      rcases hk with h|h|h|h
      ·exact absurd h h1
      ·exact absurd h h2
      ·exact absurd h h3
      ·exact h
     exact(EK s fr p L h9 hx).up (by omega)
theorem EM(x0 x1 x2 x4:Int)(r:List Int):(iZ x0 x1 x2 x4 r).kind=x1:=by
 unfold iZ;split
 ·rename_i h;exact h.symm
 ·split
  ·rename_i h;exact h.symm
  ·split
   ·rename_i h;exact h.symm
   ·split
    ·rename_i h;exact h.symm
    ·rfl
theorem AR{xs:List Int}(h:qC xs=true):(iZ (xs.getD 0 0) (xs.getD 1 0) (xs.getD 2 0) (xs.getD 4 0) (xs.drop 5)).kind=xs.getD 1 0∧(xs.getD 1 0=1∨xs.getD 1 0=2∨xs.getD 1 0=3∨xs.getD 1 0=9):=by
 refine⟨EM _ _ _ _ _,?_⟩
 match xs,h with
 |x0::x1::x2::x3::x4::r,h=>
  simp only[qC,eG]at h;have hk:=(eZ h.2).2.2.2.2.2.2;rw[EM]at hk;show x1=1∨x1=2∨x1=3∨x1=9;rcases hk with h|h|h|h
  ·exact .inl h
  ·exact .inr (.inl h)
  ·exact .inr (.inr (.inr h))
  ·exact .inr (.inr (.inl h.1))
def Nv(fr:Int)(xs:List Int):sO:=some (fr,iZ (xs.getD 0 0) (xs.getD 1 0) (xs.getD 2 0) (xs.getD 4 0) (xs.drop 5),ng (xs.getD 1 0) (xs.getD 4 0) (xs.drop 5))
theorem Hq(s:St)(fr:Int)(xs:List Int)(h4:∀q∈s.Q,q.txt.length<=4)(hx:∀y∈s.A,y.valid=true->s.now<y.exp):fV (Nv fr xs) ((ng (xs.getD 1 0) (xs.getD 4 0) (xs.drop 5)).length+15) s (s.hear fr xs):=by
 unfold St.hear;split
 ·exact(fK _ s 0).up (by omega)
 ·rename_i h;simp only[not_or]at h;have hF:qC xs=true:=by simpa using h.1
  obtain⟨h1,h2⟩:=AR hF;exact Ho s fr _ _ (by rw[h1];exact h2) h4 hx
theorem EG(s:St)(now fr:Int)(xs:List Int)(h4:∀q∈s.Q,q.txt.length<=4):∃n s',fV (Nv fr xs) n (s.locked.begin now) s'∧s.rcv now fr xs=s'.finish.freed:=
 ⟨_,_,Hq _ fr xs h4 (Jk s.A now),rfl⟩
theorem Eu(s:St)(now d:Int)(t:ByteArray):∃n s',fV none n (s.locked.begin now) s'∧s.snd now d t=s'.finish.freed:=by
 unfold St.snd St.sends;dsimp only;split
 ·exact⟨_,_,pI none _ d t,rfl⟩
 ·exact⟨_,_,DK none _ d t,rfl⟩
def l9(s:St):Prop:=∀q∈s.Q,q.txt.length<=4∧1<=q.ttl∧q.ttl<=8
theorem vD(h:l9 s)(hq:q.txt.length<=4∧1<=q.ttl∧q.ttl<=8):l9 (s.ask q):=by
 intro z hz;obtain⟨o,h1,_⟩:∃o,(s.ask q).Q=_∧True:=⟨(),rfl,trivial⟩;unfold St.ask at hz;split at hz
 ·rcases fC hz with rfl|⟨k1,_⟩
  ·exact hq
  ·exact h z k1
 ·split at hz
  ·rcases fC hz with rfl|⟨k1,_⟩
   ·exact hq
   ·exact h z k1
  ·rcases fC hz with rfl|⟨k1,_⟩
   ·exact hq
   ·exact h z k1
theorem Hg(h:l9 s)(d:Int):l9 (s.sendAll d):=λz hz=>h z ((xB s d).1 z hz)
theorem Hf(h:l9 s)(hq:q.txt.length<=4∧1<=q.ttl∧q.ttl<=8):l9 (s.step q):=by
 unfold St.step;split
 ·exact Hg h _
 ·split
  ·unfold St.widen;split
   ·exact vD h ⟨hq.1,by dsimp only;omega⟩
   ·split
    ·exact vD h ⟨hq.1,by dsimp only;omega⟩
    ·split
     ·exact vD h hq
     ·exact λz hz=>h z (List.mem_filter.1 hz).1
  ·exact vD h hq
theorem DJ:∀(D:List Sr) (s:St),(∀q∈D,q.txt.length<=4∧1<=q.ttl∧q.ttl<=8)->l9 s->fV none (13 * D.length) s (D.foldl St.step s)
 | [],s,_,_=> .nil _ _
 |q::D,s,hD,h=>by
  rw[fQ,dY];have hq:=hD q gm;exact((Sb none s q ⟨hq.2.1,hq.2.2⟩ (λz hz=>(h z hz).1)).trans (DJ D (s.step q) (λz hz=>hD z (iI _ hz)) (Hf h hq))).up (by omega)
theorem BO{Q:List Sr}{now:Int}(h:q∈St.j_ Q now):q∈Q:=by
 unfold St.j_ at h;exact(List.mem_filter.1 ((List.mergeSort_perm _ _).mem_iff.1 h)).1
theorem UW(Q:List Sr)(now:Int):(St.j_ Q now).length<=Q.length:=by
 unfold St.j_;rw[(List.mergeSort_perm _ _).length_eq];exact List.length_filter_le _ _
theorem zO(s:St)(now:Int)(h:l9 s):∃s',fV none (13 * (St.j_ s.Q now).length) (s.locked.begin now) s'∧s.jY now=s'.finish.freed:=
 ⟨_,DJ (St.j_ s.Q now) (s.locked.begin now) (λq hq=>h q (BO hq)) h,rfl⟩
theorem YQ(s:St):s.finish.freed.me=s.me∧s.finish.freed.now=s.now∧s.finish.freed.Q=s.Q:=⟨(aO s).me,(aO s).now,(aO s).Q⟩
theorem oC{c:sO}{n:Nat}{s':St}{now:Int}(h:fV c n (s.locked.begin now) s'):s'.finish.freed.me=s.me∧s'.finish.freed.now=now:=by
 obtain⟨h1,h2,_⟩:=YQ s';exact⟨h1.trans h.me,h2.trans h.now⟩
theorem BV(s:St)(q:Sr):(s.ask q).Q.length=s.Q.length:=by
 obtain⟨o,h1,_⟩:=Eh s q;rw[h1,ou]
theorem uf(s:St)(d:Int):(s.sendAll d).Q.length<=s.Q.length:=by
 unfold St.sendAll;split
 ·exact aA _
 ·split
  ·exact List.length_filter_le _ _
  ·exact aA _
theorem Xa(s:St)(q:Sr):(s.step q).Q.length<=s.Q.length:=by
 unfold St.step;split
 ·exact uf _ _
 ·split
  ·unfold St.widen;split
   ·rw[BV];exact aA _
   ·split
    ·rw[BV];exact aA _
    ·split
     ·rw[BV];exact aA _
     ·exact List.length_filter_le _ _
  ·rw[BV];exact aA _
theorem GK:∀(D:List Sr) (s:St),(D.foldl St.step s).Q.length<=s.Q.length
 | [],_=>aA _
 |q::D,s=>by
  rw[fQ];exact dH (GK D _) (Xa s q)
theorem aal(s:St)(now:Int):(s.jY now).Q.length<=s.Q.length:=by
 show((St.j_ s.Q now).foldl St.step (s.locked.begin now)).finish.Q.length<=_;rw[(aO _).Q];exact GK _ _
theorem aat(s:St)(now d:Int)(t:ByteArray):(s.snd now d t).Q.length<=s.Q.length+1:=by
 show(if (bH (s.locked.begin now).A d (s.locked.begin now).now).2 then(s.locked.begin now).aN d t else(s.locked.begin now).await d t).finish.Q.length<=_;rw[(aO _).Q];split
 ·rw[(fu _ _ _).1];exact Nat.le_succ _
 ·unfold St.await;split
  ·unfold St.hold;split<;>(dsimp only;rw[ou];exact Nat.le_succ _)
  ·rw[BV];show((s.locked.begin now).Q++ [_]).length<=_;rw[dx];exact aA _
theorem wD(s:St)(p:aC):(s.answer p).Q=s.Q:=by unfold St.answer;split<;>rfl
theorem nY(s:St)(fr:Int)(p:aC):(s.bV fr p).Q=s.Q:=by
 have ha:∀s:St,(s.asked p).Q=s.Q:=λs=>by
  unfold St.asked;split
  ·unfold St.iF;rw[wD]
  ·split
   ·unfold St.gJ;rw[wD]
   ·split<;>rfl
 unfold St.bV;split
 ·rfl
 ·unfold St.learn;split
  ·rfl
  ·split
   ·rw[ha]
   ·rw[ha]
theorem Tp(s:St)(t:Int)(L:List (Int×Int)):(s.lose t L).Q=s.Q:=rfl
theorem Yh(s:St)(fr:Int)(xs:List Int):(s.hear fr xs).Q.length<=s.Q.length:=by
 unfold St.hear;split
 ·exact aA _
 ·unfold St.gF;split
  ·unfold St.dA;split<;>exact aA _
  ·split
   ·rw[nY];exact aA _
   ·split
    ·unfold St.dN;split
     ·exact aA _
     ·dsimp only;split
      ·exact aA _
      ·split
       ·split
        ·exact uf _ _
        ·exact uf _ _
       ·split
        ·exact aA _
        ·unfold St.iC;split<;>exact aA _
    ·split
     ·unfold St.fD;dsimp only;rw[Tp];split<;>exact aA _
     ·unfold St.dU;split
      ·exact aA _
      ·split
       ·exact aA _
       ·split<;>exact aA _
theorem ac2(s:St)(now fr:Int)(xs:List Int):(s.rcv now fr xs).Q.length<=s.Q.length:=by
 show((s.locked.begin now).hear fr xs).finish.Q.length<=_;rw[(aO _).Q];exact Yh _ _ _
theorem Xt(h:s.Pos)(now fr:Int)(xs:List Int)(hb:∀x∈xs,0<=x∧x<=255)(h4:∀q∈s.Q,q.txt.length<=4):(s.rcv now fr xs).Pos:=by
 intro q hq;have hq':q∈((s.locked.begin now).hear fr xs).Q:=by
  have e:=(aO ((s.locked.begin now).hear fr xs)).Q;rw[<-e];exact hq
 exact h q ((BL (s.locked.begin now) fr xs hb h4).qs q hq')
variable{B N:Nat}{s:St}{w:World}
theorem I9(w:World):
  Calls Tryz.prog 94 #[] w λe w'=>e=.returned (.agg #[.nilFunc,.func (.func 130) #[] #[],.func (.func 131) #[] #[],.func (.func 132) #[] #[],.nilFunc,.nilFunc,.nilFunc,.nilFunc,.nilFunc,.func (.func 133) #[] #[]])∧Below w.heap.size w w':=by
 go_enter Tryz.func94,Tryz.ntmps94;go_wp2;go_returns;exact⟨rfl,bC⟩
theorem EC(s:St)(t:Int)(p:aC)(ao:Option Addr)(c:Nat)(L:List (Int×Int)):s.send t {p with la:=ao,lc:=c} L=s.send t p L:=by
 unfold St.send;rw[NS]
theorem Vj(s:St)(p:aC)(ao:Option Addr)(c:Nat):s.askOn {p with la:=ao,lc:=c}=s.askOn p:=by
 unfold St.askOn;dsimp only;exact EC s 0 {p with ttl:=p.ttl - 1,hops:=St.far p.hops,aX:=if (aK s.A p.dest).isSome then max p.aX (eU s.A p.dest)else p.aX,unk:=if (aK s.A p.dest).isSome then false else p.unk} ao c []
theorem Vi(s:St)(p:aC)(ao:Option Addr)(c:Nat):s.asked {p with la:=ao,lc:=c}=s.asked p:=by
 unfold St.asked;dsimp only;rw[Vj];rfl
theorem Tx(s:St)(fr:Int)(p:aC)(ao:Option Addr)(c:Nat):s.learn fr {p with la:=ao,lc:=c}=s.learn fr p:=by
 simp only[St.learn,Vi]
theorem Br(s:St)(fr:Int)(p:aC)(ao:Option Addr)(c:Nat):s.bV fr {p with la:=ao,lc:=c}=s.bV fr p:=by
 unfold St.bV;dsimp only;rw[Tx];try rfl
theorem Kq(s:St)(fr:Int)(p:aC)(ao:Option Addr)(c:Nat):s.iC fr {p with la:=ao,lc:=c}=s.iC fr p:=by
 unfold St.iC;dsimp only;split
 ·exact EC _ _ {p with ttl:=p.ttl - 1,hops:=St.far p.hops} ao c []
 ·rfl
theorem Fz(s:St)(fr:Int)(p:aC)(ao:Option Addr)(c:Nat):s.dN fr {p with la:=ao,lc:=c}=s.dN fr p:=by
 unfold St.dN;dsimp only;rw[Kq];try rfl
theorem I_(s:St)(fr:Int)(p:aC)(ao:Option Addr)(c:Nat):s.dU fr {p with la:=ao,lc:=c}=s.dU fr p:=by
 unfold St.dU;dsimp only;split
 ·rfl
 ·split
  ·rfl
  ·split
   ·exact EC _ _ {p with ttl:=p.ttl - 1} ao c []
   ·rfl
theorem KU(s:St)(fr:Int)(p:aC)(ao:Option Addr)(c:Nat)(L:List (Int×Int)):s.gF fr {p with la:=ao,lc:=c} L=s.gF fr p L:=by
 unfold St.gF;dsimp only;rw[Br,Fz,I_];rfl
theorem Gf{g:bI}{TL:List Hp.Tm}(n:Nd N B g s TL w)(fr:Int)(p:aC)(hp:p.Wf)(fM:0<=s.now∧s.now<=4611686018427387904)(hfl:s.aH.length<=1000000)(hdl:s.aQ.length<=1000000):
  Calls Tryz.prog 93 #[.pointer (some ⟨N,0,none⟩),.pointer (some ⟨B,0,none⟩),.int .u32 fr,p.val] w λe w'=>e=.returned (.tuple #[])∧lW N B g s (s.dA fr p) TL w w':=by
 obtain⟨_,hde,_,_,_,_⟩:=hp.num;have hb0:Below w.heap.size w (w.alloc p.box):=bC;have gW:=PB.new p w;have n0:=n.later hb0;have kK:¬Ft N g s w.heap.size:=n.new (aA _);obtain⟨s2,dB⟩:∃s2,s.dA fr p=s2:=⟨_,rfl⟩;rw[dB];replace dB:=hide dB;have HX:=hide (jB n0 8 hdl);dsimp only[aC.box]at hb0 n0 HX;unfold PB at gW;dsimp only[aC.box]at gW;go_enter Tryz.func93,Tryz.ntmps93;go_upto_region 1 with(fail);generalize World.alloc _ _=W1 at hb0 gW n0 HX ⊢;generalize l5:w.heap.size=C at gW kK ⊢;replace l5:=hide l5;go_wp2_with fail;refine aT HX.out ?_;rintro e w2 ⟨rfl,g2,n2,u2,t2⟩;obtain⟨hP2,Jc⟩:=u2.kF gW kK;obtain⟨s1,hs1⟩:∃z,s.drop 8=z:=⟨_,rfl⟩;have h1:Hid (s1.me=s.me∧s1.now=s.now∧s1.aH=s.aH∧s1.A=s.A):=by
  show _∧_;rw[<-hs1];exact⟨rfl,rfl,rfl,rfl⟩
 have hs2:Hid ((if p.kind=9∧p.dest≠s1.me then {s1.kE fr p.dest with cZ:=s1.now+2000}else s1)=s2):=by
  rw[<-hs1];have:=dB.out;unfold St.dA at this;exact this
 rw[hs1]at n2 u2 Jc;have JU:=(Up.below hb0:Up B (Ft N g s) (Ft N g s) w W1).trans u2;have NA:0<=s1.now∧s1.now<=4611686018427387904:=by rw[h1.out.2.1];exact fM
 have Bp:s1.aH.length<=1000000:=by rw[h1.out.2.2.1];exact hfl
 clear hs1 dB HX hb0 n0 u2 gW kK;obtain⟨c2,c3,c4,c7,c0⟩:=n2.cell;obtain⟨p0,p1,p2,p3,p4,p5,p6,p7,p8,p9,jL,jF⟩:=PB.cell hP2;have hq:∀q,Below w2.heap.size w2 (w2.drewN q):=λq=>below_drewN (aU _ _) q;by_cases hk:p.kind=9∧p.dest≠s1.me
 ·replace hs2:=hide ((aM hk).symm.trans hs2.out);obtain⟨hk9,hkd⟩:=hk;have b9:(p.kind==9)=true:=by simpa using hk9
  have bd:(p.dest !=s1.me)=true:=by simpa using hkd
  clear hk9 hkd;go_wp2_with fail;go_quiet (fail);generalize hg:World.drewN _ _=W3;obtain⟨n3,hP3,hb3⟩:=(show ∀q w3,w2.drewN q=w3->Nd N B g2 s1 TL w3∧PB p C w3∧Below w2.heap.size w2 w3 from by
   rintro q _ rfl;exact⟨n2.later (hq q),PB.below hP2 (hq q),hq q⟩) _ _ hg
  have Q9:=JU.trans (.below hb3:Up B (Ft N g2 s1) (Ft N g2 s1) w2 W3);clear hg n2 hP2 c2 c3 c4 c7 c0 p0 p1 p2 p3 p4 p5 p6 p7 p8 p9 jL jF hq JU hb3 b9 bd;obtain⟨p0,p1,p2,p3,p4,p5,p6,p7,p8,p9,jL,jF⟩:=PB.cell hP3;have HL:=hide (Em n3 fr p.dest hde Bp);go_wp2_with fail;refine aT HL.out ?_;rintro e w4 ⟨rfl,g4,n4,u4,t4⟩;obtain⟨s3,hs3⟩:∃z,s1.kE fr p.dest=z:=⟨_,rfl⟩;have h3:Hid (s3.now=s1.now∧ {s3 with cZ:=s1.now+2000}=s2):=by
   show _∧_;rw[<-hs3];exact⟨rfl,hs2.out⟩
  rw[hs3]at n4 u4;have qg:=Q9.trans u4;have tt:Hid (g4.x.T=g.x.T):=t4.out.trans t2.out;clear hs3 hs2 HL u4 Q9 n3 hP3 p0 p1 p2 p3 p4 p5 p6 p7 p8 p9 jL jF;obtain⟨c2,c3,c4,c7,c0⟩:=n4.cell;rw[h3.out.1]at c0;have f4:=n4.nn.cr.nd.free 4;have hg1:w4.grownBy (w4.setCell ⟨N,4,none⟩ (.int .u64 (s1.now+2000))) (some N):=ah (aB _ (some N)) 4 _;obtain⟨e1,e2,e3,e4,e5,e6,e7,e8,e9⟩:=n4.nn.eq;obtain⟨n5,u5⟩:=n4.cells (s':={s3 with cZ:=s1.now+2000}) (n4.nn.cr.nd.RH (s1.now+2000)) (Fx.grown hg1 λk e=>by cases e;rfl) ⟨e1,e2,rfl,e4,e5,e6,e7,e8,e9⟩ ⟨rfl,rfl,rfl,rfl,rfl,rfl⟩ ⟨rfl,rfl,rfl,rfl,rfl,rfl,rfl,rfl,rfl⟩ ⟨rfl,rfl,rfl,rfl,rfl⟩;rw[h3.out.2]at n5 u5;have hw:IntKind.u64.wrap (s1.now+2000)=s1.now+2000:=mM NA (by omega);have hfin:Hid (lW N B g s s2 TL w (w4.setCell ⟨N,4,none⟩ (.int .u64 (s1.now+2000)))):=⟨_,n5,qg.trans u5,tt.out⟩;clear n4 n5 u5 qg hg1 e1 e2 e3 e4 e5 e6 e7 e8 e9 h3;go_wp2;go_returns;first
   |exact⟨rfl,hfin.out⟩
   |(rw[hw];exact⟨rfl,hfin.out⟩)
 ·replace hs2:=hide ((aG hk).symm.trans hs2.out);have hk':p.kind≠9∨(p.kind=9∧p.dest=s1.me):=by
   by_cases h9:p.kind=9
   ·exact .inr ⟨h9,Classical.byContradiction λh=>hk ⟨h9,h⟩⟩
   ·exact .inl h9
  clear hk;have hfin:Hid (∀w3,Below w2.heap.size w2 w3->lW N B g s s2 TL w w3):=by
   intro w3 hb;rw[<-hs2.out];exact⟨g2,n2.later hb,JU.trans (.below hb),t2⟩
  have hq:=hide hq;clear hs2 hP2 n2;rcases hk' with h9|⟨h9,hd⟩
  ·have b9:(p.kind==9)=false:=by simpa using h9
   clear h9;go_wp2_with fail;go_quiet (fail);go_wp2;go_returns;exact⟨rfl,hfin.out _ (hq.out _)⟩
  ·have b9:(p.kind==9)=true:=by simpa using h9
   have bd:(p.dest !=s1.me)=false:=by simpa using hd
   clear h9 hd;go_wp2_with fail;go_quiet (fail);go_wp2;go_returns;exact⟨rfl,hfin.out _ (hq.out _)⟩
def Wn(N B:Nat)(g:bI)(s s2:St)(TL:List Hp.Tm)(w w':World):Prop:=∃dW,lW N B g s s2 dW w w'∧∃d,Zg d s TL s2 dW
theorem Wn.of{g:bI}{s2:St}{TL:List Hp.Tm}{w':World}(h:lW N B g s s2 TL w w')(hQ:s2.Q=s.Q):Wn N B g s s2 TL w w':=⟨TL,h,0,.inl ⟨rfl,hQ⟩⟩
theorem Zb(s:St)(p:aC):(s.asked p).Q=s.Q:=by
 unfold St.asked St.iF St.gJ;split
 ·exact wD _ _
 ·split
  ·exact wD _ _
  ·split<;>rfl
theorem aey(s:St)(fr:Int)(p:aC):(s.learn fr p).Q=s.Q:=by
 unfold St.learn;split
 ·rfl
 ·split<;>exact Zb _ _
theorem KV(s:St)(fr:Int)(L:List (Int×Int)):(s.fD fr L).Q=s.Q:=by
 unfold St.fD;dsimp only;split<;>rfl
theorem KW(s:St)(fr:Int)(p:aC):(s.dU fr p).Q=s.Q:=by
 unfold St.dU;split
 ·rfl
 ·split
  ·rfl
  ·split<;>rfl
theorem Fy(s:St)(fr:Int)(p:aC):(s.dA fr p).Q=s.Q:=by
 unfold St.dA;split<;>rfl
theorem Xr{x0 x1 x2 x3 x4:Int}{r:List Int}(ao:Option Addr)(c:Nat)(hb:∀x∈x0::x1::x2::x3::x4::r,0<=x∧x<=255)(hF:qC (x0::x1::x2::x3::x4::r)=true):
  ({iZ x0 x1 x2 x4 r with la:=ao,lc:=c}:aC).Hd∧(x1=1∨x1=2∨x1=3∨x1=9)∧(iZ x0 x1 x2 x4 r).kind=x1:=by
 have h1:=Xz (x2:=x2) (λy hy=>hb y (by simp[hy])) (hb x0 (by simp)) (hb x1 (by simp)) (hb x4 (by simp)) (r:=r);have hg:(iZ x0 x1 x2 x4 r).fe=true:=by
  simp only[qC,eG]at hF;exact hF.2
 obtain⟨_,t0,t1,q0,q1,_,hk⟩:=eZ hg;have hkk:(iZ x0 x1 x2 x4 r).kind=x1:=by
  unfold iZ;split
  ·rename_i h;exact h.symm
  split
  ·rename_i h;exact h.symm
  split
  ·rename_i h;exact h.symm
  split
  ·rename_i h;exact h.symm
  ·rfl
 refine⟨⟨⟨h1.1,h1.2,h1.3,h1.4,h1.5,h1.6,h1.7,h1.8,h1.9,h1.10,h1.11,h1.12,h1.13,h1.14,h1.15,h1.16,h1.17,h1.18,h1.19,h1.20⟩,⟨t0,t1⟩,⟨q0,q1⟩⟩,?_,hkk⟩;rw[hkk]at hk;rcases hk with h|h|h|⟨h,_⟩
 ·exact .inl h
 ·exact .inr (.inl h)
 ·exact .inr (.inr (.inr h))
 ·exact .inr (.inr (.inl h))
theorem WT(w:World):(Instr.index 199 (.agg #[.nilFunc,.func (.func 130) #[] #[],.func (.func 131) #[] #[],.func (.func 132) #[] #[],.nilFunc,.nilFunc,.nilFunc,.nilFunc,.nilFunc,.func (.func 133) #[] #[]]) (.int .i64 1)).run Tryz.prog w=.ok (.func (.func 130) #[] #[]) w:=by kernel_rfl
theorem WS(w:World):(Instr.index 199 (.agg #[.nilFunc,.func (.func 130) #[] #[],.func (.func 131) #[] #[],.func (.func 132) #[] #[],.nilFunc,.nilFunc,.nilFunc,.nilFunc,.nilFunc,.func (.func 133) #[] #[]]) (.int .i64 2)).run Tryz.prog w=.ok (.func (.func 131) #[] #[]) w:=by kernel_rfl
theorem WR(w:World):(Instr.index 199 (.agg #[.nilFunc,.func (.func 130) #[] #[],.func (.func 131) #[] #[],.func (.func 132) #[] #[],.nilFunc,.nilFunc,.nilFunc,.nilFunc,.nilFunc,.func (.func 133) #[] #[]]) (.int .i64 3)).run Tryz.prog w=.ok (.func (.func 132) #[] #[]) w:=by kernel_rfl
theorem WQ(w:World):(Instr.index 199 (.agg #[.nilFunc,.func (.func 130) #[] #[],.func (.func 131) #[] #[],.func (.func 132) #[] #[],.nilFunc,.nilFunc,.nilFunc,.nilFunc,.nilFunc,.func (.func 133) #[] #[]]) (.int .i64 9)).run Tryz.prog w=.ok (.func (.func 133) #[] #[]) w:=by kernel_rfl
theorem acB{g:bI}{TL:List Hp.Tm}(n:Nd N B g s TL w)(hF:s.Q0)(htn:s.tn<=4000000000000000000)(htl:TL.length<=1000000)(fr:Int)(hfr:a_ fr)(v:Value)(xs:List Int)(hv:fo w v xs):
  Calls Tryz.prog 59 #[.pointer (some ⟨N,0,none⟩),.pointer (some ⟨B,0,none⟩),.int .u32 fr,v] w λe w'=>e=.returned (.tuple #[])∧Wn N B g s (s.hear fr xs) TL w w':=by
 have hby:=hv.1;have HD:=hide (L8 v xs w hv);clear hv;obtain⟨s2,dB⟩:∃s2,s.hear fr xs=s2:=⟨_,rfl⟩;rw[dB];replace dB:=hide dB;have hfl:s.aH.length<=900000:=hF.aH;have hdl:s.aQ.length<=900000:=hF.aQ;go_enter Tryz.func59,Tryz.ntmps59;go_wp2_with fail;refine aT HD.out ?_;rintro e w1 ⟨hb1,h⟩;have n1:=n.later hb1;clear HD;rcases h with⟨hFt,v1,rfl,x0,x1,x2,x3,x4,r,ao,c,hxs,hv1,hlen,hA,I7⟩|⟨hFt,rfl⟩
 ·subst hxs;obtain⟨hq,hk,hkk⟩:=Xr (ao:=ao) (c:=c) hby hFt;have hs2:Hid ((if fr=0∨fr=s.me then s.drop 0 else s.gF fr {iZ x0 x1 x2 x4 r with la:=ao,lc:=c} (ng x1 x4 r))=s2):=by
   show _=_;rw[<-dB.out,KU];unfold St.hear;rw[hFt];by_cases h:fr=0∨fr=s.me
   ·rw[aM h,aM (.inr h)]
   ·rw[aG h,aG (by rintro(h1|h1)<;>first|(cases h1;done)|exact h h1)];rfl
  have hL1:fJ w1 {iZ x0 x1 x2 x4 r with la:=ao,lc:=c} (ng x1 x4 r):=⟨hlen,hA⟩;have hap:∀b,ao=some b->¬Ft N g s b.block:=λb hb=>n.new (I7 b hb);have hL0:x1≠3->ng x1 x4 r=[]:=λh=>by unfold ng;rw[aG h]
  have hpk:({iZ x0 x1 x2 x4 r with la:=ao,lc:=c}:aC).kind=x1:=hkk;have hpa:({iZ x0 x1 x2 x4 r with la:=ao,lc:=c}:aC).la=ao:=rfl;generalize ({iZ x0 x1 x2 x4 r with la:=ao,lc:=c}:aC)=p at hv1 hq hs2 hL1 hpk hpa;generalize ng x1 x4 r=L at hs2 hL1 hL0;subst hv1 hpa;have hap:Gj N g s p.la:=hap;clear hby hFt hlen hA I7 dB hkk;rw[<-hpk]at hk hL0;clear hpk;have hp:=hq.wf;have hb2:Below w1.heap.size w1 (w1.alloc p.box):=bC;have hP2:=PB.new p w1;have n2:=n1.later hb2;have xQ:=hb1.trans (hb2.mono hb1.size);have hL2:=hL1.below hb2;clear n1 hL1 hb2;dsimp only[aC.box]at n2 xQ hL2;unfold PB at hP2;dsimp only[aC.box]at hP2;dsimp only[aC.val];go_upto_region 2 with(fail);generalize World.alloc _ _=W2 at hP2 n2 xQ hL2 ⊢;generalize w1.heap.size=C at hP2 ⊢;obtain⟨c2,c3,c4,c7,c0⟩:=n2.cell;obtain⟨p0,p1,p2,p3,p4,p5,p6,p7,p8,p9,jL,jF⟩:=PB.cell hP2;by_cases hf:fr=0∨fr=s.me
  ·replace hs2:=hide ((aM hf).symm.trans hs2.out);have HX:=hide (jB n2 0 (by omega));rw[hs2.out]at HX;have hQ:Hid (s2.Q=s.Q):=by show _=_;rw[<-hs2.out];rfl
   have hfin:Hid (∀w9,lW N B g s s2 TL W2 w9->Wn N B g s s2 TL w w9):=λw9 h=> .of (h.pre xQ) hQ.out;have hf':fr=0∨(¬fr=0∧fr=s.me):=by
    by_cases h:fr=0
    ·exact .inl h
    ·exact .inr ⟨h,hf.resolve_left h⟩
   clear hs2 hQ xQ hf n2 hL2 hP2 hap;rcases hf' with h|⟨h,h'⟩
   ·have b0:(fr==0)=true:=by simpa using h
    clear h;go_wp2_with fail;refine aT HX.out ?_;rintro e w9 ⟨rfl,hN⟩;have I8:=hide (hfin.out _ hN);clear hN HX;go_wp2;go_returns;exact⟨rfl,I8.out⟩
   ·have b0:(fr==0)=false:=by simpa using h
    have b1:(fr==s.me)=true:=by simpa using h'
    clear h h';go_wp2_with fail;refine aT HX.out ?_;rintro e w9 ⟨rfl,hN⟩;have I8:=hide (hfin.out _ hN);clear hN HX;go_wp2;go_returns;exact⟨rfl,I8.out⟩
  ·replace hs2:=hide ((aG hf).symm.trans hs2.out);have b0:(fr==0)=false:=by
    have:¬fr=0:=λh=>hf (.inl h);simpa using this
   have b1:(fr==s.me)=false:=by
    have:¬fr=s.me:=λh=>hf (.inr h);simpa using this
   clear hf;go_wp2_with fail;by_cases zD:s.now<s.cZ
   ·have bs:decide (s.now<s.cZ)=true:=gu zD;have hs3:Hid (s.dA fr p=s2):=by
     show _=_;rw[<-hs2.out];unfold St.gF;rw[aM zD]
    have HX:Hid (∀W5,Below W2.heap.size W2 W5->Calls Tryz.prog 93 #[.pointer (some ⟨N,0,none⟩),.pointer (some ⟨B,0,none⟩),.int .u32 fr,p.val] W5 λe w'=>e=.returned (.tuple #[])∧Wn N B g s s2 TL w w'):=by
     intro W5 h5;refine(Gf (n2.later h5) fr p hp hF.now (by omega) (by omega)).mono ?_;rintro e w9 ⟨rfl,hN⟩;rw[hs3.out]at hN;exact⟨rfl,.of (hN.pre (xQ.trans (h5.mono xQ.size))) (by rw[<-hs3.out];exact Fy _ _ _)⟩
    dsimp only[aC.val]at HX;clear hs2 hs3 zD;go_quiet (fail);generalize hg:World.drewN _ _=W3;obtain⟨hP3,hb3⟩:=(show ∀q w3,W2.drewN q=w3->PB p C w3∧Below W2.heap.size W2 w3 from by
     rintro q _ rfl;have hbq:Below W2.heap.size W2 (W2.drewN q):=below_drewN (aU _ _) q;exact⟨PB.below hP2 hbq,hbq⟩) _ _ hg
    clear hg n2 hP2 c2 c3 c4 c7 c0 p0 p1 p2 p3 p4 p5 p6 p7 p8 p9 jL jF;obtain⟨p0,p1,p2,p3,p4,p5,p6,p7,p8,p9,jL,jF⟩:=PB.cell hP3;go_wp2_with fail;refine aT (HX.out _ hb3) ?_;rintro e w9 ⟨rfl,hN⟩;replace hN:=hide hN;clear HX hb3 hP3 p0 p1 p2 p3 p4 p5 p6 p7 p8 p9 jL jF;go_wp2;go_returns;exact⟨rfl,hN.out⟩
   ·have bs:decide (s.now<s.cZ)=false:=fE zD;go_quiet (fail);generalize hg:World.drewN _ _=W3;obtain⟨n3,hP3,hb3⟩:=(show ∀q w3,W2.drewN q=w3->Nd N B g s TL w3∧PB p C w3∧Below W2.heap.size W2 w3 from by
     rintro q _ rfl;have hbq:Below W2.heap.size W2 (W2.drewN q):=below_drewN (aU _ _) q;exact⟨n2.later hbq,PB.below hP2 hbq,hbq⟩) _ _ hg
    have hL3:=hL2.below hb3;have zF:=xQ.trans (hb3.mono xQ.size);clear hg n2 hP2 hL2 xQ hb3 c2 c3 c4 c7 c0 p0 p1 p2 p3 p4 p5 p6 p7 p8 p9 jL jF bs b0 b1;have HH:Hid (∀W',Below W3.heap.size W3 W'->Calls Tryz.prog 94 #[] W' λe w5=>e=.returned (.agg #[.nilFunc,.func (.func 130) #[] #[],.func (.func 131) #[] #[],.func (.func 132) #[] #[],.nilFunc,.nilFunc,.nilFunc,.nilFunc,.nilFunc,.func (.func 133) #[] #[]])∧Below W3.heap.size W3 w5):=by
     intro W' h;refine(I9 W').mono ?_;rintro e w5 ⟨rfl,h5⟩;exact⟨rfl,h.trans (h5.mono h.size)⟩
    have Rm:Hid (∀W5,Below W3.heap.size W3 W5->W5.cell? ⟨C,0,none⟩=some (.int .i64 p.ttl)∧W5.cell? ⟨C,1,none⟩=some (.int .i64 p.kind)∧W5.cell? ⟨C,2,none⟩=some (.int .i64 p.hops)∧W5.cell? ⟨C,3,none⟩=some (.bool p.unk)∧W5.cell? ⟨C,4,none⟩=some (.int .u32 p.id)∧W5.cell? ⟨C,5,none⟩=some (.int .u32 p.dest)∧W5.cell? ⟨C,6,none⟩=some (.int .u32 p.aX)∧W5.cell? ⟨C,7,none⟩=some (.int .u32 p.aI)∧W5.cell? ⟨C,8,none⟩=some (.int .u32 p.dw)∧W5.cell? ⟨C,9,none⟩=some (.int .u32 p.life)∧W5.cell? ⟨C,10,none⟩=some (.slice p.la p.ln p.lc)∧W5.cell? ⟨C,11,none⟩=some (.string p.pay)):=λW5 h5=>PB.cell (PB.below hP3 h5);rcases hk with hk|hk|hk|hk
    ·have hs3:Hid (s.bV fr p=s2):=by
      show _=_;rw[<-hs2.out];unfold St.gF;rw[aG zD,hk];rfl
     have HX:Hid (∀W5,Below W3.heap.size W3 W5->Calls Tryz.prog 130 #[.pointer (some ⟨N,0,none⟩),.pointer (some ⟨B,0,none⟩),.int .u32 fr,p.val] W5 λe w'=>e=.returned (.tuple #[])∧Wn N B g s s2 TL w w'):=by
      intro W5 h5;refine(Dh (n3.later h5) hF htn fr hfr p hq (by have:=hL3.below h5;rwa [hL0 (by omega)]at this)).mono ?_;rintro e w9 ⟨rfl,hN⟩;rw[hs3.out]at hN;exact⟨rfl,.of (hN.pre (zF.trans (h5.mono zF.size))) (by rw[<-hs3.out];exact nY _ _ _)⟩
     have hix:=WT;dsimp only[aC.val]at HX;rw[hk]at Rm HX;clear hs2 hs3 zD hL3 hL0 hap n3 hP3 hq hp hk zF;obtain⟨p0,p1,p2,p3,p4,p5,p6,p7,p8,p9,jL,jF⟩:=Rm.out _ (aU _ _);go_wp2_with fail;go_region_law (first
      |(go_simp;go_at_call 94;refine(HH.out _ (by first|exact aU _ _|exact(aU _ _).drew|exact below_drewN (aU _ _) _)).mono ?_;rintro e w5 ⟨rfl,hb5⟩;obtain⟨q0,q1,q2,q3,q4,q5,q6,q7,q8,q9,q10,q11⟩:=Rm.out _ hb5)
      |(go_simp;go_at_call 130;refine(HX.out _ (by first|exact hb5|exact hb5.drew|exact below_drewN hb5 _)).mono ?_;rintro e w9 ⟨rfl,hN⟩;replace hN:=hide hN))
     all_goals
      go_wp2;go_returns;exact⟨rfl,hN.out⟩
    ·have hs3:Hid (s.dN fr p=s2):=by
      show _=_;rw[<-hs2.out];unfold St.gF;rw[aG zD,hk];rfl
     have HX:Hid (∀W5,Below W3.heap.size W3 W5->Calls Tryz.prog 131 #[.pointer (some ⟨N,0,none⟩),.pointer (some ⟨B,0,none⟩),.int .u32 fr,p.val] W5 λe w'=>e=.returned (.tuple #[])∧Wn N B g s s2 TL w w'):=by
      intro W5 h5;refine(JL (n3.later h5) fr hfr p hq (by have:=hL3.below h5;rwa [hL0 (by omega)]at this) hF.me hF.now (by omega) (by omega) htl).mono ?_;rintro e w9 ⟨rfl,dW,hN,hT⟩;rw[hs3.out]at hN hT;exact⟨rfl,dW,hN.pre (zF.trans (h5.mono zF.size)),_,hT⟩
     have hix:=WS;dsimp only[aC.val]at HX;rw[hk]at Rm HX;clear hs2 hs3 zD hL3 hL0 hap n3 hP3 hq hp hk zF;obtain⟨p0,p1,p2,p3,p4,p5,p6,p7,p8,p9,jL,jF⟩:=Rm.out _ (aU _ _);go_wp2_with fail;go_region_law (first
      |(go_simp;go_at_call 94;refine(HH.out _ (by first|exact aU _ _|exact(aU _ _).drew|exact below_drewN (aU _ _) _)).mono ?_;rintro e w5 ⟨rfl,hb5⟩;obtain⟨q0,q1,q2,q3,q4,q5,q6,q7,q8,q9,q10,q11⟩:=Rm.out _ hb5)
      |(go_simp;go_at_call 131;refine(HX.out _ (by first|exact hb5|exact hb5.drew|exact below_drewN hb5 _)).mono ?_;rintro e w9 ⟨rfl,hN⟩;replace hN:=hide hN))
     all_goals
      go_wp2;go_returns;exact⟨rfl,hN.out⟩
    ·have hs3:Hid (s.fD fr L=s2):=by
      show _=_;rw[<-hs2.out];unfold St.gF;rw[aG zD,hk];rfl
     have HX:Hid (∀W5,Below W3.heap.size W3 W5->Calls Tryz.prog 132 #[.pointer (some ⟨N,0,none⟩),.pointer (some ⟨B,0,none⟩),.int .u32 fr,p.val] W5 λe w'=>e=.returned (.tuple #[])∧Wn N B g s s2 TL w w'):=by
      intro W5 h5;refine(LQ (n3.later h5) fr hfr p hp L (hL3.below h5) hap (by omega) (by omega)).mono ?_;rintro e w9 ⟨rfl,hN⟩;rw[hs3.out]at hN;exact⟨rfl,.of (hN.pre (zF.trans (h5.mono zF.size))) (by rw[<-hs3.out];exact KV _ _ _)⟩
     have hix:=WR;dsimp only[aC.val]at HX;rw[hk]at Rm HX;clear hs2 hs3 zD hL3 hL0 hap n3 hP3 hq hp hk zF;obtain⟨p0,p1,p2,p3,p4,p5,p6,p7,p8,p9,jL,jF⟩:=Rm.out _ (aU _ _);go_wp2_with fail;go_region_law (first
      |(go_simp;go_at_call 94;refine(HH.out _ (by first|exact aU _ _|exact(aU _ _).drew|exact below_drewN (aU _ _) _)).mono ?_;rintro e w5 ⟨rfl,hb5⟩;obtain⟨q0,q1,q2,q3,q4,q5,q6,q7,q8,q9,q10,q11⟩:=Rm.out _ hb5)
      |(go_simp;go_at_call 132;refine(HX.out _ (by first|exact hb5|exact hb5.drew|exact below_drewN hb5 _)).mono ?_;rintro e w9 ⟨rfl,hN⟩;replace hN:=hide hN))
     all_goals
      go_wp2;go_returns;exact⟨rfl,hN.out⟩
    ·have hs3:Hid (s.dU fr p=s2):=by
      show _=_;rw[<-hs2.out];unfold St.gF;rw[aG zD,hk];rfl
     have HX:Hid (∀W5,Below W3.heap.size W3 W5->Calls Tryz.prog 133 #[.pointer (some ⟨N,0,none⟩),.pointer (some ⟨B,0,none⟩),.int .u32 fr,p.val] W5 λe w'=>e=.returned (.tuple #[])∧Wn N B g s s2 TL w w'):=by
      intro W5 h5;refine(LU (n3.later h5) fr hfr p hq (by have:=hL3.below h5;rwa [hL0 (by omega)]at this) hF.now (by omega) (by omega) (by have:=hF.aR;omega)).mono ?_;rintro e w9 ⟨rfl,hN⟩;rw[hs3.out]at hN;exact⟨rfl,.of (hN.pre (zF.trans (h5.mono zF.size))) (by rw[<-hs3.out];exact KW _ _ _)⟩
     have hix:=WQ;dsimp only[aC.val]at HX;rw[hk]at Rm HX;clear hs2 hs3 zD hL3 hL0 hap n3 hP3 hq hp hk zF;obtain⟨p0,p1,p2,p3,p4,p5,p6,p7,p8,p9,jL,jF⟩:=Rm.out _ (aU _ _);go_wp2_with fail;go_region_law (first
      |(go_simp;go_at_call 94;refine(HH.out _ (by first|exact aU _ _|exact(aU _ _).drew|exact below_drewN (aU _ _) _)).mono ?_;rintro e w5 ⟨rfl,hb5⟩;obtain⟨q0,q1,q2,q3,q4,q5,q6,q7,q8,q9,q10,q11⟩:=Rm.out _ hb5)
      |(go_simp;go_at_call 133;refine(HX.out _ (by first|exact hb5|exact hb5.drew|exact below_drewN hb5 _)).mono ?_;rintro e w9 ⟨rfl,hN⟩;replace hN:=hide hN))
     all_goals
      go_wp2;go_returns;exact⟨rfl,hN.out⟩
 ·have hs2:Hid (s.drop 0=s2):=by
   show _=_;rw[<-dB.out];unfold St.hear;rw[aM (.inl hFt)]
  have hb2:Below w1.heap.size w1 (w1.alloc aC.zero.box):=bC;have n2:=n1.later hb2;have xQ:=hb1.trans (hb2.mono hb1.size);have HX:=hide (jB n2 0 (by omega));rw[hs2.out]at HX;have hQ:Hid (s2.Q=s.Q):=by show _=_;rw[<-hs2.out];rfl
  clear hs2 dB n1 hb2;dsimp only[aC.box,aC.zero]at HX xQ n2;dsimp only[aC.val,aC.zero];go_upto_region 3 with(fail);generalize World.alloc _ _=W2 at HX xQ n2 ⊢;go_wp2_with fail;refine aT HX.out ?_;rintro e w9 ⟨rfl,hN⟩;have I8:Hid (Wn N B g s s2 TL w w9):=.of (hN.pre xQ) hQ.out;clear hN HX;go_wp2;go_returns;exact⟨rfl,I8.out⟩
open Go.MuLone
theorem QT{N:Nat}{g:bI}{s:St}{TL:List Hp.Tm}{w:World}(n:Nn N g s TL w){k:Int}(hI:s.Inv k)(hk:k<=100000000000)(hT:dV s TL)(now fr:Int)(fM:s.now<=now∧now<=4611686018427387904)(hfr:a_ fr)(v:Value)(xs:List Int)(hv:VB w v xs):
  Calls Tryz.prog 25 #[.pointer (some ⟨N,0,none⟩),.int .u64 now,.int .u32 fr,v] w λe w'=>∃o,e=.returned o∧Hid ((s.rcv now fr xs).Inv (k+1))∧Cv N g s (s.rcv now fr xs) w o w':=by
 have hA:=n.cr.tb.ok;have hl:=n.cr.tb.len;have hb0:Below w.heap.size w (w.alloc jg):=bC;have hC0:(w.alloc jg).heap[w.heap.size]?=some jg:=bS _ _;have kK:¬Ft N g s w.heap.size:=λh=>by have:=n.lt h;omega
 have hs0:(w.alloc jg).heap.size=w.heap.size+1:=by simp
 have n0:=n.later hb0;have hv0:=hv.later hb0;have hM:=(rf hI).2 now fM hA hl;obtain⟨s3,hs3⟩:∃z,s.locked.begin now=z:=⟨_,rfl⟩;rw[hs3]at hM;have I6:Hid (s3.lk=1):=by show _=_;rw[<-hs3];rfl
 have NI:Hid (s3.Q=s.Q):=by show _=_;rw[<-hs3];rfl
 have yO:Hid (s3.now=now):=by show _=_;rw[<-hs3];rfl
 have Ug:Hid (s3.me=s.me):=by show _=_;rw[<-hs3];rfl
 replace hM:=hide hM;dsimp only[jg]at hb0 hC0 hs0 n0 hv0
 go_enter_defers Tryz.func25,Tryz.ntmps25
 go_upto_region 1 with(fail);generalize World.alloc _ _=W1 at hb0 hC0 hs0 n0 hv0 ⊢;obtain⟨c0,f0⟩:=n0.Nj;rw[hI.lk]at c0;go_wp2_with fail;refine aT (lock_free nL ⟨N,0,none⟩ W1 c0 f0) ?_;rintro e w2 ⟨rfl,rfl⟩;obtain⟨n2,hg2⟩:=n0.l7 1;have hf2:Fx (Ft N g s) w (W1.setCell ⟨N,0,none⟩ (.int .i32 1)):=aV (Fx.below hb0) hg2 (λi _ e=>by cases e;exact .inl (.inl rfl));have hv2:=n0.vb hv0 (Fx.grown hg2 λk e=>by cases e;exact .inl (.inl rfl));have hC2:=(hg2.block w.heap.size (by omega) (λe=>kK (by cases e;exact .inl (.inl rfl)))).trans hC0;have hs2:w.heap.size+1<=(W1.setCell ⟨N,0,none⟩ (.int .i32 1)).heap.size:=by
  have:=hg2.size;omega
 have hcn:=hI.cnt;have HB:=hide (zZ n2 now ⟨hI.dom.mb,hI.dom.on,hI.dom.own⟩ ⟨hcn.1,by dsimp only;omega⟩);rw[show({s with lk:=1}:St).begin now=s3 from hs3]at HB;have hF1:Hid (∀k,Ft N ({g with x:={g.x with lk:=1}}:bI) ({s with lk:=1}:St) k->Ft N g s k):=λk h=>h;replace hs3:=hide hs3;clear n0 hv0 hC0 hs0 hb0 c0 f0 hg2 hA hl hcn;generalize ({g with x:={g.x with lk:=1}}:bI)=g1 at n2 HB hF1;generalize ({s with lk:=1}:St)=s1 at n2 HB hF1;generalize World.setCell _ _ _=W2 at n2 hf2 hv2 hC2 hs2 HB ⊢;go_wp2_with fail;refine aT HB.out ?_;rintro e w3 ⟨g3,rfl,n3,u3,ZY,t3⟩;clear t3;have hv3:=n2.vb hv2 ZY;clear HB;have Uw:Hid (dV s3 TL):=by
  show dV _ _;unfold dV;rw[NI.out];exact hT
 have hlen:=n3.nn.aaC Uw.out;have yR:=hM.out.fine (by omega);have HH:=hide (acB n3 yR (by have:=hM.out.tn;omega) (by omega) fr hfr v xs hv3.1);have PS:=hide n3.nn.ids;have Fu:=hide n3.nn.rs.sr.qZ;have adu:Hid (∀q∈s3.Q,q.txt.length<=4):=λq hq=>(n3.nn.rs.sr.ok q hq).txt;have hpk:Hid (Eff 5 s3 (s3.hear fr xs)):=BL s3 fr xs hv3.1.1 adu.out;clear hv2 hv3 ZY n2 n3;go_wp2_with fail;refine aT HH.out ?_;rintro e w5 ⟨rfl,Rj,⟨g5,n5,u5,t5⟩,d5,Ra⟩;obtain⟨s5,hs5⟩:∃z,s3.hear fr xs=z:=⟨_,rfl⟩;rw[hs5]at n5 u5 Ra hpk;have Yn:Hid (dV s5 Rj):=aak Ra Uw.out PS.out Fu.out;have n_:Hid (s5.Mid k 6):=vM hM.out hpk.out;have Fw:Hid (s5.lk=1):=hpk.out.lk.trans I6.out;have zn:=u3.trans u5;replace hs5:=hide hs5;clear HH u3 u5 Ra PS Fu adu hpk yR hlen;have NM:=hide (mI n_.out (by omega) n5.nn.cr.tb.ok n5.nn.cr.tb.len);have Om:=hide (oV n5 n_.out.dom (by have:=n_.out.cnt;omega) (by have:=n_.out.bg;omega) n_.out.bd n_.out.seq);go_wp2_with fail;refine aT Om.out ?_;rintro e w6 ⟨g6,rfl,n6,u6,t6⟩;obtain⟨s6,hs6⟩:∃z,s5.finish=z:=⟨_,rfl⟩;have Fv:s6.lk=1:=by rw[<-hs6,(aO s5).lk];exact Fw.out
 have Ym:Hid (dV s6 Rj):=by
  show dV _ _;unfold dV;rw[<-hs6,(aO s5).Q];exact Yn.out
 have jS:Hid (s.rcv now fr xs=s6.freed):=by
  show _=_;rw[<-hs6];unfold St.rcv St.receive;rw[hs3.out,hs5.out]
 rw[hs6]at n6 u6 NM ⊢;have nH:=zn.trans u6;clear Om hs6 u6 n5 zn;have FM:=nH.Ru (aA _);have nO:∀k,Ft N g6 s6 k->Ft N g s k∨(w.heap.size<=k∧k<w6.heap.size):=λk hk=>(nH.sub k hk).elim (λh=> .inl (hF1.out k h)) λh=> .inr ⟨by omega,h.2⟩;have gZ:=(FM.block w.heap.size (by omega) (λh=>kK (hF1.out _ h))).trans hC2;have kP:¬Ft N g6 s6 w.heap.size:=λh=>(nH.sub _ h).elim (λh=>kK (hF1.out _ h)) (by omega);have NE:=hf2.trans FM (λi _ h=>hF1.out i h);have r1:=ownsRow_base_a n6.ac.aI (show w.heap.size<=W2.heap.size+1 by omega);have r2:=ownsRow_base_a n6.ac.bL (show w.heap.size<=W2.heap.size+1 by omega);have r3:=ownsRow_base_a n6.ac.bO (show w.heap.size<=W2.heap.size+1 by omega);have m6:=n6.nn;obtain⟨af,kf,hf,_⟩:=ay r1;obtain⟨ac,kc,hc,_⟩:=ay r2;obtain⟨ad,kd,hdd,_⟩:=ay r3;rw[hf]at r1;rw[hc]at r2;rw[hdd]at r3;rw[hf,hc,hdd];simp only[ja];clear n6 hf hc hdd nH FM hf2 hC2;generalize hjj:s6.aZ=jj;replace hjj:=hide hjj;obtain⟨z0,z1,z2,z3,z4⟩:=cells5 gZ;obtain⟨y0,y1,y2,y3,y4⟩:=yU gZ;have iU:=ah (ah (ah (ah (ah (aB w6 (some w.heap.size)) 0 (.string jj)) 1 (.bool s6.bn)) 2 (.slice af s6.aH.length kf)) 3 (.slice ac s6.aR.length kc)) 4 (.slice ad s6.aQ.length kd);have gK:(((((w6.setCell ⟨w.heap.size,0,none⟩ (.string jj)).setCell ⟨w.heap.size,1,none⟩ (.bool s6.bn)).setCell ⟨w.heap.size,2,none⟩ (.slice af s6.aH.length kf)).setCell ⟨w.heap.size,3,none⟩ (.slice ac s6.aR.length kc)).setCell ⟨w.heap.size,4,none⟩ (.slice ad s6.aQ.length kd)).heap[w.heap.size]?=some (.cells #[.string jj,.bool s6.bn,.slice af s6.aH.length kf,.slice ac s6.aR.length kc,.slice ad s6.aQ.length kd] 52):=by
  simp[World.setCell,d_,gZ]
 obtain⟨r1,r2,r3⟩:=sV iU gZ r1 r2 r3 (by decide);have m7:=m6.kept λk hk=>iU.block k (m6.lt hk) (λe=>kP (by cases e;exact hk));have pY:=aV NE iU (λi hi e=>by cases e;omega);have kH:=λk hk=>(nO k hk).imp_right λh=>(⟨h.1,fP h.2 iU.size⟩:w.heap.size<=k∧_);clear m6 iU NE gZ nO;go_wp2_with fail;generalize World.setCell _ _ _=W7 at gK r1 r2 r3 m7 pY kH ⊢;obtain⟨p0,p1,p2,p3,p4⟩:=cells5 gK;obtain⟨c0,f0⟩:=m7.Nj;rw[Fv]at c0;refine leaves_cons (f:=50) (args:=#[.pointer (some ⟨N,0,none⟩)]) (by simp) (by simp[go_sem]) ?_;refine(unlock_deferred nL ⟨N,0,none⟩ .returning W7 c0 f0).mono ?_;rintro e u' w'' ⟨rfl,rfl,rfl⟩;obtain⟨m8,lG⟩:=m7.l7 0;have CF:N≠w.heap.size:=λe=>kP (by rw[<-e];exact .inl (.inl rfl));have ic:=(lG.block w.heap.size (aD gK) (λe=>by cases e;exact CF rfl)).trans gK;obtain⟨r1,r2,r3⟩:=sV lG m7.cr.nd r1 r2 r3 (by decide);have yP:=aV pY lG (λi hi e=>by cases e;exact .inl (.inl rfl));have nN:=λk hk=>(kH k hk).imp_right λh=>(⟨h.1,fP h.2 lG.size⟩:w.heap.size<=k∧_);clear p0 p1 p2 p3 p4 c0 f0 lG m7 pY kH gK;generalize World.setCell _ _ _=W8 at ic r1 r2 r3 m8 yP nN ⊢;obtain⟨p0,p1,p2,p3,p4⟩:=cells5 ic;refine⟨.agg #[.string jj,.bool s6.bn,.slice af s6.aH.length kf,.slice ac s6.aR.length kc,.slice ad s6.aQ.length kd],by simp[results,Tryz.results25,go_sem,p0,p1,p2,p3,p4],_,rfl,?_⟩;rw[jS.out];refine⟨NM,_,Rj,.slice af s6.aH.length kf,.slice ac s6.aR.length kc,.slice ad s6.aQ.length kd,?_,m8,Ym.out,r1,r2,r3,yP,nN⟩;rw[<-hjj.out];rfl
variable{m:aP}{W:World}
theorem F8{y:MG}{W':World}(h:MM y m W){κ:Int}{q q':Nat}(hok:iX κ q m){i:Nat}{x:SG}{s:bG}{z z':St}{o:Value}(h1:y.L[i]?=some x)(h2:m.S[i]?=some s)(hz:s.nd=some z)(c:Cv x.N x.g z z' W o W')(hI:z'.Inv (κ+1))(hp:z'.Pos)(hme:z'.me=z.me)(fM:z'.now=m.now)(hq:q<=q')(hql:z'.Q.length<=q')(hc:L9 z.cnt z'):
  ∃aI bL bO y2,o=ja z'.aZ z'.bn aI bL bO∧iG W.heap.size z'.aH z'.aR z'.aQ aI bL bO W'∧MM y2 (m.put i {s with nd:=some z'}) W'∧MU y m y2 (m.put i {s with nd:=some z'}) W W'∧Dj (κ+1) q' (m.put i {s with nd:=some z'}) i z':=by
 obtain⟨aI,bL,bO,e,hor,y2,hm2,hu2⟩:=h.call h1 h2 hz c;have hi:=(fA.1 h2).1;have hS:(m.put i {s with nd:=some z'}).S[i]?=some {s with nd:=some z'}:=by rw[(gP _ _ _).1,List.getElem?_set_self hi]
 obtain⟨x2,hx2⟩:∃x2,y2.L[i]?=some x2:=⟨_,cK (by rw[hm2.len,(gP _ _ _).1,List.length_set];exact hi)⟩;obtain⟨nn,_⟩:=(hm2.st i x2 _ hx2 hS).nd z' rfl;exact⟨aI,bL,bO,y2,e,hor,hm2,hu2,hok.called (by omega) hq h2 hz hc ⟨hI,hp,hme.trans ((hok.at h2).nd z hz).me,by rw[fM];exact fq _,hql,nn.cr.tb.ok,nn.cr.tb.len⟩⟩
theorem Nn.Kh{N:Nat}{g:bI}{s:St}{TL:List Hp.Tm}(n:Nn N g s TL W):l9 s:=λq hq=>⟨(n.rs.sr.ok q hq).txt,(n.rs.sr.ok q hq).ttl⟩
theorem BZ{i:Nat}{s:bG}(h:m.S[i]?=some s)(z:St):m.act i z=(m.put i {s with nd:=some z}).did i z.ot:=by
 unfold aP.act;rw[dX h]
theorem U1(s:ByteArray)(hs:s.size<=65536)(w:World):∃cap W,(convert 9 58 (.string s)).run Tryz.prog w=.ok (.slice (some ⟨w.heap.size,0,none⟩) s.size cap) W∧Below w.heap.size w W∧VB W (.slice (some ⟨w.heap.size,0,none⟩) s.size cap) (ak s):=by
 refine⟨_,_,run_bytes_of_string (P:=Tryz.prog) w 9 58 5 s Tryz.underlying9 Tryz.underlying58 Tryz.underlying5,(aU w.heap.size w).drew.alloc (aA _) _,RU s hs w _,λb o n c hv=> ?_⟩;simp only[Value.slice.injEq,Option.some.injEq,Addr.mk.injEq,and_true]at hv;obtain⟨⟨rfl,rfl⟩,_⟩:=hv;exact⟨_,_,bS w.drew _⟩
theorem GJ{x:SG}{s:bG}{W:World}(h:m_ x s W)(b:Nat)(hb:b<6)(on:Bool):nE x s {s with hrs:=s.hrs.set b on} W (W.setCell ⟨x.B,3+b,none⟩ (.bool on)):=by
 have hl:=h.hl;refine h.set (x':=x) (s':={s with hrs:=s.hrs.set b on}) (3+b) (.bool on) rfl ?_ (by rw[List.length_set];exact hl) ⟨rfl,rfl⟩ (λz hz=>⟨hz,rfl,rfl,rfl⟩);have hbl:b<s.hrs.length:=by omega
 simp[Gr,List.set_append,List.map_set,hl,Nat.add_comm 3 b];omega
theorem acK{y:MG}{m:aP}{w:World}(h:MM y m w)(a b:Nat)(ha:a<m.S.length)(hb:b<m.S.length)(hn:m.S.length<=6)(on:Bool):Calls Tryz.prog 29 #[.pointer (some ⟨y.G,0,none⟩),.int .i64 a,.int .i64 b,.bool on] w λe w'=>e=.returned (.tuple #[])∧MP y m (m.link a b on) w w':=by
 by_cases hab:a=b
 ·subst hab;have ho:m.link a a on=m:=by unfold aP.link;rw[aM rfl]
  have hfin:MP y m (m.link a a on) w w:=by rw[ho];exact MP.refl h
  clear h ho;go_enter Tryz.func29,Tryz.ntmps29;go_wp2;go_returns;exact⟨rfl,hfin⟩
 ·obtain⟨xa,sa,g,c,e1,e2,e3,e4,p0⟩:=h.get ha;obtain⟨_,q1,_,_⟩:=h.cell;rw[e4]at q1;have hab':((a:Int)==(b:Int))=false:=by
   have:¬(a:Int)=(b:Int):=by omega
   simpa using this
  have han:(a:Int)<(m.S.length:Int):=by omega
  have hbn:(b:Int)<(m.S.length:Int):=by omega
  have ha6:(a:Int)<6:=by omega
  have hb6:(b:Int)<6:=by omega
  obtain⟨_,_,_,_,_,hh,fz⟩:=(h.st a xa sa e1 e2).cell;have hhl:=(h.st a xa sa e1 e2).hl;have k0:=hh b _ (cK (by omega));have k1:=fz (3+b);obtain⟨y1,hm1,hu1⟩:=h.stp e1 e2 (GJ (h.st a xa sa e1 e2) b (by omega) on);obtain⟨m1,Ye⟩:∃m1,m.put a {sa with hrs:=sa.hrs.set b on}=m1:=⟨_,rfl⟩;have hS1:m1.S.length=m.S.length:=by rw[<-Ye,(gP _ _ _).1,List.length_set]
  have hl:m.link a b on=m1.put b {m1.at' b with hrs:=(m1.at' b).hrs.set a on}:=by
   unfold aP.link;rw[aG hab,e3,Ye]
  rw[Ye]at hm1 hu1;obtain⟨xb,sb,g',c',f1,f2,f3,f4,p1⟩:=hm1.get (i:=b) (by rw[hS1];exact hb);obtain⟨_,r1,_,_⟩:=hm1.cell;obtain⟨_,_,_,_,_,hh',fz'⟩:=(hm1.st b xb sb f1 f2).cell;have agI:=(hm1.st b xb sb f1 f2).hl;have k2:=hh' a _ (cK (by omega));have k3:=fz' (3+a);have hp2:=hm1.stp f1 f2 (GJ (hm1.st b xb sb f1 f2) a (by omega) on);rw[f4,hS1]at r1;rw[hu1.G]at r1;have hfin:MP y m (m.link a b on) w ((w.setCell ⟨xa.B,3+b,none⟩ (.bool on)).setCell ⟨xb.B,3+a,none⟩ (.bool on)):=by
   rw[hl,f3];exact MP.comp hu1 hp2
  generalize sa.hrs[b]=v0 at k0;generalize sb.hrs[a]=v1 at k2;clear h hm1 hu1 hp2 hl Ye e1 e2 e3 e4 f1 f2 f3 f4 hh hh' fz fz' hab;go_enter Tryz.func29,Tryz.ntmps29;go_wp2;go_returns;exact⟨rfl,hfin⟩
end Go.Proofs.YtakaadcpaeiccabGreat
