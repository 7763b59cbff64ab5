import Derived.Test.YtakaadcpaeiccabGreatV20
set_option maxHeartbeats 8000000
set_option maxRecDepth 100000
namespace Go.Proofs.YtakaadcpaeiccabGreat
variable{c:uM}{k now' κ Vf:Int}{m:aM}{φ:aM->Int×ByteArray->aM×List Ev}{d i n q q':Nat}{s s':St}
theorem Kh(h:Pr c s s'):s'.cnt - s'.bg.length=s.cnt - s.bg.length∧s'.bB=s.bB:=by
 cases h with
 |Ac h=>rw[h.cnt,h.bg,h.bB];exact⟨rfl,rfl⟩
 |tab _=>exact⟨rfl,rfl⟩
 |aH _ _ _ _ _=>exact⟨rfl,rfl⟩
 |grw=>exact⟨rfl,rfl⟩
 |mx _ _ _ _=>exact⟨rfl,rfl⟩
 |wr=>
  refine⟨?_,rfl⟩;show s.cnt+((bK s.seq s.own s.f s.A).2.length:Int) - ((s.bg++(bK s.seq s.own s.f s.A).2).length:Int)=_;rw[bU];omega
theorem XW(h:gF c n s s'):s'.cnt - s'.bg.length=s.cnt - s.bg.length∧s'.bB=s.bB:=by
 induction h with
 |nil=>exact⟨rfl,rfl⟩
 |snoc _ k ih=>
  have h2:=Kh k;exact⟨h2.1.trans ih.1,h2.2.trans ih.2⟩
structure KT(c0:Int)(s:St):Prop where
 no:s.bB=false->s.cnt=c0+s.bg.length
 yes:s.bB=true->s.cnt=s.bg.length∧0<s.bg.length
theorem A7{c0:Int}(h1:s.cnt - s.bg.length=c0)(h2:s.bB=false∨(c0=0∧0<s.write.bg.length)):KT c0 s.finish:=by
 have hw:=Kh (c:=none) (.wr:Pr none s s.write);unfold St.finish;split
 ·refine⟨λh=> ?_,λ_=>⟨rfl,?_⟩⟩
  ·cases h
  ·have:=zo s.write;dsimp only;omega
 ·refine⟨λ_=>by omega,λh=> ?_⟩;have hr:s.bB=true:=by rw[<-hw.2];exact h
  rcases h2 with h2|⟨h2,h3⟩
  ·rw[h2]at hr;cases hr
  ·exact⟨by omega,h3⟩
theorem Pf(s:St)(now:Int):(s.begin now).cnt - (s.begin now).bg.length=s.cnt∧(s.begin now).bB=false:=by
 have hw:=Kh (c:=none) (.wr:Pr none {s with now:=now,A:=iF s.A now,bg:=[],aF:=[],aO:=[],aP:=[],bB:=false} ({s with now:=now,A:=iF s.A now,bg:=[],aF:=[],aO:=[],aP:=[],bB:=false}:St).write);refine⟨?_,hw.2⟩;have:=hw.1;simp only[List.length_nil]at this;show({s with now:=now,A:=iF s.A now,bg:=[],aF:=[],aO:=[],aP:=[],bB:=false}:St).write.cnt - _=_;have h2:(s.begin now)=({s with now:=now,A:=iF s.A now,bg:=[],aF:=[],aO:=[],aP:=[],bB:=false}:St).write:=rfl;rw[h2];omega
theorem vV{now:Int}(h:gF c n (s.locked.begin now) s'):KT s.cnt s'.finish.freed:=by
 have h1:=Pf s.locked now;have h2:=XW h;have h3:=A7 (c0:=s.cnt) (s:=s') (by rw[h2.1];exact h1.1) (.inl (h2.2.trans h1.2));exact⟨h3.no,h3.yes⟩
theorem Fe(s:St)(now fq:Int):∃s',gF none 2 (s.locked.begin now) s'∧s.brk now fq=s'.finish.freed:=by
 refine⟨_,gF.trans (n:=1) (k:=1) (.one (.tab (.brk fq))) (vo none _ 0 (n_ fq (s.locked.begin now).A) ?_),rfl⟩;intro x hx;obtain⟨y,hy,e⟩:=List.mem_filterMap.1 hx;unfold Ci at e;split at e
 ·rename_i hc;cases e;simp only[jr]at hc;refine .inr ⟨dD fq 0 y,dW.2 ⟨y,hy,rfl⟩,gB _ _ y,?_,.inl (Int.le_max_right _ _)⟩;unfold dD;rw[aI (by simp[hc.1.1,hc.1.2])];exact gP _
 ·cases e
theorem RN{y:Rt}(h:y.Ok){fr q:Int}(hq:a_ q):(dD fr q y).Ok:=by
 unfold dD;split
 ·exact vR h hq
 ·exact h
theorem YT(s:St)(now fq:Int):(s.brk now fq).A=(iF s.A now).map (dD fq 0):=(aR _).A
theorem X0(s:St)(now fq:Int):∀f∈(s.brk now fq).aF,f.1=0:=by
 intro f hf;have e:(s.brk now fq).aF=P7 0 (n_ fq (s.locked.begin now).A):=(aR _).aF;rw[e]at hf;unfold P7 at hf;split at hf
 ·cases hf
 ·rw[fM]at hf;rw[hf]
theorem XZ(h:s.Inv k)(hA:∀y∈s.A,y.Ok)(hl:s.A.length<=8)(now fq:Int)(hn:s.now<=now∧now<=4611686018427387904):(s.brk now fq).Inv (k+1)∧(∀y∈(s.brk now fq).A,y.Ok)∧(s.brk now fq).A.length<=8:=by
 have hm:=(qN h).2 now hn hA hl;have hA':∀y∈(iF s.A now).map (dD fq 0),y.Ok:=λy hy=>by
  obtain⟨z,hz,rfl⟩:=dW.1 hy;exact RN (ML hA now z hz) (by simp[a_])
 have hl':((iF s.A now).map (dD fq 0)).length<=8:=by rw[gY];unfold iF;rw[gY];exact hl
 have e1:=qc (s.locked.begin now) (A:=(s.locked.begin now).A.map (dD fq 0)) (λy hy=>⟨_,dW.2 ⟨y,hy,rfl⟩,gB _ _ y⟩);have e2:=e1.trans (rD _ 0 (n_ fq (s.locked.begin now).A));have hm2:=vE hm e2;refine⟨mE hm2 (by omega) hA' hl',?_,?_⟩
 ·rw[YT];exact hA'
 ·rw[YT];exact hl'
theorem IA(s:St)(now fq:Int):(s.brk now fq).me=s.me∧(s.brk now fq).now=now∧(s.brk now fq).Q=s.Q:=⟨(aR _).me,(aR _).now,(aR _).Q⟩
theorem X3(s:St)(now fq:Int):KT s.cnt (s.brk now fq):=by
 obtain⟨s',h1,h2⟩:=Fe s now fq;rw[h2];exact vV h1
structure Yh(κ:Int)(q:Nat)(now:Int)(s:eB)(z:St):Prop where
 inv:z.Inv κ
 pos:z.Pos
 me:z.me=s.addr
 nw:z.now<=now
 ql:z.Q.length<=q
 ok:∀y∈z.A,y.Ok
 len:z.A.length<=8
structure Cj(κ:Int)(q:Nat)(now:Int)(s:eB):Prop where
 addr:a_ s.addr
 a0:s.addr≠0
 jb:∀x∈s.bH,0<=x∧x<=255
 jl:s.bH.length<=2000
 wh:0<=s.whole
 nd:∀z,s.nd=some z->Yh κ q now s z
 jn:∀z,s.nd=some z->(s.bH.length:Int)=13 * z.cnt∧0<z.cnt
structure IJ(κ:Int)(q:Nat)(now:Int)(s:eB)(z:St):Prop where
 addr:a_ s.addr
 a0:s.addr≠0
 jb:∀x∈s.bH,0<=x∧x<=255
 jl:s.bH.length<=2000
 wh:0<=s.whole
 hz:s.nd=some z
 nd:Yh κ q now s z
 no:z.bB=false->13 * z.cnt=s.bH.length+13 * z.bg.length
 yes:z.bB=true->z.cnt=z.bg.length
 pos:0<z.cnt
structure ja(κ:Int)(q:Nat)(m:aM):Prop where
 n:m.S.length<=6
 aT:m.aT.length<=48
 now:0<=m.now∧m.now<=4611686018427387904
 st:∀s∈m.S,Cj κ q m.now s
theorem R9{k':Int}(h:s.Inv k)(hk:k<=k'):s.Inv k':=
 ⟨h.me,h.seq,h.now,h.mem,h.dom,h.cnt,by have:=h.tn;omega,by have:=h.tl;omega,h.lk,h.BG,h.z_,h.Aa,h.D6,h.bd,h.nwl,h.frl,h.cml,h.drl⟩
theorem Yh.up{now:Int}{s s':eB}{z:St}(h:Yh κ q now s z)(h1:κ<=Vf)(h2:q<=q')(h3:now<=now')(h4:s'.addr=s.addr):Yh Vf q' now' s' z:=
 ⟨R9 h.inv h1,h.pos,h.me.trans h4.symm,by have:=h.nw;omega,by have:=h.ql;omega,h.ok,h.len⟩
theorem Cj.up{now:Int}{s:eB}(h:Cj κ q now s)(h1:κ<=Vf)(h2:q<=q')(h3:now<=now'):Cj Vf q' now' s:=
 ⟨h.addr,h.a0,h.jb,h.jl,h.wh,λz hz=>(h.nd z hz).up h1 h2 h3 rfl,h.jn⟩
theorem ja.up(h:ja κ q m)(h1:κ<=Vf)(h2:q<=q'):ja Vf q' m:=⟨h.n,h.aT,h.now,λs hs=>(h.st s hs).up h1 h2 (gP _)⟩
theorem IJ.nwl{now:Int}{s:eB}{z:St}(h:IJ κ q now s z):z.bg.length<=24:=by
 have hc:=h.nd.inv.cnt;cases hr:z.bB
 ·have:=h.no hr;omega
 ·have:=h.yes hr;omega
theorem IJ.write{now:Int}{s:eB}{z:St}(h:IJ κ q now s z):Cj κ q now (s.write z.ot).1:=by
 have hn:=h.nwl;have hc:=h.nd.inv.cnt;have hbd:=EW h.nd.inv.bd;have hfl:=iE z.bg;have hjl:=h.jl;by_cases h1:z.bg≠ []∨z.bB=true
 ·cases ht:s.tears
  ·rw[eB.j3 (o:=z.ot) h1 ht];show Cj κ q now {s with bH:=(if z.bB then []else s.bH)++bD z.bg};have hlen:(((if z.bB then []else s.bH)++bD z.bg).length:Int)=13 * z.cnt:=by
    cases hr:z.bB
    ·have:=h.no hr;simp only[Bool.false_eq_true,if_false,bU,hfl];omega
    ·have:=h.yes hr;simp only[if_true,List.nil_append,hfl];omega
   refine⟨h.addr,h.a0,λx hx=> ?_,?_,h.wh,λu hu=> ?_,λu hu=> ?_⟩
   ·rcases fu.1 hx with hx|hx
    ·split at hx
     ·cases hx
     ·exact h.jb x hx
    ·exact hbd x hx
   ·dsimp only;omega
   ·have hu':s.nd=some u:=hu;rw[h.hz]at hu';cases hu';exact h.nd.up (gP _) (aB _) (gP _) rfl
   ·have hu':s.nd=some u:=hu;rw[h.hz]at hu';cases hu';exact⟨hlen,h.pos⟩
  ·rw[eB.tC (o:=z.ot) h1 ht];show Cj κ q now ({s with bH:=if z.bB then s.bH else s.bH++(bD z.bg).take s.whole.toNat}:eB).stop;refine⟨h.addr,h.a0,λx hx=> ?_,?_,gP _,λu hu=>(by cases hu),λu hu=>(by cases hu)⟩
   ·have hx':x∈(if z.bB then s.bH else s.bH++(bD z.bg).take s.whole.toNat):=hx;split at hx'
    ·exact h.jb x hx'
    ·rcases fu.1 hx' with hx'|hx'
     ·exact h.jb x hx'
     ·exact hbd x (List.mem_of_mem_take hx')
   ·show(if z.bB then s.bH else s.bH++(bD z.bg).take s.whole.toNat).length<=2000;cases hr:z.bB
    ·have h5:=h.no hr;simp only[Bool.false_eq_true,if_false,bU,List.length_take,hfl];omega
    ·simp only[if_true];exact hjl
 ·simp only[not_or,Classical.not_not]at h1;obtain⟨h1,h2⟩:=h1;have h2':z.bB=false:=by simpa using h2
  rw[eB.qz (o:=z.ot) h1 h2'];have h5:=h.no h2';rw[h1]at h5;simp only[List.length_nil]at h5;exact⟨h.addr,h.a0,h.jb,h.jl,h.wh,λu hu=>by rw[h.hz]at hu;cases hu;exact h.nd,λu hu=>by
   rw[h.hz]at hu;cases hu;refine⟨?_,h.pos⟩;show(s.bH.length:Int)=13 * z.cnt;omega⟩
theorem Cj.call{now:Int}{s:eB}{z z':St}(h:Cj κ q now s)(hz:s.nd=some z)(hc:KT z.cnt z')(hn:Yh κ q now s z'):IJ κ q now {s with nd:=some z'} z':=
 ⟨h.addr,h.a0,h.jb,h.jl,h.wh,rfl,hn.up (gP _) (aB _) (gP _) rfl,λhr=>by
  have h1:=hc.no hr;have h2:=(h.jn z hz).1;show 13 * z'.cnt=(s.bH.length:Int)+13 * z'.bg.length;omega,λhr=>(hc.yes hr).1,by
  have h3:=(h.jn z hz).2;cases hr:z'.bB
  ·have:=hc.no hr;omega
  ·have:=hc.yes hr;omega⟩
structure Ct(κ:Int)(q:Nat)(m:aM)(i:Nat)(z:St):Prop where
 n:m.S.length<=6
 aT:m.aT.length<=48
 now:0<=m.now∧m.now<=4611686018427387904
 st:∀j s,m.S[j]?=some s->j≠i->Cj κ q m.now s
 pre:∃s,m.S[i]?=some s∧IJ κ q m.now s z
theorem fJ(m:aM)(i:Nat)(s:eB):(m.put i s).S=m.S.set i s∧(m.put i s).now=m.now∧(m.put i s).aT=m.aT:=⟨rfl,rfl,rfl⟩
theorem Ct.write{z:St}(h:Ct κ q m i z):ja κ q (m.put i ((m.at' i).write z.ot).1):=by
 obtain⟨s,h1,h2⟩:=h.pre;rw[dR h1];refine⟨by rw[(fJ _ _ _).1,List.length_set];exact h.n,h.aT,h.now,λu hu=> ?_⟩;rw[(fJ _ _ _).1]at hu;obtain⟨j,hj⟩:=List.getElem?_of_mem hu;rcases bW hj with⟨_,rfl⟩|⟨hne,hj⟩
 ·exact h2.write
 ·exact h.st j u hj hne
theorem ja.at(h:ja κ q m){i:Nat}{s:eB}(hs:m.S[i]?=some s):Cj κ q m.now s:=h.st s (iV hs)
theorem ja.cO(h:ja κ q m)(i:Nat)(f:Int×ByteArray):ja κ q (m.cO i f):=by
 have hS:=oq m i f m.S.length;have ha:=zO m i f m.S.length h.aT;rw[o7]at hS ha;exact⟨by rw[hS.1];exact h.n,ha,by rw[hS.2];exact h.now,λs hs=>by rw[hS.2];rw[hS.1]at hs;exact h.st s hs⟩
theorem ja.called(h:ja κ q m)(Hf:κ<=Vf)(hq:q<=q'){i:Nat}{s:eB}{z z':St}(hs:m.S[i]?=some s)(hz:s.nd=some z)(hc:KT z.cnt z')(hn:Yh Vf q' m.now s z'):Ct Vf q' (m.put i {s with nd:=some z'}) i z':=by
 refine⟨by rw[(fJ _ _ _).1,List.length_set];exact h.n,h.aT,h.now,λj u hj hne=> ?_,?_⟩
 ·rw[(fJ _ _ _).1]at hj;rcases bW hj with⟨e,_⟩|⟨_,hj⟩
  ·exact absurd e hne
  ·exact(h.at hj).up Hf hq (gP _)
 ·refine⟨_,?_,((h.at hs).up Hf hq (gP _)).call hz hc hn⟩;rw[(fJ _ _ _).1,List.getElem?_set_self (fO.1 hs).1]
theorem ja.broken(h:ja κ q m){i:Nat}{s:eB}{z:St}(hs:m.S[i]?=some s)(hz:s.nd=some z)(t:Int):Ct (κ+1) q (m.put i {s with nd:=some (z.brk m.now t)}) i (z.brk m.now t):=by
 have hn:=(h.at hs).nd z hz;obtain⟨h1,h2,h3⟩:=XZ hn.inv hn.ok hn.len m.now t ⟨hn.nw,h.now.2⟩;obtain⟨e1,e2,e3⟩:=IA z m.now t;refine h.called (by omega) (aB _) hs hz (X3 z m.now t) ⟨h1,λu hu=> ?_,e1.trans hn.me,by rw[e2];exact gP _,by rw[e3];exact hn.ql,h2,h3⟩;rw[e3]at hu;exact hn.pos u hu
theorem Ct.toM{z:St}(h:Ct κ q m i z)(hi:z.ot.idle=true):ja κ q m:=by
 obtain⟨s,h1,h2⟩:=h.pre;have hw:=h.write;rw[zi]at hi;simp only[jr,qi,Bool.not_eq_true']at hi;rw[dR h1,eB.qz hi.1.1 hi.1.2]at hw;refine⟨h.n,h.aT,h.now,λu hu=> ?_⟩;obtain⟨j,hj⟩:=List.getElem?_of_mem hu;by_cases e:j=i
 ·subst e;rw[h1]at hj;cases hj;refine hw.at (i:=j) ?_;rw[(fJ _ _ _).1,List.getElem?_set_self (fO.1 h1).1]
 ·exact h.st j u hj e
theorem Ie(hφ:∀κ m f,ja κ q m->ja (κ+d) q (φ m f).1):∀(L:List (Int×ByteArray)) (κ:Int) (z:aM×List Ev),ja κ q z.1->ja (κ+d * L.length) q (L.foldl (uD φ) z).1
 | [],κ,z,h=>by simpa using h
 |f::L,κ,z,h=>by
  rw[gZ];have h1:=Ie hφ L (κ+d) (uD φ z f) (hφ κ z.1 f h);refine h1.up ?_ (aB _);rw[dZ,Int.natCast_add,Int.mul_add];omega
theorem E_(hφ:∀κ m f,ja κ q m->ja (κ+d) q (φ m f).1){κ:Int}{m:aM}{i:Nat}{z:St}(h:Ct κ q m i z)(k:Nat)(hk:k<=z.aF.length):ja (κ+d * k) q (jO φ m i z.ot k).1:=by
 have h1:=Ie hφ (z.aF.take k) κ (m.put i ((m.at' i).write z.ot).1,[⟨i,0,z.ot⟩]) h.write;rw[List.length_take,Nat.min_eq_left hk]at h1;exact h1
theorem MO(hφ:∀κ m f,ja κ q m->ja (κ+d) q (φ m f).1){κ:Int}{m:aM}{i:Nat}{z:St}(h:Ct κ q m i z):ja (κ+d * z.aF.length) q (m.jH φ i z.ot).1:=by
 cases hi:z.ot.idle
 ·cases hw:((m.at' i).write z.ot).2
  ·unfold aM.jH;rw[ay (by simp[hi]),ay (by simp[hw])];exact h.write.up (by have:=Int.mul_nonneg (Int.natCast_nonneg d) (Int.natCast_nonneg z.aF.length);omega) (aB _)
  ·rw[vU φ m i z.ot hi hw];exact E_ hφ h z.aF.length (aB _)
 ·unfold aM.jH;rw[aI hi];exact(h.toM hi).up (by have:=Int.mul_nonneg (Int.natCast_nonneg d) (Int.natCast_nonneg z.aF.length);omega) (aB _)
theorem Lu(i:Nat):∀(κ:Int) (m:aM) (f:Int×ByteArray),ja κ q m->ja (κ+(0:Nat)) q (m.nW i f).1:=λκ m f h=>(h.cO i f).up (by omega) (aB _)
theorem Q9(i:Nat)(m:aM)(f:Int×ByteArray):(m.nW i f).2.length<=1:=dm _
theorem Ir(hφ:∀m f,(φ m f).2=[]):∀(L:List (Int×ByteArray)) (z:aM×List Ev),(L.foldl (uD φ) z).2=z.2
 | [],_=>rfl
 |f::L,z=>by
  rw[gZ,Ir hφ L];unfold uD;rw[hφ,fw]
theorem TQ(m:aM)(i:Nat)(o:Ot):(m.Ch i o).2.length<=1:=by
 unfold aM.Ch aM.jH;split
 ·exact dm _
 ·split
  ·rw[show(λ(z:aM×List Ev) (f:Int×ByteArray)=>((aM.nW i z.1 f).1,z.2++(aM.nW i z.1 f).2))=uD (aM.nW i)from rfl,Ir (λ_ _=>rfl)];exact aB _
  ·exact aB _
theorem Gw(i:Nat)(m:aM)(f:Int×ByteArray):(m.iX i f).2.length<=1:=by
 unfold aM.iX;split
 ·exact dm _
 ·split
  ·exact dm _
  ·exact TQ _ _ _
theorem Ls(i:Nat):∀(κ:Int) (m:aM) (f:Int×ByteArray),ja κ q m->ja (κ+(1:Nat)) q (m.iX i f).1:=by
 intro κ m f h;have hf:=h.cO i f;unfold aM.iX;split
 ·exact hf.up (by omega) (aB _)
 ·split
  ·exact hf.up (by omega) (aB _)
  ·rename_i s hs;have hS:=(oq m i f m.S.length);rw[o7]at hS;obtain⟨u,hu⟩:∃u,(m.cO i f).S[i]?=some u:=by
    cases hu:(m.cO i f).S[i]? with
    |some u=>exact⟨u,rfl⟩
    |none=>
     unfold aM.at' at hs;rw[List.getD_eq_getElem?_getD,hu]at hs;cases hs
   rw[dR hu]at hs ⊢;have hb:=hf.broken hu hs f.1;rw[hS.2]at hb;have:=MO (Lu i) hb;exact this.up (by omega) (aB _)
open Go.RowKit Go.Maps
variable{κ:Int}{y:MG}{m:aM}{i q:Nat}{w:World}
theorem Ct.pre'{z:St}(h:Ct κ q m i z):∃s,m.S[i]?=some s∧m.at' i=s∧IJ κ q m.now s z:=by
 obtain⟨s,h1,h2⟩:=h.pre;exact⟨s,h1,dR h1,h2⟩
theorem ja.node(h:ja κ q m){i:Nat}(hi:i<m.S.length){z:St}(hz:(m.at' i).nd=some z):Yh κ q m.now (m.at' i) z:=by
 have hs:m.S[i]?=some m.S[i]:=bS hi;rw[dR hs]at hz ⊢;exact(h.at hs).nd z hz
theorem Kg(φ:aM->Int×ByteArray->aM×List Ev)(hφ:∀m f,(φ m f).1.S.length=m.S.length)(m:aM)(i:Nat)(o:Ot)(k:Nat):(jO φ m i o k).1.S.length=m.S.length:=by
 have hg:∀(L:List (Int×ByteArray)) (z:aM×List Ev),(L.foldl (uD φ) z).1.S.length=z.1.S.length:=by
  intro L
  induction L with
  |nil=>intro z;rfl
  |cons f L ih=>
   intro z;rw[gZ,ih];exact hφ z.1 f
 unfold jO;rw[hg,(fJ _ _ _).1,List.length_set]
theorem iQ(m:aM)(i:Nat)(f:Int×ByteArray):(m.cO i f).S=m.S∧(m.cO i f).now=m.now:=by
 have:=oq m i f m.S.length;rw[o7]at this;exact this
theorem TP(φ:aM->Int×ByteArray->aM×List Ev)(hφ:∀m f,(φ m f).1.S.length=m.S.length)(m:aM)(i:Nat)(o:Ot):(m.jH φ i o).1.S.length=m.S.length:=by
 cases hi:o.idle
 ·cases hw:((m.at' i).write o).2
  ·unfold aM.jH;rw[ay (by simp[hi]),ay (by simp[hw])];rw[(fJ _ _ _).1,List.length_set]
  ·rw[vU φ m i o hi hw];exact Kg φ hφ m i o _
 ·unfold aM.jH;rw[aI hi]
theorem Q_(i:Nat)(m:aM)(f:Int×ByteArray):(m.nW i f).1.S.length=m.S.length:=by
 show(m.cO i f).S.length=_;rw[(iQ m i f).1]
theorem Q7(i:Nat)(m:aM)(f:Int×ByteArray):(m.iX i f).1.S.length=m.S.length:=by
 unfold aM.iX;split
 ·dsimp only;rw[(iQ m i f).1]
 ·split
  ·dsimp only;rw[(iQ m i f).1]
  ·unfold aM.Ch;rw[TP _ (Q_ i),(fJ _ _ _).1,List.length_set,(iQ m i f).1]
theorem abv(h:MM y m w){κ:Int}{q:Nat}{i:Nat}{z:St}(hd:Ct κ q m i z)(h0:∀f∈z.aF,f.1=0)(aH bO bP:Value)(b:Nat)(hor:iH b z.aF z.aO z.aP aH bO bP w)(hb:b<=w.heap.size):
  Calls Tryz.prog 36 #[.pointer (some ⟨y.G,0,none⟩),.int .i64 i,jg z.bH z.bB aH bO bP] w (jK y m (m.Ch i z.ot).1 (m.Ch i z.ot).2 b w):=by
 obtain⟨s,h1,h2,h3⟩:=hd.pre';have hi:=(fO.1 h1).1;have hI:=h3.nd.inv;have hnw:=h3.nwl;refine Y0 h i hi hd.n (aM.nW i) z.ot aH bO bP b hor hb hI.bd (by show z.bg.length<=_;omega) ⟨hI.frl,hI.cml,hI.drl⟩ (by rw[h2];have:=h3.jl;omega) (by rw[h2];exact h3.wh) (Q9 i) ?_;intro k f hf _ _ y1 w1 hm1;have hk:=(fO.1 hf).1;have hok:=E_ (Lu i) hd k (Nat.le_of_lt hk);have hS:=Kg (aM.nW i) (Q_ i) m i z.ot k;have hf0:=h0 f (iV hf);have e:aM.iX i (jO (aM.nW i) m i z.ot k).1 f=aM.nW i (jO (aM.nW i) m i z.ot k).1 f:=by
  unfold aM.iX;rw[aI (.inr hf0)];rfl
 rw[<-e];exact yG hm1 i (by rw[hS];exact hi) hok.n hok.aT f (λu hu=>⟨_,(hok.node (by rw[hS];exact hi) hu).inv,(hok.node (by rw[hS];exact hi) hu).nw⟩) hok.now.2 (λhne=>absurd hf0 hne)
theorem Fz(h:MM y m w){κ:Int}{q:Nat}{i:Nat}{z:St}(hd:Ct κ q m i z)(aH bO bP:Value)(b:Nat)(hor:iH b z.aF z.aO z.aP aH bO bP w)(hb:b<=w.heap.size):
  Calls Tryz.prog 36 #[.pointer (some ⟨y.G,0,none⟩),.int .i64 i,jg z.bH z.bB aH bO bP] w (jK y m (m.did i z.ot).1 (m.did i z.ot).2 b w):=by
 obtain⟨s,h1,h2,h3⟩:=hd.pre';have hi:=(fO.1 h1).1;have hI:=h3.nd.inv;have hnw:=h3.nwl;refine Y0 h i hi hd.n (aM.iX i) z.ot aH bO bP b hor hb hI.bd (by show z.bg.length<=_;omega) ⟨hI.frl,hI.cml,hI.drl⟩ (by rw[h2];have:=h3.jl;omega) (by rw[h2];exact h3.wh) (Gw i) ?_;intro k f hf _ _ y1 w1 hm1;have hk:=(fO.1 hf).1;have hok:=E_ (Ls i) hd k (Nat.le_of_lt hk);have hS:=Kg (aM.iX i) (Q7 i) m i z.ot k;refine yG hm1 i (by rw[hS];exact hi) hok.n hok.aT f (λu hu=>⟨_,(hok.node (by rw[hS];exact hi) hu).inv,(hok.node (by rw[hS];exact hi) hu).nw⟩) hok.now.2 ?_;intro _ u hu y2 w2 b2 aeP aeW aeR hm2 hb2 hor2;have hsf:=hok.cO i f;obtain⟨eS,eN⟩:=iQ (jO (aM.iX i) m i z.ot k).1 i f;obtain⟨v,hv⟩:∃v,((jO (aM.iX i) m i z.ot k).1.cO i f).S[i]?=some v:=⟨_,bS (by rw[eS,hS];exact hi)⟩;rw[dR hv]at hu hm2 ⊢;have hbk:=hsf.broken hv hu f.1;rw[eN]at hbk;exact abv hm2 hbk (X0 u _ _) aeP aeW aeR b2 hor2 hb2
theorem E9{z:St}(hd:Ct κ q m i z):ja (κ+100000) q (m.did i z.ot).1:=by
 have h:=MO (Ls i) hd;obtain⟨s,_,_,h3⟩:=hd.pre';have:=h3.nd.inv.frl;exact h.up (by omega) (aB _)
variable{q:Sr}{s:St}
theorem TD(A:List Rt)(now:Int):∀y∈iF A now,y.valid=true->now<y.exp:=by
 intro y hy hv;obtain⟨z,hz,rfl⟩:=dW.1 hy;unfold sG at hv ⊢;split at hv
 ·cases hv
 ·rename_i h;rw[ay h];unfold Ke at h;simp only[jr,qi,not_and]at h;have:=h hv;omega
theorem Gp(s:St)(fr:Int)(p:aD)(L:List (Int×Int))(hk:p.kind=1∨p.kind=2∨p.kind=3∨p.kind=9)(h4:∀q∈s.Q,q.txt.length<=4)(hx:∀y∈s.A,y.valid=true->s.now<y.exp):gF (some (fr,p,L)) (L.length+15) s (s.fD fr p L):=by
 unfold St.fD;split
 ·exact(zY _ s fr p).up (by omega)
 ·split
  ·rename_i h;exact(yK s fr p L h).up (by omega)
  ·split
   ·rename_i h;exact(BQ s fr p L h h4).up (by omega)
   ·split
    ·exact(D8 s fr p L).up (by omega)
    ·rename_i h1 h2 h3;have h9:p.kind=9:=by
      rcases hk with h|h|h|h
      ·exact absurd h h1
      ·exact absurd h h2
      ·exact absurd h h3
      ·exact h
     exact(D9 s fr p L h9 hx).up (by omega)
theorem QU(x0 x1 x2 x4:Int)(r:List Int):(jd x0 x1 x2 x4 r).kind=x1:=by
 unfold jd;split
 ·rename_i h;exact h.symm
 ·split
  ·rename_i h;exact h.symm
  ·split
   ·rename_i h;exact h.symm
   ·split
    ·rename_i h;exact h.symm
    ·rfl
theorem JH{xs:List Int}(h:Ey xs=true):(jd (xs.getD 0 0) (xs.getD 1 0) (xs.getD 2 0) (xs.getD 4 0) (xs.drop 5)).kind=xs.getD 1 0∧(xs.getD 1 0=1∨xs.getD 1 0=2∨xs.getD 1 0=3∨xs.getD 1 0=9):=by
 refine⟨QU _ _ _ _ _,?_⟩
 match xs,h with
 |x0::x1::x2::x3::x4::r,h=>
  simp only[Ey,jr]at h;have hk:=(jm h.2).2.2.2.2.2.2;rw[QU]at hk;show x1=1∨x1=2∨x1=3∨x1=9;rcases hk with h|h|h|h
  ·exact .inl h
  ·exact .inr (.inl h)
  ·exact .inr (.inr (.inr h))
  ·exact .inr (.inr (.inl h.1))
def Yz(fr:Int)(xs:List Int):uM:=some (fr,jd (xs.getD 0 0) (xs.getD 1 0) (xs.getD 2 0) (xs.getD 4 0) (xs.drop 5),pF (xs.getD 1 0) (xs.getD 4 0) (xs.drop 5))
theorem QO(s:St)(fr:Int)(xs:List Int)(h4:∀q∈s.Q,q.txt.length<=4)(hx:∀y∈s.A,y.valid=true->s.now<y.exp):gF (Yz fr xs) ((pF (xs.getD 1 0) (xs.getD 4 0) (xs.drop 5)).length+15) s (s.hear fr xs):=by
 unfold St.hear;split
 ·exact(gy _ s 0).up (by omega)
 ·rename_i h;simp only[not_or]at h;have hF:Ey xs=true:=by simpa using h.1
  obtain⟨h1,h2⟩:=JH hF;exact Gp s fr _ _ (by rw[h1];exact h2) h4 hx
theorem yZ(s:St)(now fr:Int)(xs:List Int)(h4:∀q∈s.Q,q.txt.length<=4):∃n s',gF (Yz fr xs) n (s.locked.begin now) s'∧s.rcv now fr xs=s'.finish.freed:=
 ⟨_,_,QO _ fr xs h4 (TD s.A now),rfl⟩
theorem DR(s:St)(now d:Int)(t:ByteArray):∃n s',gF none n (s.locked.begin now) s'∧s.snd now d t=s'.finish.freed:=by
 unfold St.snd St.sends;dsimp only;split
 ·exact⟨_,_,vg none _ d t,rfl⟩
 ·exact⟨_,_,NP none _ d t,rfl⟩
def l8(s:St):Prop:=∀q∈s.Q,q.txt.length<=4∧1<=q.ttl∧q.ttl<=8
theorem uZ(h:l8 s)(hq:q.txt.length<=4∧1<=q.ttl∧q.ttl<=8):l8 (s.ask q):=by
 intro z hz;obtain⟨o,h1,_⟩:∃o,(s.ask q).Q=_∧True:=⟨(),rfl,trivial⟩;unfold St.ask at hz;split at hz
 ·rcases fI hz with rfl|⟨k1,_⟩
  ·exact hq
  ·exact h z k1
 ·split at hz
  ·rcases fI hz with rfl|⟨k1,_⟩
   ·exact hq
   ·exact h z k1
  ·rcases fI hz with rfl|⟨k1,_⟩
   ·exact hq
   ·exact h z k1
theorem Gm(h:l8 s)(d:Int):l8 (s.sendAll d):=λz hz=>h z ((CQ s d).1 z hz)
theorem Gl(h:l8 s)(hq:q.txt.length<=4∧1<=q.ttl∧q.ttl<=8):l8 (s.step q):=by
 unfold St.step;split
 ·exact Gm h _
 ·split
  ·unfold St.widen;split
   ·exact uZ h ⟨hq.1,by dsimp only;omega⟩
   ·split
    ·exact uZ h ⟨hq.1,by dsimp only;omega⟩
    ·split
     ·exact uZ h hq
     ·exact λz hz=>h z (List.mem_filter.1 hz).1
  ·exact uZ h hq
theorem CS:∀(D:List Sr) (s:St),(∀q∈D,q.txt.length<=4∧1<=q.ttl∧q.ttl<=8)->l8 s->gF none (13 * D.length) s (D.foldl St.step s)
 | [],s,_,_=> .nil _ _
 |q::D,s,hD,h=>by
  rw[gZ,dZ];have hq:=hD q jT;exact((QN none s q ⟨hq.2.1,hq.2.2⟩ (λz hz=>(h z hz).1)).trans (CS D (s.step q) (λz hz=>hD z (lU _ hz)) (Gl h hq))).up (by omega)
theorem Il{Q:List Sr}{now:Int}(h:q∈St.jA Q now):q∈Q:=by
 unfold St.jA at h;exact(List.mem_filter.1 ((List.mergeSort_perm _ _).mem_iff.1 h)).1
theorem DI(s:St)(now:Int)(h:l8 s):∃s',gF none (13 * (St.jA s.Q now).length) (s.locked.begin now) s'∧s.iW now=s'.finish.freed:=
 ⟨_,CS (St.jA s.Q now) (s.locked.begin now) (λq hq=>h q (Il hq)) h,rfl⟩
theorem XI(s:St):s.finish.freed.me=s.me∧s.finish.freed.now=s.now∧s.finish.freed.Q=s.Q:=⟨(aR s).me,(aR s).now,(aR s).Q⟩
theorem zX{c:uM}{n:Nat}{s':St}{now:Int}(h:gF c n (s.locked.begin now) s'):s'.finish.freed.me=s.me∧s'.finish.freed.now=now:=by
 obtain⟨h1,h2,_⟩:=XI s';exact⟨h1.trans h.me,h2.trans h.now⟩
theorem A_(s:St)(q:Sr):(s.ask q).Q.length=s.Q.length:=by
 obtain⟨o,h1,_⟩:=MV s q;rw[h1,oo]
theorem tQ(s:St)(d:Int):(s.sendAll d).Q.length<=s.Q.length:=by
 unfold St.sendAll;split
 ·exact aB _
 ·split
  ·exact List.length_filter_le _ _
  ·exact aB _
theorem VQ(s:St)(q:Sr):(s.step q).Q.length<=s.Q.length:=by
 unfold St.step;split
 ·exact tQ _ _
 ·split
  ·unfold St.widen;split
   ·rw[A_];exact aB _
   ·split
    ·rw[A_];exact aB _
    ·split
     ·rw[A_];exact aB _
     ·exact List.length_filter_le _ _
  ·rw[A_];exact aB _
theorem FZ:∀(D:List Sr) (s:St),(D.foldl St.step s).Q.length<=s.Q.length
 | [],_=>aB _
 |q::D,s=>by
  rw[gZ];exact dN (FZ D _) (VQ s q)
theorem Y_(s:St)(now:Int):(s.iW now).Q.length<=s.Q.length:=by
 show((St.jA s.Q now).foldl St.step (s.locked.begin now)).finish.Q.length<=_;rw[(aR _).Q];exact FZ _ _
theorem Zj(s:St)(now d:Int)(t:ByteArray):(s.snd now d t).Q.length<=s.Q.length+1:=by
 show(if (bE (s.locked.begin now).A d (s.locked.begin now).now).2 then(s.locked.begin now).aZ d t else(s.locked.begin now).await d t).finish.Q.length<=_;rw[(aR _).Q];split
 ·rw[(jM _ _ _).1];exact Nat.le_succ _
 ·unfold St.await;split
  ·unfold St.hold;split<;>(dsimp only;rw[oo];exact Nat.le_succ _)
  ·rw[A_];show((s.locked.begin now).Q++ [_]).length<=_;rw[bU];exact aB _
theorem vY(s:St)(p:aD):(s.answer p).Q=s.Q:=by unfold St.answer;split<;>rfl
theorem sP(s:St)(fr:Int)(p:aD):(s.bR fr p).Q=s.Q:=by
 have ha:∀s:St,(s.asked p).Q=s.Q:=λs=>by
  unfold St.asked;split
  ·unfold St.iG;rw[vY]
  ·split
   ·unfold St.iy;rw[vY]
   ·split<;>rfl
 unfold St.bR;split
 ·rfl
 ·unfold St.learn;split
  ·rfl
  ·split
   ·rw[ha]
   ·rw[ha]
theorem ZN(s:St)(t:Int)(L:List (Int×Int)):(s.lose t L).Q=s.Q:=rfl
theorem Xe(s:St)(fr:Int)(xs:List Int):(s.hear fr xs).Q.length<=s.Q.length:=by
 unfold St.hear;split
 ·exact aB _
 ·unfold St.fD;split
  ·unfold St.fF;split<;>exact aB _
  ·split
   ·rw[sP];exact aB _
   ·split
    ·unfold St.dM;split
     ·exact aB _
     ·dsimp only;split
      ·exact aB _
      ·split
       ·split
        ·exact tQ _ _
        ·exact tQ _ _
       ·split
        ·exact aB _
        ·unfold St.iT;split<;>exact aB _
    ·split
     ·unfold St.iL;dsimp only;rw[ZN];split<;>exact aB _
     ·unfold St.dU;split
      ·exact aB _
      ·split
       ·exact aB _
       ·split<;>exact aB _
theorem abQ(s:St)(now fr:Int)(xs:List Int):(s.rcv now fr xs).Q.length<=s.Q.length:=by
 show((s.locked.begin now).hear fr xs).finish.Q.length<=_;rw[(aR _).Q];exact Xe _ _ _
theorem Wi(h:s.Pos)(now fr:Int)(xs:List Int)(hb:∀x∈xs,0<=x∧x<=255)(h4:∀q∈s.Q,q.txt.length<=4):(s.rcv now fr xs).Pos:=by
 intro q hq;have hq':q∈((s.locked.begin now).hear fr xs).Q:=by
  have e:=(aR ((s.locked.begin now).hear fr xs)).Q;rw[<-e];exact hq
 exact h q ((AU (s.locked.begin now) fr xs hb h4).qs q hq')
variable{B N:Nat}{s:St}{w:World}
theorem HZ(w:World):
  Calls Tryz.prog 94 #[] w λe w'=>e=.returned (.agg #[.nilFunc,.func (.func 130) #[] #[],.func (.func 131) #[] #[],.func (.func 132) #[] #[],.nilFunc,.nilFunc,.nilFunc,.nilFunc,.nilFunc,.func (.func 133) #[] #[]])∧Below w.heap.size w w':=by
 go_enter Tryz.func94,Tryz.ntmps94;go_wp2;go_returns;exact⟨rfl,bC⟩
theorem DY(s:St)(t:Int)(p:aD)(ao:Option Addr)(c:Nat)(L:List (Int×Int)):s.send t {p with la:=ao,lc:=c} L=s.send t p L:=by
 unfold St.send;rw[MN]
theorem Uj(s:St)(p:aD)(ao:Option Addr)(c:Nat):s.askOn {p with la:=ao,lc:=c}=s.askOn p:=by
 unfold St.askOn;dsimp only;exact DY s 0 {p with ttl:=p.ttl - 1,hops:=St.far p.hops,bA:=if (aK s.A p.dest).isSome then max p.bA (eP s.A p.dest)else p.bA,unk:=if (aK s.A p.dest).isSome then false else p.unk} ao c []
theorem Ui(s:St)(p:aD)(ao:Option Addr)(c:Nat):s.asked {p with la:=ao,lc:=c}=s.asked p:=by
 unfold St.asked;dsimp only;rw[Uj];rfl
theorem RP(s:St)(fr:Int)(p:aD)(ao:Option Addr)(c:Nat):s.learn fr {p with la:=ao,lc:=c}=s.learn fr p:=by
 simp only[St.learn,Ui]
theorem Av(s:St)(fr:Int)(p:aD)(ao:Option Addr)(c:Nat):s.bR fr {p with la:=ao,lc:=c}=s.bR fr p:=by
 unfold St.bR;dsimp only;rw[RP];try rfl
theorem JB(s:St)(fr:Int)(p:aD)(ao:Option Addr)(c:Nat):s.iT fr {p with la:=ao,lc:=c}=s.iT fr p:=by
 unfold St.iT;dsimp only;split
 ·exact DY _ _ {p with ttl:=p.ttl - 1,hops:=St.far p.hops} ao c []
 ·rfl
theorem EG(s:St)(fr:Int)(p:aD)(ao:Option Addr)(c:Nat):s.dM fr {p with la:=ao,lc:=c}=s.dM fr p:=by
 unfold St.dM;dsimp only;rw[JB];try rfl
theorem H8(s:St)(fr:Int)(p:aD)(ao:Option Addr)(c:Nat):s.dU fr {p with la:=ao,lc:=c}=s.dU fr p:=by
 unfold St.dU;dsimp only;split
 ·rfl
 ·split
  ·rfl
  ·split
   ·exact DY _ _ {p with ttl:=p.ttl - 1} ao c []
   ·rfl
theorem JZ(s:St)(fr:Int)(p:aD)(ao:Option Addr)(c:Nat)(L:List (Int×Int)):s.fD fr {p with la:=ao,lc:=c} L=s.fD fr p L:=by
 unfold St.fD;dsimp only;rw[Av,EG,H8];rfl
theorem Fv{g:bI}{TL:List Hp.Tm}(n:Nd N B g s TL w)(fr:Int)(p:aD)(hp:p.Wf)(di:0<=s.now∧s.now<=4611686018427387904)(hfl:s.aF.length<=1000000)(hdl:s.aP.length<=1000000):
  Calls Tryz.prog 93 #[.pointer (some ⟨N,0,none⟩),.pointer (some ⟨B,0,none⟩),.int .u32 fr,p.val] w λe w'=>e=.returned (.tuple #[])∧lT N B g s (s.fF fr p) TL w w':=by
 obtain⟨_,hde,_,_,_,_⟩:=hp.num;have hb0:Below w.heap.size w (w.alloc p.box):=bC;have gT:=PB.new p w;have n0:=n.later hb0;have kJ:¬Ft N g s w.heap.size:=n.new (aB _);obtain⟨s2,dB⟩:∃s2,s.fF fr p=s2:=⟨_,rfl⟩;rw[dB];replace dB:=hide dB;have HX:=hide (jJ n0 8 hdl);dsimp only[aD.box]at hb0 n0 HX;unfold PB at gT;dsimp only[aD.box]at gT;go_enter Tryz.func93,Tryz.ntmps93;go_upto_region 1 with(fail);generalize World.alloc _ _=W1 at hb0 gT n0 HX ⊢;generalize lZ:w.heap.size=C at gT kJ ⊢;replace lZ:=hide lZ;go_wp2_with fail;refine aU HX.out ?_;rintro e w2 ⟨rfl,g2,n2,u2,t2⟩;obtain⟨hP2,Ia⟩:=u2.kE gT kJ;obtain⟨s1,hs1⟩:∃z,s.drop 8=z:=⟨_,rfl⟩;have h1:Hid (s1.me=s.me∧s1.now=s.now∧s1.aF=s.aF∧s1.A=s.A):=by
  show _∧_;rw[<-hs1];exact⟨rfl,rfl,rfl,rfl⟩
 have hs2:Hid ((if p.kind=9∧p.dest≠s1.me then {s1.lD fr p.dest with bN:=s1.now+2000}else s1)=s2):=by
  rw[<-hs1];have:=dB.out;unfold St.fF at this;exact this
 rw[hs1]at n2 u2 Ia;have I9:=(Up.below hb0:Up B (Ft N g s) (Ft N g s) w W1).trans u2;have Mh:0<=s1.now∧s1.now<=4611686018427387904:=by rw[h1.out.2.1];exact di
 have Au:s1.aF.length<=1000000:=by rw[h1.out.2.2.1];exact hfl
 clear hs1 dB HX hb0 n0 u2 gT kJ;obtain⟨c2,c3,c4,c7,c0⟩:=n2.cell;obtain⟨p0,p1,p2,p3,p4,p5,p6,p7,p8,p9,iK,je⟩:=PB.cell hP2;have hq:∀q,Below w2.heap.size w2 (w2.drewN q):=λq=>below_drewN (aV _ _) q;by_cases hk:p.kind=9∧p.dest≠s1.me
 ·replace hs2:=hide ((aI hk).symm.trans hs2.out);obtain⟨hk9,hkd⟩:=hk;have b9:(p.kind==9)=true:=by simpa using hk9
  have bd:(p.dest !=s1.me)=true:=by simpa using hkd
  clear hk9 hkd;go_wp2_with fail;go_quiet (fail);generalize hg:World.drewN _ _=W3;obtain⟨n3,hP3,hb3⟩:=(show ∀q w3,w2.drewN q=w3->Nd N B g2 s1 TL w3∧PB p C w3∧Below w2.heap.size w2 w3 from by
   rintro q _ rfl;exact⟨n2.later (hq q),PB.below hP2 (hq q),hq q⟩) _ _ hg
  have PZ:=I9.trans (.below hb3:Up B (Ft N g2 s1) (Ft N g2 s1) w2 W3);clear hg n2 hP2 c2 c3 c4 c7 c0 p0 p1 p2 p3 p4 p5 p6 p7 p8 p9 iK je hq I9 hb3 b9 bd;obtain⟨p0,p1,p2,p3,p4,p5,p6,p7,p8,p9,iK,je⟩:=PB.cell hP3;have HL:=hide (Dw n3 fr p.dest hde Au);go_wp2_with fail;refine aU HL.out ?_;rintro e w4 ⟨rfl,g4,n4,u4,t4⟩;obtain⟨s3,hs3⟩:∃z,s1.lD fr p.dest=z:=⟨_,rfl⟩;have h3:Hid (s3.now=s1.now∧ {s3 with bN:=s1.now+2000}=s2):=by
   show _∧_;rw[<-hs3];exact⟨rfl,hs2.out⟩
  rw[hs3]at n4 u4;have pW:=PZ.trans u4;have tt:Hid (g4.x.T=g.x.T):=t4.out.trans t2.out;clear hs3 hs2 HL u4 PZ n3 hP3 p0 p1 p2 p3 p4 p5 p6 p7 p8 p9 iK je;obtain⟨c2,c3,c4,c7,c0⟩:=n4.cell;rw[h3.out.1]at c0;have f4:=n4.nn.cr.nd.free 4;have hg1:w4.grownBy (w4.setCell ⟨N,4,none⟩ (.int .u64 (s1.now+2000))) (some N):=ah (aC _ (some N)) 4 _;obtain⟨e1,e2,e3,e4,e5,e6,e7,e8,e9⟩:=n4.nn.eq;obtain⟨n5,u5⟩:=n4.cells (s':={s3 with bN:=s1.now+2000}) (n4.nn.cr.nd.Qr (s1.now+2000)) (Fx.grown hg1 λk e=>by cases e;rfl) ⟨e1,e2,rfl,e4,e5,e6,e7,e8,e9⟩ ⟨rfl,rfl,rfl,rfl,rfl,rfl⟩ ⟨rfl,rfl,rfl,rfl,rfl,rfl,rfl,rfl,rfl⟩ ⟨rfl,rfl,rfl,rfl,rfl⟩;rw[h3.out.2]at n5 u5;have hw:IntKind.u64.wrap (s1.now+2000)=s1.now+2000:=mK Mh (by omega);have hfin:Hid (lT N B g s s2 TL w (w4.setCell ⟨N,4,none⟩ (.int .u64 (s1.now+2000)))):=⟨_,n5,pW.trans u5,tt.out⟩;clear n4 n5 u5 pW hg1 e1 e2 e3 e4 e5 e6 e7 e8 e9 h3;go_wp2;go_returns;first
   |exact⟨rfl,hfin.out⟩
   |(rw[hw];exact⟨rfl,hfin.out⟩)
 ·replace hs2:=hide ((ay hk).symm.trans hs2.out);have hk':p.kind≠9∨(p.kind=9∧p.dest=s1.me):=by
   by_cases h9:p.kind=9
   ·exact .inr ⟨h9,Classical.byContradiction λh=>hk ⟨h9,h⟩⟩
   ·exact .inl h9
  clear hk;have hfin:Hid (∀w3,Below w2.heap.size w2 w3->lT N B g s s2 TL w w3):=by
   intro w3 hb;rw[<-hs2.out];exact⟨g2,n2.later hb,I9.trans (.below hb),t2⟩
  have hq:=hide hq;clear hs2 hP2 n2;rcases hk' with h9|⟨h9,hd⟩
  ·have b9:(p.kind==9)=false:=by simpa using h9
   clear h9;go_wp2_with fail;go_quiet (fail);go_wp2;go_returns;exact⟨rfl,hfin.out _ (hq.out _)⟩
  ·have b9:(p.kind==9)=true:=by simpa using h9
   have bd:(p.dest !=s1.me)=false:=by simpa using hd
   clear h9 hd;go_wp2_with fail;go_quiet (fail);go_wp2;go_returns;exact⟨rfl,hfin.out _ (hq.out _)⟩
def Vd(N B:Nat)(g:bI)(s s2:St)(TL:List Hp.Tm)(w w':World):Prop:=∃dX,lT N B g s s2 dX w w'∧∃d,X_ d s TL s2 dX
theorem Vd.of{g:bI}{s2:St}{TL:List Hp.Tm}{w':World}(h:lT N B g s s2 TL w w')(hQ:s2.Q=s.Q):Vd N B g s s2 TL w w':=⟨TL,h,0,.inl ⟨rfl,hQ⟩⟩
theorem X6(s:St)(p:aD):(s.asked p).Q=s.Q:=by
 unfold St.asked St.iG St.iy;split
 ·exact vY _ _
 ·split
  ·exact vY _ _
  ·split<;>rfl
theorem adv(s:St)(fr:Int)(p:aD):(s.learn fr p).Q=s.Q:=by
 unfold St.learn;split
 ·rfl
 ·split<;>exact X6 _ _
theorem J2(s:St)(fr:Int)(L:List (Int×Int)):(s.iL fr L).Q=s.Q:=by
 unfold St.iL;dsimp only;split<;>rfl
theorem J3(s:St)(fr:Int)(p:aD):(s.dU fr p).Q=s.Q:=by
 unfold St.dU;split
 ·rfl
 ·split
  ·rfl
  ·split<;>rfl
theorem EF(s:St)(fr:Int)(p:aD):(s.fF fr p).Q=s.Q:=by
 unfold St.fF;split<;>rfl
theorem Wh{x0 x1 x2 x3 x4:Int}{r:List Int}(ao:Option Addr)(c:Nat)(hb:∀x∈x0::x1::x2::x3::x4::r,0<=x∧x<=255)(hF:Ey (x0::x1::x2::x3::x4::r)=true):
  ({jd x0 x1 x2 x4 r with la:=ao,lc:=c}:aD).Hd∧(x1=1∨x1=2∨x1=3∨x1=9)∧(jd x0 x1 x2 x4 r).kind=x1:=by
 have h1:=Wn (x2:=x2) (λy hy=>hb y (by simp[hy])) (hb x0 (by simp)) (hb x1 (by simp)) (hb x4 (by simp)) (r:=r);have hg:(jd x0 x1 x2 x4 r).eG=true:=by
  simp only[Ey,jr]at hF;exact hF.2
 obtain⟨_,t0,t1,q0,q1,_,hk⟩:=jm hg;have hkk:(jd x0 x1 x2 x4 r).kind=x1:=by
  unfold jd;split
  ·rename_i h;exact h.symm
  split
  ·rename_i h;exact h.symm
  split
  ·rename_i h;exact h.symm
  split
  ·rename_i h;exact h.symm
  ·rfl
 refine⟨⟨⟨h1.1,h1.2,h1.3,h1.4,h1.5,h1.6,h1.7,h1.8,h1.9,h1.10,h1.11,h1.12,h1.13,h1.14,h1.15,h1.16,h1.17,h1.18,h1.19,h1.20⟩,⟨t0,t1⟩,⟨q0,q1⟩⟩,?_,hkk⟩;rw[hkk]at hk;rcases hk with h|h|h|⟨h,_⟩
 ·exact .inl h
 ·exact .inr (.inl h)
 ·exact .inr (.inr (.inr h))
 ·exact .inr (.inr (.inl h))
theorem VH(w:World):(Instr.index 199 (.agg #[.nilFunc,.func (.func 130) #[] #[],.func (.func 131) #[] #[],.func (.func 132) #[] #[],.nilFunc,.nilFunc,.nilFunc,.nilFunc,.nilFunc,.func (.func 133) #[] #[]]) (.int .i64 1)).run Tryz.prog w=.ok (.func (.func 130) #[] #[]) w:=by kernel_rfl
theorem VG(w:World):(Instr.index 199 (.agg #[.nilFunc,.func (.func 130) #[] #[],.func (.func 131) #[] #[],.func (.func 132) #[] #[],.nilFunc,.nilFunc,.nilFunc,.nilFunc,.nilFunc,.func (.func 133) #[] #[]]) (.int .i64 2)).run Tryz.prog w=.ok (.func (.func 131) #[] #[]) w:=by kernel_rfl
theorem VF(w:World):(Instr.index 199 (.agg #[.nilFunc,.func (.func 130) #[] #[],.func (.func 131) #[] #[],.func (.func 132) #[] #[],.nilFunc,.nilFunc,.nilFunc,.nilFunc,.nilFunc,.func (.func 133) #[] #[]]) (.int .i64 3)).run Tryz.prog w=.ok (.func (.func 132) #[] #[]) w:=by kernel_rfl
theorem VE(w:World):(Instr.index 199 (.agg #[.nilFunc,.func (.func 130) #[] #[],.func (.func 131) #[] #[],.func (.func 132) #[] #[],.nilFunc,.nilFunc,.nilFunc,.nilFunc,.nilFunc,.func (.func 133) #[] #[]]) (.int .i64 9)).run Tryz.prog w=.ok (.func (.func 133) #[] #[]) w:=by kernel_rfl
theorem abk{g:bI}{TL:List Hp.Tm}(n:Nd N B g s TL w)(hF:s.PV)(htn:s.tn<=4000000000000000000)(htl:TL.length<=1000000)(fr:Int)(hfr:a_ fr)(v:Value)(xs:List Int)(hv:fo w v xs):
  Calls Tryz.prog 59 #[.pointer (some ⟨N,0,none⟩),.pointer (some ⟨B,0,none⟩),.int .u32 fr,v] w λe w'=>e=.returned (.tuple #[])∧Vd N B g s (s.hear fr xs) TL w w':=by
 have hby:=hv.1;have HD:=hide (KR v xs w hv);clear hv;obtain⟨s2,dB⟩:∃s2,s.hear fr xs=s2:=⟨_,rfl⟩;rw[dB];replace dB:=hide dB;have hfl:s.aF.length<=900000:=hF.aF;have hdl:s.aP.length<=900000:=hF.aP;go_enter Tryz.func59,Tryz.ntmps59;go_wp2_with fail;refine aU HD.out ?_;rintro e w1 ⟨hb1,h⟩;have n1:=n.later hb1;clear HD;rcases h with⟨hFt,v1,rfl,x0,x1,x2,x3,x4,r,ao,c,hxs,hv1,hlen,hA,Hw⟩|⟨hFt,rfl⟩
 ·subst hxs;obtain⟨hq,hk,hkk⟩:=Wh (ao:=ao) (c:=c) hby hFt;have hs2:Hid ((if fr=0∨fr=s.me then s.drop 0 else s.fD fr {jd x0 x1 x2 x4 r with la:=ao,lc:=c} (pF x1 x4 r))=s2):=by
   show _=_;rw[<-dB.out,JZ];unfold St.hear;rw[hFt];by_cases h:fr=0∨fr=s.me
   ·rw[aI h,aI (.inr h)]
   ·rw[ay h,ay (by rintro(h1|h1)<;>first|(cases h1;done)|exact h h1)];rfl
  have hL1:fH w1 {jd x0 x1 x2 x4 r with la:=ao,lc:=c} (pF x1 x4 r):=⟨hlen,hA⟩;have hap:∀b,ao=some b->¬Ft N g s b.block:=λb hb=>n.new (Hw b hb);have hL0:x1≠3->pF x1 x4 r=[]:=λh=>by unfold pF;rw[ay h]
  have hpk:({jd x0 x1 x2 x4 r with la:=ao,lc:=c}:aD).kind=x1:=hkk;have hpa:({jd x0 x1 x2 x4 r with la:=ao,lc:=c}:aD).la=ao:=rfl;generalize ({jd x0 x1 x2 x4 r with la:=ao,lc:=c}:aD)=p at hv1 hq hs2 hL1 hpk hpa;generalize pF x1 x4 r=L at hs2 hL1 hL0;subst hv1 hpa;have hap:FB N g s p.la:=hap;clear hby hFt hlen hA Hw dB hkk;rw[<-hpk]at hk hL0;clear hpk;have hp:=hq.wf;have hb2:Below w1.heap.size w1 (w1.alloc p.box):=bC;have hP2:=PB.new p w1;have n2:=n1.later hb2;have xu:=hb1.trans (hb2.mono hb1.size);have hL2:=hL1.below hb2;clear n1 hL1 hb2;dsimp only[aD.box]at n2 xu hL2;unfold PB at hP2;dsimp only[aD.box]at hP2;dsimp only[aD.val];go_upto_region 2 with(fail);generalize World.alloc _ _=W2 at hP2 n2 xu hL2 ⊢;generalize w1.heap.size=C at hP2 ⊢;obtain⟨c2,c3,c4,c7,c0⟩:=n2.cell;obtain⟨p0,p1,p2,p3,p4,p5,p6,p7,p8,p9,iK,je⟩:=PB.cell hP2;by_cases hf:fr=0∨fr=s.me
  ·replace hs2:=hide ((aI hf).symm.trans hs2.out);have HX:=hide (jJ n2 0 (by omega));rw[hs2.out]at HX;have hQ:Hid (s2.Q=s.Q):=by show _=_;rw[<-hs2.out];rfl
   have hfin:Hid (∀w9,lT N B g s s2 TL W2 w9->Vd N B g s s2 TL w w9):=λw9 h=> .of (h.pre xu) hQ.out;have hf':fr=0∨(¬fr=0∧fr=s.me):=by
    by_cases h:fr=0
    ·exact .inl h
    ·exact .inr ⟨h,hf.resolve_left h⟩
   clear hs2 hQ xu hf n2 hL2 hP2 hap;rcases hf' with h|⟨h,h'⟩
   ·have b0:(fr==0)=true:=by simpa using h
    clear h;go_wp2_with fail;refine aU HX.out ?_;rintro e w9 ⟨rfl,hN⟩;have Hy:=hide (hfin.out _ hN);clear hN HX;go_wp2;go_returns;exact⟨rfl,Hy.out⟩
   ·have b0:(fr==0)=false:=by simpa using h
    have b1:(fr==s.me)=true:=by simpa using h'
    clear h h';go_wp2_with fail;refine aU HX.out ?_;rintro e w9 ⟨rfl,hN⟩;have Hy:=hide (hfin.out _ hN);clear hN HX;go_wp2;go_returns;exact⟨rfl,Hy.out⟩
  ·replace hs2:=hide ((ay hf).symm.trans hs2.out);have b0:(fr==0)=false:=by
    have:¬fr=0:=λh=>hf (.inl h);simpa using this
   have b1:(fr==s.me)=false:=by
    have:¬fr=s.me:=λh=>hf (.inr h);simpa using this
   clear hf;go_wp2_with fail;by_cases yN:s.now<s.bN
   ·have bs:decide (s.now<s.bN)=true:=f_ yN;have hs3:Hid (s.fF fr p=s2):=by
     show _=_;rw[<-hs2.out];unfold St.fD;rw[aI yN]
    have HX:Hid (∀W5,Below W2.heap.size W2 W5->Calls Tryz.prog 93 #[.pointer (some ⟨N,0,none⟩),.pointer (some ⟨B,0,none⟩),.int .u32 fr,p.val] W5 λe w'=>e=.returned (.tuple #[])∧Vd N B g s s2 TL w w'):=by
     intro W5 h5;refine(Fv (n2.later h5) fr p hp hF.now (by omega) (by omega)).mono ?_;rintro e w9 ⟨rfl,hN⟩;rw[hs3.out]at hN;exact⟨rfl,.of (hN.pre (xu.trans (h5.mono xu.size))) (by rw[<-hs3.out];exact EF _ _ _)⟩
    dsimp only[aD.val]at HX;clear hs2 hs3 yN;go_quiet (fail);generalize hg:World.drewN _ _=W3;obtain⟨hP3,hb3⟩:=(show ∀q w3,W2.drewN q=w3->PB p C w3∧Below W2.heap.size W2 w3 from by
     rintro q _ rfl;have hbq:Below W2.heap.size W2 (W2.drewN q):=below_drewN (aV _ _) q;exact⟨PB.below hP2 hbq,hbq⟩) _ _ hg
    clear hg n2 hP2 c2 c3 c4 c7 c0 p0 p1 p2 p3 p4 p5 p6 p7 p8 p9 iK je;obtain⟨p0,p1,p2,p3,p4,p5,p6,p7,p8,p9,iK,je⟩:=PB.cell hP3;go_wp2_with fail;refine aU (HX.out _ hb3) ?_;rintro e w9 ⟨rfl,hN⟩;replace hN:=hide hN;clear HX hb3 hP3 p0 p1 p2 p3 p4 p5 p6 p7 p8 p9 iK je;go_wp2;go_returns;exact⟨rfl,hN.out⟩
   ·have bs:decide (s.now<s.bN)=false:=eU yN;go_quiet (fail);generalize hg:World.drewN _ _=W3;obtain⟨n3,hP3,hb3⟩:=(show ∀q w3,W2.drewN q=w3->Nd N B g s TL w3∧PB p C w3∧Below W2.heap.size W2 w3 from by
     rintro q _ rfl;have hbq:Below W2.heap.size W2 (W2.drewN q):=below_drewN (aV _ _) q;exact⟨n2.later hbq,PB.below hP2 hbq,hbq⟩) _ _ hg
    have hL3:=hL2.below hb3;have yP:=xu.trans (hb3.mono xu.size);clear hg n2 hP2 hL2 xu hb3 c2 c3 c4 c7 c0 p0 p1 p2 p3 p4 p5 p6 p7 p8 p9 iK je bs b0 b1;have HH:Hid (∀W',Below W3.heap.size W3 W'->Calls Tryz.prog 94 #[] W' λe w5=>e=.returned (.agg #[.nilFunc,.func (.func 130) #[] #[],.func (.func 131) #[] #[],.func (.func 132) #[] #[],.nilFunc,.nilFunc,.nilFunc,.nilFunc,.nilFunc,.func (.func 133) #[] #[]])∧Below W3.heap.size W3 w5):=by
     intro W' h;refine(HZ W').mono ?_;rintro e w5 ⟨rfl,h5⟩;exact⟨rfl,h.trans (h5.mono h.size)⟩
    have Qf:Hid (∀W5,Below W3.heap.size W3 W5->W5.cell? ⟨C,0,none⟩=some (.int .i64 p.ttl)∧W5.cell? ⟨C,1,none⟩=some (.int .i64 p.kind)∧W5.cell? ⟨C,2,none⟩=some (.int .i64 p.hops)∧W5.cell? ⟨C,3,none⟩=some (.bool p.unk)∧W5.cell? ⟨C,4,none⟩=some (.int .u32 p.id)∧W5.cell? ⟨C,5,none⟩=some (.int .u32 p.dest)∧W5.cell? ⟨C,6,none⟩=some (.int .u32 p.bA)∧W5.cell? ⟨C,7,none⟩=some (.int .u32 p.aH)∧W5.cell? ⟨C,8,none⟩=some (.int .u32 p.dQ)∧W5.cell? ⟨C,9,none⟩=some (.int .u32 p.life)∧W5.cell? ⟨C,10,none⟩=some (.slice p.la p.ln p.lc)∧W5.cell? ⟨C,11,none⟩=some (.string p.pay)):=λW5 h5=>PB.cell (PB.below hP3 h5);rcases hk with hk|hk|hk|hk
    ·have hs3:Hid (s.bR fr p=s2):=by
      show _=_;rw[<-hs2.out];unfold St.fD;rw[ay yN,hk];rfl
     have HX:Hid (∀W5,Below W3.heap.size W3 W5->Calls Tryz.prog 130 #[.pointer (some ⟨N,0,none⟩),.pointer (some ⟨B,0,none⟩),.int .u32 fr,p.val] W5 λe w'=>e=.returned (.tuple #[])∧Vd N B g s s2 TL w w'):=by
      intro W5 h5;refine(Co (n3.later h5) hF htn fr hfr p hq (by have:=hL3.below h5;rwa [hL0 (by omega)]at this)).mono ?_;rintro e w9 ⟨rfl,hN⟩;rw[hs3.out]at hN;exact⟨rfl,.of (hN.pre (yP.trans (h5.mono yP.size))) (by rw[<-hs3.out];exact sP _ _ _)⟩
     have hix:=VH;dsimp only[aD.val]at HX;rw[hk]at Qf HX;clear hs2 hs3 yN hL3 hL0 hap n3 hP3 hq hp hk yP;obtain⟨p0,p1,p2,p3,p4,p5,p6,p7,p8,p9,iK,je⟩:=Qf.out _ (aV _ _);go_wp2_with fail;go_region_law (first
      |(go_simp;go_at_call 94;refine(HH.out _ (by first|exact aV _ _|exact(aV _ _).drew|exact below_drewN (aV _ _) _)).mono ?_;rintro e w5 ⟨rfl,hb5⟩;obtain⟨q0,q1,q2,q3,q4,q5,q6,q7,q8,q9,q10,q11⟩:=Qf.out _ hb5)
      |(go_simp;go_at_call 130;refine(HX.out _ (by first|exact hb5|exact hb5.drew|exact below_drewN hb5 _)).mono ?_;rintro e w9 ⟨rfl,hN⟩;replace hN:=hide hN))
     all_goals
      go_wp2;go_returns;exact⟨rfl,hN.out⟩
    ·have hs3:Hid (s.dM fr p=s2):=by
      show _=_;rw[<-hs2.out];unfold St.fD;rw[ay yN,hk];rfl
     have HX:Hid (∀W5,Below W3.heap.size W3 W5->Calls Tryz.prog 131 #[.pointer (some ⟨N,0,none⟩),.pointer (some ⟨B,0,none⟩),.int .u32 fr,p.val] W5 λe w'=>e=.returned (.tuple #[])∧Vd N B g s s2 TL w w'):=by
      intro W5 h5;refine(IV (n3.later h5) fr hfr p hq (by have:=hL3.below h5;rwa [hL0 (by omega)]at this) hF.me hF.now (by omega) (by omega) htl).mono ?_;rintro e w9 ⟨rfl,dX,hN,hT⟩;rw[hs3.out]at hN hT;exact⟨rfl,dX,hN.pre (yP.trans (h5.mono yP.size)),_,hT⟩
     have hix:=VG;dsimp only[aD.val]at HX;rw[hk]at Qf HX;clear hs2 hs3 yN hL3 hL0 hap n3 hP3 hq hp hk yP;obtain⟨p0,p1,p2,p3,p4,p5,p6,p7,p8,p9,iK,je⟩:=Qf.out _ (aV _ _);go_wp2_with fail;go_region_law (first
      |(go_simp;go_at_call 94;refine(HH.out _ (by first|exact aV _ _|exact(aV _ _).drew|exact below_drewN (aV _ _) _)).mono ?_;rintro e w5 ⟨rfl,hb5⟩;obtain⟨q0,q1,q2,q3,q4,q5,q6,q7,q8,q9,q10,q11⟩:=Qf.out _ hb5)
      |(go_simp;go_at_call 131;refine(HX.out _ (by first|exact hb5|exact hb5.drew|exact below_drewN hb5 _)).mono ?_;rintro e w9 ⟨rfl,hN⟩;replace hN:=hide hN))
     all_goals
      go_wp2;go_returns;exact⟨rfl,hN.out⟩
    ·have hs3:Hid (s.iL fr L=s2):=by
      show _=_;rw[<-hs2.out];unfold St.fD;rw[ay yN,hk];rfl
     have HX:Hid (∀W5,Below W3.heap.size W3 W5->Calls Tryz.prog 132 #[.pointer (some ⟨N,0,none⟩),.pointer (some ⟨B,0,none⟩),.int .u32 fr,p.val] W5 λe w'=>e=.returned (.tuple #[])∧Vd N B g s s2 TL w w'):=by
      intro W5 h5;refine(KG (n3.later h5) fr hfr p hp L (hL3.below h5) hap (by omega) (by omega)).mono ?_;rintro e w9 ⟨rfl,hN⟩;rw[hs3.out]at hN;exact⟨rfl,.of (hN.pre (yP.trans (h5.mono yP.size))) (by rw[<-hs3.out];exact J2 _ _ _)⟩
     have hix:=VF;dsimp only[aD.val]at HX;rw[hk]at Qf HX;clear hs2 hs3 yN hL3 hL0 hap n3 hP3 hq hp hk yP;obtain⟨p0,p1,p2,p3,p4,p5,p6,p7,p8,p9,iK,je⟩:=Qf.out _ (aV _ _);go_wp2_with fail;go_region_law (first
      |(go_simp;go_at_call 94;refine(HH.out _ (by first|exact aV _ _|exact(aV _ _).drew|exact below_drewN (aV _ _) _)).mono ?_;rintro e w5 ⟨rfl,hb5⟩;obtain⟨q0,q1,q2,q3,q4,q5,q6,q7,q8,q9,q10,q11⟩:=Qf.out _ hb5)
      |(go_simp;go_at_call 132;refine(HX.out _ (by first|exact hb5|exact hb5.drew|exact below_drewN hb5 _)).mono ?_;rintro e w9 ⟨rfl,hN⟩;replace hN:=hide hN))
     all_goals
      go_wp2;go_returns;exact⟨rfl,hN.out⟩
    ·have hs3:Hid (s.dU fr p=s2):=by
      show _=_;rw[<-hs2.out];unfold St.fD;rw[ay yN,hk];rfl
     have HX:Hid (∀W5,Below W3.heap.size W3 W5->Calls Tryz.prog 133 #[.pointer (some ⟨N,0,none⟩),.pointer (some ⟨B,0,none⟩),.int .u32 fr,p.val] W5 λe w'=>e=.returned (.tuple #[])∧Vd N B g s s2 TL w w'):=by
      intro W5 h5;refine(KH (n3.later h5) fr hfr p hq (by have:=hL3.below h5;rwa [hL0 (by omega)]at this) hF.now (by omega) (by omega) (by have:=hF.aO;omega)).mono ?_;rintro e w9 ⟨rfl,hN⟩;rw[hs3.out]at hN;exact⟨rfl,.of (hN.pre (yP.trans (h5.mono yP.size))) (by rw[<-hs3.out];exact J3 _ _ _)⟩
     have hix:=VE;dsimp only[aD.val]at HX;rw[hk]at Qf HX;clear hs2 hs3 yN hL3 hL0 hap n3 hP3 hq hp hk yP;obtain⟨p0,p1,p2,p3,p4,p5,p6,p7,p8,p9,iK,je⟩:=Qf.out _ (aV _ _);go_wp2_with fail;go_region_law (first
      |(go_simp;go_at_call 94;refine(HH.out _ (by first|exact aV _ _|exact(aV _ _).drew|exact below_drewN (aV _ _) _)).mono ?_;rintro e w5 ⟨rfl,hb5⟩;obtain⟨q0,q1,q2,q3,q4,q5,q6,q7,q8,q9,q10,q11⟩:=Qf.out _ hb5)
      |(go_simp;go_at_call 133;refine(HX.out _ (by first|exact hb5|exact hb5.drew|exact below_drewN hb5 _)).mono ?_;rintro e w9 ⟨rfl,hN⟩;replace hN:=hide hN))
     all_goals
      go_wp2;go_returns;exact⟨rfl,hN.out⟩
 ·have hs2:Hid (s.drop 0=s2):=by
   show _=_;rw[<-dB.out];unfold St.hear;rw[aI (.inl hFt)]
  have hb2:Below w1.heap.size w1 (w1.alloc aD.zero.box):=bC;have n2:=n1.later hb2;have xu:=hb1.trans (hb2.mono hb1.size);have HX:=hide (jJ n2 0 (by omega));rw[hs2.out]at HX;have hQ:Hid (s2.Q=s.Q):=by show _=_;rw[<-hs2.out];rfl
  clear hs2 dB n1 hb2;dsimp only[aD.box,aD.zero]at HX xu n2;dsimp only[aD.val,aD.zero];go_upto_region 3 with(fail);generalize World.alloc _ _=W2 at HX xu n2 ⊢;go_wp2_with fail;refine aU HX.out ?_;rintro e w9 ⟨rfl,hN⟩;have Hy:Hid (Vd N B g s s2 TL w w9):=.of (hN.pre xu) hQ.out;clear hN HX;go_wp2;go_returns;exact⟨rfl,Hy.out⟩
open Go.MuLone
theorem PE{N:Nat}{g:bI}{s:St}{TL:List Hp.Tm}{w:World}(n:Nn N g s TL w){k:Int}(hI:s.Inv k)(hk:k<=100000000000)(hT:dV s TL)(now fr:Int)(di:s.now<=now∧now<=4611686018427387904)(hfr:a_ fr)(v:Value)(xs:List Int)(hv:VB w v xs):
  Calls Tryz.prog 25 #[.pointer (some ⟨N,0,none⟩),.int .u64 now,.int .u32 fr,v] w λe w'=>∃o,e=.returned o∧Hid ((s.rcv now fr xs).Inv (k+1))∧BD N g s (s.rcv now fr xs) w o w':=by
 have hA:=n.cr.tb.ok;have hl:=n.cr.tb.len;have hb0:Below w.heap.size w (w.alloc jy):=bC;have hC0:(w.alloc jy).heap[w.heap.size]?=some jy:=bV _ _;have kJ:¬Ft N g s w.heap.size:=λh=>by have:=n.lt h;omega
 have hs0:(w.alloc jy).heap.size=w.heap.size+1:=by simp
 have n0:=n.later hb0;have hv0:=hv.later hb0;have hM:=(qN hI).2 now di hA hl;obtain⟨s3,hs3⟩:∃z,s.locked.begin now=z:=⟨_,rfl⟩;rw[hs3]at hM;have Hu:Hid (s3.lk=1):=by show _=_;rw[<-hs3];rfl
 have MF:Hid (s3.Q=s.Q):=by show _=_;rw[<-hs3];rfl
 have yg:Hid (s3.now=now):=by show _=_;rw[<-hs3];rfl
 have SK:Hid (s3.me=s.me):=by show _=_;rw[<-hs3];rfl
 replace hM:=hide hM;dsimp only[jy]at hb0 hC0 hs0 n0 hv0
 go_enter_defers Tryz.func25,Tryz.ntmps25
 go_upto_region 1 with(fail);generalize World.alloc _ _=W1 at hb0 hC0 hs0 n0 hv0 ⊢;obtain⟨c0,f0⟩:=n0.LX;rw[hI.lk]at c0;go_wp2_with fail;refine aU (lock_free nN ⟨N,0,none⟩ W1 c0 f0) ?_;rintro e w2 ⟨rfl,rfl⟩;obtain⟨n2,hg2⟩:=n0.l6 1;have hf2:Fx (Ft N g s) w (W1.setCell ⟨N,0,none⟩ (.int .i32 1)):=aW (Fx.below hb0) hg2 (λi _ e=>by cases e;exact .inl (.inl rfl));have hv2:=n0.vb hv0 (Fx.grown hg2 λk e=>by cases e;exact .inl (.inl rfl));have hC2:=(hg2.block w.heap.size (by omega) (λe=>kJ (by cases e;exact .inl (.inl rfl)))).trans hC0;have hs2:w.heap.size+1<=(W1.setCell ⟨N,0,none⟩ (.int .i32 1)).heap.size:=by
  have:=hg2.size;omega
 have hcn:=hI.cnt;have HB:=hide (zw n2 now ⟨hI.dom.mb,hI.dom.on,hI.dom.own⟩ ⟨hcn.1,by dsimp only;omega⟩);rw[show({s with lk:=1}:St).begin now=s3 from hs3]at HB;have hF1:Hid (∀k,Ft N ({g with x:={g.x with lk:=1}}:bI) ({s with lk:=1}:St) k->Ft N g s k):=λk h=>h;replace hs3:=hide hs3;clear n0 hv0 hC0 hs0 hb0 c0 f0 hg2 hA hl hcn;generalize ({g with x:={g.x with lk:=1}}:bI)=g1 at n2 HB hF1;generalize ({s with lk:=1}:St)=s1 at n2 HB hF1;generalize World.setCell _ _ _=W2 at n2 hf2 hv2 hC2 hs2 HB ⊢;go_wp2_with fail;refine aU HB.out ?_;rintro e w3 ⟨g3,rfl,n3,u3,YO,t3⟩;clear t3;have hv3:=n2.vb hv2 YO;clear HB;have Tg:Hid (dV s3 TL):=by
  show dV _ _;unfold dV;rw[MF.out];exact hT
 have hlen:=n3.nn.Zr Tg.out;have yo:=hM.out.fine (by omega);have HH:=hide (abk n3 yo (by have:=hM.out.tn;omega) (by omega) fr hfr v xs hv3.1);have OD:=hide n3.nn.ids;have EA:=hide n3.nn.rs.sr.qM;have acj:Hid (∀q∈s3.Q,q.txt.length<=4):=λq hq=>(n3.nn.rs.sr.ok q hq).txt;have hpk:Hid (Eff 5 s3 (s3.hear fr xs)):=AU s3 fr xs hv3.1.1 acj.out;clear hv2 hv3 YO n2 n3;go_wp2_with fail;refine aU HH.out ?_;rintro e w5 ⟨rfl,Qd,⟨g5,n5,u5,t5⟩,d5,P8⟩;obtain⟨s5,hs5⟩:∃z,s3.hear fr xs=z:=⟨_,rfl⟩;rw[hs5]at n5 u5 P8 hpk;have Xi:Hid (dV s5 Qd):=Y9 P8 Tg.out OD.out EA.out;have nZ:Hid (s5.Mid k 6):=vE hM.out hpk.out;have EC:Hid (s5.lk=1):=hpk.out.lk.trans Hu.out;have yH:=u3.trans u5;replace hs5:=hide hs5;clear HH u3 u5 P8 OD EA acj hpk yo hlen;have MH:=hide (mE nZ.out (by omega) n5.nn.cr.tb.ok n5.nn.cr.tb.len);have M9:=hide (oQ n5 nZ.out.dom (by have:=nZ.out.cnt;omega) (by have:=nZ.out.bg;omega) nZ.out.bd nZ.out.seq);go_wp2_with fail;refine aU M9.out ?_;rintro e w6 ⟨g6,rfl,n6,u6,t6⟩;obtain⟨s6,hs6⟩:∃z,s5.finish=z:=⟨_,rfl⟩;have EB:s6.lk=1:=by rw[<-hs6,(aR s5).lk];exact EC.out
 have Xh:Hid (dV s6 Qd):=by
  show dV _ _;unfold dV;rw[<-hs6,(aR s5).Q];exact Xi.out
 have jV:Hid (s.rcv now fr xs=s6.freed):=by
  show _=_;rw[<-hs6];unfold St.rcv St.receive;rw[hs3.out,hs5.out]
 rw[hs6]at n6 u6 MH ⊢;have nI:=yH.trans u6;clear M9 hs6 u6 n5 yH;have ER:=nI.toFx (aB _);have nQ:∀k,Ft N g6 s6 k->Ft N g s k∨(w.heap.size<=k∧k<w6.heap.size):=λk hk=>(nI.sub k hk).elim (λh=> .inl (hF1.out k h)) λh=> .inr ⟨by omega,h.2⟩;have gX:=(ER.block w.heap.size (by omega) (λh=>kJ (hF1.out _ h))).trans hC2;have kP:¬Ft N g6 s6 w.heap.size:=λh=>(nI.sub _ h).elim (λh=>kJ (hF1.out _ h)) (by omega);have Mk:=hf2.trans ER (λi _ h=>hF1.out i h);have r1:=ownsRow_base_a n6.ac.aH (show w.heap.size<=W2.heap.size+1 by omega);have r2:=ownsRow_base_a n6.ac.bO (show w.heap.size<=W2.heap.size+1 by omega);have r3:=ownsRow_base_a n6.ac.bP (show w.heap.size<=W2.heap.size+1 by omega);have m6:=n6.nn;obtain⟨af,kf,hf,_⟩:=ax r1;obtain⟨ac,kc,hc,_⟩:=ax r2;obtain⟨ad,kd,hdd,_⟩:=ax r3;rw[hf]at r1;rw[hc]at r2;rw[hdd]at r3;rw[hf,hc,hdd];simp only[jg];clear n6 hf hc hdd nI ER hf2 hC2;generalize hjj:s6.bH=jj;replace hjj:=hide hjj;obtain⟨z0,z1,z2,z3,z4⟩:=cells5 gX;obtain⟨y0,y1,y2,y3,y4⟩:=yw gX;have iY:=ah (ah (ah (ah (ah (aC w6 (some w.heap.size)) 0 (.string jj)) 1 (.bool s6.bB)) 2 (.slice af s6.aF.length kf)) 3 (.slice ac s6.aO.length kc)) 4 (.slice ad s6.aP.length kd);have gM:(((((w6.setCell ⟨w.heap.size,0,none⟩ (.string jj)).setCell ⟨w.heap.size,1,none⟩ (.bool s6.bB)).setCell ⟨w.heap.size,2,none⟩ (.slice af s6.aF.length kf)).setCell ⟨w.heap.size,3,none⟩ (.slice ac s6.aO.length kc)).setCell ⟨w.heap.size,4,none⟩ (.slice ad s6.aP.length kd)).heap[w.heap.size]?=some (.cells #[.string jj,.bool s6.bB,.slice af s6.aF.length kf,.slice ac s6.aO.length kc,.slice ad s6.aP.length kd] 52):=by
  simp[World.setCell,d_,gX]
 obtain⟨r1,r2,r3⟩:=sN iY gX r1 r2 r3 (by decide);have m7:=m6.kept λk hk=>iY.block k (m6.lt hk) (λe=>kP (by cases e;exact hk));have pJ:=aW Mk iY (λi hi e=>by cases e;omega);have kG:=λk hk=>(nQ k hk).imp_right λh=>(⟨h.1,fZ h.2 iY.size⟩:w.heap.size<=k∧_);clear m6 iY Mk gX nQ;go_wp2_with fail;generalize World.setCell _ _ _=W7 at gM r1 r2 r3 m7 pJ kG ⊢;obtain⟨p0,p1,p2,p3,p4⟩:=cells5 gM;obtain⟨c0,f0⟩:=m7.LX;rw[EB]at c0;refine leaves_cons (f:=50) (args:=#[.pointer (some ⟨N,0,none⟩)]) (by simp) (by simp[go_sem]) ?_;refine(unlock_deferred nN ⟨N,0,none⟩ .returning W7 c0 f0).mono ?_;rintro e u' w'' ⟨rfl,rfl,rfl⟩;obtain⟨m8,lF⟩:=m7.l6 0;have BK:N≠w.heap.size:=λe=>kP (by rw[<-e];exact .inl (.inl rfl));have g_:=(lF.block w.heap.size (aG gM) (λe=>by cases e;exact BK rfl)).trans gM;obtain⟨r1,r2,r3⟩:=sN lF m7.cr.nd r1 r2 r3 (by decide);have yh:=aW pJ lF (λi hi e=>by cases e;exact .inl (.inl rfl));have nP:=λk hk=>(kG k hk).imp_right λh=>(⟨h.1,fZ h.2 lF.size⟩:w.heap.size<=k∧_);clear p0 p1 p2 p3 p4 c0 f0 lF m7 pJ kG gM;generalize World.setCell _ _ _=W8 at g_ r1 r2 r3 m8 yh nP ⊢;obtain⟨p0,p1,p2,p3,p4⟩:=cells5 g_;refine⟨.agg #[.string jj,.bool s6.bB,.slice af s6.aF.length kf,.slice ac s6.aO.length kc,.slice ad s6.aP.length kd],by simp[results,Tryz.results25,go_sem,p0,p1,p2,p3,p4],_,rfl,?_⟩;rw[jV.out];refine⟨MH,_,Qd,.slice af s6.aF.length kf,.slice ac s6.aO.length kc,.slice ad s6.aP.length kd,?_,m8,Xh.out,r1,r2,r3,yh,nP⟩;rw[<-hjj.out];rfl
variable{m:aM}{W:World}
theorem Fg{y:MG}{W':World}(h:MM y m W){κ:Int}{q q':Nat}(hok:ja κ q m){i:Nat}{x:SG}{s:eB}{z z':St}{o:Value}(h1:y.L[i]?=some x)(h2:m.S[i]?=some s)(hz:s.nd=some z)(c:BD x.N x.g z z' W o W')(hI:z'.Inv (κ+1))(hp:z'.Pos)(hme:z'.me=z.me)(di:z'.now=m.now)(hq:q<=q')(hql:z'.Q.length<=q')(hc:KT z.cnt z'):
  ∃aH bO bP y2,o=jg z'.bH z'.bB aH bO bP∧iH W.heap.size z'.aF z'.aO z'.aP aH bO bP W'∧MM y2 (m.put i {s with nd:=some z'}) W'∧MU y m y2 (m.put i {s with nd:=some z'}) W W'∧Ct (κ+1) q' (m.put i {s with nd:=some z'}) i z':=by
 obtain⟨aH,bO,bP,e,hor,y2,hm2,hu2⟩:=h.call h1 h2 hz c;have hi:=(fO.1 h2).1;have hS:(m.put i {s with nd:=some z'}).S[i]?=some {s with nd:=some z'}:=by rw[(fJ _ _ _).1,List.getElem?_set_self hi]
 obtain⟨x2,hx2⟩:∃x2,y2.L[i]?=some x2:=⟨_,bS (by rw[hm2.len,(fJ _ _ _).1,List.length_set];exact hi)⟩;obtain⟨nn,_⟩:=(hm2.st i x2 _ hx2 hS).nd z' rfl;exact⟨aH,bO,bP,y2,e,hor,hm2,hu2,hok.called (by omega) hq h2 hz hc ⟨hI,hp,hme.trans ((hok.at h2).nd z hz).me,by rw[di];exact gP _,hql,nn.cr.tb.ok,nn.cr.tb.len⟩⟩
theorem Nn.K9{N:Nat}{g:bI}{s:St}{TL:List Hp.Tm}(n:Nn N g s TL W):l8 s:=λq hq=>⟨(n.rs.sr.ok q hq).txt,(n.rs.sr.ok q hq).ttl⟩
theorem xJ{i:Nat}{s:eB}(h:m.S[i]?=some s)(z:St):m.act i z=(m.put i {s with nd:=some z}).did i z.ot:=by
 unfold aM.act;rw[dR h]
theorem TT(s:ByteArray)(hs:s.size<=65536)(w:World):∃cap W,(convert 9 58 (.string s)).run Tryz.prog w=.ok (.slice (some ⟨w.heap.size,0,none⟩) s.size cap) W∧Below w.heap.size w W∧VB W (.slice (some ⟨w.heap.size,0,none⟩) s.size cap) (aA s):=by
 refine⟨_,_,run_bytes_of_string (P:=Tryz.prog) w 9 58 5 s Tryz.underlying9 Tryz.underlying58 Tryz.underlying5,(aV w.heap.size w).drew.alloc (aB _) _,QC s hs w _,λb o n c hv=> ?_⟩;simp only[Value.slice.injEq,Option.some.injEq,Addr.mk.injEq,and_true]at hv;obtain⟨⟨rfl,rfl⟩,_⟩:=hv;exact⟨_,_,bV w.drew _⟩
variable{y:MG}{m:aM}{w:World}
theorem FY{x:SG}{s:eB}{W:World}(h:m_ x s W)(b:Nat)(hb:b<6)(on:Bool):nG x s {s with hrs:=s.hrs.set b on} W (W.setCell ⟨x.B,3+b,none⟩ (.bool on)):=by
 have hl:=h.hl;refine h.set (x':=x) (s':={s with hrs:=s.hrs.set b on}) (3+b) (.bool on) rfl ?_ (by rw[List.length_set];exact hl) ⟨rfl,rfl⟩ (λz hz=>⟨hz,rfl,rfl,rfl⟩);have hbl:b<s.hrs.length:=by omega
 simp[FJ,List.set_append,List.map_set,hl,Nat.add_comm 3 b];omega
theorem abu(h:MM y m w)(a b:Nat)(ha:a<m.S.length)(hb:b<m.S.length)(hn:m.S.length<=6)(on:Bool):Calls Tryz.prog 29 #[.pointer (some ⟨y.G,0,none⟩),.int .i64 a,.int .i64 b,.bool on] w λe w'=>e=.returned (.tuple #[])∧MP y m (m.link a b on) w w':=by
 by_cases hab:a=b
 ·subst hab;have ho:m.link a a on=m:=by unfold aM.link;rw[aI rfl]
  have hfin:MP y m (m.link a a on) w w:=by rw[ho];exact MP.refl h
  clear h ho;go_enter Tryz.func29,Tryz.ntmps29;go_wp2;go_returns;exact⟨rfl,hfin⟩
 ·obtain⟨xa,sa,g,c,e1,e2,e3,e4,p0⟩:=h.get ha;obtain⟨_,q1,_,_⟩:=h.cell;rw[e4]at q1;have hab':((a:Int)==(b:Int))=false:=by
   have:¬(a:Int)=(b:Int):=by omega
   simpa using this
  have han:(a:Int)<(m.S.length:Int):=by omega
  have hbn:(b:Int)<(m.S.length:Int):=by omega
  have ha6:(a:Int)<6:=by omega
  have hb6:(b:Int)<6:=by omega
  obtain⟨_,_,_,_,_,hh,fz⟩:=(h.st a xa sa e1 e2).cell;have hhl:=(h.st a xa sa e1 e2).hl;have k0:=hh b _ (bS (by omega));have k1:=fz (3+b);obtain⟨y1,hm1,hu1⟩:=h.Zd e1 e2 (FY (h.st a xa sa e1 e2) b (by omega) on);obtain⟨m1,Xc⟩:∃m1,m.put a {sa with hrs:=sa.hrs.set b on}=m1:=⟨_,rfl⟩;have hS1:m1.S.length=m.S.length:=by rw[<-Xc,(fJ _ _ _).1,List.length_set]
  have hl:m.link a b on=m1.put b {m1.at' b with hrs:=(m1.at' b).hrs.set a on}:=by
   unfold aM.link;rw[ay hab,e3,Xc]
  rw[Xc]at hm1 hu1;obtain⟨xb,sb,g',c',f1,f2,f3,f4,p1⟩:=hm1.get (i:=b) (by rw[hS1];exact hb);obtain⟨_,r1,_,_⟩:=hm1.cell;obtain⟨_,_,_,_,_,hh',fz'⟩:=(hm1.st b xb sb f1 f2).cell;have afz:=(hm1.st b xb sb f1 f2).hl;have k2:=hh' a _ (bS (by omega));have k3:=fz' (3+a);have hp2:=hm1.Zd f1 f2 (FY (hm1.st b xb sb f1 f2) a (by omega) on);rw[f4,hS1]at r1;rw[hu1.G]at r1;have hfin:MP y m (m.link a b on) w ((w.setCell ⟨xa.B,3+b,none⟩ (.bool on)).setCell ⟨xb.B,3+a,none⟩ (.bool on)):=by
   rw[hl,f3];exact MP.comp hu1 hp2
  generalize sa.hrs[b]=v0 at k0;generalize sb.hrs[a]=v1 at k2;clear h hm1 hu1 hp2 hl Xc e1 e2 e3 e4 f1 f2 f3 f4 hh hh' fz fz' hab;go_enter Tryz.func29,Tryz.ntmps29;go_wp2;go_returns;exact⟨rfl,hfin⟩
theorem adq(h:MM y m w)(hl:m.aT.length<=100000):Calls Tryz.prog 17 #[.pointer (some ⟨y.G,0,none⟩)] w λe w'=>∃v,e=.returned v∧w'.ownsRow w.heap.size 149 3 v m.aT.length (oh m.aT)∧Below w.heap.size w w':=by
 obtain⟨i0,hi,hz0,hz1,hz2⟩:=info_parts Mc;obtain⟨_,_,c2,_⟩:=h.cell;have hrow:=h.aT;have h0:w.ownsRow w.heap.size 149 3 (.slice none 0 0) 0 []:=⟨rfl,.inl ⟨rfl,rfl⟩⟩;have hsrc:Src Tryz.prog 3 45 y.av m.aT.length (oh m.aT) w:=Src.ofRow Tryz.underlying45 hrow (JL _);have b1:0+m.aT.length<=maxLen:=by unfold maxLen;omega
 have b2:(0+m.aT.length)* 32<=140737488355328:=by omega
 clear h hrow;go_enter Tryz.func17,Tryz.ntmps17;go_wp2_with(at_builtin;refine nH rfl _ _ 45 45 rfl w.heap.size 149 i0 (.agg #[.int .i64 0,.int .i64 0,.string ⟨#[]⟩]) 3 32 Tryz.underlying45 hi hz0 hz1 hz2 rfl (.slice none 0 0) 0 [] rfl h0 y.av m.aT.length (oh m.aT) rfl hsrc b1 b2 (aB _) ?_);intro v7 w7 ho hg hv;have hb:Below w.heap.size w w7:=⟨hg.os,hg.tape,hg.output,hg.size,λk hk=>hg.block k hk (by simp[Value.ownBlock])⟩;clear hg hv h0 hsrc;go_wp2;go_ret;exact⟨v7,rfl,ho,hb⟩
end Go.Proofs.YtakaadcpaeiccabGreat
