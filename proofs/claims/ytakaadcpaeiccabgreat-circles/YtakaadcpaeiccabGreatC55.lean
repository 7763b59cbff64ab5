import Derived.Test.YtakaadcpaeiccabGreatC54
namespace Go.Proofs.YtakaadcpaeiccabGreat
theorem JD {c:mh} {s s':St}(h:Pr c s s'):s'.cnt - s'.a_.length=s.cnt - s.a_.length∧s'.aZ=s.aZ:=by
 cases h with
 |xK h=>rw [h.cnt,h.a_,h.aZ];exact⟨rfl,rfl⟩
 |tab _=>exact⟨rfl,rfl⟩
 |aI _ _ _ _ _=>exact⟨rfl,rfl⟩
 |grw=>exact⟨rfl,rfl⟩
 |mx _ _ _ _=>exact⟨rfl,rfl⟩
 |wr=>
  refine⟨?_,rfl⟩;show s.cnt+((bE s.seq s.own s.f s.A).2.length:Int) - ((s.a_++(bE s.seq s.own s.f s.A).2).length:Int)=_;rw [List.length_append];omega
theorem Mc {c:mh} {n:Nat} {s s':St}(h:fC c n s s'):s'.cnt - s'.a_.length=s.cnt - s.a_.length∧s'.aZ=s.aZ:=by
 induction h with
 |nil=>exact⟨rfl,rfl⟩
 |snoc _ k ih=>
  have h2:=JD k;exact⟨h2.1.trans ih.1,h2.2.trans ih.2⟩
structure Kc(c0:Int)(s:St):Prop where
 no:s.aZ=false→s.cnt=c0+s.a_.length
 yes:s.aZ=true→s.cnt=s.a_.length∧0<s.a_.length
theorem zY {c0:Int} {s:St}(h1:s.cnt - s.a_.length=c0)(h2:s.aZ=false∨(c0=0∧0<s.write.a_.length)):Kc c0 s.finish:=by
 have hw:=JD(c:=none)(.wr:Pr none s s.write);unfold St.finish;split
 ·refine⟨fun h=> ?_,fun _=>⟨rfl,?_⟩⟩
  ·cases h
  ·have:=yj s.write;dsimp only;omega
 ·refine⟨fun _=>by omega,fun h=> ?_⟩;have hr:s.aZ=true:=by rw [←hw.2];exact h
  rcases h2 with h2|⟨h2,h3⟩
  ·rw [h2]at hr;cases hr
  ·exact⟨by omega,h3⟩
theorem OY(s:St)(now:Int):(s.begin now).cnt - (s.begin now).a_.length=s.cnt∧(s.begin now).aZ=false:=by
 have hw:=JD(c:=none)(.wr:Pr none {s with now:=now,A:=iG s.A now,a_:=[],aH:=[],aR:=[],aN:=[],aZ:=false}({s with now:=now,A:=iG s.A now,a_:=[],aH:=[],aR:=[],aN:=[],aZ:=false}:St).write);refine⟨?_,hw.2⟩;have:=hw.1;simp only [List.length_nil]at this;show({s with now:=now,A:=iG s.A now,a_:=[],aH:=[],aR:=[],aN:=[],aZ:=false}:St).write.cnt - _=_;have h2:(s.begin now)=({s with now:=now,A:=iG s.A now,a_:=[],aH:=[],aR:=[],aN:=[],aZ:=false}:St).write:=rfl;rw [h2];omega
theorem uY {c:mh} {n:Nat} {s s':St} {now:Int}(h:fC c n(s.aQ.begin now)s'):Kc s.cnt s'.finish.freed:=by
 have h1:=OY s.aQ now;have h2:=Mc h;have h3:=zY(c0:=s.cnt)(s:=s')(by rw [h2.1];exact h1.1)(.inl(h2.2.trans h1.2));exact⟨h3.no,h3.yes⟩
theorem Eg(s:St)(now dX:Int):∃s',fC none 2(s.aQ.begin now)s'∧s.brk now dX=s'.finish.freed:=by
 refine⟨_,fC.trans(n:=1)(k:=1)(.one(.tab(.brk dX)))(uB none _ 0(nG dX(s.aQ.begin now).A) ?_),rfl⟩;intro x hx;obtain⟨y,hy,e⟩:=List.mem_filterMap.1 hx;unfold Bf at e;split at e
 ·rename_i hc;cases e;simp only [Bool.and_eq_true]at hc;refine .inr⟨bY dX 0 y,List.mem_map.2⟨y,hy,rfl⟩,dZ _ _ y,?_,.inl(Int.le_max_right _ _)⟩;unfold bY;rw [if_pos(by simp [hc.1.1,hc.1.2])];exact Int.le_refl _
 ·cases e
theorem Rw {y:Rt}(h:y.Ok) {fr q:Int}(hq:bg q):(bY fr q y).Ok:=by
 unfold bY;split
 ·exact uV h hq
 ·exact h
theorem Y2(s:St)(now dX:Int):(s.brk now dX).A=(iG s.A now).map(bY dX 0):=(aO _).A
theorem Mf(s:St)(now dX:Int):∀f∈(s.brk now dX).aH,f.1=0:=by
 intro f hf;have e:(s.brk now dX).aH=PK 0(nG dX(s.aQ.begin now).A):=(aO _).aH;rw [e]at hf;unfold PK at hf;split at hf
 ·cases hf
 ·rw [List.mem_singleton]at hf;rw [hf]
theorem XW {s:St} {k:Int}(h:s.Inv k)(hA:∀y∈s.A,y.Ok)(hl:s.A.length≤8)(now dX:Int)(hn:s.now≤now∧now≤4611686018427387904):(s.brk now dX).Inv(k+1)∧(∀y∈(s.brk now dX).A,y.Ok)∧(s.brk now dX).A.length≤8:=by
 have hm:=(qB h).2 now hn hA hl;have hA':∀y∈(iG s.A now).map(bY dX 0),y.Ok:=fun y hy=>by
  obtain⟨z,hz,rfl⟩:=List.mem_map.1 hy;exact Rw(L6 hA now z hz)(by simp [bg])
 have hl':((iG s.A now).map(bY dX 0)).length≤8:=by rw [List.length_map];unfold iG;rw [List.length_map];exact hl
 have e1:=pR(s.aQ.begin now)(A:=(s.aQ.begin now).A.map(bY dX 0))(fun y hy=>⟨_,List.mem_map.2⟨y,hy,rfl⟩,dZ _ _ y⟩);have e2:=e1.trans(qP _ 0(nG dX(s.aQ.begin now).A));have hm2:=uF hm e2;refine⟨lV hm2(by omega)hA' hl',?_,?_⟩
 ·rw [Y2];exact hA'
 ·rw [Y2];exact hl'
theorem z_(s:St)(now dX:Int):(s.brk now dX).me=s.me∧(s.brk now dX).now=now∧(s.brk now dX).Q=s.Q:=⟨(aO _).me,(aO _).now,(aO _).Q⟩
theorem XX(s:St)(now dX:Int):Kc s.cnt(s.brk now dX):=by
 obtain⟨s',h1,h2⟩:=Eg s now dX;rw [h2];exact uY h1
structure Ye(κ:Int)(q:Nat)(now:Int)(s:bi)(z:St):Prop where
 inv:z.Inv κ
 pos:z.Ph
 me:z.me=s.addr
 nw:z.now≤now
 ql:z.Q.length≤q
 ok:∀y∈z.A,y.Ok
 len:z.A.length≤8
structure Bg(κ:Int)(q:Nat)(now:Int)(s:bi):Prop where
 addr:bg s.addr
 a0:s.addr≠0
 jb:∀x∈s.aY,0≤x∧x≤255
 jl:s.aY.length≤2000
 wh:0≤s.whole
 nd:∀z,s.nd=some z→Ye κ q now s z
 jn:∀z,s.nd=some z→(s.aY.length:Int)=13 * z.cnt∧0<z.cnt
structure G_(κ:Int)(q:Nat)(now:Int)(s:bi)(z:St):Prop where
 addr:bg s.addr
 a0:s.addr≠0
 jb:∀x∈s.aY,0≤x∧x≤255
 jl:s.aY.length≤2000
 wh:0≤s.whole
 hz:s.nd=some z
 nd:Ye κ q now s z
 no:z.aZ=false→13 * z.cnt=s.aY.length+13 * z.a_.length
 yes:z.aZ=true→z.cnt=z.a_.length
 pos:0<z.cnt
structure iC(κ:Int)(q:Nat)(m:aK):Prop where
 n:m.S.length≤6
 bG:m.bG.length≤48
 now:0≤m.now∧m.now≤4611686018427387904
 st:∀s∈m.S,Bg κ q m.now s
theorem RN {k k':Int} {s:St}(h:s.Inv k)(hk:k≤k'):s.Inv k':=
 ⟨h.me,h.seq,h.now,h.mem,h.dom,h.cnt,by have:=h.tn;omega,by have:=h.tl;omega,h.lk,h.AB,h.y_,h.za,h.CW,h.bd,h.nwl,h.frl,h.cml,h.drl⟩
theorem Ye.up {κ PE:Int} {q q':Nat} {now now':Int} {s s':bi} {z:St}(h:Ye κ q now s z)(h1:κ≤PE)(h2:q≤q')(h3:now≤now')(h4:s'.addr=s.addr):Ye PE q' now' s' z:=
 ⟨RN h.inv h1,h.pos,h.me.trans h4.symm,by have:=h.nw;omega,by have:=h.ql;omega,h.ok,h.len⟩
theorem Bg.up {κ PE:Int} {q q':Nat} {now now':Int} {s:bi}(h:Bg κ q now s)(h1:κ≤PE)(h2:q≤q')(h3:now≤now'):Bg PE q' now' s:=
 ⟨h.addr,h.a0,h.jb,h.jl,h.wh,fun z hz=>(h.nd z hz).up h1 h2 h3 rfl,h.jn⟩
theorem iC.up {κ PE:Int} {q q':Nat} {m:aK}(h:iC κ q m)(h1:κ≤PE)(h2:q≤q'):iC PE q' m:=⟨h.n,h.bG,h.now,fun s hs=>(h.st s hs).up h1 h2(Int.le_refl _)⟩
theorem G_.nwl {κ:Int} {q:Nat} {now:Int} {s:bi} {z:St}(h:G_ κ q now s z):z.a_.length≤24:=by
 have hc:=h.nd.inv.cnt;cases hr:z.aZ
 ·have:=h.no hr;omega
 ·have:=h.yes hr;omega
theorem G_.write {κ:Int} {q:Nat} {now:Int} {s:bi} {z:St}(h:G_ κ q now s z):Bg κ q now(s.write z.ot).1:=by
 have hn:=h.nwl;have hc:=h.nd.inv.cnt;have hbd:=D6 h.nd.inv.bd;have hfl:=g_ z.a_;have hjl:=h.jl;by_cases h1:z.a_≠ []∨z.aZ=true
 ·cases ht:s.tears
  ·rw [bi.jy(o:=z.ot)h1 ht];show Bg κ q now {s with aY:=(if z.aZ then []else s.aY)++bn z.a_};have hlen:(((if z.aZ then []else s.aY)++bn z.a_).length:Int)=13 * z.cnt:=by
    cases hr:z.aZ
    ·have:=h.no hr;simp only [Bool.false_eq_true,if_false,List.length_append,hfl];omega
    ·have:=h.yes hr;simp only [if_true,List.nil_append,hfl];omega
   refine⟨h.addr,h.a0,fun x hx=> ?_,?_,h.wh,fun u hu=> ?_,fun u hu=> ?_⟩
   ·rcases List.mem_append.1 hx with hx|hx
    ·split at hx
     ·cases hx
     ·exact h.jb x hx
    ·exact hbd x hx
   ·dsimp only;omega
   ·have hu':s.nd=some u:=hu;rw [h.hz]at hu';cases hu';exact h.nd.up(Int.le_refl _)(Nat.le_refl _)(Int.le_refl _)rfl
   ·have hu':s.nd=some u:=hu;rw [h.hz]at hu';cases hu';exact⟨hlen,h.pos⟩
  ·rw [bi.oF(o:=z.ot)h1 ht];show Bg κ q now({s with aY:=if z.aZ then s.aY else s.aY++(bn z.a_).take s.whole.toNat}:bi).stop;refine⟨h.addr,h.a0,fun x hx=> ?_,?_,Int.le_refl _,fun u hu=>(by cases hu),fun u hu=>(by cases hu)⟩
   ·have hx':x∈(if z.aZ then s.aY else s.aY++(bn z.a_).take s.whole.toNat):=hx;split at hx'
    ·exact h.jb x hx'
    ·rcases List.mem_append.1 hx' with hx'|hx'
     ·exact h.jb x hx'
     ·exact hbd x(List.mem_of_mem_take hx')
   ·show(if z.aZ then s.aY else s.aY++(bn z.a_).take s.whole.toNat).length≤2000;cases hr:z.aZ
    ·have h5:=h.no hr;simp only [Bool.false_eq_true,if_false,List.length_append,List.length_take,hfl];omega
    ·simp only [if_true];exact hjl
 ·simp only [not_or,Classical.not_not]at h1;obtain⟨h1,h2⟩:=h1;have h2':z.aZ=false:=by simpa using h2
  rw [bi.nL(o:=z.ot)h1 h2'];have h5:=h.no h2';rw [h1]at h5;simp only [List.length_nil]at h5;exact⟨h.addr,h.a0,h.jb,h.jl,h.wh,fun u hu=>by rw [h.hz]at hu;cases hu;exact h.nd,fun u hu=>by
   rw [h.hz]at hu;cases hu;refine⟨?_,h.pos⟩;show(s.aY.length:Int)=13 * z.cnt;omega⟩
theorem Bg.call {κ:Int} {q:Nat} {now:Int} {s:bi} {z z':St}(h:Bg κ q now s)(hz:s.nd=some z)(hc:Kc z.cnt z')(hn:Ye κ q now s z'):G_ κ q now {s with nd:=some z'}z':=
 ⟨h.addr,h.a0,h.jb,h.jl,h.wh,rfl,hn.up(Int.le_refl _)(Nat.le_refl _)(Int.le_refl _)rfl,fun hr=>by
  have h1:=hc.no hr;have h2:=(h.jn z hz).1;show 13 * z'.cnt=(s.aY.length:Int)+13 * z'.a_.length;omega,fun hr=>(hc.yes hr).1,by
  have h3:=(h.jn z hz).2;cases hr:z'.aZ
  ·have:=hc.no hr;omega
  ·have:=hc.yes hr;omega⟩
structure Bn(κ:Int)(q:Nat)(m:aK)(i:Nat)(z:St):Prop where
 n:m.S.length≤6
 bG:m.bG.length≤48
 now:0≤m.now∧m.now≤4611686018427387904
 st:∀j s,m.S[j]?=some s→j≠i→Bg κ q m.now s
 pre:∃s,m.S[i]?=some s∧G_ κ q m.now s z
theorem gK(m:aK)(i:Nat)(s:bi):(m.put i s).S=m.S.set i s∧(m.put i s).now=m.now∧(m.put i s).bG=m.bG:=⟨rfl,rfl,rfl⟩
theorem Bn.write {κ:Int} {q:Nat} {m:aK} {i:Nat} {z:St}(h:Bn κ q m i z):iC κ q(m.put i((m.at' i).write z.ot).1):=by
 obtain⟨s,h1,h2⟩:=h.pre;rw [eB h1];refine⟨by rw [(gK _ _ _).1,List.length_set];exact h.n,h.bG,h.now,fun u hu=> ?_⟩;rw [(gK _ _ _).1]at hu;obtain⟨j,hj⟩:=List.getElem?_of_mem hu;rcases cZ hj with⟨_,rfl⟩|⟨hne,hj⟩
 ·exact h2.write
 ·exact h.st j u hj hne
theorem iC.at {κ:Int} {q:Nat} {m:aK}(h:iC κ q m) {i:Nat} {s:bi}(hs:m.S[i]?=some s):Bg κ q m.now s:=h.st s(List.mem_of_getElem? hs)
theorem iC.bR {κ:Int} {q:Nat} {m:aK}(h:iC κ q m)(i:Nat)(f:Int×ByteArray):iC κ q(m.bR i f):=by
 have hS:=nR m i f m.S.length;have ha:=yK m i f m.S.length h.bG;rw [oM]at hS ha;exact⟨by rw [hS.1];exact h.n,ha,by rw [hS.2];exact h.now,fun s hs=>by rw [hS.2];rw [hS.1]at hs;exact h.st s hs⟩
theorem iC.called {κ PE:Int} {q q':Nat} {m:aK}(h:iC κ q m)(Gg:κ≤PE)(hq:q≤q') {i:Nat} {s:bi} {z z':St}(hs:m.S[i]?=some s)(hz:s.nd=some z)(hc:Kc z.cnt z')(hn:Ye PE q' m.now s z'):Bn PE q'(m.put i {s with nd:=some z'})i z':=by
 refine⟨by rw [(gK _ _ _).1,List.length_set];exact h.n,h.bG,h.now,fun j u hj hne=> ?_,?_⟩
 ·rw [(gK _ _ _).1]at hj;rcases cZ hj with⟨e,_⟩|⟨_,hj⟩
  ·exact absurd e hne
  ·exact(h.at hj).up Gg hq(Int.le_refl _)
 ·refine⟨_,?_,((h.at hs).up Gg hq(Int.le_refl _)).call hz hc hn⟩;rw [(gK _ _ _).1,List.getElem?_set_self(List.getElem?_eq_some_iff.1 hs).1]
theorem iC.broken {κ:Int} {q:Nat} {m:aK}(h:iC κ q m) {i:Nat} {s:bi} {z:St}(hs:m.S[i]?=some s)(hz:s.nd=some z)(t:Int):Bn(κ+1)q(m.put i {s with nd:=some(z.brk m.now t)})i(z.brk m.now t):=by
 have hn:=(h.at hs).nd z hz;obtain⟨h1,h2,h3⟩:=XW hn.inv hn.ok hn.len m.now t⟨hn.nw,h.now.2⟩;obtain⟨e1,e2,e3⟩:=z_ z m.now t;refine h.called(by omega)(Nat.le_refl _)hs hz(XX z m.now t)⟨h1,fun u hu=> ?_,e1.trans hn.me,by rw [e2];exact Int.le_refl _,by rw [e3];exact hn.ql,h2,h3⟩;rw [e3]at hu;exact hn.pos u hu
theorem Bn.toM {κ:Int} {q:Nat} {m:aK} {i:Nat} {z:St}(h:Bn κ q m i z)(hi:z.ot.idle=true):iC κ q m:=by
 obtain⟨s,h1,h2⟩:=h.pre;have hw:=h.write;rw [Dy]at hi;simp only [Bool.and_eq_true,decide_eq_true_eq,Bool.not_eq_true']at hi;rw [eB h1,bi.nL hi.1.1 hi.1.2]at hw;refine⟨h.n,h.bG,h.now,fun u hu=> ?_⟩;obtain⟨j,hj⟩:=List.getElem?_of_mem hu;by_cases e:j=i
 ·subst e;rw [h1]at hj;cases hj;refine hw.at(i:=j) ?_;rw [(gK _ _ _).1,List.getElem?_set_self(List.getElem?_eq_some_iff.1 h1).1]
 ·exact h.st j u hj e
theorem GD {φ:aK→Int×ByteArray→aK×List Ev} {q d:Nat}(hφ:∀κ m f,iC κ q m→iC(κ+d)q(φ m f).1):∀(L:List(Int×ByteArray))(κ:Int)(z:aK×List Ev),iC κ q z.1→iC(κ+d * L.length)q(L.foldl(tL φ)z).1
 | [],κ,z,h=>by simpa using h
 |f::L,κ,z,h=>by
  rw [List.foldl_cons];have h1:=GD hφ L(κ+d)(tL φ z f)(hφ κ z.1 f h);refine h1.up ?_(Nat.le_refl _);rw [List.length_cons,Int.natCast_add,Int.mul_add];omega
theorem Ec {φ:aK→Int×ByteArray→aK×List Ev} {q d:Nat}(hφ:∀κ m f,iC κ q m→iC(κ+d)q(φ m f).1) {κ:Int} {m:aK} {i:Nat} {z:St}(h:Bn κ q m i z)(k:Nat)(hk:k≤z.aH.length):iC(κ+d * k)q(ja φ m i z.ot k).1:=by
 have h1:=GD hφ(z.aH.take k)κ(m.put i((m.at' i).write z.ot).1,[⟨i,0,z.ot⟩])h.write;rw [List.length_take,Nat.min_eq_left hk]at h1;exact h1
theorem Ma {φ:aK→Int×ByteArray→aK×List Ev} {q d:Nat}(hφ:∀κ m f,iC κ q m→iC(κ+d)q(φ m f).1) {κ:Int} {m:aK} {i:Nat} {z:St}(h:Bn κ q m i z):iC(κ+d * z.aH.length)q(m.iZ φ i z.ot).1:=by
 cases hi:z.ot.idle
 ·cases hw:((m.at' i).write z.ot).2
  ·unfold aK.iZ;rw [if_neg(by simp [hi]),if_neg(by simp [hw])];exact h.write.up(by have:=Int.mul_nonneg(Int.natCast_nonneg d)(Int.natCast_nonneg z.aH.length);omega)(Nat.le_refl _)
  ·rw [uX φ m i z.ot hi hw];exact Ec hφ h z.aH.length(Nat.le_refl _)
 ·unfold aK.iZ;rw [if_pos hi];exact(h.toM hi).up(by have:=Int.mul_nonneg(Int.natCast_nonneg d)(Int.natCast_nonneg z.aH.length);omega)(Nat.le_refl _)
theorem KS {q:Nat}(i:Nat):∀(κ:Int)(m:aK)(f:Int×ByteArray),iC κ q m→iC(κ+(0:Nat))q(m.m_ i f).1:=fun κ m f h=>(h.bR i f).up(by omega)(Nat.le_refl _)
theorem Q0(i:Nat)(m:aK)(f:Int×ByteArray):(m.m_ i f).2.length≤1:=Nat.zero_le _
theorem GV {φ:aK→Int×ByteArray→aK×List Ev}(hφ:∀m f,(φ m f).2=[]):∀(L:List(Int×ByteArray))(z:aK×List Ev),(L.foldl(tL φ)z).2=z.2
 | [],_=>rfl
 |f::L,z=>by
  rw [List.foldl_cons,GV hφ L];unfold tL;rw [hφ,List.append_nil]
theorem TG(m:aK)(i:Nat)(o:Ot):(m.Be i o).2.length≤1:=by
 unfold aK.Be aK.iZ;split
 ·exact Nat.zero_le _
 ·split
  ·rw [show(fun(z:aK×List Ev)(f:Int×ByteArray)=>((aK.m_ i z.1 f).1,z.2++(aK.m_ i z.1 f).2))=tL(aK.m_ i)from rfl,GV(fun _ _=>rfl)];exact Nat.le_refl _
  ·exact Nat.le_refl _
theorem Fy(i:Nat)(m:aK)(f:Int×ByteArray):(m.iO i f).2.length≤1:=by
 unfold aK.iO;split
 ·exact Nat.zero_le _
 ·split
  ·exact Nat.zero_le _
  ·exact TG _ _ _
theorem KR {q:Nat}(i:Nat):∀(κ:Int)(m:aK)(f:Int×ByteArray),iC κ q m→iC(κ+(1:Nat))q(m.iO i f).1:=by
 intro κ m f h;have hf:=h.bR i f;unfold aK.iO;split
 ·exact hf.up(by omega)(Nat.le_refl _)
 ·split
  ·exact hf.up(by omega)(Nat.le_refl _)
  ·rename_i s hs;have hS:=(nR m i f m.S.length);rw [oM]at hS;obtain⟨u,hu⟩:∃u,(m.bR i f).S[i]?=some u:=by
    cases hu:(m.bR i f).S[i]? with
    |some u=>exact⟨u,rfl⟩
    |none=>
     unfold aK.at' at hs;rw [List.getD_eq_getElem?_getD,hu]at hs;cases hs
   rw [eB hu]at hs ⊢;have hb:=hf.broken hu hs f.1;rw [hS.2]at hb;have:=Ma(KS i)hb;exact this.up(by omega)(Nat.le_refl _)
open Go.RowKit Go.Maps
theorem Bn.pre' {κ:Int} {q:Nat} {m:aK} {i:Nat} {z:St}(h:Bn κ q m i z):∃s,m.S[i]?=some s∧m.at' i=s∧G_ κ q m.now s z:=by
 obtain⟨s,h1,h2⟩:=h.pre;exact⟨s,h1,eB h1,h2⟩
theorem iC.node {κ:Int} {q:Nat} {m:aK}(h:iC κ q m) {i:Nat}(hi:i<m.S.length) {z:St}(hz:(m.at' i).nd=some z):Ye κ q m.now(m.at' i)z:=by
 have hs:m.S[i]?=some m.S[i]:=List.getElem?_eq_getElem hi;rw [eB hs]at hz ⊢;exact(h.at hs).nd z hz
theorem JC(φ:aK→Int×ByteArray→aK×List Ev)(hφ:∀m f,(φ m f).1.S.length=m.S.length)(m:aK)(i:Nat)(o:Ot)(k:Nat):(ja φ m i o k).1.S.length=m.S.length:=by
 have hg:∀(L:List(Int×ByteArray))(z:aK×List Ev),(L.foldl(tL φ)z).1.S.length=z.1.S.length:=by
  intro L
  induction L with
  |nil=>intro z;rfl
  |cons f L ih=>
   intro z;rw [List.foldl_cons,ih];exact hφ z.1 f
 unfold ja;rw [hg,(gK _ _ _).1,List.length_set]
theorem iM(m:aK)(i:Nat)(f:Int×ByteArray):(m.bR i f).S=m.S∧(m.bR i f).now=m.now:=by
 have:=nR m i f m.S.length;rw [oM]at this;exact this
theorem TF(φ:aK→Int×ByteArray→aK×List Ev)(hφ:∀m f,(φ m f).1.S.length=m.S.length)(m:aK)(i:Nat)(o:Ot):(m.iZ φ i o).1.S.length=m.S.length:=by
 cases hi:o.idle
 ·cases hw:((m.at' i).write o).2
  ·unfold aK.iZ;rw [if_neg(by simp [hi]),if_neg(by simp [hw])];rw [(gK _ _ _).1,List.length_set]
  ·rw [uX φ m i o hi hw];exact JC φ hφ m i o _
 ·unfold aK.iZ;rw [if_pos hi]
theorem Q3(i:Nat)(m:aK)(f:Int×ByteArray):(m.m_ i f).1.S.length=m.S.length:=by
 show(m.bR i f).S.length=_;rw [(iM m i f).1]
theorem QY(i:Nat)(m:aK)(f:Int×ByteArray):(m.iO i f).1.S.length=m.S.length:=by
 unfold aK.iO;split
 ·dsimp only;rw [(iM m i f).1]
 ·split
  ·dsimp only;rw [(iM m i f).1]
  ·unfold aK.Be;rw [TF _(Q3 i),(gK _ _ _).1,List.length_set,(iM m i f).1]
theorem abI {y:MG} {m:aK} {w:World}(h:MM y m w) {κ:Int} {q:Nat} {i:Nat} {z:St}(hd:Bn κ q m i z)(h0:∀f∈z.aH,f.1=0)(aI bH bI:Value)(b:Nat)(hor:h_ b z.aH z.aR z.aN aI bH bI w)(hb:b≤w.heap.size):
  Calls Tryz.prog 36 #[.pointer(some⟨y.G,0,none⟩),.int .i64 i,iE z.aY z.aZ aI bH bI]w(iV y m(m.Be i z.ot).1(m.Be i z.ot).2 b w):=by
 obtain⟨s,h1,h2,h3⟩:=hd.pre';have hi:=(List.getElem?_eq_some_iff.1 h1).1;have hI:=h3.nd.inv;have hnw:=h3.nwl;refine Y7 h i hi hd.n(aK.m_ i)z.ot aI bH bI b hor hb hI.bd(by show z.a_.length≤_;omega)⟨hI.frl,hI.cml,hI.drl⟩(by rw [h2];have:=h3.jl;omega)(by rw [h2];exact h3.wh)(Q0 i) ?_;intro k f hf _ _ y1 w1 hm1;have hk:=(List.getElem?_eq_some_iff.1 hf).1;have hok:=Ec(KS i)hd k(Nat.le_of_lt hk);have hS:=JC(aK.m_ i)(Q3 i)m i z.ot k;have hf0:=h0 f(List.mem_of_getElem? hf);have e:aK.iO i(ja(aK.m_ i)m i z.ot k).1 f=aK.m_ i(ja(aK.m_ i)m i z.ot k).1 f:=by
  unfold aK.iO;rw [if_pos(.inr hf0)];rfl
 rw [←e];exact xC hm1 i(by rw [hS];exact hi)hok.n hok.bG f(fun u hu=>⟨_,(hok.node(by rw [hS];exact hi)hu).inv,(hok.node(by rw [hS];exact hi)hu).nw⟩)hok.now.2(fun hne=>absurd hf0 hne)
theorem Eu {y:MG} {m:aK} {w:World}(h:MM y m w) {κ:Int} {q:Nat} {i:Nat} {z:St}(hd:Bn κ q m i z)(aI bH bI:Value)(b:Nat)(hor:h_ b z.aH z.aR z.aN aI bH bI w)(hb:b≤w.heap.size):
  Calls Tryz.prog 36 #[.pointer(some⟨y.G,0,none⟩),.int .i64 i,iE z.aY z.aZ aI bH bI]w(iV y m(m.did i z.ot).1(m.did i z.ot).2 b w):=by
 obtain⟨s,h1,h2,h3⟩:=hd.pre';have hi:=(List.getElem?_eq_some_iff.1 h1).1;have hI:=h3.nd.inv;have hnw:=h3.nwl;refine Y7 h i hi hd.n(aK.iO i)z.ot aI bH bI b hor hb hI.bd(by show z.a_.length≤_;omega)⟨hI.frl,hI.cml,hI.drl⟩(by rw [h2];have:=h3.jl;omega)(by rw [h2];exact h3.wh)(Fy i) ?_;intro k f hf _ _ y1 w1 hm1;have hk:=(List.getElem?_eq_some_iff.1 hf).1;have hok:=Ec(KR i)hd k(Nat.le_of_lt hk);have hS:=JC(aK.iO i)(QY i)m i z.ot k;refine xC hm1 i(by rw [hS];exact hi)hok.n hok.bG f(fun u hu=>⟨_,(hok.node(by rw [hS];exact hi)hu).inv,(hok.node(by rw [hS];exact hi)hu).nw⟩)hok.now.2 ?_;intro _ u hu y2 w2 b2 afk afr afm hm2 hb2 hor2;have hsf:=hok.bR i f;obtain⟨eS,eN⟩:=iM(ja(aK.iO i)m i z.ot k).1 i f;obtain⟨v,hv⟩:∃v,((ja(aK.iO i)m i z.ot k).1.bR i f).S[i]?=some v:=⟨_,List.getElem?_eq_getElem(by rw [eS,hS];exact hi)⟩;rw [eB hv]at hu hm2 ⊢;have hbk:=hsf.broken hv hu f.1;rw [eN]at hbk;exact abI hm2 hbk(Mf u _ _)afk afr afm b2 hor2 hb2
theorem Eb {κ:Int} {q:Nat} {m:aK} {i:Nat} {z:St}(hd:Bn κ q m i z):iC(κ+100000)q(m.did i z.ot).1:=by
 have h:=Ma(KR i)hd;obtain⟨s,_,_,h3⟩:=hd.pre';have:=h3.nd.inv.frl;exact h.up(by omega)(Nat.le_refl _)
theorem GJ(A:List Rt)(now:Int):∀y∈iG A now,y.valid=true→now<y.exp:=by
 intro y hy hv;obtain⟨z,hz,rfl⟩:=List.mem_map.1 hy;unfold og at hv ⊢;split at hv
 ·cases hv
 ·rename_i h;rw [if_neg h];unfold JB at h;simp only [Bool.and_eq_true,decide_eq_true_eq,not_and]at h;have:=h hv;omega
theorem Fj(s:St)(fr:Int)(p:ah)(L:List(Int×Int))(hk:p.kind=1∨p.kind=2∨p.kind=3∨p.kind=9)(h4:∀q∈s.Q,q.txt.length≤4)(hx:∀y∈s.A,y.valid=true→s.now<y.exp):fC(some(fr,p,L))(L.length+15)s(s.gu fr p L):=by
 unfold St.gu;split
 ·exact(yX _ s fr p).up(by omega)
 ·split
  ·rename_i h;exact(xI s fr p L h).up(by omega)
  ·split
   ·rename_i h;exact(AV s fr p L h h4).up(by omega)
   ·split
    ·exact(CY s fr p L).up(by omega)
    ·rename_i h1 h2 h3;have h9:p.kind=9:=by
      rcases hk with h|h|h|h
      ·exact absurd h h1
      ·exact absurd h h2
      ·exact absurd h h3
      ·exact h
     exact(CZ s fr p L h9 hx).up(by omega)
theorem C_(x0 x1 x2 x4:Int)(r:List Int):(fU x0 x1 x2 x4 r).kind=x1:=by
 unfold fU;split
 ·rename_i h;exact h.symm
 ·split
  ·rename_i h;exact h.symm
  ·split
   ·rename_i h;exact h.symm
   ·split
    ·rename_i h;exact h.symm
    ·rfl
theorem IV {xs:List Int}(h:uM xs=true):(fU(xs.getD 0 0)(xs.getD 1 0)(xs.getD 2 0)(xs.getD 4 0)(xs.drop 5)).kind=xs.getD 1 0∧(xs.getD 1 0=1∨xs.getD 1 0=2∨xs.getD 1 0=3∨xs.getD 1 0=9):=by
 refine⟨C_ _ _ _ _ _,?_⟩
 match xs,h with
 |x0::x1::x2::x3::x4::r,h=>
  simp only [uM,Bool.and_eq_true]at h;have hk:=(ek h.2).2.2.2.2.2.2;rw [C_]at hk;show x1=1∨x1=2∨x1=3∨x1=9;rcases hk with h|h|h|h
  ·exact .inl h
  ·exact .inr(.inl h)
  ·exact .inr(.inr(.inr h))
  ·exact .inr(.inr(.inl h.1))
def LF(fr:Int)(xs:List Int):mh:=some(fr,fU(xs.getD 0 0)(xs.getD 1 0)(xs.getD 2 0)(xs.getD 4 0)(xs.drop 5),jX(xs.getD 1 0)(xs.getD 4 0)(xs.drop 5))
theorem Fp(s:St)(fr:Int)(xs:List Int)(h4:∀q∈s.Q,q.txt.length≤4)(hx:∀y∈s.A,y.valid=true→s.now<y.exp):fC(LF fr xs)((jX(xs.getD 1 0)(xs.getD 4 0)(xs.drop 5)).length+15)s(s.hear fr xs):=by
 unfold St.hear;split
 ·exact(fe _ s 0).up(by omega)
 ·rename_i h;simp only [not_or]at h;have hF:uM xs=true:=by simpa using h.1
  obtain⟨h1,h2⟩:=IV hF;exact Fj s fr _ _(by rw [h1];exact h2)h4 hx
theorem KJ(s:St)(now fr:Int)(xs:List Int)(h4:∀q∈s.Q,q.txt.length≤4):∃n s',fC(LF fr xs)n(s.aQ.begin now)s'∧s.rcv now fr xs=s'.finish.freed:=
 ⟨_,_,Fp _ fr xs h4(GJ s.A now),rfl⟩
theorem KC(s:St)(now d:Int)(t:ByteArray):∃n s',fC none n(s.aQ.begin now)s'∧s.snd now d t=s'.finish.freed:=by
 unfold St.snd St.sends;dsimp only;split
 ·exact⟨_,_,oU none _ d t,rfl⟩
 ·exact⟨_,_,BK none _ d t,rfl⟩
def lD(s:St):Prop:=∀q∈s.Q,q.txt.length≤4∧1≤q.aS∧q.aS≤8
theorem uy {s:St} {q:Sr}(h:lD s)(hq:q.txt.length≤4∧1≤q.aS∧q.aS≤8):lD(s.ask q):=by
 intro z hz;obtain⟨o,h1,_⟩:∃o,(s.ask q).Q=_∧True:=⟨(),rfl,trivial⟩;unfold St.ask at hz;split at hz
 ·rcases eZ hz with rfl|⟨k1,_⟩
  ·exact hq
  ·exact h z k1
 ·split at hz
  ·rcases eZ hz with rfl|⟨k1,_⟩
   ·exact hq
   ·exact h z k1
  ·rcases eZ hz with rfl|⟨k1,_⟩
   ·exact hq
   ·exact h z k1
theorem Fg {s:St}(h:lD s)(d:Int):lD(s.bP d):=fun z hz=>h z((BH s d).1 z hz)
theorem Ff {s:St} {q:Sr}(h:lD s)(hq:q.txt.length≤4∧1≤q.aS∧q.aS≤8):lD(s.step q):=by
 unfold St.step;split
 ·exact Fg h _
 ·split
  ·unfold St.widen;split
   ·exact uy h⟨hq.1,by dsimp only;omega⟩
   ·split
    ·exact uy h⟨hq.1,by dsimp only;omega⟩
    ·split
     ·exact uy h hq
     ·exact fun z hz=>h z(List.mem_filter.1 hz).1
  ·exact uy h hq
theorem BJ:∀(D:List Sr)(s:St),(∀q∈D,q.txt.length≤4∧1≤q.aS∧q.aS≤8)→lD s→fC none(13 * D.length)s(D.foldl St.step s)
 | [],s,_,_=> .nil _ _
 |q::D,s,hD,h=>by
  rw [List.foldl_cons,List.length_cons];have hq:=hD q List.mem_cons_self;exact((QM none s q⟨hq.2.1,hq.2.2⟩(fun z hz=>(h z hz).1)).trans(BJ D(s.step q)(fun z hz=>hD z(List.mem_cons_of_mem _ hz))(Ff h hq))).up(by omega)
theorem GM {Q:List Sr} {now:Int} {q:Sr}(h:q∈St.j3 Q now):q∈Q:=by
 unfold St.j3 at h;exact(List.mem_filter.1((List.mergeSort_perm _ _).mem_iff.1 h)).1
theorem TD(Q:List Sr)(now:Int):(St.j3 Q now).length≤Q.length:=by
 unfold St.j3;rw [(List.mergeSort_perm _ _).fM];exact List.length_filter_le _ _
theorem Cy(s:St)(now:Int)(h:lD s):∃s',fC none(13 * (St.j3 s.Q now).length)(s.aQ.begin now)s'∧s.j6 now=s'.finish.freed:=
 ⟨_,BJ(St.j3 s.Q now)(s.aQ.begin now)(fun q hq=>h q(GM hq))h,rfl⟩
theorem XF(s:St):s.finish.freed.me=s.me∧s.finish.freed.now=s.now∧s.finish.freed.Q=s.Q:=⟨(aO s).me,(aO s).now,(aO s).Q⟩
theorem yV {c:mh} {n:Nat} {s s':St} {now:Int}(h:fC c n(s.aQ.begin now)s'):s'.finish.freed.me=s.me∧s'.finish.freed.now=now:=by
 obtain⟨h1,h2,_⟩:=XF s';exact⟨h1.trans h.me,h2.trans h.now⟩
theorem Ab(s:St)(q:Sr):(s.ask q).Q.length=s.Q.length:=by
 obtain⟨o,h1,_⟩:=G6 s q;rw [h1,nQ]
theorem sP(s:St)(d:Int):(s.bP d).Q.length≤s.Q.length:=by
 unfold St.bP;split
 ·exact Nat.le_refl _
 ·split
  ·exact List.length_filter_le _ _
  ·exact Nat.le_refl _
theorem VI(s:St)(q:Sr):(s.step q).Q.length≤s.Q.length:=by
 unfold St.step;split
 ·exact sP _ _
 ·split
  ·unfold St.widen;split
   ·rw [Ab];exact Nat.le_refl _
   ·split
    ·rw [Ab];exact Nat.le_refl _
    ·split
     ·rw [Ab];exact Nat.le_refl _
     ·exact List.length_filter_le _ _
  ·rw [Ab];exact Nat.le_refl _
theorem ER:∀(D:List Sr)(s:St),(D.foldl St.step s).Q.length≤s.Q.length
 | [],_=>Nat.le_refl _
 |q::D,s=>by
  rw [List.foldl_cons];exact Nat.le_trans(ER D _)(VI s q)
theorem Zi(s:St)(now:Int):(s.j6 now).Q.length≤s.Q.length:=by
 show((St.j3 s.Q now).foldl St.step(s.aQ.begin now)).finish.Q.length≤_;rw [(aO _).Q];exact ER _ _
theorem Zr(s:St)(now d:Int)(t:ByteArray):(s.snd now d t).Q.length≤s.Q.length+1:=by
 show(if(bF(s.aQ.begin now).A d(s.aQ.begin now).now).2 then(s.aQ.begin now).aX d t else(s.aQ.begin now).gG d t).finish.Q.length≤_;rw [(aO _).Q];split
 ·rw [(fQ _ _ _).1];exact Nat.le_succ _
 ·unfold St.gG;split
  ·unfold St.hold;split<;>(dsimp only;rw [nQ];exact Nat.le_succ _)
  ·rw [Ab];show((s.aQ.begin now).Q++ [_]).length≤_;rw [List.length_append];exact Nat.le_refl _
theorem ve(s:St)(p:ah):(s.answer p).Q=s.Q:=by unfold St.answer;split<;>rfl
theorem nD(s:St)(fr:Int)(p:ah):(s.dE fr p).Q=s.Q:=by
 have ha:∀s:St,(s.asked p).Q=s.Q:=fun s=>by
  unfold St.asked;split
  ·unfold St.iH;rw [ve]
  ·split
   ·unfold St.gT;rw [ve]
   ·split<;>rfl
 unfold St.dE;split
 ·rfl
 ·unfold St.learn;split
  ·rfl
  ·split
   ·rw [ha]
   ·rw [ha]
theorem Ru(s:St)(t:Int)(L:List(Int×Int)):(s.mi t L).Q=s.Q:=rfl
theorem WZ(s:St)(fr:Int)(xs:List Int):(s.hear fr xs).Q.length≤s.Q.length:=by
 unfold St.hear;split
 ·exact Nat.le_refl _
 ·unfold St.gu;split
  ·unfold St.ed;split<;>exact Nat.le_refl _
  ·split
   ·rw [nD];exact Nat.le_refl _
   ·split
    ·unfold St.eT;split
     ·exact Nat.le_refl _
     ·dsimp only;split
      ·exact Nat.le_refl _
      ·split
       ·split
        ·exact sP _ _
        ·exact sP _ _
       ·split
        ·exact Nat.le_refl _
        ·unfold St.il;split<;>exact Nat.le_refl _
    ·split
     ·unfold St.gD;dsimp only;rw [Ru];split<;>exact Nat.le_refl _
     ·unfold St.fu;split
      ·exact Nat.le_refl _
      ·split
       ·exact Nat.le_refl _
       ·split<;>exact Nat.le_refl _
theorem abY(s:St)(now fr:Int)(xs:List Int):(s.rcv now fr xs).Q.length≤s.Q.length:=by
 show((s.aQ.begin now).hear fr xs).finish.Q.length≤_;rw [(aO _).Q];exact WZ _ _ _
theorem V6 {s:St}(h:s.Ph)(now fr:Int)(xs:List Int)(hb:∀x∈xs,0≤x∧x≤255)(h4:∀q∈s.Q,q.txt.length≤4):(s.rcv now fr xs).Ph:=by
 intro q hq;have hq':q∈((s.aQ.begin now).hear fr xs).Q:=by
  have e:=(aO((s.aQ.begin now).hear fr xs)).Q;rw [←e];exact hq
 exact h q((zT(s.aQ.begin now)fr xs hb h4).qs q hq')
end Go.Proofs.YtakaadcpaeiccabGreat
