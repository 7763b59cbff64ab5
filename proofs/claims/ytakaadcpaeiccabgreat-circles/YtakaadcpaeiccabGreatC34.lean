import Derived.Test.YtakaadcpaeiccabGreatC33
namespace Go.Proofs.YtakaadcpaeiccabGreat
structure Eff(j:Nat)(s s':St):Prop where
 me:s'.me=s.me
 now:s'.now=s.now
 f:s'.f=s.f
 own:s'.own=s.own
 cnt:s'.cnt=s.cnt
 a_:s'.a_=s.a_
 aZ:s'.aZ=s.aZ
 lk:s'.lk=s.lk
 tl:s'.tl=s.tl
 pc:s'.pc=s.pc
 dz:s'.dz=s.dz
 sub:∀y∈s.A,∃z∈s'.A,z.dest=y.dest
 seq:bg s.seq→bg s'.seq
 mem:(∀e∈s.mem,e.dF≤s.now+1280)→∀e∈s'.mem,e.dF≤s'.now+1280
 tn:s'.tn≤s.tn+j
 aH:s'.aH.length≤s.aH.length+j
 aN:s'.aN.length≤s.aN.length+j
 aR:s'.aR.length≤s.aR.length+j
 qs:∀z∈s'.Q,z∈s.Q
theorem Eff.refl(s:St):Eff 0 s s:=⟨rfl,rfl,rfl,rfl,rfl,rfl,rfl,rfl,rfl,rfl,rfl,fun y h=>⟨y,h,rfl⟩,id,id,by omega,Nat.le_refl _,Nat.le_refl _,Nat.le_refl _,fun _ h=>h⟩
theorem Eff.trans {i j:Nat} {a b c:St}(p:Eff i a b)(q:Eff j b c):Eff(i+j)a c:=
 ⟨q.me.trans p.me,q.now.trans p.now,q.f.trans p.f,q.own.trans p.own,q.cnt.trans p.cnt,q.a_.trans p.a_,q.aZ.trans p.aZ,q.lk.trans p.lk,q.tl.trans p.tl,q.pc.trans p.pc,q.dz.trans p.dz,fun y hy=>by
  obtain⟨z,hz,e⟩:=p.sub y hy;obtain⟨u,hu,e'⟩:=q.sub z hz;exact⟨u,hu,e'.trans e⟩,fun h=>q.seq(p.seq h),fun h=>q.mem(p.mem h),by have:=p.tn;have:=q.tn;omega,by have:=p.aH;have:=q.aH;omega,by have:=p.aN;have:=q.aN;omega,by have:=p.aR;have:=q.aR;omega,fun z h=>p.qs z(q.qs z h)⟩
theorem Eff.mono {i j:Nat} {a b:St}(p:Eff i a b)(h:i≤j):Eff j a b:=
 ⟨p.me,p.now,p.f,p.own,p.cnt,p.a_,p.aZ,p.lk,p.tl,p.pc,p.dz,p.sub,p.seq,p.mem,by have:=p.tn;omega,by have:=p.aH;omega,by have:=p.aN;omega,by have:=p.aR;omega,p.qs⟩
theorem fH(s:St)(r:Int):Eff 1 s(s.drop r):=⟨rfl,rfl,rfl,rfl,rfl,rfl,rfl,rfl,rfl,rfl,rfl,fun y h=>⟨y,h,rfl⟩,id,id,by show s.tn≤_;omega,by show s.aH.length≤_;omega,by show(s.aN++ [r]).length≤_;simp,by show s.aR.length≤_;omega,fun _ h=>h⟩
theorem qO(s:St)(t:Int)(p:ah)(L:List(Int×Int)):Eff 1 s(s.send t p L):=⟨rfl,rfl,rfl,rfl,rfl,rfl,rfl,rfl,rfl,rfl,rfl,fun y h=>⟨y,h,rfl⟩,id,id,by show s.tn≤_;omega,by show(s.aH++ [_]).length≤_;simp,by show s.aN.length≤_;omega,by show s.aR.length≤_;omega,fun _ h=>h⟩
theorem WH(t:Int)(L:List(Int×Int)):(PK t L).length≤1:=by
 unfold PK;split<;>simp
theorem qP(s:St)(t:Int)(L:List(Int×Int)):Eff 1 s(s.mi t L):=⟨rfl,rfl,rfl,rfl,rfl,rfl,rfl,rfl,rfl,rfl,rfl,fun y h=>⟨y,h,rfl⟩,id,id,by show s.tn≤_;omega,by show(s.aH++PK t L).length≤_;have:=WH t L;simp;omega,by show s.aN.length≤_;omega,by show s.aR.length≤_;omega,fun _ h=>h⟩
theorem pR(s:St) {A:List Rt}(h:∀y∈s.A,∃z∈A,z.dest=y.dest):Eff 0 s {s with A:=A}:=⟨rfl,rfl,rfl,rfl,rfl,rfl,rfl,rfl,rfl,rfl,rfl,h,id,id,by show s.tn≤_;omega,Nat.le_refl _,Nat.le_refl _,Nat.le_refl _,fun _ h=>h⟩
theorem qm(A:List Rt)(d:Int)(f:Rt→Rt)(hf:∀y,(f y).dest=y.dest):∀y∈A,∃z∈gI A d f,z.dest=y.dest:=by
 intro y hy;refine⟨if y.dest=d then f y else y,List.mem_map.2⟨y,hy,rfl⟩,?_⟩;split
 ·exact hf y
 ·rfl
theorem qj(A:List Rt)(d e:Int):∀y∈A,∃z∈iy A d e,z.dest=y.dest:=qm A d _(lQ e)
theorem qw(A:List Rt)(d n:Int):∀y∈A,∃z∈kX A d n,z.dest=y.dest:=qm A d _(kG n)
theorem MR(A:List Rt)(fr d q:Int):∀y∈A,∃z∈gm A fr d q,z.dest=y.dest:=qm A d _(dZ fr q)
theorem uj(me:Int)(A:List Rt)(d q h n e:Int):∀y∈A,∃z∈(iD me A d q h n e).1,z.dest=y.dest:=by
 unfold iD;split
 ·exact fun y hy=>⟨y,hy,rfl⟩
 ·split
  ·split
   ·exact qm A d _ fun y=>rfl
   ·exact fun y hy=>⟨y,hy,rfl⟩
  ·split
   ·exact fun y hy=>⟨y,hy,rfl⟩
   ·intro y hy;refine⟨y,?_,rfl⟩;unfold tF;rw [←List.take_append_drop(pos A(fo d q h n e).dest)A]at hy;rcases List.mem_append.1 hy with h|h
    ·exact List.mem_append.2(.inl h)
    ·exact List.mem_append.2(.inr(List.mem_cons_of_mem _ h))
theorem lS {A B C:List Rt}(h:∀y∈A,∃z∈B,z.dest=y.dest)(k:∀y∈B,∃z∈C,z.dest=y.dest):∀y∈A,∃z∈C,z.dest=y.dest:=fun y hy=>by
 obtain⟨z,hz,e⟩:=h y hy;obtain⟨u,hu,e'⟩:=k z hz;exact⟨u,hu,e'.trans e⟩
theorem adv(s:St)(Q:List Sr)(hQ:∀z∈Q,z∈s.Q):Eff 0 s {s with Q:=Q}:=⟨rfl,rfl,rfl,rfl,rfl,rfl,rfl,rfl,rfl,rfl,rfl,fun y h=>⟨y,h,rfl⟩,id,id,by show s.tn≤_;omega,Nat.le_refl _,Nat.le_refl _,Nat.le_refl _,hQ⟩
theorem TB(s:St)(l:Int):Eff 0 s {s with eF:=l}:=⟨rfl,rfl,rfl,rfl,rfl,rfl,rfl,rfl,rfl,rfl,rfl,fun y h=>⟨y,h,rfl⟩,id,id,by show s.tn≤_;omega,Nat.le_refl _,Nat.le_refl _,Nat.le_refl _,fun _ h=>h⟩
theorem XI(s:St)(l:Int):Eff 0 s {s with bZ:=l}:=⟨rfl,rfl,rfl,rfl,rfl,rfl,rfl,rfl,rfl,rfl,rfl,fun y h=>⟨y,h,rfl⟩,id,id,by show s.tn≤_;omega,Nat.le_refl _,Nat.le_refl _,Nat.le_refl _,fun _ h=>h⟩
theorem XJ(s:St) {q:Int}(h:bg s.seq→bg q):Eff 0 s {s with seq:=q}:=⟨rfl,rfl,rfl,rfl,rfl,rfl,rfl,rfl,rfl,rfl,rfl,fun y h=>⟨y,h,rfl⟩,h,id,by show s.tn≤_;omega,Nat.le_refl _,Nat.le_refl _,Nat.le_refl _,fun _ h=>h⟩
theorem XK(s:St)(x:Int×ByteArray):Eff 1 s {s with aR:=s.aR++ [x]}:=⟨rfl,rfl,rfl,rfl,rfl,rfl,rfl,rfl,rfl,rfl,rfl,fun y h=>⟨y,h,rfl⟩,id,id,by show s.tn≤_;omega,by show s.aH.length≤_;omega,by show s.aN.length≤_;omega,by show(s.aR++ [x]).length≤_;simp,fun _ h=>h⟩
theorem FQ {E:List Mm} {q:Int×Int} {dF iJ:Int} {e:Mm}(h:e∈dR E q dF iJ):e∈E∨e.dF=dF:=by
 have h1:e∈dU E q dF iJ:=by
  unfold dR at h;split at h
  ·exact List.fK h
  ·exact h
 unfold dU at h1;rcases List.mem_append.1 h1 with h|h
 ·exact .inl(List.mem_filter.1 h).1
 ·rw [List.mem_singleton]at h;subst h;exact .inr rfl
theorem TA(s:St)(q:Int×Int)(iJ:Int):Eff 1 s {s with mem:=dR s.mem q(s.now+1280)iJ,tn:=s.tn+1}:=⟨rfl,rfl,rfl,rfl,rfl,rfl,rfl,rfl,rfl,rfl,rfl,fun y h=>⟨y,h,rfl⟩,id,fun h e he=>by
 rcases FQ he with h1|h1
 ·exact h e h1
 ·show e.dF≤s.now+1280;omega,by show s.tn+1≤s.tn+((1:Nat):Int);omega,by show s.aH.length≤_;omega,by show s.aN.length≤_;omega,by show s.aR.length≤_;omega,fun _ h=>h⟩
theorem zV(s:St)(p:ah):Eff 1 s(s.answer p):=by
 unfold St.answer;split
 ·exact qO _ _ _ _
 ·exact fH _ _
theorem zU(s:St)(p:ah)(hp:bg p.aW):Eff 1 s(s.iH p):=
 (XJ s(q:=max s.seq p.aW)fun h=>by unfold bg at *;omega).trans(j:=1)(zV _ _)
theorem xW(s:St)(p:ah)(r:Rt):Eff 1 s(s.gT p r):=by
 refine(pR s(A:=kX(if(bF s.A p.aI s.now).2 then kX s.A p.dest(bF s.A p.aI s.now).1.next else s.A)p.aI r.next) ?_).trans(j:=1)(zV _ _);split
 ·exact lS(qw _ _ _)(qw _ _ _)
 ·exact qw _ _ _
theorem Cj(s:St)(p:ah)(hp:bg p.aW):Eff 1 s(s.asked p):=by
 unfold St.asked;split
 ·exact zU s p hp
 ·split
  ·exact xW s p _
  ·split
   ·exact fH _ _
   ·exact qO _ _ _ _
theorem OV(s:St)(fr:Int)(p:ah)(hp:bg p.aW):Eff 1 s(s.learn fr p):=by
 unfold St.learn;split
 ·exact(pR s(uj _ _ _ _ _ _ _)).trans(j:=1)(fH _ _)
 ·split
  ·exact(pR s(lS(uj _ _ _ _ _ _ _)(qj _ _ _))).trans(j:=1)(Cj _ p hp)
  ·exact(pR s(uj _ _ _ _ _ _ _)).trans(j:=1)(Cj _ p hp)
theorem xV(s:St)(fr:Int)(p:ah)(hp:bg p.aW):Eff 2 s(s.dE fr p):=by
 unfold St.dE;split
 ·exact(fH _ _).mono(by omega)
 ·exact(TA s _ _).trans(j:=1)(OV _ fr p hp)
theorem uW(s:St)(d:Int)(t:ByteArray):Eff 1 s(s.aX d t):=by
 unfold St.aX;split
 ·have h1:Eff 0 s {s with eF:=(s.eF+1)%4294967296,A:=iy s.A d(s.now+3000)}:=(TB s((s.eF+1)%4294967296)).trans(j:=0)(pR {s with eF:=(s.eF+1)%4294967296}(A:=iy s.A d(s.now+3000))(qj _ _ _));exact h1.trans(j:=1)(qO {s with eF:=(s.eF+1)%4294967296,A:=iy s.A d(s.now+3000)}_ _ _)
 ·exact(Eff.refl s).mono(by omega)
theorem OU(s:St)(d:Int)(L:List ByteArray):Eff L.length s(L.foldl(fun s t=>s.aX d t)s):=by
 induction L generalizing s with
 |nil=>exact Eff.refl s
 |cons t L ih=>
  rw [List.foldl_cons];exact((uW s d t).trans(ih _)).mono(by simp;omega)
theorem Vp(s:St)(d:Int)(L:List ByteArray):(L.foldl(fun s t=>s.aX d t)s).Q=s.Q:=by
 induction L generalizing s with
 |nil=>rfl
 |cons t L ih=>
  rw [List.foldl_cons,ih];unfold St.aX;split<;>rfl
theorem mX(s:St)(d:Int)(h:∀q∈s.Q,q.txt.length≤4):Eff 4 s(s.bP d):=by
 unfold St.bP;split
 ·exact(Eff.refl s).mono(by omega)
 ·rename_i q hq;split
  ·have h1:=h q(iL hq).1;have h2:=((OU s d q.txt).trans(j:=0)(adv _(s.Q.filter fun z=>!decide(z.dest=d))fun z hz=>by rw [Vp];exact(List.mem_filter.1 hz).1)).mono(j:=4)(by omega);exact h2
  ·exact(Eff.refl s).mono(by omega)
theorem GK(s:St)(fr:Int)(p:ah):Eff 1 s(s.il fr p):=by
 unfold St.il;split
 ·exact(pR s(lS(lS(qw _ _ _)(qw _ _ _))(qj _ _ _))).trans(j:=1)(qO _ _ _ _)
 ·exact fH _ _
theorem Bc(s:St)(fr:Int)(p:ah)(h:∀q∈s.Q,q.txt.length≤4):Eff 5 s(s.eT fr p):=by
 unfold St.eT;split
 ·exact(fH _ _).mono(by omega)
 ·have h1:=pR s(uj s.me s.A p.dest p.aW(St.far p.hops)fr(s.now+p.life));dsimp only;split
  ·exact(h1.trans(j:=1)(fH _ _)).mono(by omega)
  ·split
   ·split
    ·exact(h1.trans(j:=4)(mX {s with A:=(iD s.me s.A p.dest p.aW(St.far p.hops)fr(s.now+p.life)).1}p.dest h)).trans(j:=1)(fH _ _)
    ·exact(h1.trans(j:=4)(mX {s with A:=(iD s.me s.A p.dest p.aW(St.far p.hops)fr(s.now+p.life)).1}p.dest h)).mono(by omega)
   ·split
    ·exact(h1.trans(j:=1)(fH _ _)).mono(by omega)
    ·exact(h1.trans(j:=1)(GK _ _ _)).mono(by omega)
theorem VD(fr:Int)(L:List(Int×Int))(z:List Rt×Bool×List(Int×Int)):∀y∈z.1,∃u∈(L.foldl(St.FU fr)z).1,u.dest=y.dest:=by
 induction L generalizing z with
 |nil=>exact fun y hy=>⟨y,hy,rfl⟩
 |cons l L ih=>
  rw [List.foldl_cons];refine lS ?_(ih _);unfold St.FU;split
  ·exact MR _ _ _ _
  ·exact fun y hy=>⟨y,hy,rfl⟩
theorem D_(s:St)(fr:Int)(L:List(Int×Int)):Eff 2 s(s.gD fr L):=by
 unfold St.gD;dsimp only;have h1:=pR s(VD fr L(s.A,false,[]));split
 ·exact(h1.trans(j:=1)(qP _ _ _)).mono(by omega)
 ·exact(h1.trans(j:=2)((fH _ _).trans(j:=1)(qP _ _ _))).mono(by omega)
theorem xx(s:St)(t d:Int):Eff 1 s(s.kN t d):=qP s t _
theorem Ea(s:St)(fr:Int)(p:ah):Eff 2 s(s.fu fr p):=by
 unfold St.fu;split
 ·exact(XK s _).mono(by omega)
 ·split
  ·exact(fH _ _).mono(by omega)
  ·split
   ·have h1:=(pR s(A:=iy(iy s.A p.dest(s.now+3000))p.aI(s.now+3000))(lS(qj _ _ _)(qj _ _ _))).trans(j:=1)(qO {s with A:=iy(iy s.A p.dest(s.now+3000))p.aI(s.now+3000)}(bF s.A p.dest s.now).1.next {p with aS:=p.aS - 1} []);exact h1.mono(by omega)
   ·have h1:=(fH s 3).trans(j:=0)(pR(s.drop 3)(A:=gI s.A p.dest St.pQ)(qm _ _ _ fun _=>rfl));exact h1.trans(j:=1)(xx _ _ _)
theorem zS(s:St)(fr:Int)(p:ah):Eff 2 s(s.ed fr p):=by
 unfold St.ed;split
 ·exact(((fH s 8).trans(j:=1)(xx _ _ _)).trans(j:=0)(XI _ _)).mono(by omega)
 ·exact(fH _ _).mono(by omega)
theorem GL(s:St)(fr:Int)(p:ah)(L:List(Int×Int))(hp:bg p.aW)(h:∀q∈s.Q,q.txt.length≤4):Eff 5 s(s.gu fr p L):=by
 unfold St.gu;split
 ·exact(zS s fr p).mono(by omega)
 ·split
  ·exact(xV s fr p hp).mono(by omega)
  ·split
   ·exact Bc s fr p h
   ·split
    ·exact(D_ s fr L).mono(by omega)
    ·exact(Ea s fr p).mono(by omega)
end Go.Proofs.YtakaadcpaeiccabGreat
