import Derived.Test.YtakaadcpaeiccabGreatC22
import Derived.Test.YtakaadcpaeiccabGreatC23
import Derived.Test.YtakaadcpaeiccabGreatC24
import Derived.Test.YtakaadcpaeiccabGreatC25
import Derived.Test.YtakaadcpaeiccabGreatC26
namespace Go.Proofs.YtakaadcpaeiccabGreat
open Go.RowKit
theorem I6(R:Nat)(xs:List Int)(W:World)(hr:Rd R xs W):
  Calls Tryz.prog 56 #[.pointer(some⟨R,0,none⟩)]W fun e w'=>dV R xs W e w':=by
 match xs,hr with
 | [],hr=>exact Ns R W hr
 | [a],hr=>exact Nr R a W hr
 | [a,b],hr=>exact Nq R a b W hr
 |a::b::c::r,hr=>
  by_cases h0:c=0
  ·subst h0
   match r,hr with
   | [],hr=>exact I5 R a b W hr
   |z::r,hr=>
    by_cases hz:z=0
    ·subst hz
     match r,hr with
     | [],hr=>exact I1 R a b W hr
     |n::r,hr=>
      have hn:=hr.bytes n(by simp);obtain⟨m,rfl⟩:=Int.eq_ofNat_of_zero_le hn.1;by_cases h1:b=1
      ·subst h1;exact NB R a m r W hr
      by_cases h2:b=2
      ·subst h2;exact Nz R a m r W hr
      by_cases h3:b=3
      ·subst h3;exact Nw R a m r W hr
      by_cases h9:b=9
      ·subst h9;exact Nu R a m r W hr
      exact ND R a m r W b(by simpa using h1)(by simpa using h2)(by simpa using h3)(by simpa using h9)hr
    ·exact IY R a b z r(by simpa using hz)W hr
  by_cases h8:c=8
  ·subst h8
   match r,hr with
   | [],hr=>exact I4 R a b W hr
   |z::r,hr=>
    by_cases hz:z=0
    ·subst hz
     match r,hr with
     | [],hr=>exact IZ R a b W hr
     |n::r,hr=>
      have hn:=hr.bytes n(by simp);obtain⟨m,rfl⟩:=Int.eq_ofNat_of_zero_le hn.1;by_cases h1:b=1
      ·subst h1;exact NA R a m r W hr
      by_cases h2:b=2
      ·subst h2;exact Ny R a m r W hr
      by_cases h3:b=3
      ·subst h3;exact Nv R a m r W hr
      by_cases h9:b=9
      ·subst h9;exact Nt R a m r W hr
      exact NC R a m r W b(by simpa using h1)(by simpa using h2)(by simpa using h3)(by simpa using h9)hr
    ·exact IX R a b z r(by simpa using hz)W hr
  ·exact Np R a b c r(by simpa using h0)(by simpa using h8)W hr
theorem adB {a b c d:Int}(hb:0≤b∧b≤255)(hc:0≤c∧c≤255)(hd:0≤d∧d≤255):b4(n4 a b c d)=[a,b,c,d]:=by
 unfold b4 n4;simp only [List.cons.injEq,and_true];omega
theorem Yx {n:Int}:n4(n / 16777216)(n / 65536%256)(n / 256%256)(n%256)=n:=by
 unfold n4;omega
theorem BO(x y:Int)(r:List Int)(k:Nat):num(b4 x++(b4 y++r))(k+2)=num r k:=by
 unfold num;rw [show 4 * (k+2)=4 * k+8 by omega];rfl
theorem eQ(x:Int)(r:List Int):num(b4 x++r)0=x:=by
 show n4(x / 16777216)(x / 65536%256)(x / 256%256)(x%256)=x;exact Yx
theorem dK(x:Int)(r:List Int)(k:Nat):num(b4 x++r)(k+1)=num r k:=by
 unfold num;rw [show 4 * (k+1)=4 * k+4 by omega];rfl
theorem Nh(L:List(Int×Int)):oV L.length(L.flatMap fun x=>b4 x.1++b4 x.2)=L:=by
 induction L with
 |nil=>rfl
 |cons a L ih=>
  unfold oV at ih ⊢;rw [List.length_cons,List.range_succ_eq_map,List.map_cons,List.map_map];simp only [List.flatMap_cons,List.append_assoc,Nat.mul_zero,Nat.zero_add];rw [eQ,dK _ _ 0,eQ];conv=>rhs;rw [←ih]
  refine congrArg _(List.map_congr_left fun i _=> ?_);simp only [Function.pE];rw [show 2 * Nat.succ i=2 * i+2 by omega,show 2 * i+2+1=2 * i+1+2 by omega,BO,BO]
theorem XC(u:Bool):((if u then(8:Int)else 0)==8)=u:=by cases u<;>rfl
def qi(p:ah)(L:List(Int×Int)):List Int:=p.jW p.nums.length++gL L L.length++aF p.pay
theorem Ci(p:ah)(L:List(Int×Int)):xU p L=p.aS::p.kind::mW p::0::p.cnt::qi p L:=by
 simp only [xU,qi,ah.head,List.append_assoc,List.cons_append,List.nil_append]
theorem XO(p:ah)(hg:p.dL=true)(L:List(Int×Int))(hl:L.length=p.ln):
  (qi p L).length=bC p.kind p.cnt∧fU p.aS p.kind(mW p)p.cnt(qi p L)={p with la:=none,lc:=0}∧jX p.kind p.cnt(qi p L)=L:=by
 obtain⟨hlk,_,_,_,_,_,hk⟩:=ek hg;simp only [ah.wU,wD,Bool.and_eq_true,decide_eq_true_eq]at hlk;obtain⟨hln,_,_,h3,h4,h5,h6,h7,h8,h9,h10,h11⟩:=hlk;obtain⟨aS,kind,hops,iK,id,dest,aW,aI,dm,life,la,ln,lc,pay⟩:=p;dsimp only at hk h3 h4 h5 h6 h7 h8 h9 h10 h11 hln hl ⊢;rcases hk with rfl|rfl|rfl|⟨rfl,hn0,hn1⟩
 ·simp only [ah.dw,if_true]at h3 h4 h5 h6 h7 h8 h9 h10 h11 hln;subst h10 h11 hln;obtain rfl:=List.eq_nil_of_length_eq_zero hl;refine⟨rfl,?_,rfl⟩;have ht:qi⟨aS,1,hops,iK,id,dest,aW,aI,dm,0,la,0,lc,⟨#[]⟩⟩ []=b4 id++(b4 dest++(b4 aW++(b4 aI++(b4 dm++ [])))):=rfl;rw [ht];show(⟨aS,1,hops,mW _==8,num _ 0,num _ 1,num _ 2,num _ 3,num _ 4,0,none,0,0,⟨#[]⟩⟩:ah)=_;rw [eQ,dK _ _ 0,eQ,dK _ _ 1,dK _ _ 0,eQ,dK _ _ 2,dK _ _ 1,dK _ _ 0,eQ,dK _ _ 3,dK _ _ 2,dK _ _ 1,dK _ _ 0,eQ];unfold mW;rw [XC]
 ·simp only [ah.dw,show ¬((2:Int)=1)by omega,if_false,if_true]at h3 h4 h5 h6 h7 h8 h9 h10 h11 hln;subst h4 h5 h9 h11 hln;obtain rfl:=List.eq_nil_of_length_eq_zero hl;refine⟨rfl,?_,rfl⟩;have ht:qi⟨aS,2,hops,false,0,dest,aW,aI,0,life,la,0,lc,⟨#[]⟩⟩ []=b4 dest++(b4 aW++(b4 aI++(b4 life++ []))):=rfl;rw [ht];show(⟨aS,2,hops,mW _==8,0,num _ 0,num _ 1,num _ 2,0,num _ 3,none,0,0,⟨#[]⟩⟩:ah)=_;rw [eQ,dK _ _ 0,eQ,dK _ _ 1,dK _ _ 0,eQ,dK _ _ 2,dK _ _ 1,dK _ _ 0,eQ];rfl
 ·simp only [ah.dw,show ¬((9:Int)=1)by omega,show ¬((9:Int)=2)by omega,show ¬((9:Int)=3)by omega,if_false,if_true]at h3 h4 h5 h6 h7 h8 h9 h10 h11 hln;subst h3 h4 h7 h9 h10 hln;obtain rfl:=List.eq_nil_of_length_eq_zero hl;have ht:qi⟨aS,9,0,false,id,dest,0,aI,0,0,la,0,lc,pay⟩ []=b4 id++(b4 dest++(b4 aI++aF pay)):=rfl;have hc:ah.cnt⟨aS,9,0,false,id,dest,0,aI,0,0,la,0,lc,pay⟩=(pay.size:Int):=rfl;rw [ht,hc];refine⟨?_,?_,rfl⟩
  ·show _=12+((pay.size:Nat):Int).toNat;simp only [List.length_append,kH,dx];omega
  ·show(⟨aS,9,0,mW _==8,num _ 0,num _ 1,0,num _ 2,0,0,none,0,0,strOfNums((aF pay).take((pay.size:Nat):Int).toNat)⟩:ah)=_;rw [eQ,dK _ _ 0,eQ,dK _ _ 1,dK _ _ 0,eQ,List.take_of_length_le(by rw [dx];omega),um];rfl
 ·simp only [ah.dw,show ¬((3:Int)=1)by omega,show ¬((3:Int)=2)by omega,if_false,if_true]at h3 h4 h5 h6 h7 h8 h9 h10 h11;subst h3 h4 h5 h6 h7 h8 h9 h10 h11;have ht:qi⟨aS,3,0,false,0,0,0,0,0,0,la,ln,lc,⟨#[]⟩⟩L=(L.flatMap fun x=>b4 x.1++b4 x.2):=by
   show []++gL L L.length++ []=_;unfold gL;rw [List.take_of_length_le(Nat.le_refl _),List.append_nil,List.nil_append]
  have hc:ah.cnt⟨aS,3,0,false,0,0,0,0,0,0,la,ln,lc,⟨#[]⟩⟩=(ln:Int):=rfl;rw [ht,hc];refine⟨?_,?_,?_⟩
  ·show _=8 * ((ln:Nat):Int).toNat;rw [v_,hl];omega
  ·show(⟨aS,3,0,mW _==8,0,0,0,0,0,0,none,((ln:Nat):Int).toNat,0,⟨#[]⟩⟩:ah)=_;rw [show((ln:Nat):Int).toNat=ln by omega];rfl
  ·show oV((ln:Nat):Int).toNat _=L;rw [show((ln:Nat):Int).toNat=L.length by omega];exact Nh L
theorem Ri(p:ah)(hg:p.dL=true):1≤bC p.kind p.cnt:=by
 obtain⟨_,_,_,_,_,_,hk⟩:=ek hg;unfold bC ah.cnt;rcases hk with hk|hk|hk|⟨hk,h,_⟩
 ·simp [hk]
 ·simp [hk]
 ·simp [hk];omega
 ·simp [hk];omega
theorem Kb(v:Value)(xs:List Int)(W:World)(hv:eH W v xs):
  Calls Tryz.prog 22 #[v]W fun e w'=>yu xs W e w':=Pz I6 v xs W hv
open Go.Maps
theorem jc.ge {B:Nat} {a:nK} {a_:List(Bool×Int×Int)} {aH aR:List(Int×ByteArray)} {aN:List Int} {W:World}(h:jc B(B+1)a a_ aH aR aN W) {k:Nat}(hk:iW B a k):B≤k:=by
 rcases hk with rfl|hk|hk|hk|hk
 ·exact Nat.le_refl _
 ·exact Nat.ig(h.mZ.lt k hk).1
 ·exact Nat.ig(h.aI.lt k hk).1
 ·exact Nat.ig(h.bH.lt k hk).1
 ·exact Nat.ig(h.bI.lt k hk).1
theorem C9(p:ah):nS p.box:=⟨fun c e=>(by cases e),fun c e=>(by cases e),fun c e=>(by cases e),fun c e=>(by cases e),fun c e=>(by cases e)⟩
theorem j4.block {W W':World} {M:Nat} {f:Int→Option Nat} {s:Nat}(h:j4 W M f s)(he:W'.heap[M]?=W.heap[M]?):j4 W' M f s:=by
 obtain⟨D,⟨es,clock,hb,Ft,hs,hD⟩,h2,h3⟩:=h;exact⟨D,⟨es,clock,he.trans hb,Ft,hs,hD⟩,h2,h3⟩
theorem j4.obj {W:World} {M:Nat} {f:Int→Option Nat} {s:Nat}(h:j4 W M f s):∃es cl,W.heap[M]?=some(.map es cl):=by
 obtain⟨D,⟨es,cl,hm,_⟩,_⟩:=h;exact⟨es,cl,hm⟩
theorem TR.at {base T M:Nat} {last:Int} {h:List Hp.Tm} {v:Value} {W W':World}(r:TR base T M last h v W)(h1:W'.heap[T]?=W.heap[T]?)(h2:W'.heap[M]?=W.heap[M]?)(h3:∀k,v.ownBlock=some k→W'.heap[k]?=W.heap[k]?):TR base T M last h v W':=by
 obtain⟨f,p1,p2⟩:=r.map;exact⟨h1.trans r.blk,bD r.row h3,⟨f,p1.block h2,p2⟩,r.ok,r.bT,r.bM⟩
def ko(q:Sr):Hp.Tm:=(q.due,q.id,q.dest)
structure X_(x:lF)(h:Int→Option Nat)(u:Int→Value)(Mt:Nat)(hp:List Hp.Tm)(tv:Value)(s:St)(TL:List Hp.Tm)(W:World):Prop where
 sn:wI x.Ms s.tn s.mem W
 sr:wG x.qf h u s.Q W
 tm:TR 0 x.Tm Mt s.tl hp tv W
 hpo:Hp.Heap hp
 pm:hp.Perm TL
 pc:W.ownsRow 0 35 1 x.pc s.pc.length(s.pc.map(Value.int .u64))
def jF(x:lF)(h:Int→Option Nat)(u:Int→Value)(Mt:Nat)(tv:Value)(s:St)(k:Nat):Prop:=
 k=x.Ms∨G9 x.qf h u s.Q k∨k=x.Tm∨k=Mt∨tv.ownBlock=some k∨x.pc.ownBlock=some k
theorem X_.kept {x:lF} {h:Int→Option Nat} {u:Int→Value} {Mt:Nat} {hp:List Hp.Tm} {tv:Value} {s:St} {TL:List Hp.Tm} {W W':World}(r:X_ x h u Mt hp tv s TL W)(he:∀k,jF x h u Mt tv s k→W'.heap[k]?=W.heap[k]?):X_ x h u Mt hp tv s TL W':=
 ⟨r.sn.block(he _(.inl rfl)),r.sr.kept fun k hk=>he k(.inr(.inl hk)),r.tm.at(he _(.inr(.inr(.inl rfl))))(he _(.inr(.inr(.inr(.inl rfl)))))fun k hk=>he k(.inr(.inr(.inr(.inr(.inl hk))))),r.hpo,r.pm,bD r.pc fun k hk=>he k(.inr(.inr(.inr(.inr(.inr hk)))))⟩
theorem X_.lt {x:lF} {h:Int→Option Nat} {u:Int→Value} {Mt:Nat} {hp:List Hp.Tm} {tv:Value} {s:St} {TL:List Hp.Tm} {W:World}(r:X_ x h u Mt hp tv s TL W) {k:Nat}(hk:jF x h u Mt tv s k):k<W.heap.size:=by
 rcases hk with rfl|hk|rfl|rfl|hk|hk
 ·exact r.sn.lt
 ·exact r.sr.lt hk
 ·exact r.tm.blk.lt
 ·obtain⟨f,p1,_⟩:=r.tm.map;exact p1.lt
 ·exact(r.tm.row.lt k hk).2
 ·exact(r.pc.lt k hk).2
def Q9(o:Obj):Prop:=(∀c,o≠ .cells c 177(0,0))∧(∀c,o≠ .cells c 9(0,0))∧(∀c,o≠ .cells c 165(0,0))∧(∀c,o≠ .cells c 254(0,0))∧∀c,o≠ .cells c 35(0,0)
theorem X_.kind {x:lF} {h:Int→Option Nat} {u:Int→Value} {Mt:Nat} {hp:List Hp.Tm} {tv:Value} {s:St} {TL:List Hp.Tm} {W:World}(r:X_ x h u Mt hp tv s TL W) {k:Nat}(hk:jF x h u Mt tv s k):
  ∃o,W.heap[k]?=some o∧(((k=x.Ms∨k=x.qf∨k=Mt)∧∃es cl,o=.map es cl)∨(¬Q9 o∧Go.Proofs.YtakaadcpaeiccabGreat.xL o∧nS o∧(∀c,o≠ .cells c 131(0,0))∧∀es cl,o≠ .map es cl)):=by
 have hT:∀ {t:TypeId}(c:Array Value),(t=177∨t=9∨t=165∨t=254∨t=35)→¬Q9(.cells c t(0,0))∧Go.Proofs.YtakaadcpaeiccabGreat.xL(.cells c t(0,0))∧nS(.cells c t(0,0))∧(∀d,(Obj.cells c t(0,0))≠ .cells d 131(0,0))∧∀es cl,(Obj.cells c t(0,0))≠ .map es cl:=by
  rintro t c(rfl|rfl|rfl|rfl|rfl)<;>
  exact⟨by simp [Q9],⟨fun c e=>(by cases e),fun c e=>(by cases e),fun c e=>(by cases e)⟩,⟨fun c e=>(by cases e),fun c e=>(by cases e),fun c e=>(by cases e),fun c e=>(by cases e),fun c e=>(by cases e)⟩,fun c e=>(by cases e),fun c d e=>(by cases e)⟩
 rcases hk with rfl|hk|rfl|rfl|hk|hk
 ·obtain⟨es,cl,hm⟩:=r.sn.obj;exact⟨_,hm,.inl⟨.inl rfl,_,_,rfl⟩⟩
 ·obtain⟨o,ho,⟨rfl,es,cl,rfl⟩|⟨c,rfl⟩|⟨c,rfl⟩⟩:=r.sr.kind hk
  ·exact⟨_,ho,.inl⟨.inr(.inl rfl),_,_,rfl⟩⟩
  ·exact⟨_,ho,.inr(hT c(.inl rfl))⟩
  ·exact⟨_,ho,.inr(hT c(.inr(.inl rfl)))⟩
 ·exact⟨_,r.tm.blk,.inr(hT _(.inr(.inr(.inl rfl))))⟩
 ·obtain⟨f,p1,_⟩:=r.tm.map;obtain⟨es,cl,hm⟩:=p1.obj;exact⟨_,hm,.inl⟨.inr(.inr rfl),_,_,rfl⟩⟩
 ·obtain⟨c,hc⟩:=aP r.tm.row hk;exact⟨_,hc,.inr(hT c(.inr(.inr(.inr(.inl rfl)))))⟩
 ·obtain⟨c,hc⟩:=aP r.pc hk;exact⟨_,hc,.inr(hT c(.inr(.inr(.inr(.inr rfl)))))⟩
structure bA where
 x:lF
 a:nK
 M:Nat
 ff:Int→Option Nat
 gg:Int→Value
 sz:Nat
 h:Int→Option Nat
 u:Int→Value
 Mt:Nat
 hp:List Hp.Tm
 tv:Value
structure NdE(x:lF)(s:St):Prop where
 self:x.self=s.me
 seq:x.seq=s.seq
 bZ:x.bZ=s.bZ
 dz:x.dz=s.dz
 eF:x.eF=s.eF
 tn:x.tn=s.tn
 own:x.own=s.own
 cnt:x.cnt=s.cnt
 lk:x.lk=s.lk
structure Nn(N:Nat)(g:bA)(s:St)(TL:List Hp.Tm)(W:World):Prop where
 cr:Ep N g.x g.M g.ff g.gg s.A s.f g.sz W
 eq:NdE g.x s
 rs:X_ g.x g.h g.u g.Mt g.hp g.tv s TL W
 qA: [g.M,g.x.Mo,g.x.Ms,g.x.qf,g.Mt].Nodup
 H_:g.sz≤1000000
def Ft(N:Nat)(g:bA)(s:St)(k:Nat):Prop:=xZ N g.x g.M g.ff g.gg s.A k∨jF g.x g.h g.u g.Mt g.tv s k
structure Nd(N B:Nat)(g:bA)(s:St)(TL:List Hp.Tm)(W:World):Prop where
 nn:Nn N g s TL W
 ac:jc B(B+1)g.a s.a_ s.aH s.aR s.aN W
 now:g.a.now=s.now
 aZ:g.a.aZ=s.aZ
structure Up(B:Nat)(F F':Nat→Prop)(w w':World):Prop where
 sub:∀k,F' k→F k∨(w.heap.size≤k∧k<w'.heap.size)
 os:w'.os=w.os
 tape:w'.tape=w.tape
 output:w'.output=w.output
 size:w.heap.size≤w'.heap.size
 block:∀k o,w.heap[k]?=some o→¬F k→(nS o∨k<B)→w'.heap[k]?=some o
theorem aD {W:World} {k:Nat} {o:Obj}(h:W.heap[k]?=some o):k<W.heap.size:=(Array.getElem?_eq_some_iff.1 h).1
theorem Up.trans {B:Nat} {F F' F'':Nat→Prop} {a b c:World}(p:Up B F F' a b)(q:Up B F' F'' b c):Up B F F'' a c:=by
 have h1:=p.size;have h2:=q.size;refine⟨fun k hk=> ?_,q.os.trans p.os,q.tape.trans p.tape,q.output.trans p.output,Nat.le_trans h1 h2,fun k o ho hn hA=> ?_⟩
 ·rcases q.sub k hk with h|h
  ·rcases p.sub k h with h|h
   ·exact .inl h
   ·exact .inr(by omega)
  ·exact .inr(by omega)
 ·refine q.block k o(p.block k o ho hn hA)(fun h=> ?_)hA;rcases p.sub k h with h|h
  ·exact hn h
  ·have:=aD ho;omega
theorem Up.below {B:Nat} {F:Nat→Prop} {a b:World}(h:Below a.heap.size a b):Up B F F a b:=
 ⟨fun _ h=> .inl h,h.os,h.tape,h.output,h.size,fun k _ ho _ _=>(h.block k(aD ho)).trans ho⟩
theorem Up.refl(B:Nat)(F:Nat→Prop)(a:World):Up B F F a a:=.below(Below.refl _ _)
theorem Up.of {B:Nat} {S F F':Nat→Prop} {a b:World}(h:Fx S a b)(hs:∀k o,S k→a.heap[k]?=some o→F k∨(¬nS o∧B≤k))(sub:∀k,F' k→F k∨(a.heap.size≤k∧k<b.heap.size)):Up B F F' a b:=
 ⟨sub,h.os,h.tape,h.output,h.size,fun k o ho hn hA=>(h.block k(aD ho)fun hk=>by
  rcases hs k o hk ho with h|⟨h1,h2⟩
  ·exact hn h
  ·rcases hA with h|h
   ·exact h1 h
   ·omega).trans ho⟩
theorem Up.Qd {B:Nat} {F F':Nat→Prop} {a b:World}(h:Up B F F' a b)(hB:a.heap.size≤B):Fx F a b:=
 ⟨h.os,h.tape,h.output,h.size,fun k hk hn=>by
  obtain⟨o,ho⟩:∃o,a.heap[k]?=some o:=⟨_,Array.getElem?_eq_getElem hk⟩;rw [ho];exact h.block k o ho hn(.inr(by omega))⟩
theorem Up.keep {B:Nat} {F F':Nat→Prop} {a b:World}(p:Up B F F' a b) {k:Nat} {o:Obj}(ho:a.heap[k]?=some o)(hn:¬F k)(hA:nS o):b.heap[k]?=some o∧¬F' k:=
 ⟨p.block k o ho hn(.inl hA),fun h=>(p.sub k h).elim hn(by have:=aD ho;omega)⟩
theorem MT.kind {me:Int} {T M:Nat} {f:Int→Option Nat} {g:Int→Value} {A:List Rt} {W:World}(h:MT me T M f g A W) {k:Nat}(hk:mg T M f g A k):
  ∃o,W.heap[k]?=some o∧((k=M∧∃es cl,o=.map es cl)∨(nS o∧Q9 o∧(∀c,o≠ .cells c 131(0,0))∧∀es cl,o≠ .map es cl)):=by
 have hT:∀ {t:TypeId}(c:Array Value),(t=158∨t=38∨t=34)→nS(.cells c t(0,0))∧Q9(.cells c t(0,0))∧(∀d,(Obj.cells c t(0,0))≠ .cells d 131(0,0))∧∀es cl,(Obj.cells c t(0,0))≠ .map es cl:=by
  rintro t c(rfl|rfl|rfl)<;>
  exact⟨⟨fun c e=>(by cases e),fun c e=>(by cases e),fun c e=>(by cases e),fun c e=>(by cases e),fun c e=>(by cases e)⟩,⟨fun c e=>(by cases e),fun c e=>(by cases e),fun c e=>(by cases e),fun c e=>(by cases e),fun c e=>(by cases e)⟩,fun c e=>(by cases e),fun c d e=>(by cases e)⟩
 rcases hk with rfl|rfl|⟨y,hy,hk|hk⟩
 ·exact⟨_,h.blk,.inr(hT _(.inl rfl))⟩
 ·obtain⟨es,cl,hm⟩:=h.map.obj;exact⟨_,hm,.inl⟨rfl,_,_,rfl⟩⟩
 ·obtain⟨B,p1,p2⟩:=h.ln y hy;rw [p1]at hk;cases hk;exact⟨_,p2,.inr(hT _(.inr(.inl rfl)))⟩
 ·obtain⟨c,hc⟩:=aP(h.row y hy)hk;exact⟨_,hc,.inr(hT c(.inr(.inr rfl)))⟩
theorem Nn.lt {N:Nat} {g:bA} {s:St} {TL:List Hp.Tm} {W:World}(n:Nn N g s TL W) {k:Nat}(hk:Ft N g s k):k<W.heap.size:=by
 rcases hk with(rfl|rfl|hk)|hk
 ·exact n.cr.nd.lt
 ·exact n.cr.mo.lt
 ·exact n.cr.tb.lt hk
 ·exact n.rs.lt hk
theorem Nn.nS {N:Nat} {g:bA} {s:St} {TL:List Hp.Tm} {W:World}(n:Nn N g s TL W) {k:Nat}(hk:Ft N g s k):∃o,W.heap[k]?=some o∧Go.Proofs.YtakaadcpaeiccabGreat.nS o:=by
 rcases hk with(rfl|rfl|hk)|hk
 ·exact⟨_,n.cr.nd,Ld _⟩
 ·obtain⟨es,cl,hm⟩:=n.cr.mo.obj;exact⟨_,hm,uI es cl⟩
 ·obtain⟨o,ho,⟨_,es,cl,rfl⟩|⟨h,_⟩⟩:=n.cr.tb.kind hk
  ·exact⟨_,ho,uI es cl⟩
  ·exact⟨o,ho,h⟩
 ·obtain⟨o,ho,⟨_,es,cl,rfl⟩|⟨_,_,h,_⟩⟩:=n.rs.kind hk
  ·exact⟨_,ho,uI es cl⟩
  ·exact⟨o,ho,h⟩
theorem Nn.maps {N:Nat} {g:bA} {s:St} {TL:List Hp.Tm} {W:World}(n:Nn N g s TL W) {k:Nat}(hk:k=g.x.Ms∨k=g.x.qf∨k=g.Mt):k≠g.M∧k≠g.x.Mo:=by
 have h:=n.qA;simp only [List.nodup_cons,List.mem_cons,List.not_mem_nil,or_false,not_or]at h;obtain⟨⟨_,h1,h2,h3⟩,⟨h4,h5,h6⟩,_⟩:=h;rcases hk with rfl|rfl|rfl
 ·exact⟨Ne.symm h1,Ne.symm h4⟩
 ·exact⟨Ne.symm h2,Ne.symm h5⟩
 ·exact⟨Ne.symm h3,Ne.symm h6⟩
theorem Nn.apart {N:Nat} {g:bA} {s:St} {TL:List Hp.Tm} {W:World}(n:Nn N g s TL W) {k:Nat}(hk:jF g.x g.h g.u g.Mt g.tv s k):¬xZ N g.x g.M g.ff g.gg s.A k:=by
 obtain⟨o,ho,⟨h,es,cl,rfl⟩|⟨h1,h2,h3,h4,h5⟩⟩:=n.rs.kind hk
 ·obtain⟨q1,q2⟩:=n.maps h;rintro(rfl|rfl|hc)
  ·rw [show W.heap[k]?=_ from n.cr.nd]at ho;cases ho
  ·exact q2 rfl
  ·exact n.cr.tb.not q1 ho(uH es cl)hc
 ·rintro(rfl|rfl|hc)
  ·rw [show W.heap[k]?=_ from n.cr.nd]at ho;exact h4 _(Option.some.inj ho).symm
  ·obtain⟨es,cl,hm⟩:=n.cr.mo.obj;rw [hm]at ho;exact h5 _ _(Option.some.inj ho).symm
  ·refine n.cr.tb.not(fun e=> ?_)ho h2 hc;subst e;obtain⟨es,cl,hm⟩:=n.cr.tb.map.obj;rw [hm]at ho;exact h5 _ _(Option.some.inj ho).symm
theorem Nn.kept {N:Nat} {g:bA} {s:St} {TL:List Hp.Tm} {W W':World}(n:Nn N g s TL W)(he:∀k,Ft N g s k→W'.heap[k]?=W.heap[k]?):Nn N g s TL W':=
 ⟨⟨n.cr.nd.block(he _(.inl(.inl rfl))),n.cr.mo.block(he _(.inl(.inr(.inl rfl)))),n.cr.tb.kept fun k hk=>he k(.inl(.inr(.inr hk))),n.cr.ne⟩,n.eq,n.rs.kept fun k hk=>he k(.inr hk),n.qA,n.H_⟩
theorem Nn.later {N:Nat} {g:bA} {s:St} {TL:List Hp.Tm} {W W':World}(n:Nn N g s TL W)(hb:Below W.heap.size W W'):Nn N g s TL W':=n.kept fun k hk=>hb.block k(n.lt hk)
theorem Nd.later {N B:Nat} {g:bA} {s:St} {TL:List Hp.Tm} {W W':World}(n:Nd N B g s TL W)(hb:Below W.heap.size W W'):Nd N B g s TL W':=⟨n.nn.later hb,n.ac.later hb,n.now,n.aZ⟩
def Ai(s s':St):Prop:=s'.me=s.me∧s'.seq=s.seq∧s'.bZ=s.bZ∧s'.dz=s.dz∧s'.eF=s.eF∧s'.A=s.A∧s'.mem=s.mem∧s'.tn=s.tn∧s'.f=s.f∧s'.own=s.own∧s'.cnt=s.cnt∧s'.Q=s.Q∧s'.tl=s.tl∧s'.pc=s.pc∧s'.lk=s.lk
theorem Nn.same {N:Nat} {g:bA} {s s':St} {TL:List Hp.Tm} {W:World}(n:Nn N g s TL W)(h:Ai s s')(a:nK):Nn N {g with a:=a}s' TL W:=by
 obtain⟨h1,h2,h3,h4,h5,h6,h7,h8,h9,h10,h11,h12,U5,h14,h15⟩:=h;obtain⟨c,e,r,d,z⟩:=n;obtain⟨e1,e2,e3,e4,e5,e6,e7,e8,e9⟩:=e;obtain⟨r1,r2,r3,r4,r5,r6⟩:=r;exact⟨by rw [h6,h9];exact c,⟨by rw [h1];exact e1,by rw [h2];exact e2,by rw [h3];exact e3,by rw [h4];exact e4,by rw [h5];exact e5,by rw [h8];exact e6,by rw [h10];exact e7,by rw [h11];exact e8,by rw [h15];exact e9⟩,⟨by rw [h7,h8];exact r1,by rw [h12];exact r2,by rw [U5];exact r3,r4,r5,by rw [h14];exact r6⟩,d,z⟩
theorem Ft.same {N:Nat} {g:bA} {s s':St}(h:Ai s s')(a:nK)(k:Nat):Ft N {g with a:=a}s' k ↔ Ft N g s k:=by
 obtain⟨h1,h2,h3,h4,h5,h6,h7,h8,h9,h10,h11,h12,U5,h14,h15⟩:=h;unfold Ft jF;rw [h6,h12]
theorem jc.I7 {N B:Nat} {g:bA} {s:St} {TL:List Hp.Tm} {W:World} {base:Nat} {a:nK} {a_:List(Bool×Int×Int)} {aH aR:List(Int×ByteArray)} {aN:List Int}(h:jc B base a a_ aH aR aN W)(n:Nn N g s TL W) {k:Nat}(hk:Ft N g s k):¬iW B a k:=by
 obtain⟨o,ho,hA⟩:=n.nS hk;exact h.not ho hA
theorem jc.kinds {B base:Nat} {a:nK} {a_:List(Bool×Int×Int)} {aH aR:List(Int×ByteArray)} {aN:List Int} {W:World}(h:jc B base a a_ aH aR aN W) {k:Nat}(hk:iW B a k) {o:Obj}(ho:W.heap[k]?=some o):¬nS o:=fun hA=>h.not ho hA hk
theorem Nd.act {N B:Nat} {g:bA} {s s':St} {TL:List Hp.Tm} {W W':World}(n:Nd N B g s TL W) {a':nK}(h:jc B(B+1)a' s'.a_ s'.aH s'.aR s'.aN W')(hf:Fx(iW B g.a)W W')(he:Ai s s')(h1:a'.now=s'.now)(h2:a'.aZ=s'.aZ):
  Nd N B {g with a:=a'}s' TL W'∧Up B(Ft N g s)(Ft N {g with a:=a'}s')W W':=by
 refine⟨⟨(n.nn.kept fun k hk=>hf.block k(n.nn.lt hk)(n.ac.I7 n.nn hk)).same he a',h,h1,h2⟩,.of hf(fun k o hk ho=> .inr⟨n.ac.kinds hk ho,n.ac.ge hk⟩)fun k hk=> .inl((Ft.same he a' k).1 hk)⟩
theorem Nd.table {N B:Nat} {g:bA} {s:St} {TL:List Hp.Tm} {W W':World}(n:Nd N B g s TL W) {A':List Rt}(h:Ag s.me g.x.T(ext(mg g.x.T g.M g.ff g.gg s.A)W.heap.size W'.heap.size)A' W')(hf:Fx(mg g.x.T g.M g.ff g.gg s.A)W W'):
  ∃M' Tw vY,Nd N B {g with M:=M',ff:=Tw,gg:=vY} {s with A:=A'}TL W'∧Up B(Ft N g s)(Ft N {g with M:=M',ff:=Tw,gg:=vY} {s with A:=A'})W W':=by
 obtain⟨M',Tw,vY,hM,hS⟩:=h;have hrs:∀k,jF g.x g.h g.u g.Mt g.tv s k→¬mg g.x.T g.M g.ff g.gg s.A k:=fun k hk hc=>n.nn.apart hk(.inr(.inr hc));have hM':∀k,k<W.heap.size→¬mg g.x.T g.M g.ff g.gg s.A k→M'≠k:=by
  rintro k hk hn rfl;rcases hS M'(.inr(.inl rfl))with h|h
  ·exact hn h
  ·omega
 have Ox:¬mg g.x.T g.M g.ff g.gg s.A g.x.Mo:=by
  obtain⟨es,cl,hm⟩:=n.nn.cr.mo.obj;exact n.nn.cr.tb.not(Ne.symm n.nn.cr.ne)hm(uH es cl)
 have hN:¬mg g.x.T g.M g.ff g.gg s.A N:=n.nn.cr.tb.not(fun e=>by
  obtain⟨es,cl,hm⟩:=n.nn.cr.tb.map.obj;rw [←e,show W.heap[N]?=_ from n.nn.cr.nd]at hm;cases hm)n.nn.cr.nd(rz _)
 have hnd:=n.nn.qA;simp only [List.nodup_cons,List.mem_cons,List.not_mem_nil,or_false,not_or]at hnd;obtain⟨_,hnd⟩:=hnd;have hac:∀k,iW B g.a k→¬mg g.x.T g.M g.ff g.gg s.A k:=fun k hk hc=>n.ac.I7 n.nn(.inl(.inr(.inr hc)))hk;refine⟨M',Tw,vY,⟨⟨⟨n.nn.cr.nd.block(hf.block _ n.nn.cr.nd.lt hN),n.nn.cr.mo.block(hf.block _ n.nn.cr.mo.lt Ox),by rw [n.nn.eq.self];exact hM,hM' _ n.nn.cr.mo.lt Ox⟩,⟨n.nn.eq.self,n.nn.eq.seq,n.nn.eq.bZ,n.nn.eq.dz,n.nn.eq.eF,n.nn.eq.tn,n.nn.eq.own,n.nn.eq.cnt,n.nn.eq.lk⟩,?_,?_,n.nn.H_⟩,n.ac.kept fun k hk=>hf.block k(n.ac.lt hk)(hac k hk),n.now,n.aZ⟩,.of hf(fun k o hk _=> .inl(.inl(.inr(.inr hk))))fun k hk=> ?_⟩
 ·have:=n.nn.rs.kept(W':=W')fun k hk=>hf.block k(n.nn.rs.lt hk)(hrs k hk);exact⟨this.sn,this.sr,this.tm,this.hpo,this.pm,this.pc⟩
 ·have q1:=hM' _ n.nn.cr.mo.lt Ox;have q2:=hM' _(n.nn.rs.lt(.inl rfl))(hrs _(.inl rfl));have q3:=hM' _(n.nn.rs.lt(.inr(.inl(.inl rfl))))(hrs _(.inr(.inl(.inl rfl))));have q4:=hM' _(n.nn.rs.lt(.inr(.inr(.inr(.inl rfl)))))(hrs _(.inr(.inr(.inr(.inl rfl)))));simp only [List.nodup_cons,List.mem_cons,List.not_mem_nil,or_false,not_or];exact⟨⟨q1,q2,q3,q4⟩,hnd⟩
 ·rcases hk with(rfl|rfl|hk)|hk
  ·exact .inl(.inl(.inl rfl))
  ·exact .inl(.inl(.inr(.inl rfl)))
  ·rcases hS k hk with h|h
   ·exact .inl(.inl(.inr(.inr h)))
   ·exact .inr h
  ·exact .inl(.inr hk)
theorem Nd.rest {N B:Nat} {g:bA} {s s':St} {TL dO:List Hp.Tm} {W W':World}(n:Nd N B g s TL W) {x':lF} {h':Int→Option Nat} {u':Int→Value} {Et:Nat} {hp':List Hp.Tm} {tv':Value}
  (hx:ib N x' W')(hT:x'.T=g.x.T)(Ox:x'.Mo=g.x.Mo)(he:NdE x' s')(hr:X_ x' h' u' Et hp' tv' s' dO W')(hf:Fx(fun k=>k=N∨jF g.x g.h g.u g.Mt g.tv s k)W W')
  (sub:∀k,jF x' h' u' Et tv' s' k→jF g.x g.h g.u g.Mt g.tv s k∨(W.heap.size≤k∧k<W'.heap.size))(hm:x'.Ms=g.x.Ms∧x'.qf=g.x.qf∧Et=g.Mt)
  (hs:s'.me=s.me∧s'.A=s.A∧s'.f=s.f∧s'.a_=s.a_∧s'.aH=s.aH∧s'.aR=s.aR∧s'.aN=s.aN∧s'.now=s.now∧s'.aZ=s.aZ):
  Nd N B {g with x:=x',h:=h',u:=u',Mt:=Et,hp:=hp',tv:=tv'}s' dO W'∧Up B(Ft N g s)(Ft N {g with x:=x',h:=h',u:=u',Mt:=Et,hp:=hp',tv:=tv'}s')W W':=by
 obtain⟨s1,s2,s3,s4,s5,s6,s7,s8,s9⟩:=hs;obtain⟨m1,m2,m3⟩:=hm;have hcr:∀k,xZ N g.x g.M g.ff g.gg s.A k→k≠N→¬(k=N∨jF g.x g.h g.u g.Mt g.tv s k):=fun k hk hne h=>h.elim hne fun h=>n.nn.apart h hk;have hTN:∀k,mg g.x.T g.M g.ff g.gg s.A k→k≠N:=by
  rintro k hk rfl;exact n.nn.cr.tb.not(fun e=>by
   obtain⟨es,cl,hm⟩:=n.nn.cr.tb.map.obj;rw [←e,show W.heap[k]?=_ from n.nn.cr.nd]at hm;cases hm)n.nn.cr.nd(rz _)hk
 have ae5:g.x.Mo≠N:=Ne.symm(Lf n.nn.cr.nd n.nn.cr.mo);refine⟨⟨⟨⟨hx,?_,?_,?_⟩,he,hr,?_,n.nn.H_⟩,?_,by rw [s8];exact n.now,by rw [s9];exact n.aZ⟩,.of hf(fun k o hk _=> .inl(hk.elim(fun h=> .inl(.inl h)) .inr))fun k hk=> ?_⟩
 ·rw [s3,show({g with x:=x',h:=h',u:=u',Mt:=Et,hp:=hp',tv:=tv'}:bA).x.Mo=g.x.Mo from Ox];exact n.nn.cr.mo.block(hf.block _ n.nn.cr.mo.lt(hcr _(.inr(.inl rfl))ae5))
 ·rw [s2,show({g with x:=x',h:=h',u:=u',Mt:=Et,hp:=hp',tv:=tv'}:bA).x.T=g.x.T from hT,show({g with x:=x',h:=h',u:=u',Mt:=Et,hp:=hp',tv:=tv'}:bA).x.self=g.x.self from by rw [n.nn.eq.self,←s1];exact he.self];exact n.nn.cr.tb.kept fun k hk=>hf.block k(n.nn.cr.tb.lt hk)(hcr _(.inr(.inr hk))(hTN k hk))
 ·rw [show({g with x:=x',h:=h',u:=u',Mt:=Et,hp:=hp',tv:=tv'}:bA).x.Mo=g.x.Mo from Ox];exact n.nn.cr.ne
 ·have:=n.nn.qA;dsimp only;rw [Ox,m1,m2,m3];exact this
 ·rw [s4,s5,s6,s7];exact n.ac.kept fun k hk=>hf.block k(n.ac.lt hk)fun h=>n.ac.I7 n.nn(h.elim(fun h=> .inl(.inl h)) .inr)hk
 ·rcases hk with(rfl|rfl|hk)|hk
  ·exact .inl(.inl(.inl rfl))
  ·exact .inl(.inl(.inr(.inl Ox)))
  ·rw [s2]at hk;dsimp only at hk;rw [hT]at hk;exact .inl(.inl(.inr(.inr hk)))
  ·exact(sub k hk).acb .inr
theorem Nd.cells {N B:Nat} {g:bA} {s s':St} {TL:List Hp.Tm} {W W':World}(n:Nd N B g s TL W) {x':lF}(hx:ib N x' W')(hf:Fx(fun k=>k=N)W W')(he:NdE x' s')(hm:x'.T=g.x.T∧x'.Mo=g.x.Mo∧x'.Ms=g.x.Ms∧x'.qf=g.x.qf∧x'.Tm=g.x.Tm∧x'.pc=g.x.pc)
  (hs:s'.me=s.me∧s'.A=s.A∧s'.f=s.f∧s'.a_=s.a_∧s'.aH=s.aH∧s'.aR=s.aR∧s'.aN=s.aN∧s'.now=s.now∧s'.aZ=s.aZ)(hs2:s'.mem=s.mem∧s'.tn=s.tn∧s'.Q=s.Q∧s'.tl=s.tl∧s'.pc=s.pc):
  Nd N B {g with x:=x'}s' TL W'∧Up B(Ft N g s)(Ft N {g with x:=x'}s')W W':=by
 obtain⟨m1,m2,m3,m4,m5,m6⟩:=hm;obtain⟨t1,t2,t3,t4,t5⟩:=hs2;have hin:∀k,jF x' g.h g.u g.Mt g.tv s' k→jF g.x g.h g.u g.Mt g.tv s k:=by
  intro k hk;unfold jF at hk ⊢;rw [m3,m4,m5,m6,t3]at hk;exact hk
 have hr:=n.nn.rs.kept(W':=W')fun k hk=>hf.block k(n.nn.rs.lt hk)fun e=>n.nn.apart hk(.inl e);refine n.rest hx m1 m2 he⟨?_,?_,?_,hr.hpo,hr.pm,?_⟩(hf.mono fun k h=> .inl h)(fun k hk=> .inl(hin k hk))⟨m3,m4,rfl⟩hs
 ·rw [m3,t1,t2];exact hr.sn
 ·rw [m4,t3];exact hr.sr
 ·rw [m5,t4];exact hr.tm
 ·rw [m6,t5];exact hr.pc
end Go.Proofs.YtakaadcpaeiccabGreat
