import Derived.Test.YtakaadcpaeiccabGreatC47
namespace Go.Proofs.YtakaadcpaeiccabGreat
abbrev mh:=Option(Int×ah×List(Int×Int))
def rJ(x:Option Rt)(q h:Int):Prop:=∃y,x=some y∧(q<rk y∨(rk y=q∧y.hops≤h))
inductive Uh(me now:Int)(c:mh)(A:List Rt):List Rt→Prop
 |Ve(fr:Int)(p:ah)(L:List(Int×Int))(e:Int)(hc:c=some(fr,p,L))(hk:p.kind=1):Uh me now c A(iD me A p.aI p.dm(St.far p.hops)fr e).1
 |Vd(fr:Int)(p:ah)(L:List(Int×Int))(e:Int)(hc:c=some(fr,p,L))(hk:p.kind=2):Uh me now c A(iD me A p.dest p.aW(St.far p.hops)fr e).1
 |use(d e:Int):Uh me now c A(iy A d e)
 |bB(d n:Int):Uh me now c A(kX A d n)
 |mi(fr:Int)(p:ah)(L:List(Int×Int))(hc:c=some(fr,p,L))(x:Int×Int)(hx:x∈L):Uh me now c A(gm A fr x.1 x.2)
 |brk(dX:Int):Uh me now c A(A.map(bY dX 0))
 |grow(d:Int)(h:∀y,aJ A d=some y→y.valid=false):Uh me now c A(gI A d St.pQ)
def adO(c:mh)(s:St)(p:ah)(L:List(Int×Int)):Prop:=
 (p.kind=1∧p.aI=s.me∧p.hops=0∧1≤p.aS∧p.aS≤8∧p.dm=s.seq∧p.aW=dY s.A p.dest)∨
 (∃fr q K,c=some(fr,q,K)∧q.kind=1∧p.kind=1∧p.aI=q.aI∧p.dm=q.dm∧p.hops=St.far q.hops∧p.aS=q.aS - 1∧q.aS≠1∧p.aI≠s.me∧(p.aW=q.aW∨p.aW=dY s.A p.dest)∧(p.aI≠0→rJ(aJ s.A p.aI)p.dm p.hops))∨
 (p.kind=2∧p.dest=s.me∧p.hops=0∧p.aS=8∧p.aW=s.seq)∨
 (p.kind=2∧p.aS=8∧∃y,aJ s.A p.dest=some y∧y.valid=true∧p.aW=y.seq∧p.hops=y.hops)∨
 (∃fr q K,c=some(fr,q,K)∧q.kind=2∧p.kind=2∧p.dest=q.dest∧p.aW=q.aW∧p.hops=St.far q.hops∧p.aS=q.aS - 1∧q.aS≠1∧p.dest≠s.me∧(p.dest≠0→rJ(aJ s.A p.dest)p.aW p.hops))∨
 (p.kind=3∧∀x∈L,x.2=0∨∃y∈s.A,y.dest=x.1∧x.2≤y.seq∧(0≤x.2∨x.2=y.seq))∨
 p.kind=9
structure adF(s s':St):Prop where
 me:s'.me=s.me
 seq:s'.seq=s.seq
 A:s'.A=s.A
 f:s'.f=s.f
 own:s'.own=s.own
 cnt:s'.cnt=s.cnt
 a_:s'.a_=s.a_
 aZ:s'.aZ=s.aZ
 aH:s'.aH=s.aH
 now:s'.now=s.now
inductive Pr(c:mh)(s:St):St→Prop
 |xK {s':St}(h:adF s s'):Pr c s s'
 |tab {A:List Rt}(h:Uh s.me s.now c s.A A):Pr c s {s with A:=A}
 |aI(t:Int)(p:ah)(L:List(Int×Int))(h:adO c s p L)(hz:L=[]∨L.length=p.ln):Pr c s(s.send t p L)
 |grw:Pr c s {s with seq:=gr s.seq}
 |mx(fr:Int)(p:ah)(L:List(Int×Int))(hc:c=some(fr,p,L)):Pr c s {s with seq:=max s.seq p.aW}
 |wr:Pr c s s.write
inductive fC(c:mh):Nat→St→St→Prop
 |nil(n:Nat)(s:St):fC c n s s
 |snoc {n:Nat} {s s1 s2:St}(h:fC c n s s1)(k:Pr c s1 s2):fC c(n+1)s s2
theorem fC.up {c:mh} {n k:Nat} {s s':St}(h:fC c n s s')(hk:n≤k):fC c k s s':=by
 induction h generalizing k with
 |nil n s=>exact .nil _ _
 |snoc h1 h2 ih=>
  obtain⟨j,rfl⟩:∃j,k=j+1:=⟨k - 1,by omega⟩;exact .snoc(ih(by omega))h2
theorem fC.trans {c:mh} {n k:Nat} {s s1 s2:St}(h:fC c n s s1)(g:fC c k s1 s2):fC c(n+k)s s2:=by
 induction g with
 |nil k s=>exact h.up(by omega)
 |snoc g1 g2 ih=>exact .snoc(ih h)g2
theorem fC.one {c:mh} {s s':St}(h:Pr c s s'):fC c 1 s s':=.snoc(.nil 0 s)h
theorem fC.xK {c:mh} {s s':St}(h:adF s s'):fC c 1 s s':=.one(.xK h)
theorem fC.me {c:mh} {n:Nat} {s s':St}(h:fC c n s s'):s'.me=s.me:=by
 induction h with
 |nil=>rfl
 |snoc _ k ih=>
  rw [←ih];cases k with
  |xK h=>exact h.me
  |_=>rfl
theorem fC.now {c:mh} {n:Nat} {s s':St}(h:fC c n s s'):s'.now=s.now:=by
 induction h with
 |nil=>rfl
 |snoc _ k ih=>
  rw [←ih];cases k with
  |xK h=>exact h.now
  |_=>rfl
theorem fe(c:mh)(s:St)(r:Int):fC c 1 s(s.drop r):=.xK⟨rfl,rfl,rfl,rfl,rfl,rfl,rfl,rfl,rfl,rfl⟩
theorem uB(c:mh)(s:St)(t:Int)(L:List(Int×Int))(h:∀x∈L,x.2=0∨∃y∈s.A,y.dest=x.1∧x.2≤y.seq∧(0≤x.2∨x.2=y.seq)):fC c 1 s(s.mi t L):=by
 unfold St.mi PK;split
 ·exact .xK⟨rfl,rfl,rfl,rfl,rfl,rfl,rfl,rfl,by simp,rfl⟩
 ·exact .one(.aI t(ZV L.length)L(.inr(.inr(.inr(.inr(.inr(.inl⟨rfl,h⟩))))))(.inr rfl))
theorem K7(A:List Rt)(d:Int):dY A d=0∨∃y∈A,y.dest=d∧dY A d≤y.seq∧(0≤dY A d∨dY A d=y.seq):=by
 unfold dY;cases h:aJ A d with
 |none=>exact .inl rfl
 |some y=>exact .inr⟨y,(bN h).1,(bN h).2,Int.le_refl _,.inr rfl⟩
theorem wT(c:mh)(s:St)(t d:Int):fC c 1 s(s.kN t d):=uB c s t _ fun x hx=>by
 rw [List.mem_singleton]at hx;subst hx;exact K7 s.A d
theorem oU(c:mh)(s:St)(d:Int)(t:ByteArray):fC c 3 s(s.aX d t):=by
 unfold St.aX;split
 ·refine fC.snoc(fC.snoc(fC.xK(s':={s with eF:=(s.eF+1)%4294967296})⟨rfl,rfl,rfl,rfl,rfl,rfl,rfl,rfl,rfl,rfl⟩)(.tab(.use d(s.now+3000))))(.aI _ _ [] ?_(.inl rfl));exact .inr(.inr(.inr(.inr(.inr(.inr rfl)))))
 ·exact .nil _ _
theorem Nf(c:mh)(d:Int)(l:List ByteArray)(s:St):fC c(3 * l.length)s(l.foldl(fun s t=>s.aX d t)s):=by
 induction l generalizing s with
 |nil=>exact .nil _ _
 |cons a l ih=>
  rw [List.foldl_cons,List.length_cons];exact((oU c s d a).trans(ih _)).up(by omega)
theorem wS(c:mh)(s:St)(d:Int)(h4:∀q∈s.Q,q.txt.length≤4):fC c 13 s(s.bP d):=by
 unfold St.bP;cases hq:St.jD s.Q d with
 |none=>exact .nil _ _
 |some q=>
  dsimp only;split
  ·have:=h4 q(iL hq).1;have h1:=Nf c d q.txt s;refine fC.up(fC.snoc h1(.xK ?_))(by omega);exact⟨rfl,rfl,rfl,rfl,rfl,rfl,rfl,rfl,rfl,rfl⟩
  ·exact .nil _ _
theorem Fh(c:mh)(s:St)(d aS:Int)(ht:1≤aS∧aS≤8):fC c 5 s(s.kM d aS):=by
 unfold St.kM;refine fC.snoc(fC.snoc(fC.snoc(fC.snoc(fC.xK(s':={s with dz:=(s.dz+1)%4294967296})⟨rfl,rfl,rfl,rfl,rfl,rfl,rfl,rfl,rfl,rfl⟩) .grw) .wr)(.xK ?_))(.aI 0 _ [] ?_(.inl rfl))
 ·exact⟨rfl,rfl,rfl,rfl,rfl,rfl,rfl,rfl,rfl,rfl⟩
 ·exact .inl⟨rfl,rfl,rfl,ht.1,ht.2,rfl,rfl⟩
theorem uC(c:mh)(s:St)(q:Sr)(ht:1≤q.aS∧q.aS≤8):fC c 6 s(s.ask q):=by
 unfold St.ask;split
 ·exact fC.up(n:=1)(.xK⟨rfl,rfl,rfl,rfl,rfl,rfl,rfl,rfl,rfl,rfl⟩)(by decide)
 ·split
  ·exact fC.up(n:=1)(.xK⟨rfl,rfl,rfl,rfl,rfl,rfl,rfl,rfl,rfl,rfl⟩)(by decide)
  ·exact fC.snoc(Fh c s q.dest q.aS ht)(.xK⟨rfl,rfl,rfl,rfl,rfl,rfl,rfl,rfl,rfl,rfl⟩)
theorem Nc(c:mh)(s:St)(q:Sr)(ht:1≤q.aS∧q.aS≤8):fC c 6 s(s.widen q):=by
 unfold St.widen;split
 ·exact uC c s _(by dsimp only;omega)
 ·split
  ·exact uC c s _(by dsimp only;omega)
  ·split
   ·exact uC c s _ ht
   ·exact fC.up(n:=1)(.xK⟨rfl,rfl,rfl,rfl,rfl,rfl,rfl,rfl,rfl,rfl⟩)(by decide)
theorem QM(c:mh)(s:St)(q:Sr)(ht:1≤q.aS∧q.aS≤8)(h4:∀q∈s.Q,q.txt.length≤4):fC c 13 s(s.step q):=by
 unfold St.step;split
 ·exact wS c s q.dest h4
 ·split
  ·exact(Nc c s q ht).up(by omega)
  ·exact(uC c s q ht).up(by omega)
theorem BK(c:mh)(s:St)(d:Int)(t:ByteArray):fC c 7 s(s.gG d t):=by
 unfold St.gG;cases hq:St.jD s.Q d with
 |some q=>
  dsimp only;refine(fC.xK ?_).up(by omega);unfold St.hold;split<;>exact⟨rfl,rfl,rfl,rfl,rfl,rfl,rfl,rfl,rfl,rfl⟩
 |none=>
  exact fC.up(n:=1+6)(fC.trans(.xK(s':={s with Q:=s.Q++ [St.iA d t]})⟨rfl,rfl,rfl,rfl,rfl,rfl,rfl,rfl,rfl,rfl⟩)(uC c _(St.iA d t)(by show(1:Int)≤1∧(1:Int)≤8;omega)))(by decide)
theorem E8 {A:List Rt} {d q h:Int}(f:Rt→Rt)(hd:∀y,(f y).dest=y.dest)(hr:∀y,y.dest=d→rk(f y)=rk y∧(f y).hops=y.hops)(x:rJ(aJ A d)q h):rJ(aJ(A.map f)d)q h:=by
 obtain⟨y,hy,h1⟩:=x;obtain⟨_,kD⟩:=bN hy;refine⟨f y,?_,?_⟩
 ·unfold aJ at hy ⊢;rw [List.find?_map];have:((fun x:Rt=>x.dest==d)∘ f)=fun x=>x.dest==d:=by
   funext z
   simp [hd]
  rw [this,hy];rfl
 ·obtain⟨e1,e2⟩:=hr y kD;rw [e1,e2];exact h1
theorem E5 {A:List Rt} {d q h:Int}(d' e:Int)(x:rJ(aJ A d)q h):rJ(aJ(iy A d' e)d)q h:=by
 refine E8 _(fun y=> ?_)(fun y _=> ?_)x
 ·split
  ·exact lQ e y
  ·rfl
 ·split
  ·unfold sI;split
   ·exact⟨rfl,rfl⟩
   ·exact⟨rfl,rfl⟩
  ·exact⟨rfl,rfl⟩
theorem E9 {A:List Rt} {d q h:Int}(d' n:Int)(x:rJ(aJ A d)q h):rJ(aJ(kX A d' n)d)q h:=by
 refine E8 _(fun y=> ?_)(fun y _=> ?_)x
 ·split
  ·exact kG n y
  ·rfl
 ·split
  ·unfold qU;split
   ·exact⟨rfl,rfl⟩
   ·exact⟨rfl,rfl⟩
  ·exact⟨rfl,rfl⟩
theorem F4(A:List Rt)(x:Rt)(h:aJ A x.dest=none):aJ(tF A x)x.dest=some x:=by
 unfold tF aJ;rw [List.find?_append];have h1:(A.take(pos A x.dest)).find?(fun z=>z.dest==x.dest)=none:=by
  rw [List.find?_eq_none];intro z hz;have:=(gM.1 h)z(List.mem_of_mem_take hz);simpa using this
 rw [h1];simp
theorem yQ {me:Int} {A:List Rt} {d q h n e:Int}(hd:d≠me)(h0:d≠0)(h4:(iD me A d q h n e).2≠4):rJ(aJ(iD me A d q h n e).1 d)q h:=by
 unfold iD at h4 ⊢;rw [if_neg(by simp [hd,h0])]at h4 ⊢;cases hl:aJ A d with
 |none=>
  rw [hl]at h4;dsimp only at h4 ⊢;split at h4
  ·exact absurd rfl h4
  ·rename_i h8;rw [if_neg h8];exact⟨fo d q h n e,F4 A(fo d q h n e)hl,.inr⟨rfl,Int.le_refl _⟩⟩
 |some x=>
  dsimp only;obtain⟨hx,hxd⟩:=bN hl;split
  ·refine⟨yz q h n e x,?_,.inr⟨rfl,Int.le_refl _⟩⟩;unfold gI aJ;rw [List.find?_map];have:((fun x:Rt=>x.dest==d)∘ fun x=>if x.dest=d then yz q h n e x else x)=fun x=>x.dest==d:=by
    funext z
    by_cases e:z.dest=d<;>simp [e,yz]
   rw [this,show List.find?(fun x=>x.dest==d)A=some x from hl];simp [hxd]
  ·rename_i hg;refine⟨x,hl,?_⟩;have h2:=Xu(fo d q h n e)x;have h3:U6(fo d q h n e)x=false:=by simpa using hg
   rw [h3]at h2;have e1:rk(fo d q h n e)=q:=rfl;rw [e1]at h2;simp only [Bool.not_false,Bool.adR,Bool.or_eq_true,Bool.and_eq_true,decide_eq_true_eq]at h2;rcases h2 with h2|⟨h2,h3⟩
   ·exact .inl h2
   ·exact .inr⟨h2.symm,h3⟩
theorem yY(c:mh)(s:St)(p:ah)(hp:(p.dest=s.me∧p.hops=0∧p.aW=s.seq)∨∃y,aJ s.A p.dest=some y∧y.valid=true∧p.aW=y.seq∧p.hops=y.hops):fC c 1 s(s.answer p):=by
 unfold St.answer;split
 ·refine .one(.aI _ _ [] ?_(.inl rfl));rcases hp with⟨h1,h2,h3⟩|h
  ·exact .inr(.inr(.inl⟨rfl,h1,h2,rfl,h3⟩))
  ·exact .inr(.inr(.inr(.inl⟨rfl,rfl,h⟩)))
 ·exact fe c s 3
theorem JA {A:List Rt} {d now:Int}(h:(bF A d now).2=true):aJ A d=some(bF A d now).1∧(bF A d now).1.valid=true:=by
 unfold bF at h ⊢;cases hl:aJ A d with
 |none=>rw [hl]at h;cases h
 |some x=>
  rw [hl]at h;dsimp only at h ⊢;split at h
  ·rename_i hv;rw [if_pos hv];simp only [Bool.and_eq_true]at hv;exact⟨rfl,hv.1⟩
  ·cases h
theorem o8 {A:List Rt} {d:Int} {f:Rt→Rt}(hd:∀y,(f y).dest=y.dest) {y:Rt}(h:aJ A d=some y):aJ(A.map f)d=some(f y):=by
 unfold aJ at h ⊢;rw [List.find?_map];have:((fun x:Rt=>x.dest==d)∘ f)=fun x=>x.dest==d:=by
  funext z
  simp [hd]
 rw [this,h];rfl
theorem F3 {A:List Rt} {d d' n:Int} {y:Rt}(h:aJ A d=some y):∃z,aJ(kX A d' n)d=some z∧z.valid=y.valid∧z.seq=y.seq∧z.hops=y.hops:=by
 refine⟨_,o8(f:=fun x=>if x.dest=d' then qU n x else x)(fun y=> ?_)h,?_⟩
 ·split
  ·exact kG n y
  ·rfl
 ·split
  ·unfold qU;split<;>exact⟨rfl,rfl,rfl⟩
  ·exact⟨rfl,rfl,rfl⟩
theorem BL(s:St)(fr:Int)(p:ah)(L:List(Int×Int))(hk:p.kind=1)(hme:p.aI≠s.me)(hr:p.aI≠0→rJ(aJ s.A p.aI)p.dm(St.far p.hops)):fC(some(fr,p,L))3 s(s.asked p):=by
 unfold St.asked;split
 ·unfold St.iH;exact((fC.one(.mx fr p L rfl)).trans(yY _ _ _(.inl⟨rfl,rfl,rfl⟩))).up(by omega)
 ·split
  ·rename_i hf;simp only [Bool.and_eq_true]at hf;obtain⟨h1,h2⟩:=JA hf.1;unfold St.gT;have hb:∃z,aJ(if(bF s.A p.aI s.now).2 then kX s.A p.dest(bF s.A p.aI s.now).1.next else s.A)p.dest=some z∧z.valid=true∧z.seq=(bF s.A p.dest s.now).1.seq∧z.hops=(bF s.A p.dest s.now).1.hops:=by
    split
    ·obtain⟨z,e1,e2,e3,e4⟩:=F3(d':=p.dest)(n:=(bF s.A p.aI s.now).1.next)h1;exact⟨z,e1,e2.trans h2,e3,e4⟩
    ·exact⟨_,h1,h2,rfl,rfl⟩
   have hs1:fC(some(fr,p,L))1 s {s with A:=if(bF s.A p.aI s.now).2 then kX s.A p.dest(bF s.A p.aI s.now).1.next else s.A}:=by
    split
    ·exact .one(.tab(.bB _ _))
    ·exact .nil _ _
   obtain⟨z,e1,e2,e3,e4⟩:=hb;obtain⟨u,k1,k2,k3,k4⟩:=F3(d':=p.aI)(n:=(bF s.A p.dest s.now).1.next)e1;refine fC.up(n:=1+1+1)((hs1.snoc(.tab(.bB _ _))).trans(yY _ _ _(.inr⟨u,k1,k2.trans e2,?_,?_⟩)))(by decide)
   ·exact(k3.trans e3).symm
   ·exact(k4.trans e4).symm
  ·split
   ·exact(fe _ _ _).up(by omega)
   ·rename_i ht;unfold St.askOn;refine fC.up(n:=1)(.one(.aI 0 {p with aS:=p.aS - 1,hops:=St.far p.hops,aW:=if(aJ s.A p.dest).isSome then max p.aW(dY s.A p.dest)else p.aW,iK:=if(aJ s.A p.dest).isSome then false else p.iK} [](.inr(.inl⟨fr,p,L,rfl,hk,hk,rfl,rfl,rfl,rfl,ht,hme,?_,hr⟩))(.inl rfl)))(by decide);dsimp only;split
    ·rcases Int.le_total p.aW(dY s.A p.dest)with h|h
     ·exact .inr(Int.max_eq_right h)
     ·exact .inl(Int.YB h)
    ·exact .inl rfl
theorem xI(s:St)(fr:Int)(p:ah)(L:List(Int×Int))(hk:p.kind=1):fC(some(fr,p,L))7 s(s.dE fr p):=by
 unfold St.dE;split
 ·exact(fe _ _ _).up(by omega)
 ·rename_i hn;simp only [not_or]at hn;obtain⟨hme,_⟩:=hn;refine fC.up(n:=1+6)(fC.trans(.xK(s':={s with mem:=dR s.mem(p.aI,p.id)(s.now+1280)s.tn,tn:=s.tn+1})⟨rfl,rfl,rfl,rfl,rfl,rfl,rfl,rfl,rfl,rfl⟩) ?_)(by decide);unfold St.learn;have hup:fC(some(fr,p,L))1({s with mem:=dR s.mem(p.aI,p.id)(s.now+1280)s.tn,tn:=s.tn+1}:St) {s with mem:=dR s.mem(p.aI,p.id)(s.now+1280)s.tn,tn:=s.tn+1,A:=(iD s.me s.A p.aI p.dm(St.far p.hops)fr(s.now+3000)).1}:=.one(.tab(.Ve fr p L(s.now+3000)rfl hk));split
  ·exact(hup.trans(fe _ _ 2)).up(by omega)
  ·rename_i h4;have hr:p.aI≠0→rJ(aJ(iD s.me s.A p.aI p.dm(St.far p.hops)fr(s.now+3000)).1 p.aI)p.dm(St.far p.hops):=fun h0=>yQ hme h0 h4;split
   ·refine((hup.snoc(.tab(.use p.aI(s.now+3000)))).trans(BL _ fr p L hk hme fun h0=>E5 _ _(hr h0))).up(by omega)
   ·exact(hup.trans(BL _ fr p L hk hme hr)).up(by omega)
theorem AV(s:St)(fr:Int)(p:ah)(L:List(Int×Int))(hk:p.kind=2)(h4:∀q∈s.Q,q.txt.length≤4):fC(some(fr,p,L))15 s(s.eT fr p):=by
 unfold St.eT;split
 ·exact(fe _ _ _).up(by omega)
 ·rename_i hme;dsimp only;have hup:fC(some(fr,p,L))1 s {s with A:=(iD s.me s.A p.dest p.aW(St.far p.hops)fr(s.now+p.life)).1}:=.one(.tab(.Vd fr p L(s.now+p.life)rfl hk));split
  ·exact(hup.trans(fe _ _ 2)).up(by omega)
  ·rename_i h5;have hr:p.dest≠0→rJ(aJ(iD s.me s.A p.dest p.aW(St.far p.hops)fr(s.now+p.life)).1 p.dest)p.aW(St.far p.hops):=fun h0=>yQ hme h0 h5;split
   ·have ha:=hup.trans(wS(some(fr,p,L))_ p.dest h4);split
    ·exact fC.up(n:=1+13+1)(ha.trans(fe _ _ 7))(by decide)
    ·exact ha.up(by omega)
   ·split
    ·exact(hup.trans(fe _ _ 4)).up(by omega)
    ·rename_i ht;refine fC.up(n:=1+4)(hup.trans ?_)(by decide);unfold St.il;split
     ·refine fC.snoc(fC.snoc(fC.snoc(fC.one(.tab(.bB _ _)))(.tab(.bB _ _)))(.tab(.use _ _)))(.aI _ _ [] ?_(.inl rfl));exact .inr(.inr(.inr(.inr(.inl⟨fr,p,L,rfl,hk,hk,rfl,rfl,rfl,rfl,ht,hme,fun h0=>E5 _ _(E9 _ _(E9 _ _(hr h0)))⟩))))
     ·exact(fe _ _ 3).up(by omega)
theorem CZ(s:St)(fr:Int)(p:ah)(L:List(Int×Int))(hk:p.kind=9)(hx:∀y∈s.A,y.valid=true→s.now<y.exp):fC(some(fr,p,L))3 s(s.fu fr p):=by
 unfold St.fu;split
 ·exact fC.up(n:=1)(.xK⟨rfl,rfl,rfl,rfl,rfl,rfl,rfl,rfl,rfl,rfl⟩)(by decide)
 ·split
  ·exact(fe _ _ _).up(by omega)
  ·split
   ·exact fC.snoc(fC.snoc(fC.one(.tab(.use _ _)))(.tab(.use _ _)))(.aI _ _ [](.inr(.inr(.inr(.inr(.inr(.inr hk))))))(.inl rfl))
   ·rename_i hf;refine fC.trans(n:=2)(k:=1) ?_(wT _ _ _ _);refine fC.snoc(fe _ s 3)(.tab(.grow p.dest ?_));intro y hy;have hy':aJ s.A p.dest=some y:=hy;cases hv:y.valid with
    |false=>rfl
    |true=>
     exfalso;apply hf;unfold bF;rw [hy'];dsimp only;have:=hx y(bN hy').1 hv;rw [hv,if_pos(by simpa using this)]
theorem yX(c:mh)(s:St)(fr:Int)(p:ah):fC c 3 s(s.ed fr p):=by
 unfold St.ed;split
 ·refine fC.trans(n:=1)(k:=2)(fe _ s 8) ?_;exact fC.snoc(wT _ _ _ _)(.xK⟨rfl,rfl,rfl,rfl,rfl,rfl,rfl,rfl,rfl,rfl⟩)
 ·exact(fe _ _ _).up(by omega)
theorem M5(fr q:Int)(y:Rt):y.seq≤(bY fr q y).seq:=by
 unfold bY;split
 ·show y.seq≤max(gr y.seq)q;have:y.seq≤gr y.seq:=by unfold gr;omega
  omega
 ·exact Int.le_refl _
theorem NN {A:List Rt} {fr d:Int}(q:Int)(h:l9 A fr d=true):0≤dY(gm A fr d q)d:=by
 unfold l9 at h;cases hl:aJ A d with
 |none=>rw [hl]at h;cases h
 |some y=>
  rw [hl]at h;have hv:(y.valid&&(y.next==fr))=true:=h;have h1:=o8(f:=fun x=>if x.dest=d then bY fr q x else x)(fun y=>by split;exact dZ fr q y;rfl)hl;unfold dY gm gI;rw [h1,if_pos(bN hl).2];show 0≤(bY fr q y).seq;unfold bY;rw [if_pos hv];show 0≤max(gr y.seq)q;have:0≤gr y.seq:=by unfold gr;omega
  omega
theorem IR(fr:Int)(p:ah)(K:List(Int×Int)):∀(L:List(Int×Int)),(∀x∈L,x∈K)→∀(s:St)(b:Bool)(T:List(Int×Int)),(∀x∈T,0≤x.2∧(x.2=0∨∃y∈s.A,y.dest=x.1∧x.2≤y.seq))→
  fC(some(fr,p,K))L.length s {s with A:=(L.foldl(St.FU fr)(s.A,b,T)).1}∧∀x∈(L.foldl(St.FU fr)(s.A,b,T)).2.2,0≤x.2∧(x.2=0∨∃y∈(L.foldl(St.FU fr)(s.A,b,T)).1,y.dest=x.1∧x.2≤y.seq):=by
 intro L
 induction L with
 |nil=>exact fun _ s b T hT=>⟨.nil _ _,hT⟩
 |cons a L ih=>
  intro hK s b T hT;rw [List.foldl_cons,List.length_cons];have hK':∀x∈L,x∈K:=fun x hx=>hK x(List.mem_cons_of_mem _ hx);unfold St.FU;dsimp only;split
  ·rename_i hlb;have h1:fC(some(fr,p,K))1 s {s with A:=gm s.A fr a.1 a.2}:=.one(.tab(.mi fr p K rfl a(hK a List.mem_cons_self)));have hkeep:∀x:Int×Int,(x.2=0∨∃y∈s.A,y.dest=x.1∧x.2≤y.seq)→x.2=0∨∃y∈gm s.A fr a.1 a.2,y.dest=x.1∧x.2≤y.seq:=fun x hx=>by
    rcases hx with h|⟨y,hy,e,h⟩
    ·exact .inl h
    ·refine .inr⟨if y.dest=a.1 then bY fr a.2 y else y,List.mem_map.2⟨y,hy,rfl⟩,?_⟩;split
     ·exact⟨(dZ _ _ y).trans e,Int.le_trans h(M5 fr a.2 y)⟩
     ·exact⟨e,h⟩
   have h2:=ih hK' {s with A:=gm s.A fr a.1 a.2}true(if((aJ s.A a.1).any fun y=>decide(0<y.bB.length))then T++ [(a.1,dY(gm s.A fr a.1 a.2)a.1)]else T)(fun x hx=>by
    split at hx
    ·rcases List.mem_append.1 hx with h|h
     ·exact⟨(hT x h).1,hkeep x(hT x h).2⟩
     ·rw [List.mem_singleton]at h;subst h;refine⟨NN a.2 hlb,?_⟩;rcases K7(gm s.A fr a.1 a.2)a.1 with h|⟨y,k1,k2,k3,_⟩
      ·exact .inl h
      ·exact .inr⟨y,k1,k2,k3⟩
    ·exact⟨(hT x hx).1,hkeep x(hT x hx).2⟩)
   exact⟨(h1.trans h2.1).up(by omega),h2.2⟩
  ·have h2:=ih hK' s b T hT;exact⟨h2.1.up(by omega),h2.2⟩
theorem CY(s:St)(fr:Int)(p:ah)(L:List(Int×Int)):fC(some(fr,p,L))(L.length+2)s(s.gD fr L):=by
 unfold St.gD;dsimp only;obtain⟨h1,h2'⟩:=IR fr p L L(fun _ h=>h)s false [](fun x hx=>by cases hx);have h2:∀x∈(L.foldl(St.FU fr)(s.A,false,[])).2.2,x.2=0∨∃y∈(L.foldl(St.FU fr)(s.A,false,[])).1,y.dest=x.1∧x.2≤y.seq∧(0≤x.2∨x.2=y.seq):=fun x hx=>by
  obtain⟨k0,k⟩:=h2' x hx;rcases k with k|⟨y,k1,k2,k3⟩
  ·exact .inl k
  ·exact .inr⟨y,k1,k2,k3,.inl k0⟩
 split
 ·exact(h1.trans(uB _ _ _ _ h2)).up(by omega)
 ·exact(h1.trans((fe _ _ 7).trans(uB _ _ _ _ h2))).up(by omega)
structure Ot where
 a_:List(Bool×Int×Int)
 aZ:Bool
 aH:List(Int×ByteArray)
 aR:List(Int×ByteArray)
 aN:List Int
def St.ot(s:St):Ot:=⟨s.a_,s.aZ,s.aH,s.aR,s.aN⟩
def Ot.none:Ot:=⟨[],false,[],[],[]⟩
def Ot.idle(o:Ot):Bool:=o.a_.isEmpty&&!o.aZ&&o.aH.isEmpty&&o.aR.isEmpty&&o.aN.isEmpty
structure bi where
 addr:Int
 aY:List Int
 nd:Option St
 hrs:List Bool
 tears:Bool
 whole:Int
def bi.stop(s:bi):bi:={s with nd:=none,tears:=false,whole:=0}
def bi.write(s:bi)(o:Ot):bi×Bool:=
 if o.a_.isEmpty&&!o.aZ then(s,true)
 else if s.tears then({s with aY:=if o.aZ then s.aY else s.aY++(bn o.a_).take s.whole.toNat}.stop,false)
 else({s with aY:=(if o.aZ then []else s.aY)++bn o.a_},true)
def bi.zero:bi:=⟨0,[],none,[],false,0⟩
structure aK where
 now:Int
 S:List bi
 bG:List(Nat×Nat×ByteArray)
structure Ev where
 node:Int
 err:Int
 o:Ot
namespace aK
def at'(m:aK)(i:Nat):bi:=m.S.getD i bi.zero
def put(m:aK)(i:Nat)(s:bi):aK:={m with S:=m.S.set i s}
def eG(m:aK)(f:Nat×Nat×ByteArray):aK:={m with bG:=if 48<(m.bG++ [f]).length then(m.bG++ [f]).tail else m.bG++ [f]}
def heard(m:aK)(i:Nat)(t:Int):List Nat:=(List.range m.S.length).filter fun j=>(m.at' i).hrs.getD j false&&(decide(t=0)||decide(t=(m.at' j).addr))
def bR(m:aK)(i:Nat)(f:Int×ByteArray):aK:=(m.heard i f.1).foldl(fun m j=>m.eG(i,j,f.2))m
def iZ(φ:aK→Int×ByteArray→aK×List Ev)(m:aK)(i:Nat)(o:Ot):aK×List Ev:=
 if o.idle then(m,[])
 else if((m.at' i).write o).2 then o.aH.foldl(fun z f=>((φ z.1 f).1,z.2++(φ z.1 f).2))(m.put i((m.at' i).write o).1,[⟨i,0,o⟩])
 else(m.put i((m.at' i).write o).1,[⟨i,0,Ot.none⟩])
def m_(i:Nat)(m:aK)(f:Int×ByteArray):aK×List Ev:=(m.bR i f,[])
def Be(m:aK)(i:Nat)(o:Ot):aK×List Ev:=iZ(m_ i)m i o
def iO(i:Nat)(m:aK)(f:Int×ByteArray):aK×List Ev:=
 if m.heard i f.1≠ []∨f.1=0 then(m.bR i f,[])
 else match((m.bR i f).at' i).nd with
  |none=>(m.bR i f,[])
  |some s=>((m.bR i f).put i {(m.bR i f).at' i with nd:=some(s.brk m.now f.1)}).Be i(s.brk m.now f.1).ot
def did(m:aK)(i:Nat)(o:Ot):aK×List Ev:=iZ(iO i)m i o
def act(m:aK)(i:Nat)(s:St):aK×List Ev:=(m.put i {m.at' i with nd:=some s}).did i s.ot
def hear(m:aK)(i j:Nat)(b:ByteArray):aK×List Ev:=
 match(m.at' i).nd with
 |none=>(m,[])
 |some s=>m.act i(s.rcv m.now(m.at' j).addr(aF b))
def rP(z:aK×List Ev)(i:Nat):aK×List Ev:=
 match(z.1.at' i).nd with
 |none=>z
 |some s=>((z.1.act i(s.j6 z.1.now)).1,z.2++(z.1.act i(s.j6 z.1.now)).2)
def tick(m:aK)(n:Int):aK×List Ev:=
 if n<1∨n>60000 then(m,[])else(List.range m.S.length).foldl rP({m with now:=m.now+n},[])
def link(m:aK)(a b:Nat)(on:Bool):aK:=
 if a=b then m else
  let m:=m.put a {m.at' a with hrs:=(m.at' a).hrs.set b on}
  m.put b {m.at' b with hrs:=(m.at' b).hrs.set a on}
def send(m:aK)(a b:Nat)(t:ByteArray):aK×List Ev:=
 match(m.at' a).nd with
 |none=>(m,[])
 |some s=>
  if t.size>16 then(m,[⟨a,6,Ot.none⟩])
  else if(m.at' b).addr=s.me∨(m.at' b).addr=0 then(m,[⟨a,2,Ot.none⟩])
  else m.act a(s.snd m.now(m.at' b).addr t)
def JK(m:aK)(a:Nat):aK×List Ev:=m.act a(St.new(m.at' a).addr(m.at' a).aY m.now)
def has(m:aK)(i:Int):Bool:=decide(0≤i)&&decide(i<m.S.length)
def runs(m:aK)(i:Int):Bool:=m.has i&&(m.at' i.toNat).nd.isSome
end aK
structure Op where
 dS:Int
 a:Int
 b:Int
 n:Int
 on:Bool
 txt:ByteArray
namespace aK
def may(m:aK)(op:Op):Bool:=
 if op.dS=1 then m.has op.a&&m.has op.b
 else if op.dS=2∨op.dS=8 then m.runs op.a&&m.has op.b
 else if op.dS=9∨op.dS=10 then m.runs op.a
 else if op.dS=11 then m.has op.a&&!m.runs op.a
 else true
def flight(m:aK)(op:Op):aK×List Ev:=
 if op.a<0∨m.bG.length=0 then(m,[])
 else
  let k:=op.a.toNat%m.bG.length
  let f:=m.bG.getD k(0,0,⟨#[]⟩)
  if op.dS=4 then {m with bG:=m.bG.eraseIdx k}.hear f.2.1 f.1 f.2.2
  else if op.dS=5 then({m with bG:=m.bG.eraseIdx k},[])
  else if op.dS=6 then(m.eG f,[])
  else({m with bG:=m.bG.set k(f.1,f.2.1,f.2.2.extract 0(f.2.2.size - (min(max 0 op.n)f.2.2.size).toNat))},[])
def step(m:aK)(op:Op):aK×List Ev:=
 if !m.may op then(m,[⟨0,5,Ot.none⟩])
 else if op.dS=1 then(m.link op.a.toNat op.b.toNat op.on,[])
 else if op.dS=2 then m.send op.a.toNat op.b.toNat op.txt
 else if op.dS=3 then m.tick op.n
 else if op.dS=4∨op.dS=5∨op.dS=6∨op.dS=7 then m.flight op
 else if op.dS=8 then m.hear op.a.toNat op.b.toNat op.txt
 else if op.dS=9 then(m.put op.a.toNat(m.at' op.a.toNat).stop,[])
 else if op.dS=10 then(m.put op.a.toNat {m.at' op.a.toNat with tears:=true,whole:=max 0 op.n},[])
 else if op.dS=11 then m.JK op.a.toNat
 else(m,[])
def new(L:List Int):aK:=⟨0,L.map fun a=>⟨a,bn(St.new a []0).a_,some(St.new a []0),List.replicate 6 false,false,0⟩,[]⟩
def tab(m:aK)(i:Nat):List Rt:=match(m.at' i).nd with|none=> []|some s=>s.A
end aK
end Go.Proofs.YtakaadcpaeiccabGreat
