import Derived.Test.YtakaadcpaeiccabGreatC24
set_option maxHeartbeats 1000000
namespace Go.Proofs.YtakaadcpaeiccabGreat
variable{d h q:Int}{A:List Rt}{k n:Nat}{s s':St}
abbrev sF:=Option (Int×aF×List (Int×Int))
def sD(x:Option Rt)(q h:Int):Prop:=∃y,x=some y∧(q<rk y∨(rk y=q∧y.hops<=h))
inductive U2(me now:Int)(c:sF)(A:List Rt):List Rt->Prop
 |VX (fr:Int) (p:aF) (L:List (Int×Int)) (e:Int) (hc:c=some (fr,p,L)) (hk:p.kind=1):U2 me now c A (iW me A p.aK p.dx (St.far p.hops) fr e).1
 |VW (fr:Int) (p:aF) (L:List (Int×Int)) (e:Int) (hc:c=some (fr,p,L)) (hk:p.kind=2):U2 me now c A (iW me A p.dest p.a_ (St.far p.hops) fr e).1
 |use (d e:Int):U2 me now c A (iP A d e)
 |bH (d n:Int):U2 me now c A (lX A d n)
 |lose (fr:Int) (p:aF) (L:List (Int×Int)) (hc:c=some (fr,p,L)) (x:Int×Int) (hx:x∈L):U2 me now c A (gN A fr x.1 x.2)
 |brk (d_:Int):U2 me now c A (A.map (bY d_ 0))
 |grow (d:Int) (h:∀y,aJ A d=some y->y.valid=false):U2 me now c A (g_ A d St.qi)
def Just(c:sF)(s:St)(p:aF)(L:List (Int×Int)):Prop:=
 (p.kind=1∧p.aK=s.me∧p.hops=0∧1<=p.ttl∧p.ttl<=8∧p.dx=s.seq∧p.a_=eF s.A p.dest)∨
 (∃fr q K,c=some (fr,q,K)∧q.kind=1∧p.kind=1∧p.aK=q.aK∧p.dx=q.dx∧p.hops=St.far q.hops∧p.ttl=q.ttl - 1∧q.ttl≠1∧p.aK≠s.me∧(p.a_=q.a_∨p.a_=eF s.A p.dest)∧(p.aK≠0->sD (aJ s.A p.aK) p.dx p.hops))∨
 (p.kind=2∧p.dest=s.me∧p.hops=0∧p.ttl=8∧p.a_=s.seq)∨
 (p.kind=2∧p.ttl=8∧∃y,aJ s.A p.dest=some y∧y.valid=true∧p.a_=y.seq∧p.hops=y.hops)∨
 (∃fr q K,c=some (fr,q,K)∧q.kind=2∧p.kind=2∧p.dest=q.dest∧p.a_=q.a_∧p.hops=St.far q.hops∧p.ttl=q.ttl - 1∧q.ttl≠1∧p.dest≠s.me∧(p.dest≠0->sD (aJ s.A p.dest) p.a_ p.hops))∨
 (p.kind=3∧∀x∈L,x.2=0∨∃y∈s.A,y.dest=x.1∧x.2<=y.seq∧(0<=x.2∨x.2=y.seq))∨
 p.kind=9
structure aej(s s':St):Prop where
 me:s'.me=s.me
 seq:s'.seq=s.seq
 A:s'.A=s.A
 f:s'.f=s.f
 own:s'.own=s.own
 cnt:s'.cnt=s.cnt
 bA:s'.bA=s.bA
 bC:s'.bC=s.bC
 aL:s'.aL=s.aL
 now:s'.now=s.now
inductive Pr(c:sF)(s:St):St->Prop
 |yI {s':St} (h:aej s s'):Pr c s s'
 |tab {A:List Rt} (h:U2 s.me s.now c s.A A):Pr c s {s with A:=A}
 |aK (t:Int) (p:aF) (L:List (Int×Int)) (h:Just c s p L) (hz:L=[]∨L.length=p.ln):Pr c s (s.send t p L)
 |grw:Pr c s {s with seq:=gr s.seq}
 |mx (fr:Int) (p:aF) (L:List (Int×Int)) (hc:c=some (fr,p,L)):Pr c s {s with seq:=max s.seq p.a_}
 |wr:Pr c s s.write
inductive fQ(c:sF):Nat->St->St->Prop
 |nil (n:Nat) (s:St):fQ c n s s
 |snoc {n:Nat} {s s1 s2:St} (h:fQ c n s s1) (k:Pr c s1 s2):fQ c (n+1) s s2
theorem fQ.up{c:sF}(h:fQ c n s s')(hk:n<=k):fQ c k s s':=by
 induction h generalizing k with
 |nil n s=>exact .nil _ _
 |snoc h1 h2 ih=>
  obtain⟨j,rfl⟩:∃j,k=j+1:=⟨k - 1,by omega⟩;exact .snoc (ih (by omega)) h2
theorem fQ.trans{c:sF}{s1 s2:St}(h:fQ c n s s1)(g:fQ c k s1 s2):fQ c (n+k) s s2:=by
 induction g with
 |nil k s=>exact h.up (by omega)
 |snoc g1 g2 ih=>exact .snoc (ih h) g2
theorem fQ.one{c:sF}(h:Pr c s s'):fQ c 1 s s':=.snoc (.nil 0 s) h
theorem fQ.yI{c:sF}(h:aej s s'):fQ c 1 s s':=.one (.yI h)
theorem fQ.me{c:sF}(h:fQ c n s s'):s'.me=s.me:=by
 induction h with
 |nil=>rfl
 |snoc _ k ih=>
  rw[<-ih];cases k with
  |yI h=>exact h.me
  |_=>rfl
theorem fQ.now{c:sF}(h:fQ c n s s'):s'.now=s.now:=by
 induction h with
 |nil=>rfl
 |snoc _ k ih=>
  rw[<-ih];cases k with
  |yI h=>exact h.now
  |_=>rfl
theorem fJ(c:sF)(s:St)(r:Int):fQ c 1 s (s.drop r):=.yI ⟨rfl,rfl,rfl,rfl,rfl,rfl,rfl,rfl,rfl,rfl⟩
theorem u_(c:sF)(s:St)(t:Int)(L:List (Int×Int))(h:∀x∈L,x.2=0∨∃y∈s.A,y.dest=x.1∧x.2<=y.seq∧(0<=x.2∨x.2=y.seq)):fQ c 1 s (s.lose t L):=by
 unfold St.lose Qr;split
 ·exact .yI ⟨rfl,rfl,rfl,rfl,rfl,rfl,rfl,rfl,by simp,rfl⟩
 ·exact .one (.aK t (lsP L.length) L (.inr (.inr (.inr (.inr (.inr (.inl ⟨rfl,h⟩)))))) (.inr rfl))
theorem Mk(A:List Rt)(d:Int):eF A d=0∨∃y∈A,y.dest=d∧eF A d<=y.seq∧(0<=eF A d∨eF A d=y.seq):=by
 unfold eF;cases h:aJ A d with
 |none=>exact .inl rfl
 |some y=>exact .inr ⟨y,(bR h).1,(bR h).2,eY _,.inr rfl⟩
theorem xR(c:sF)(s:St)(t d:Int):fQ c 1 s (s.lI t d):=u_ c s t _ λx hx=>by
 rw[eZ]at hx;subst hx;exact Mk s.A d
theorem pI(c:sF)(s:St)(d:Int)(t:ByteArray):fQ c 3 s (s.bg d t):=by
 unfold St.bg;split
 ·refine fQ.snoc (fQ.snoc (fQ.yI (s':={s with fq:=(s.fq+1)%4294967296}) ⟨rfl,rfl,rfl,rfl,rfl,rfl,rfl,rfl,rfl,rfl⟩) (.tab (.use d (s.now+3000)))) (.aK _ _ [] ?_ (.inl rfl));exact .inr (.inr (.inr (.inr (.inr (.inr rfl)))))
 ·exact .nil _ _
theorem Oe(c:sF)(d:Int)(l:List ByteArray)(s:St):fQ c (3 * l.length) s (l.foldl (λs t=>s.bg d t) s):=by
 induction l generalizing s with
 |nil=>exact .nil _ _
 |cons a l ih=>
  rw[gH,dU];exact((pI c s d a).trans (ih _)).up (by omega)
theorem xQ(c:sF)(s:St)(d:Int)(h4:∀q∈s.Q,q.txt.length<=4):fQ c 13 s (s.sendAll d):=by
 unfold St.sendAll;cases hq:St.j_ s.Q d with
 |none=>exact .nil _ _
 |some q=>
  dsimp only;split
  ·have:=h4 q (jh hq).1;have h1:=Oe c d q.txt s;refine fQ.up (fQ.snoc h1 (.yI ?_)) (by omega);exact⟨rfl,rfl,rfl,rfl,rfl,rfl,rfl,rfl,rfl,rfl⟩
  ·exact .nil _ _
theorem Gm(c:sF)(s:St)(d ttl:Int)(ht:1<=ttl∧ttl<=8):fQ c 5 s (s.request d ttl):=by
 unfold St.request;refine fQ.snoc (fQ.snoc (fQ.snoc (fQ.snoc (fQ.yI (s':={s with dB:=(s.dB+1)%4294967296}) ⟨rfl,rfl,rfl,rfl,rfl,rfl,rfl,rfl,rfl,rfl⟩) .grw) .wr) (.yI ?_)) (.aK 0 _ [] ?_ (.inl rfl))
 ·exact⟨rfl,rfl,rfl,rfl,rfl,rfl,rfl,rfl,rfl,rfl⟩
 ·exact .inl ⟨rfl,rfl,rfl,ht.1,ht.2,rfl,rfl⟩
theorem ve(c:sF)(s:St)(q:Sr)(ht:1<=q.ttl∧q.ttl<=8):fQ c 6 s (s.ask q):=by
 unfold St.ask;split
 ·exact fQ.up (n:=1) (.yI ⟨rfl,rfl,rfl,rfl,rfl,rfl,rfl,rfl,rfl,rfl⟩) (by decide)
 ·split
  ·exact fQ.up (n:=1) (.yI ⟨rfl,rfl,rfl,rfl,rfl,rfl,rfl,rfl,rfl,rfl⟩) (by decide)
  ·exact fQ.snoc (Gm c s q.dest q.ttl ht) (.yI ⟨rfl,rfl,rfl,rfl,rfl,rfl,rfl,rfl,rfl,rfl⟩)
theorem Od(c:sF)(s:St)(q:Sr)(ht:1<=q.ttl∧q.ttl<=8):fQ c 6 s (s.widen q):=by
 unfold St.widen;split
 ·exact ve c s _ (by dsimp only;omega)
 ·split
  ·exact ve c s _ (by dsimp only;omega)
  ·split
   ·exact ve c s _ ht
   ·exact fQ.up (n:=1) (.yI ⟨rfl,rfl,rfl,rfl,rfl,rfl,rfl,rfl,rfl,rfl⟩) (by decide)
theorem Rw(c:sF)(s:St)(q:Sr)(ht:1<=q.ttl∧q.ttl<=8)(h4:∀q∈s.Q,q.txt.length<=4):fQ c 13 s (s.step q):=by
 unfold St.step;split
 ·exact xQ c s q.dest h4
 ·split
  ·exact(Od c s q ht).up (by omega)
  ·exact(ve c s q ht).up (by omega)
theorem CR(c:sF)(s:St)(d:Int)(t:ByteArray):fQ c 7 s (s.await d t):=by
 unfold St.await;cases hq:St.j_ s.Q d with
 |some q=>
  dsimp only;refine(fQ.yI ?_).up (by omega);unfold St.hold;split<;>exact⟨rfl,rfl,rfl,rfl,rfl,rfl,rfl,rfl,rfl,rfl⟩
 |none=>
  exact fQ.up (n:=1+6) (fQ.trans (.yI (s':={s with Q:=s.Q++ [St.iQ d t]}) ⟨rfl,rfl,rfl,rfl,rfl,rfl,rfl,rfl,rfl,rfl⟩) (ve c _ (St.iQ d t) (by show(1:Int)<=1∧(1:Int)<=8;omega))) (by decide)
theorem Gc(f:Rt->Rt)(hd:∀y,(f y).dest=y.dest)(hr:∀y,y.dest=d->rk (f y)=rk y∧(f y).hops=y.hops)(x:sD (aJ A d) q h):sD (aJ (A.map f) d) q h:=by
 obtain⟨y,hy,h1⟩:=x;obtain⟨_,lm⟩:=bR hy;refine⟨f y,?_,?_⟩
 ·unfold aJ at hy ⊢;rw[List.find?_map];have:((λx:Rt=>x.dest==d)∘ f)=λx=>x.dest==d:=by
   funext z
   simp[hd]
  rw[this,hy];rfl
 ·obtain⟨e1,e2⟩:=hr y lm;rw[e1,e2];exact h1
theorem Gb(d' e:Int)(x:sD (aJ A d) q h):sD (aJ (iP A d' e) d) q h:=by
 refine Gc _ (λy=> ?_) (λy _=> ?_) x
 ·split
  ·exact mE e y
  ·rfl
 ·split
  ·unfold tJ;split
   ·exact⟨rfl,rfl⟩
   ·exact⟨rfl,rfl⟩
  ·exact⟨rfl,rfl⟩
theorem Gd(d' n:Int)(x:sD (aJ A d) q h):sD (aJ (lX A d' n) d) q h:=by
 refine Gc _ (λy=> ?_) (λy _=> ?_) x
 ·split
  ·exact lu n y
  ·rfl
 ·split
  ·unfold rJ;split
   ·exact⟨rfl,rfl⟩
   ·exact⟨rfl,rfl⟩
  ·exact⟨rfl,rfl⟩
theorem G8(A:List Rt)(x:Rt)(h:aJ A x.dest=none):aJ (ul A x) x.dest=some x:=by
 unfold ul aJ;rw[List.find?_append];have h1:(A.take (pos A x.dest)).find? (λz=>z.dest==x.dest)=none:=by
  rw[List.find?_eq_none];intro z hz;have:=(iw.1 h) z (List.mem_of_mem_take hz);simpa using this
 rw[h1];simp
theorem zS{me:Int}{n e:Int}(hd:d≠me)(h0:d≠0)(h4:(iW me A d q h n e).2≠4):sD (aJ (iW me A d q h n e).1 d) q h:=by
 unfold iW at h4 ⊢;rw[aM (by simp[hd,h0])]at h4 ⊢;cases hl:aJ A d with
 |none=>
  rw[hl]at h4;dsimp only at h4 ⊢;split at h4
  ·exact absurd rfl h4
  ·rename_i h8;rw[aM h8];exact⟨newR d q h n e,G8 A (newR d q h n e) hl,.inr ⟨rfl,eY _⟩⟩
 |some x=>
  dsimp only;obtain⟨hx,hxd⟩:=bR hl;split
  ·refine⟨zx q h n e x,?_,.inr ⟨rfl,eY _⟩⟩;unfold g_ aJ;rw[List.find?_map];have:((λx:Rt=>x.dest==d)∘ λx=>if x.dest=d then zx q h n e x else x)=λx=>x.dest==d:=by
    funext z
    by_cases e:z.dest=d<;>simp[e,zx]
   rw[this,show List.find? (λx=>x.dest==d) A=some x from hl];simp[hxd]
  ·rename_i hg;refine⟨x,hl,?_⟩;have h2:=Yg (newR d q h n e) x;have h3:VP (newR d q h n e) x=false:=by simpa using hg
   rw[h3]at h2;have e1:rk (newR d q h n e)=q:=rfl;rw[e1]at h2;simp only[Bool.not_false,Bool.true_eq,Bool.or_eq_true,fF,jg]at h2;rcases h2 with h2|⟨h2,h3⟩
   ·exact .inl h2
   ·exact .inr ⟨h2.symm,h3⟩
theorem zZ(c:sF)(s:St)(p:aF)(hp:(p.dest=s.me∧p.hops=0∧p.a_=s.seq)∨∃y,aJ s.A p.dest=some y∧y.valid=true∧p.a_=y.seq∧p.hops=y.hops):fQ c 1 s (s.answer p):=by
 unfold St.answer;split
 ·refine .one (.aK _ _ [] ?_ (.inl rfl));rcases hp with⟨h1,h2,h3⟩|h
  ·exact .inr (.inr (.inl ⟨rfl,h1,h2,rfl,h3⟩))
  ·exact .inr (.inr (.inr (.inl ⟨rfl,rfl,h⟩)))
 ·exact fJ c s 3
theorem Ku{now:Int}(h:(bN A d now).2=true):aJ A d=some (bN A d now).1∧(bN A d now).1.valid=true:=by
 unfold bN at h ⊢;cases hl:aJ A d with
 |none=>rw[hl]at h;cases h
 |some x=>
  rw[hl]at h;dsimp only at h ⊢;split at h
  ·rename_i hv;rw[aQ hv];simp only[fF]at hv;exact⟨rfl,hv.1⟩
  ·cases h
theorem pQ{f:Rt->Rt}(hd:∀y,(f y).dest=y.dest){y:Rt}(h:aJ A d=some y):aJ (A.map f) d=some (f y):=by
 unfold aJ at h ⊢;rw[List.find?_map];have:((λx:Rt=>x.dest==d)∘ f)=λx=>x.dest==d:=by
  funext z
  simp[hd]
 rw[this,h];rfl
theorem G7{d' n:Int}{y:Rt}(h:aJ A d=some y):∃z,aJ (lX A d' n) d=some z∧z.valid=y.valid∧z.seq=y.seq∧z.hops=y.hops:=by
 refine⟨_,pQ (f:=λx=>if x.dest=d' then rJ n x else x) (λy=> ?_) h,?_⟩
 ·split
  ·exact lu n y
  ·rfl
 ·split
  ·unfold rJ;split<;>exact⟨rfl,rfl,rfl⟩
  ·exact⟨rfl,rfl,rfl⟩
theorem CU(s:St)(fr:Int)(p:aF)(L:List (Int×Int))(hk:p.kind=1)(hme:p.aK≠s.me)(hr:p.aK≠0->sD (aJ s.A p.aK) p.dx (St.far p.hops)):fQ (some (fr,p,L)) 3 s (s.asked p):=by
 unfold St.asked;split
 ·unfold St.ja;exact((fQ.one (.mx fr p L rfl)).trans (zZ _ _ _ (.inl ⟨rfl,rfl,rfl⟩))).up (by omega)
 ·split
  ·rename_i hf;simp only[fF]at hf;obtain⟨h1,h2⟩:=Ku hf.1;unfold St.iC;have hb:∃z,aJ (if (bN s.A p.aK s.now).2 then lX s.A p.dest (bN s.A p.aK s.now).1.next else s.A) p.dest=some z∧z.valid=true∧z.seq=(bN s.A p.dest s.now).1.seq∧z.hops=(bN s.A p.dest s.now).1.hops:=by
    split
    ·obtain⟨z,e1,e2,e3,e4⟩:=G7 (d':=p.dest) (n:=(bN s.A p.aK s.now).1.next) h1;exact⟨z,e1,e2.trans h2,e3,e4⟩
    ·exact⟨_,h1,h2,rfl,rfl⟩
   have hs1:fQ (some (fr,p,L)) 1 s {s with A:=if (bN s.A p.aK s.now).2 then lX s.A p.dest (bN s.A p.aK s.now).1.next else s.A}:=by
    split
    ·exact .one (.tab (.bH _ _))
    ·exact .nil _ _
   obtain⟨z,e1,e2,e3,e4⟩:=hb;obtain⟨u,k1,k2,k3,k4⟩:=G7 (d':=p.aK) (n:=(bN s.A p.dest s.now).1.next) e1;refine fQ.up (n:=1+1+1) ((hs1.snoc (.tab (.bH _ _))).trans (zZ _ _ _ (.inr ⟨u,k1,k2.trans e2,?_,?_⟩))) (by decide)
   ·exact(k3.trans e3).symm
   ·exact(k4.trans e4).symm
  ·split
   ·exact(fJ _ _ _).up (by omega)
   ·rename_i ht;unfold St.askOn;refine fQ.up (n:=1) (.one (.aK 0 {p with ttl:=p.ttl - 1,hops:=St.far p.hops,a_:=if (aJ s.A p.dest).isSome then max p.a_ (eF s.A p.dest)else p.a_,unk:=if (aJ s.A p.dest).isSome then false else p.unk} [] (.inr (.inl ⟨fr,p,L,rfl,hk,hk,rfl,rfl,rfl,rfl,ht,hme,?_,hr⟩)) (.inl rfl))) (by decide);dsimp only;split
    ·rcases Int.le_total p.a_ (eF s.A p.dest)with h|h
     ·exact .inr (Int.max_eq_right h)
     ·exact .inl (Int.max_eq_left h)
    ·exact .inl rfl
theorem yG(s:St)(fr:Int)(p:aF)(L:List (Int×Int))(hk:p.kind=1):fQ (some (fr,p,L)) 7 s (s.dJ fr p):=by
 unfold St.dJ;split
 ·exact(fJ _ _ _).up (by omega)
 ·rename_i hn;simp only[not_or]at hn;obtain⟨hme,_⟩:=hn;refine fQ.up (n:=1+6) (fQ.trans (.yI (s':={s with mem:=dW s.mem (p.aK,p.id) (s.now+1280) s.tn,tn:=s.tn+1}) ⟨rfl,rfl,rfl,rfl,rfl,rfl,rfl,rfl,rfl,rfl⟩) ?_) (by decide);unfold St.learn;have hup:fQ (some (fr,p,L)) 1 ({s with mem:=dW s.mem (p.aK,p.id) (s.now+1280) s.tn,tn:=s.tn+1}:St) {s with mem:=dW s.mem (p.aK,p.id) (s.now+1280) s.tn,tn:=s.tn+1,A:=(iW s.me s.A p.aK p.dx (St.far p.hops) fr (s.now+3000)).1}:=.one (.tab (.VX fr p L (s.now+3000) rfl hk));split
  ·exact(hup.trans (fJ _ _ 2)).up (by omega)
  ·rename_i h4;have hr:p.aK≠0->sD (aJ (iW s.me s.A p.aK p.dx (St.far p.hops) fr (s.now+3000)).1 p.aK) p.dx (St.far p.hops):=λh0=>zS hme h0 h4;split
   ·refine((hup.snoc (.tab (.use p.aK (s.now+3000)))).trans (CU _ fr p L hk hme λh0=>Gb _ _ (hr h0))).up (by omega)
   ·exact(hup.trans (CU _ fr p L hk hme hr)).up (by omega)
theorem BS(s:St)(fr:Int)(p:aF)(L:List (Int×Int))(hk:p.kind=2)(h4:∀q∈s.Q,q.txt.length<=4):fQ (some (fr,p,L)) 15 s (s.fE fr p):=by
 unfold St.fE;split
 ·exact(fJ _ _ _).up (by omega)
 ·rename_i hme;dsimp only;have hup:fQ (some (fr,p,L)) 1 s {s with A:=(iW s.me s.A p.dest p.a_ (St.far p.hops) fr (s.now+p.life)).1}:=.one (.tab (.VW fr p L (s.now+p.life) rfl hk));split
  ·exact(hup.trans (fJ _ _ 2)).up (by omega)
  ·rename_i h5;have hr:p.dest≠0->sD (aJ (iW s.me s.A p.dest p.a_ (St.far p.hops) fr (s.now+p.life)).1 p.dest) p.a_ (St.far p.hops):=λh0=>zS hme h0 h5;split
   ·have ha:=hup.trans (xQ (some (fr,p,L)) _ p.dest h4);split
    ·exact fQ.up (n:=1+13+1) (ha.trans (fJ _ _ 7)) (by decide)
    ·exact ha.up (by omega)
   ·split
    ·exact(hup.trans (fJ _ _ 4)).up (by omega)
    ·rename_i ht;refine fQ.up (n:=1+4) (hup.trans ?_) (by decide);unfold St.iM;split
     ·refine fQ.snoc (fQ.snoc (fQ.snoc (fQ.one (.tab (.bH _ _))) (.tab (.bH _ _))) (.tab (.use _ _))) (.aK _ _ [] ?_ (.inl rfl));exact .inr (.inr (.inr (.inr (.inl ⟨fr,p,L,rfl,hk,hk,rfl,rfl,rfl,rfl,ht,hme,λh0=>Gb _ _ (Gd _ _ (Gd _ _ (hr h0)))⟩))))
     ·exact(fJ _ _ 3).up (by omega)
theorem D_(s:St)(fr:Int)(p:aF)(L:List (Int×Int))(hk:p.kind=9)(hx:∀y∈s.A,y.valid=true->s.now<y.exp):fQ (some (fr,p,L)) 3 s (s.fO fr p):=by
 unfold St.fO;split
 ·exact fQ.up (n:=1) (.yI ⟨rfl,rfl,rfl,rfl,rfl,rfl,rfl,rfl,rfl,rfl⟩) (by decide)
 ·split
  ·exact(fJ _ _ _).up (by omega)
  ·split
   ·exact fQ.snoc (fQ.snoc (fQ.one (.tab (.use _ _))) (.tab (.use _ _))) (.aK _ _ [] (.inr (.inr (.inr (.inr (.inr (.inr hk)))))) (.inl rfl))
   ·rename_i hf;refine fQ.trans (n:=2) (k:=1) ?_ (xR _ _ _ _);refine fQ.snoc (fJ _ s 3) (.tab (.grow p.dest ?_));intro y hy;have hy':aJ s.A p.dest=some y:=hy;cases hv:y.valid with
    |false=>rfl
    |true=>
     exfalso;apply hf;unfold bN;rw[hy'];dsimp only;have:=hx y (bR hy').1 hv;rw[hv,aQ (by simpa using this)]
theorem zY(c:sF)(s:St)(fr:Int)(p:aF):fQ c 3 s (s.eP fr p):=by
 unfold St.eP;split
 ·refine fQ.trans (n:=1) (k:=2) (fJ _ s 8) ?_;exact fQ.snoc (xR _ _ _ _) (.yI ⟨rfl,rfl,rfl,rfl,rfl,rfl,rfl,rfl,rfl,rfl⟩)
 ·exact(fJ _ _ _).up (by omega)
theorem NZ(fr q:Int)(y:Rt):y.seq<=(bY fr q y).seq:=by
 unfold bY;split
 ·show y.seq<=max (gr y.seq) q;have:y.seq<=gr y.seq:=by unfold gr;omega
  omega
 ·exact eY _
theorem OD{fr:Int}(q:Int)(h:mX A fr d=true):0<=eF (gN A fr d q) d:=by
 unfold mX at h;cases hl:aJ A d with
 |none=>rw[hl]at h;cases h
 |some y=>
  rw[hl]at h;have hv:(y.valid&&(y.next==fr))=true:=h;have h1:=pQ (f:=λx=>if x.dest=d then bY fr q x else x) (λy=>by split;exact eG fr q y;rfl) hl;unfold eF gN g_;rw[h1,aQ (bR hl).2];show 0<=(bY fr q y).seq;unfold bY;rw[aQ hv];show 0<=max (gr y.seq) q;have:0<=gr y.seq:=by unfold gr;omega
  omega
theorem JP(fr:Int)(p:aF)(K:List (Int×Int)):∀(L:List (Int×Int)),(∀x∈L,x∈K)->∀(s:St) (b:Bool) (T:List (Int×Int)),(∀x∈T,0<=x.2∧(x.2=0∨∃y∈s.A,y.dest=x.1∧x.2<=y.seq))->
  fQ (some (fr,p,K)) L.length s {s with A:=(L.foldl (St.GX fr) (s.A,b,T)).1}∧∀x∈(L.foldl (St.GX fr) (s.A,b,T)).2.2,0<=x.2∧(x.2=0∨∃y∈(L.foldl (St.GX fr) (s.A,b,T)).1,y.dest=x.1∧x.2<=y.seq):=by
 intro L
 induction L with
 |nil=>exact λ_ s b T hT=>⟨.nil _ _,hT⟩
 |cons a L ih=>
  intro hK s b T hT;rw[gH,dU];have hK':∀x∈L,x∈K:=λx hx=>hK x (jR _ hx);unfold St.GX;dsimp only;split
  ·rename_i hlb;have h1:fQ (some (fr,p,K)) 1 s {s with A:=gN s.A fr a.1 a.2}:=.one (.tab (.lose fr p K rfl a (hK a iJ)));have hkeep:∀x:Int×Int,(x.2=0∨∃y∈s.A,y.dest=x.1∧x.2<=y.seq)->x.2=0∨∃y∈gN s.A fr a.1 a.2,y.dest=x.1∧x.2<=y.seq:=λx hx=>by
    rcases hx with h|⟨y,hy,e,h⟩
    ·exact .inl h
    ·refine .inr ⟨if y.dest=a.1 then bY fr a.2 y else y,di.2 ⟨y,hy,rfl⟩,?_⟩;split
     ·exact⟨(eG _ _ y).trans e,Int.le_trans h (NZ fr a.2 y)⟩
     ·exact⟨e,h⟩
   have h2:=ih hK' {s with A:=gN s.A fr a.1 a.2} true (if ((aJ s.A a.1).any λy=>decide (0<y.bH.length))then T++ [(a.1,eF (gN s.A fr a.1 a.2) a.1)]else T) (λx hx=>by
    split at hx
    ·rcases eu.1 hx with h|h
     ·exact⟨(hT x h).1,hkeep x (hT x h).2⟩
     ·rw[eZ]at h;subst h;refine⟨OD a.2 hlb,?_⟩;rcases Mk (gN s.A fr a.1 a.2) a.1 with h|⟨y,k1,k2,k3,_⟩
      ·exact .inl h
      ·exact .inr ⟨y,k1,k2,k3⟩
    ·exact⟨(hT x hx).1,hkeep x (hT x hx).2⟩)
   exact⟨(h1.trans h2.1).up (by omega),h2.2⟩
  ·have h2:=ih hK' s b T hT;exact⟨h2.1.up (by omega),h2.2⟩
theorem D9(s:St)(fr:Int)(p:aF)(L:List (Int×Int)):fQ (some (fr,p,L)) (L.length+2) s (s.gW fr L):=by
 unfold St.gW;dsimp only;obtain⟨h1,h2'⟩:=JP fr p L L (λ_ h=>h) s false [] (λx hx=>by cases hx);have h2:∀x∈(L.foldl (St.GX fr) (s.A,false,[])).2.2,x.2=0∨∃y∈(L.foldl (St.GX fr) (s.A,false,[])).1,y.dest=x.1∧x.2<=y.seq∧(0<=x.2∨x.2=y.seq):=λx hx=>by
  obtain⟨k0,k⟩:=h2' x hx;rcases k with k|⟨y,k1,k2,k3⟩
  ·exact .inl k
  ·exact .inr ⟨y,k1,k2,k3,.inl k0⟩
 split
 ·exact(h1.trans (u_ _ _ _ _ h2)).up (by omega)
 ·exact(h1.trans ((fJ _ _ 7).trans (u_ _ _ _ _ h2))).up (by omega)
structure Ot where
 bA:List (Bool×Int×Int)
 bC:Bool
 aL:List (Int×ByteArray)
 aY:List (Int×ByteArray)
 aT:List Int
def St.ot(s:St):Ot:=⟨s.bA,s.bC,s.aL,s.aY,s.aT⟩
def Ot.none:Ot:=⟨[],false,[],[],[]⟩
def Ot.idle(o:Ot):Bool:=o.bA.isEmpty&&!o.bC&&o.aL.isEmpty&&o.aY.isEmpty&&o.aT.isEmpty
structure bJ where
 addr:Int
 bn:List Int
 nd:Option St
 hrs:List Bool
 tears:Bool
 whole:Int
def bJ.stop(s:bJ):bJ:={s with nd:=none,tears:=false,whole:=0}
def bJ.write(s:bJ)(o:Ot):bJ×Bool:=
 if o.bA.isEmpty&&!o.bC then(s,true)
 else if s.tears then({s with bn:=if o.bC then s.bn else s.bn++(bE o.bA).take s.whole.toNat}.stop,false)
 else({s with bn:=(if o.bC then []else s.bn)++bE o.bA},true)
def bJ.zero:bJ:=⟨0,[],none,[],false,0⟩
structure aS where
 now:Int
 S:List bJ
 bO:List (Nat×Nat×ByteArray)
structure Ev where
 node:Int
 err:Int
 o:Ot
namespace aS
def at'(m:aS)(i:Nat):bJ:=m.S.getD i bJ.zero
def put(m:aS)(i:Nat)(s:bJ):aS:={m with S:=m.S.set i s}
def launch(m:aS)(f:Nat×Nat×ByteArray):aS:={m with bO:=if 48<(m.bO++ [f]).length then(m.bO++ [f]).tail else m.bO++ [f]}
def heard(m:aS)(i:Nat)(t:Int):List Nat:=(List.range m.S.length).filter λj=>(m.at' i).hrs.getD j false&&(decide (t=0)||decide (t=(m.at' j).addr))
def bU(m:aS)(i:Nat)(f:Int×ByteArray):aS:=(m.heard i f.1).foldl (λm j=>m.launch (i,j,f.2)) m
def jH(φ:aS->Int×ByteArray->aS×List Ev)(m:aS)(i:Nat)(o:Ot):aS×List Ev:=
 if o.idle then(m,[])
 else if ((m.at' i).write o).2 then o.aL.foldl (λz f=>((φ z.1 f).1,z.2++(φ z.1 f).2)) (m.put i ((m.at' i).write o).1,[⟨i,0,o⟩])
 else(m.put i ((m.at' i).write o).1,[⟨i,0,Ot.none⟩])
def nX(i:Nat)(m:aS)(f:Int×ByteArray):aS×List Ev:=(m.bU i f,[])
def Ch(m:aS)(i:Nat)(o:Ot):aS×List Ev:=jH (nX i) m i o
def jo(i:Nat)(m:aS)(f:Int×ByteArray):aS×List Ev:=
 if m.heard i f.1≠ []∨f.1=0 then(m.bU i f,[])
 else match ((m.bU i f).at' i).nd with
  |none=>(m.bU i f,[])
  |some s=>((m.bU i f).put i {(m.bU i f).at' i with nd:=some (s.brk m.now f.1)}).Ch i (s.brk m.now f.1).ot
def did(m:aS)(i:Nat)(o:Ot):aS×List Ev:=jH (jo i) m i o
def act(m:aS)(i:Nat)(s:St):aS×List Ev:=(m.put i {m.at' i with nd:=some s}).did i s.ot
def hear(m:aS)(i j:Nat)(b:ByteArray):aS×List Ev:=
 match (m.at' i).nd with
 |none=>(m,[])
 |some s=>m.act i (s.rcv m.now (m.at' j).addr (aI b))
def sH(z:aS×List Ev)(i:Nat):aS×List Ev:=
 match (z.1.at' i).nd with
 |none=>z
 |some s=>((z.1.act i (s.kU z.1.now)).1,z.2++(z.1.act i (s.kU z.1.now)).2)
def tick(m:aS)(n:Int):aS×List Ev:=
 if n<1∨n>60000 then(m,[])else(List.range m.S.length).foldl sH ({m with now:=m.now+n},[])
def link(m:aS)(a b:Nat)(on:Bool):aS:=
 if a=b then m else
  let m:=m.put a {m.at' a with hrs:=(m.at' a).hrs.set b on}
  m.put b {m.at' b with hrs:=(m.at' b).hrs.set a on}
def send(m:aS)(a b:Nat)(t:ByteArray):aS×List Ev:=
 match (m.at' a).nd with
 |none=>(m,[])
 |some s=>
  if t.size>16 then(m,[⟨a,6,Ot.none⟩])
  else if (m.at' b).addr=s.me∨(m.at' b).addr=0 then(m,[⟨a,2,Ot.none⟩])
  else m.act a (s.snd m.now (m.at' b).addr t)
def KE(m:aS)(a:Nat):aS×List Ev:=m.act a (St.new (m.at' a).addr (m.at' a).bn m.now)
def has(m:aS)(i:Int):Bool:=decide (0<=i)&&decide (i<m.S.length)
def runs(m:aS)(i:Int):Bool:=m.has i&&(m.at' i.toNat).nd.isSome
end aS
structure Op where
 dX:Int
 a:Int
 b:Int
 n:Int
 on:Bool
 txt:ByteArray
namespace aS
def may(m:aS)(op:Op):Bool:=
 if op.dX=1 then m.has op.a&&m.has op.b
 else if op.dX=2∨op.dX=8 then m.runs op.a&&m.has op.b
 else if op.dX=9∨op.dX=10 then m.runs op.a
 else if op.dX=11 then m.has op.a&&!m.runs op.a
 else true
def flight(m:aS)(op:Op):aS×List Ev:=
 if op.a<0∨m.bO.length=0 then(m,[])
 else
  let k:=op.a.toNat%m.bO.length
  let f:=m.bO.getD k (0,0,⟨#[]⟩)
  if op.dX=4 then {m with bO:=m.bO.eraseIdx k}.hear f.2.1 f.1 f.2.2
  else if op.dX=5 then({m with bO:=m.bO.eraseIdx k},[])
  else if op.dX=6 then(m.launch f,[])
  else({m with bO:=m.bO.set k (f.1,f.2.1,f.2.2.extract 0 (f.2.2.size - (min (max 0 op.n) f.2.2.size).toNat))},[])
def step(m:aS)(op:Op):aS×List Ev:=
 if !m.may op then(m,[⟨0,5,Ot.none⟩])
 else if op.dX=1 then(m.link op.a.toNat op.b.toNat op.on,[])
 else if op.dX=2 then m.send op.a.toNat op.b.toNat op.txt
 else if op.dX=3 then m.tick op.n
 else if op.dX=4∨op.dX=5∨op.dX=6∨op.dX=7 then m.flight op
 else if op.dX=8 then m.hear op.a.toNat op.b.toNat op.txt
 else if op.dX=9 then(m.put op.a.toNat (m.at' op.a.toNat).stop,[])
 else if op.dX=10 then(m.put op.a.toNat {m.at' op.a.toNat with tears:=true,whole:=max 0 op.n},[])
 else if op.dX=11 then m.KE op.a.toNat
 else(m,[])
def new(L:List Int):aS:=⟨0,L.map λa=>⟨a,bE (St.new a [] 0).bA,some (St.new a [] 0),List.replicate 6 false,false,0⟩,[]⟩
def tab(m:aS)(i:Nat):List Rt:=match (m.at' i).nd with|none=> []|some s=>s.A
end aS
open Go.RowKit Go.Maps
variable{K:List Nat}{m:aS}{s:bJ}{W W' a b:World}
def Zi:List Nat:=[97,94,149,102,5,131,158,38,34,177,9,165,254,35]
def acM:List Nat:=[131,158,38,34,177,9,165,254,35]
def ZM(K:List Nat)(o:Obj):Prop:=(∃es cl,o=.map es cl)∨∃c t,t∈K∧o=.cells c t (0,0)
theorem ZM.mono{K':List Nat}{o:Obj}(h:ZM K o)(hs:∀t∈K,t∈K'):ZM K' o:=by
 rcases h with h|⟨c,t,ht,e⟩
 ·exact .inl h
 ·exact .inr ⟨c,t,hs t ht,e⟩
theorem ZM.not{c:Array Value}{t:Nat}{mk:Nat×Nat}(h:ZM K (.cells c t mk))(ht:t ∉ K):False:=by
 rcases h with⟨es,cl,e⟩|⟨c',t',h1,e⟩
 ·cases e
 ·cases e;exact ht h1
theorem Nn.kind{N:Nat}{g:bI}{s:St}{TL:List Hp.Tm}(n:Nn N g s TL W){k:Nat}(hk:Ft N g s k):∃o,W.heap[k]?=some o∧ZM acM o:=by
 rcases hk with(rfl|rfl|hk)|hk
 ·exact⟨_,n.cr.nd,.inr ⟨_,_,by decide,rfl⟩⟩
 ·obtain⟨es,cl,hm⟩:=n.cr.mo.obj;exact⟨_,hm,.inl ⟨_,_,rfl⟩⟩
 ·rcases hk with rfl|rfl|⟨y,hy,hk|hk⟩
  ·exact⟨_,n.cr.tb.blk,.inr ⟨_,158,by decide,rfl⟩⟩
  ·obtain⟨es,cl,hm⟩:=n.cr.tb.map.obj;exact⟨_,hm,.inl ⟨_,_,rfl⟩⟩
  ·obtain⟨B,p1,p2⟩:=n.cr.tb.ln y hy;rw[p1]at hk;cases hk;exact⟨_,p2,.inr ⟨_,38,by decide,rfl⟩⟩
  ·obtain⟨c,hc⟩:=aR (n.cr.tb.row y hy) hk;exact⟨_,hc,.inr ⟨_,34,by decide,rfl⟩⟩
 ·have r:=n.rs;rcases hk with rfl|hk|rfl|rfl|hk|hk
  ·obtain⟨es,cl,hm⟩:=r.sn.obj;exact⟨_,hm,.inl ⟨_,_,rfl⟩⟩
  ·obtain⟨o,ho,⟨rfl,es,cl,rfl⟩|⟨c,rfl⟩|⟨c,rfl⟩⟩:=r.sr.kind hk
   ·exact⟨_,ho,.inl ⟨_,_,rfl⟩⟩
   ·exact⟨_,ho,.inr ⟨_,177,by decide,rfl⟩⟩
   ·exact⟨_,ho,.inr ⟨_,9,by decide,rfl⟩⟩
  ·exact⟨_,r.tm.blk,.inr ⟨_,165,by decide,rfl⟩⟩
  ·obtain⟨f,p1,_⟩:=r.tm.map;obtain⟨es,cl,hm⟩:=p1.obj;exact⟨_,hm,.inl ⟨_,_,rfl⟩⟩
  ·obtain⟨c,hc⟩:=aR r.tm.row hk;exact⟨_,hc,.inr ⟨_,254,by decide,rfl⟩⟩
  ·obtain⟨c,hc⟩:=aR r.pc hk;exact⟨_,hc,.inr ⟨_,35,by decide,rfl⟩⟩
structure SG where
 B:Nat
 jv:Value
 N:Nat
 g:bI
 TL:List Hp.Tm
def MC(N:Nat):Option St->Value
 |none=> .pointer none
 |some _=> .pointer (some ⟨N,0,none⟩)
def FL(x:SG)(s:bJ):List Value:=[.int .u32 s.addr,x.jv,MC x.N s.nd]++s.hrs.map Value.bool++ [.bool s.tears,.int .i64 s.whole]
structure mZ(x:SG)(s:bJ)(W:World):Prop where
 blk:W.heap[x.B]?=some (.cells (FL x s).toArray 102 (0,0))
 hl:s.hrs.length=6
 row:W.ownsRow 0 5 1 x.jv s.bn.length (U s.bn)
 nd:∀z,s.nd=some z->Nn x.N x.g z x.TL W∧dQ z x.TL
def lF(x:SG)(s:bJ)(k:Nat):Prop:=k=x.B∨x.jv.ownBlock=some k∨∃z,s.nd=some z∧Ft x.N x.g z k
def acy:List Nat:=[102,5,131,158,38,34,177,9,165,254,35]
theorem mZ.kind{x:SG}(h:mZ x s W){k:Nat}(hk:lF x s k):∃o,W.heap[k]?=some o∧ZM acy o:=by
 rcases hk with rfl|hk|⟨z,hz,hk⟩
 ·exact⟨_,h.blk,.inr ⟨_,102,by decide,rfl⟩⟩
 ·obtain⟨c,hc⟩:=aR h.row hk;exact⟨_,hc,.inr ⟨_,5,by decide,rfl⟩⟩
 ·obtain⟨o,ho,hK⟩:=(h.nd z hz).1.kind hk;exact⟨o,ho,hK.mono (by decide)⟩
theorem mZ.lt{x:SG}(h:mZ x s W){k:Nat}(hk:lF x s k):k<W.heap.size:=by
 obtain⟨o,ho,_⟩:=h.kind hk;exact aG ho
theorem mZ.kept{x:SG}(h:mZ x s W)(he:∀k,lF x s k->W'.heap[k]?=W.heap[k]?):mZ x s W':=
 ⟨(he _ (.inl rfl)).trans h.blk,h.hl,bK h.row λk hk=>he k (.inr (.inl hk)),λz hz=>⟨(h.nd z hz).1.kept λk hk=>he k (.inr (.inr ⟨z,hz,hk⟩)),(h.nd z hz).2⟩⟩
structure MG where
 G:Nat
 sv:Value
 av:Value
 L:List SG
def KU(L:List SG):List Value:=L.map λx=> .pointer (some ⟨x.B,0,none⟩)
def o6(L:List (Nat×Nat×ByteArray)):List Value:=L.flatMap λf=> [.int .i64 f.1,.int .i64 f.2.1,.string f.2.2]
structure MM(y:MG)(m:aS)(W:World):Prop where
 blk:W.heap[y.G]?=some (.cells #[.int .u64 m.now,y.sv,y.av] 97 (0,0))
 zF:W.ownsRow 0 94 1 y.sv m.S.length (KU y.L)
 bO:W.ownsRow 0 149 3 y.av m.bO.length (o6 m.bO)
 len:y.L.length=m.S.length
 st:∀(i:Nat) x s,y.L[i]?=some x->m.S[i]?=some s->mZ x s W
 ap:∀(i j:Nat) x s x' s',i≠j->y.L[i]?=some x->m.S[i]?=some s->y.L[j]?=some x'->m.S[j]?=some s'->∀k,lF x s k->¬lF x' s' k
def oZ(y:MG)(m:aS)(k:Nat):Prop:=k=y.G∨y.sv.ownBlock=some k∨y.av.ownBlock=some k∨∃(i:Nat) (x:SG) (s:bJ),y.L[i]?=some x∧m.S[i]?=some s∧lF x s k
theorem MM.kind{y:MG}(h:MM y m W){k:Nat}(hk:oZ y m k):∃o,W.heap[k]?=some o∧ZM Zi o:=by
 rcases hk with rfl|hk|hk|⟨i,x,s,h1,h2,hk⟩
 ·exact⟨_,h.blk,.inr ⟨_,97,by decide,rfl⟩⟩
 ·obtain⟨c,hc⟩:=aR h.zF hk;exact⟨_,hc,.inr ⟨_,94,by decide,rfl⟩⟩
 ·obtain⟨c,hc⟩:=aR h.bO hk;exact⟨_,hc,.inr ⟨_,149,by decide,rfl⟩⟩
 ·obtain⟨o,ho,hK⟩:=(h.st i x s h1 h2).kind hk;exact⟨o,ho,hK.mono (by decide)⟩
theorem MM.lt{y:MG}(h:MM y m W){k:Nat}(hk:oZ y m k):k<W.heap.size:=by
 obtain⟨o,ho,_⟩:=h.kind hk;exact aG ho
theorem MM.not{y:MG}(h:MM y m W){k:Nat}{c:Array Value}{t:Nat}{mk:Nat×Nat}(ho:W.heap[k]?=some (.cells c t mk))(ht:t ∉ Zi):¬oZ y m k:=λhk=>by
 obtain⟨o,ho',hK⟩:=h.kind hk;rw[ho]at ho';cases ho';exact hK.not ht
theorem MM.kept{y:MG}(h:MM y m W)(he:∀k,oZ y m k->W'.heap[k]?=W.heap[k]?):MM y m W':=
 ⟨(he _ (.inl rfl)).trans h.blk,bK h.zF λk hk=>he k (.inr (.inl hk)),bK h.bO λk hk=>he k (.inr (.inr (.inl hk))),h.len,λi x s h1 h2=>(h.st i x s h1 h2).kept λk hk=>he k (.inr (.inr (.inr ⟨i,x,s,h1,h2,hk⟩))),h.ap⟩
theorem MM.later{y:MG}(h:MM y m W)(hb:Below W.heap.size W W'):MM y m W':=h.kept λk hk=>hb.block k (h.lt hk)
theorem MM.own{y:MG}(h:MM y m W){i:Nat}{x:SG}{s:bJ}(h1:y.L[i]?=some x)(h2:m.S[i]?=some s){k:Nat}(hk:lF x s k):k≠y.G∧y.sv.ownBlock≠some k∧y.av.ownBlock≠some k:=by
 obtain⟨o,ho,hK⟩:=(h.st i x s h1 h2).kind hk;refine⟨?_,λe=> ?_,λe=> ?_⟩
 ·rintro rfl;rw[h.blk]at ho;cases ho;exact hK.not (by decide)
 ·obtain⟨c,hc⟩:=aR h.zF e;rw[hc]at ho;cases ho;exact hK.not (by decide)
 ·obtain⟨c,hc⟩:=aR h.bO e;rw[hc]at ho;cases ho;exact hK.not (by decide)
structure MU(y:MG)(m:aS)(y':MG)(m':aS)(W W':World):Prop where
 fx:Fx (oZ y m) W W'
 sub:∀k,oZ y' m' k->oZ y m k∨(W.heap.size<=k∧k<W'.heap.size)
 G:y'.G=y.G
 n:m'.S.length=m.S.length
 sv:y'.sv=y.sv
 B:y'.L.map (·.B)=y.L.map (·.B)
theorem MU.refl(y:MG)(m:aS)(W:World):MU y m y m W W:=⟨Fx.refl _ _,λ_ h=> .inl h,rfl,rfl,rfl,rfl⟩
theorem MU.trans{y y' y'':MG}{m' m'':aS}{c:World}(p:MU y m y' m' a b)(q:MU y' m' y'' m'' b c):MU y m y'' m'' a c:=by
 have h1:=p.fx.size;have h2:=q.fx.size;refine⟨p.fx.trans q.fx λi hi hk=>(p.sub i hk).elim id λh=>by omega,λk hk=> ?_,q.G.trans p.G,q.n.trans p.n,q.sv.trans p.sv,q.B.trans p.B⟩;rcases q.sub k hk with h|h
 ·rcases p.sub k h with h|h
  ·exact .inl h
  ·exact .inr (by omega)
 ·exact .inr (by omega)
theorem MU.below{y:MG}(h:Below a.heap.size a b):MU y m y m a b:=⟨Fx.below h,λ_ h=> .inl h,rfl,rfl,rfl,rfl⟩
theorem b_{α:Type}{L:List α}{i j:Nat}{a b:α}(h:(L.set i a)[j]?=some b):(j=i∧b=a)∨(j≠i∧L[j]?=some b):=by
 rw[List.getElem?_set]at h;split at h
 ·rename_i e;split at h
  ·cases h;exact .inl ⟨e.symm,rfl⟩
  ·cases h
 ·rename_i e;exact .inr ⟨λh=>e h.symm,h⟩
theorem MM.turn{y:MG}(h:MM y m W){i:Nat}{x x':SG}{s s':bJ}(h1:y.L[i]?=some x)(h2:m.S[i]?=some s)(hf:Fx (lF x s) W W')(hst:mZ x' s' W')(hB:x'.B=x.B)(sub:∀k,lF x' s' k->lF x s k∨(W.heap.size<=k∧k<W'.heap.size)):
  MM {y with L:=y.L.set i x'} {m with S:=m.S.set i s'} W'∧MU y m {y with L:=y.L.set i x'} {m with S:=m.S.set i s'} W W':=by
 have hpt:KU (y.L.set i x')=KU y.L:=by
  unfold KU;rw[List.map_set,hB];refine List.ext_getElem? λj=> ?_;rw[List.getElem?_set];split
  ·rename_i e;subst e;rw[kr,h1];split
   ·rfl
   ·rename_i hl;rw[iK]at hl;exact absurd (eB.1 h1).1 hl
  ·rfl
 have hoth:∀(j:Nat) z u,j≠i->y.L[j]?=some z->m.S[j]?=some u->∀k,lF z u k->W'.heap[k]?=W.heap[k]?:=λj z u hj e1 e2 k hk=>
  hf.block k ((h.st j z u e1 e2).lt hk) λhc=>h.ap j i z u x s hj e1 e2 h1 h2 k hk hc
 refine⟨⟨(hf.block _ (aG h.blk) λhc=>(h.own h1 h2 hc).1 rfl).trans h.blk,?_,bK h.bO λk hk=>hf.block k (h.bO.lt k hk).2 λhc=>(h.own h1 h2 hc).2.2 hk,?_,?_,?_⟩,⟨hf.mono λk hk=> .inr (.inr (.inr ⟨i,x,s,h1,h2,hk⟩)),?_,rfl,List.length_set,rfl,?_⟩⟩
 ·dsimp only;rw[hpt,List.length_set];exact bK h.zF λk hk=>hf.block k (h.zF.lt k hk).2 λhc=>(h.own h1 h2 hc).2.1 hk
 ·simp only[List.length_set];exact h.len
 ·intro j z u e1 e2;rcases b_ e1 with⟨rfl,rfl⟩|⟨hj,e1⟩
  ·rcases b_ e2 with⟨_,rfl⟩|⟨hj,_⟩
   ·exact hst
   ·exact absurd rfl hj
  ·rcases b_ e2 with⟨e,_⟩|⟨_,e2⟩
   ·exact absurd e hj
   ·exact(h.st j z u e1 e2).kept (hoth j z u hj e1 e2)
 ·intro a b z u z' u' hab e1 e2 e3 e4 k hk hk';rcases b_ e1 with⟨rfl,rfl⟩|⟨ha,e1⟩
  ·rcases b_ e2 with⟨_,rfl⟩|⟨hj,_⟩
   ·rcases b_ e3 with⟨e,_⟩|⟨hb,e3⟩
    ·exact hab e.symm
    ·rcases b_ e4 with⟨e,_⟩|⟨_,e4⟩
     ·exact hb e
     ·rcases sub k hk with hc|hc
      ·exact h.ap _ _ _ _ _ _ (Ne.symm hb) h1 h2 e3 e4 k hc hk'
      ·have:=(h.st _ _ _ e3 e4).lt hk';omega
   ·exact hj rfl
  ·rcases b_ e2 with⟨e,_⟩|⟨_,e2⟩
   ·exact ha e
   ·rcases b_ e3 with⟨rfl,rfl⟩|⟨hb,e3⟩
    ·rcases b_ e4 with⟨_,rfl⟩|⟨hj,_⟩
     ·rcases sub k hk' with hc|hc
      ·exact h.ap _ _ _ _ _ _ ha (by assumption) (by assumption) h1 h2 k hk hc
      ·have:=(h.st _ _ _ (by assumption) (by assumption)).lt hk;omega
     ·exact hj rfl
    ·rcases b_ e4 with⟨e,_⟩|⟨_,e4⟩
     ·exact hb e
     ·exact h.ap _ _ _ _ _ _ hab e1 e2 e3 e4 k hk hk'
 ·rintro k (rfl|hk|hk|⟨j,z,u,e1,e2,hk⟩)
  ·exact .inl (.inl rfl)
  ·exact .inl (.inr (.inl hk))
  ·exact .inl (.inr (.inr (.inl hk)))
  ·rcases b_ e1 with⟨rfl,rfl⟩|⟨hj,e1⟩
   ·rcases b_ e2 with⟨_,rfl⟩|⟨hj,_⟩
    ·rcases sub k hk with hc|hc
     ·exact .inl (.inr (.inr (.inr ⟨j,x,s,h1,h2,hc⟩)))
     ·exact .inr hc
    ·exact absurd rfl hj
   ·rcases b_ e2 with⟨e,_⟩|⟨_,e2⟩
    ·exact absurd e hj
    ·exact .inl (.inr (.inr (.inr ⟨j,z,u,e1,e2,hk⟩)))
 ·dsimp only;rw[List.map_set,hB];refine List.ext_getElem? λj=> ?_;rw[List.getElem?_set];split
  ·rename_i e;subst e;rw[kr,h1];split
   ·rfl
   ·rename_i hl;rw[iK]at hl;exact absurd (eB.1 h1).1 hl
  ·rfl
section
variable {P:Program} (w:World)
theorem zQ(base:Nat)(t tx ty e:TypeId)(i:TypeInfo)(z:Value)(size bytes:Nat)(ht:P.underlying t=some (.slice e))(hi:P.info? e=some i)(hz:i.zero=some z)
  (hsize:i.size=size) (hby:i.bytes=bytes) (hzs:z.cells.size=size)
  (v:Value) (n:Nat) (xs:List Value) (hown:w.ownsRow base e size v n xs)
  (x:Value) (m:Nat) (news:List Value) (hs:Src P size tx x m news w)
  (h63:n+m<=maxLen) (hbytes:(n+m)* bytes<=140737488355328) (hbase:base<=w.heap.size):
  ∃v' w',(Builtin.append_ #[t,tx] ty #[v,x]).run P w=.ok v' w'∧w'.ownsRow base e size v' (n+m) (xs++news)∧w.grownBy w' v.ownBlock∧(v'.ownBlock=v.ownBlock∨v'.ownBlock=some w.heap.size):=by
 subst hsize;subst hby;have hl:=hs.newsLen;have hsmall:n+m<=9223372036854775807:=by simp only[maxLen]at h63;omega
 have hlen:(xs++news).length=(n+m)* i.size:=by rw[dw,hown.1,hl,Nat.add_mul]
 rcases hown.2 with⟨rfl,rfl⟩|⟨g,cap,cur,rfl,hbg,hg,hnc,hcm,hcs,htake⟩
 ·have hx0:xs=[]:=qz (by have:=hown.1;simpa using this);subst hx0;by_cases hm:m=0
  ·subst hm;have hn0:news=[]:=qz (by rw[hl];simp);subst hn0;have hr:(Builtin.append_ #[t,tx] ty #[.slice none 0 0,x]).run P w=.ok (.slice none 0 0) w:=by
    rcases hs.kind with⟨e',hk⟩|hk<;>simp[Builtin.append_,run_underlying ht,run_underlying hk,sizeOf,typeInfo,hi,hs.len,hs.cells]
   exact⟨_,_,hr,hown,⟨rfl,rfl,rfl,aD _,λ_ _ _=>rfl⟩,.inl rfl⟩
  ·have hr:=run_append_grow_src (P:=P) w t tx ty e i z ht hi hz none 0 0 [] (run_firstCells_none w.drew i.size 0 0 0) x m news hs (by omega) (by omega) (growslice_fits (by omega) hbytes);have hge:=grownCap_ge w (0+m) 0 e;have hcm:grownCap w (0+m) 0 e<=maxLen:=grownCap_le_maxLen w (0+m) 0 e h63;refine⟨_,_,hr,⟨hlen,.inr ⟨w.heap.size,_,_,rfl,hbase,bS w.drew _,hge,hcm,?_,?_⟩⟩,⟨rfl,rfl,rfl,by simp,λk hk _=>Go.heap_alloc_old w.drew _ hk⟩,.inr rfl⟩
   ·simp only[Array.size_append,List.size_toArray,size_zeroCells,hzs,hlen,<-Nat.add_mul]
    congr 1
    omega
   ·simp only[Array.toList_append];rw[<-hlen];exact List.take_left
 ·by_cases hroom:n+m<=cap
  ·have hfit:n * i.size+news.length<=cur.size:=by rw[hl,hcs,<-Nat.add_mul];exact Nat.mul_le_mul_right _ hroom
   have hr:=l9 (P:=P) w t tx ty e i ht hi g n cap cur hg x m news hs hroom hfit;refine⟨_,_,hr,⟨hlen,.inr ⟨g,cap,_,rfl,hbg,setRow_heap w g cur _ e _ hg,hroom,hcm,?_,?_⟩⟩,⟨rfl,rfl,rfl,by simp,λk _ hk=>setRow_other w g k _ (λe=>hk (by simp[Value.ownBlock,e]))⟩,.inl rfl⟩
   ·simp only[List.size_toArray,dw,List.length_take,List.length_drop,Array.length_toList];omega
   ·rw[htake,<-hlen];exact List.take_left
  ·have holds:∀j u,xs[j]?=some u->w.cell? ((⟨g,0,none⟩:Addr).add j)=some u:=hown.cells (g:=g) rfl;have hfo:=run_firstCells_some (P:=P) w.drew i.size n ⟨g,0,none⟩ n cap xs hown.1 (by simpa using holds);have hr:=run_append_grow_src (P:=P) w t tx ty e i z ht hi hz (some ⟨g,0,none⟩) n cap xs hfo x m news hs (by omega) (by omega) (growslice_fits (by omega) hbytes);have hge:=grownCap_ge w (n+m) cap e;have hcm:grownCap w (n+m) cap e<=maxLen:=grownCap_le_maxLen w (n+m) cap e h63;refine⟨_,_,hr,⟨hlen,.inr ⟨w.heap.size,_,_,rfl,hbase,bS w.drew _,hge,hcm,?_,?_⟩⟩,⟨rfl,rfl,rfl,by simp,λk hk _=>Go.heap_alloc_old w.drew _ hk⟩,.inr rfl⟩
   ·simp only[Array.size_append,List.size_toArray,size_zeroCells,hzs,hlen,<-Nat.add_mul]
    congr 1
    omega
   ·simp only[Array.toList_append];rw[<-hlen];exact List.take_left
end
theorem iI{P:Program}{ops:Array Oper}{o:Oper}{a:Act}{w:World}{K:Act->World->Prop}{Q:Exit->Act->World->Prop}{E:Prop}
  (hg:o.guard=none) (s x:Operand) (t tx:TypeId) (hop:o.op=Op.call {callee:=Callee.builtin Builtin.append,args:=#[s,x],argTypes:=#[t,tx]})
  (base:Nat) (e:TypeId) (i:TypeInfo) (z:Value) (size bytes:Nat) (h1:P.underlying t=some (.slice e)) (h2:P.info? e=some i) (h3:i.zero=some z) (h4:i.size=size) (h5:i.bytes=bytes) (h6:z.cells.size=size)
  (v:Value) (n:Nat) (xs:List Value) (hs:a.eval s=v) (hown:w.ownsRow base e size v n xs)
  (xv:Value) (m:Nat) (news:List Value) (hx:a.eval x=xv) (hsrc:Src P size tx xv m news w)
  (b1:n+m<=maxLen) (b2:(n+m)* bytes<=140737488355328) (hbase:base<=w.heap.size)
  (hK:∀v' w',w'.ownsRow base e size v' (n+m) (xs++news)->w.grownBy w' v.ownBlock->(v'.ownBlock=v.ownBlock∨v'.ownBlock=some w.heap.size)->K (a.put o.dst v') w'):
  if Region.wanted o (yielded ops a.tmps)=true then Oper.wp P o a w K Q else E:=by
 have hw:Region.wanted o (yielded ops a.tmps)=true:=by simp[Region.wanted,hg]
 rw[aQ hw];obtain⟨v',w',hrun,r1,r2,r3⟩:=zQ (P:=P) w base t tx o.type e i z size bytes h1 h2 h3 h4 h5 h6 v n xs hown xv m news hsrc b1 b2 hbase;unfold Oper.wp;simp[execOp,hop,resolve,invoke,builtin,hs,hx,hrun,Result.andThen];exact hK v' w' r1 r2 r3
theorem uM{P:Program}{w:World}{ops:Array Oper}{rest:List Oper}{o:Oper}{a:Act}{Q:Exit->Act->World->Prop}(hg:o.guard=none)(s x:Operand)(t tx:TypeId)(hop:o.op=Op.call {callee:=Callee.builtin Builtin.append,args:=#[s,x],argTypes:=#[t,tx]})
  (base:Nat) (e:TypeId) (i:TypeInfo) (z:Value) (size bytes:Nat) (h1:P.underlying t=some (.slice e)) (h2:P.info? e=some i) (h3:i.zero=some z) (h4:i.size=size) (h5:i.bytes=bytes) (h6:z.cells.size=size)
  (v:Value) (n:Nat) (xs:List Value) (hs:a.eval s=v) (hown:w.ownsRow base e size v n xs)
  (xv:Value) (m:Nat) (news:List Value) (hx:a.eval x=xv) (hsrc:Src P size tx xv m news w)
  (b1:n+m<=maxLen) (b2:(n+m)* bytes<=140737488355328) (hbase:base<=w.heap.size)
  (hK:∀v' w',w'.ownsRow base e size v' (n+m) (xs++news)->w.grownBy w' v.ownBlock->(v'.ownBlock=v.ownBlock∨v'.ownBlock=some w.heap.size)->wpList P ops Q rest (a.put o.dst v') w'):
  wpList P ops Q (o::rest) a w:=by
 refine wpList_plain hg λK hKK=> ?_;have h:=iI (ops:=ops) (E:=True) (K:=K) (Q:=Q) hg s x t tx hop base e i z size bytes h1 h2 h3 h4 h5 h6 v n xs hs hown xv m news hx hsrc b1 b2 hbase λv' w' k1 k2 k3=>hKK _ _ (hK v' w' k1 k2 k3);have hw:Region.wanted o (yielded ops a.tmps)=true:=by simp[Region.wanted,hg]
 rw[aQ hw]at h;exact h
theorem Src.ofRow{P:Program}{w:World}{base e size n:Nat}{v:Value}{xs:List Value}{tx e':TypeId}(hk:P.underlying tx=some (.slice e'))(h:w.ownsRow base e size v n xs)(h1:∀u∈xs,u.oneCell'=true):Src P size tx v n xs w:=by
 rcases h.2 with⟨rfl,rfl⟩|⟨g,cap,cur,rfl,_⟩
 ·have hx:xs=[]:=qz (by have:=h.1;simpa using this);subst hx;exact Src.ofNil w hk 0
 ·exact Src.ofSlice w hk ⟨g,0,none⟩ n cap xs h.1 (h.cells (g:=g) rfl) h1
open Go.RowKit Go.Maps
variable{x:SG}{s s':bJ}{W w w' w1:World}
theorem mZ.cell(h:mZ x s W):
  W.cell? ⟨x.B,0,none⟩=some (.int .u32 s.addr)∧W.cell? ⟨x.B,1,none⟩=some x.jv∧W.cell? ⟨x.B,2,none⟩=some (MC x.N s.nd)∧W.cell? ⟨x.B,9,none⟩=some (.bool s.tears)∧W.cell? ⟨x.B,10,none⟩=some (.int .i64 s.whole)∧(∀(j:Nat) b,s.hrs[j]?=some b->W.cell? ⟨x.B,3+j,none⟩=some (.bool b))∧∀j,W.frozen? ⟨x.B,j,none⟩=false:=by
 have hl:=h.hl;have hc:∀j,W.cell? ⟨x.B,j,none⟩=(FL x s)[j]?:=λj=>by
  rw[aH _ _ j _ _ _ h.blk];simp
 refine⟨(hc 0).trans rfl,(hc 1).trans rfl,(hc 2).trans rfl,?_,?_,λj b hj=> ?_,λj=> ?_⟩
 ·rw[hc];simp[FL,hl]
 ·rw[hc];simp[FL,hl]
 ·have hj':=(eB.1 hj).1;rw[hc];simp only[FL,List.append_assoc];rw[List.getElem?_append_right (by simp),List.getElem?_append_left (by simp;omega)];simp[hj]
 ·simp[World.frozen?,h.blk]
def nJ(x:SG)(s s':bJ)(w w':World):Prop:=
 ∃x',x'.B=x.B∧mZ x' s' w'∧Fx (lF x s) w w'∧∀k,lF x' s' k->lF x s k∨(w.heap.size<=k∧k<w'.heap.size)
theorem nJ.pre(hb:Below w.heap.size w w1)(h:nJ x s s' w1 w'):nJ x s s' w w':=by
 obtain⟨x',h1,h2,h3,h4⟩:=h;have:=hb.size;have:=h3.size;exact⟨x',h1,h2,(Fx.below hb).trans h3 λ_ _ h=>h,λk hk=>(h4 k hk).imp_right λh=>by omega⟩
theorem nJ.trans{s1:bJ}(h1:nJ x s s1 w w1)(h2:∀x1,x1.B=x.B->mZ x1 s1 w1->nJ x1 s1 s' w1 w'):nJ x s s' w w':=by
 obtain⟨x1,b1,m1,f1,u1⟩:=h1;obtain⟨x2,b2,m2,f2,u2⟩:=h2 x1 b1 m1;have:=f1.size;have:=f2.size;refine⟨x2,b2.trans b1,m2,f1.trans f2 λk hk hs=>(u1 k hs).elim id λh=>by omega,λk hk=> ?_⟩;rcases u2 k hk with h|h
 ·exact(u1 k h).imp_right λh=>by omega
 ·exact .inr (by omega)
theorem nJ.refl(h:mZ x s w):nJ x s s w w:=⟨x,rfl,h,Fx.refl _ _,λ_ h=> .inl h⟩
theorem zl{B j:Nat}{l:List Value}{t:Nat}{v:Value}(h:W.heap[B]?=some (.cells l.toArray t (0,0))):(W.setCell ⟨B,j,none⟩ v).heap[B]?=some (.cells (l.set j v).toArray t (0,0)):=by
 simp[World.setCell,Array.getElem?_modify,h]
theorem mZ.set{x':SG}(h:mZ x s W)(j:Nat)(v:Value)(hB:x'.B=x.B)(hc:FL x' s'=(FL x s).set j v)(hl:s'.hrs.length=6)(hj:x'.jv=x.jv∧s'.bn=s.bn)(hn:∀z,s'.nd=some z->s.nd=some z∧x'.N=x.N∧x'.g=x.g∧x'.TL=x.TL):
  nJ x s s' W (W.setCell ⟨x.B,j,none⟩ v):=by
 have hg:W.grownBy (W.setCell ⟨x.B,j,none⟩ v) (some x.B):=ah (aC _ (some x.B)) j _;have hnd:∀z,s.nd=some z->∀k,Ft x.N x.g z k->k≠x.B:=λz hz k hk e=>by
  obtain⟨o,ho,hK⟩:=(h.nd z hz).1.kind hk;subst e;rw[h.blk]at ho;cases ho;exact hK.not (by decide)
 obtain⟨hj1,hj2⟩:=hj;refine⟨x',hB,⟨?_,hl,?_,λz hz=> ?_⟩,Fx.grown hg λk e=>by cases e;exact .inl rfl,λk hk=> .inl ?_⟩
 ·rw[hB,hc];exact zl h.blk
 ·rw[hj1,hj2];exact h.row.kept hg (.inr (aB h.row h.blk (λc e=>(by cases e))))
 ·obtain⟨e0,e1,e2,e3⟩:=hn z hz;rw[e1,e2,e3];exact⟨(h.nd z e0).1.kept λk hk=>hg.block k ((h.nd z e0).1.lt hk) λe=>hnd z e0 k hk (Option.some.inj e),(h.nd z e0).2⟩
 ·rcases hk with hk|hk|⟨z,hz,hk⟩
  ·exact .inl (hk.trans hB)
  ·exact .inr (.inl (by rw[<-hj1];exact hk))
  ·obtain⟨e0,e1,e2,e3⟩:=hn z hz;rw[e1,e2]at hk;exact .inr (.inr ⟨z,e0,hk⟩)
theorem mZ.bn{W':World}(h:mZ x s W){v:Value}{xs:List Int}(ho:W'.ownsRow 0 5 1 v xs.length (U xs))(hg:W.grownBy W' x.jv.ownBlock)(hv:v.ownBlock=x.jv.ownBlock∨v.ownBlock=some W.heap.size∨v.ownBlock=none):
  nJ x s {s with bn:=xs} W (W'.setCell ⟨x.B,1,none⟩ v):=by
 have hne:x.jv.ownBlock≠some x.B:=aB h.row h.blk (λc e=>(by cases e));have hB:=aG h.blk;have hsz:=hg.size;have hblk:=(hg.block _ hB λe=>hne e.symm).trans h.blk;have hg2:W'.grownBy (W'.setCell ⟨x.B,1,none⟩ v) (some x.B):=ah (aC _ (some x.B)) 1 _;have hnd:∀z,s.nd=some z->∀k,Ft x.N x.g z k->k≠x.B∧x.jv.ownBlock≠some k:=λz hz k hk=>by
  obtain⟨o,ho,hK⟩:=(h.nd z hz).1.kind hk;refine⟨λe=> ?_,λe=> ?_⟩
  ·subst e;rw[h.blk]at ho;cases ho;exact hK.not (by decide)
  ·obtain⟨c,hc⟩:=aR h.row e;rw[hc]at ho;cases ho;exact hK.not (by decide)
 have hf:Fx (lF x s) W (W'.setCell ⟨x.B,1,none⟩ v):=aW (Fx.grown hg λk e=> .inr (.inl e)) hg2 λi _ e=>by cases e;exact .inl rfl
 refine⟨{x with jv:=v},rfl,⟨?_,h.hl,?_,λz hz=> ?_⟩,hf,λk hk=> ?_⟩
 ·rw[show FL {x with jv:=v} {s with bn:=xs}=(FL x s).set 1 v from rfl];exact zl hblk
 ·exact ho.kept hg2 (.inr (aB ho hblk (λc e=>(by cases e))))
 ·refine⟨(h.nd z hz).1.kept λk hk=> ?_,(h.nd z hz).2⟩;have hlt:=(h.nd z hz).1.lt hk;obtain⟨e1,e2⟩:=hnd z hz k hk;exact(hg2.block k (by omega) λe=>e1 (Option.some.inj e)).trans (hg.block k hlt λe=>e2 e.symm)
 ·rcases hk with hk|hk|hk
  ·exact .inl (.inl hk)
  ·rcases hv with e|e|e
   ·exact .inl (.inr (.inl (by rw[<-e];exact hk)))
   ·rw[show({x with jv:=v}:SG).jv=v from rfl,e]at hk;cases hk;have h1:=(ho.lt _ e).2;exact .inr ⟨aD _,by simpa using h1⟩
   ·rw[show({x with jv:=v}:SG).jv=v from rfl,e]at hk;cases hk
  ·exact .inl (.inr (.inr hk))
theorem Fs(h:mZ x s w):Calls Tryz.prog 34 #[.pointer (some ⟨x.B,0,none⟩)] w λe w'=>e=.returned (.tuple #[])∧nJ x s s.stop w w':=by
 obtain⟨c0,c1,c2,c9,c10,ch,fz⟩:=h.cell;have f2:=fz 2;have f9:=fz 9;have f10:=fz 10;have hfin:nJ x s s.stop w (((w.setCell ⟨x.B,2,none⟩ (.pointer none)).setCell ⟨x.B,9,none⟩ (.bool false)).setCell ⟨x.B,10,none⟩ (.int .i64 0)):=by
  have hl:=h.hl;refine nJ.trans (s1:={s with nd:=none}) (h.set (x':=x) (s':={s with nd:=none}) 2 (.pointer none) rfl rfl hl ⟨rfl,rfl⟩ (λz hz=>by cases hz)) λx1 b1 m1=> ?_;rw[show(⟨x.B,9,none⟩:Addr)=⟨x1.B,9,none⟩by rw[b1],show(⟨x.B,10,none⟩:Addr)=⟨x1.B,10,none⟩by rw[b1]];refine nJ.trans (s1:={s with nd:=none,tears:=false}) (m1.set (x':=x1) (s':={s with nd:=none,tears:=false}) 9 (.bool false) rfl ?_ hl ⟨rfl,rfl⟩ (λz hz=>by cases hz)) λx2 b2 m2=> ?_
  ·simp[FL,MC,hl]
  ·rw[show(⟨x1.B,10,none⟩:Addr)=⟨x2.B,10,none⟩by rw[b2]];refine m2.set (x':=x2) (s':=s.stop) 10 (.int .i64 0) rfl ?_ hl ⟨rfl,rfl⟩ (λz hz=>by cases hz);simp[FL,MC,bJ.stop,hl]
 clear h c0 c1 ch fz;go_enter Tryz.func34,Tryz.ntmps34;go_wp2;go_returns;exact⟨rfl,hfin⟩
theorem YT(h:mZ x s w)(n:Int):Calls Tryz.prog 35 #[.pointer (some ⟨x.B,0,none⟩),.int .i64 n] w λe w'=>e=.returned (.tuple #[])∧nJ x s {s with tears:=true,whole:=max 0 n} w w':=by
 obtain⟨c0,c1,c2,c9,c10,ch,fz⟩:=h.cell;have f9:=fz 9;have f10:=fz 10;have hfin:∀y,y=max 0 n->nJ x s {s with tears:=true,whole:=max 0 n} w ((w.setCell ⟨x.B,9,none⟩ (.bool true)).setCell ⟨x.B,10,none⟩ (.int .i64 y)):=by
  rintro y rfl;have hl:=h.hl;refine nJ.trans (s1:={s with tears:=true}) (h.set (x':=x) (s':={s with tears:=true}) 9 (.bool true) rfl ?_ hl ⟨rfl,rfl⟩ (λz hz=>⟨hz,rfl,rfl,rfl⟩)) λx1 b1 m1=> ?_
  ·simp[FL,hl]
  ·rw[show(⟨x.B,10,none⟩:Addr)=⟨x1.B,10,none⟩by rw[b1]];refine m1.set (x':=x1) (s':={s with tears:=true,whole:=max 0 n}) 10 (.int .i64 (max 0 n)) rfl ?_ hl ⟨rfl,rfl⟩ (λz hz=>⟨hz,rfl,rfl,rfl⟩);simp[FL,hl]
 replace hfin:=hide hfin;clear h c0 c1 ch fz;go_enter Tryz.func35,Tryz.ntmps35;go_wp2;all_goals (go_returns;exact⟨rfl,hfin.out _ (by omega)⟩)
end Go.Proofs.YtakaadcpaeiccabGreat
