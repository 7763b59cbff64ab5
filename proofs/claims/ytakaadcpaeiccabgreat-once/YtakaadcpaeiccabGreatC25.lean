import Derived.Test.YtakaadcpaeiccabGreatC24
set_option maxHeartbeats 1000000
namespace Go.Proofs.YtakaadcpaeiccabGreat
variable{d h q:Int}{A:List Rt}{k n:Nat}{s s':St}
abbrev sN:=Option (Int×aD×List (Int×Int))
def sM(x:Option Rt)(q h:Int):Prop:=∃y,x=some y∧(q<rk y∨(rk y=q∧y.hops<=h))
inductive Vo(me now:Int)(c:sN)(A:List Rt):List Rt->Prop
 |Wq (fr:Int) (p:aD) (L:List (Int×Int)) (e:Int) (hc:c=some (fr,p,L)) (hk:p.kind=1):Vo me now c A (iP me A p.aJ p.dw (St.far p.hops) fr e).1
 |Wp (fr:Int) (p:aD) (L:List (Int×Int)) (e:Int) (hc:c=some (fr,p,L)) (hk:p.kind=2):Vo me now c A (iP me A p.dest p.aX (St.far p.hops) fr e).1
 |use (d e:Int):Vo me now c A (iO A d e)
 |bN (d n:Int):Vo me now c A (kZ A d n)
 |lose (fr:Int) (p:aD) (L:List (Int×Int)) (hc:c=some (fr,p,L)) (x:Int×Int) (hx:x∈L):Vo me now c A (gT A fr x.1 x.2)
 |brk (d_:Int):Vo me now c A (A.map (bQ d_ 0))
 |grow (d:Int) (h:∀y,aK A d=some y->y.valid=false):Vo me now c A (gV A d St.oM)
def Just(c:sN)(s:St)(p:aD)(L:List (Int×Int)):Prop:=
 (p.kind=1∧p.aJ=s.me∧p.hops=0∧1<=p.ttl∧p.ttl<=8∧p.dw=s.seq∧p.aX=eT s.A p.dest)∨
 (∃fr q K,c=some (fr,q,K)∧q.kind=1∧p.kind=1∧p.aJ=q.aJ∧p.dw=q.dw∧p.hops=St.far q.hops∧p.ttl=q.ttl - 1∧q.ttl≠1∧p.aJ≠s.me∧(p.aX=q.aX∨p.aX=eT s.A p.dest)∧(p.aJ≠0->sM (aK s.A p.aJ) p.dw p.hops))∨
 (p.kind=2∧p.dest=s.me∧p.hops=0∧p.ttl=8∧p.aX=s.seq)∨
 (p.kind=2∧p.ttl=8∧∃y,aK s.A p.dest=some y∧y.valid=true∧p.aX=y.seq∧p.hops=y.hops)∨
 (∃fr q K,c=some (fr,q,K)∧q.kind=2∧p.kind=2∧p.dest=q.dest∧p.aX=q.aX∧p.hops=St.far q.hops∧p.ttl=q.ttl - 1∧q.ttl≠1∧p.dest≠s.me∧(p.dest≠0->sM (aK s.A p.dest) p.aX p.hops))∨
 (p.kind=3∧∀x∈L,x.2=0∨∃y∈s.A,y.dest=x.1∧x.2<=y.seq∧(0<=x.2∨x.2=y.seq))∨
 p.kind=9
structure ael(s s':St):Prop where
 me:s'.me=s.me
 seq:s'.seq=s.seq
 A:s'.A=s.A
 f:s'.f=s.f
 own:s'.own=s.own
 cnt:s'.cnt=s.cnt
 bg:s'.bg=s.bg
 bn:s'.bn=s.bn
 aI:s'.aI=s.aI
 now:s'.now=s.now
inductive Pr(c:sN)(s:St):St->Prop
 |zw {s':St} (h:ael s s'):Pr c s s'
 |tab {A:List Rt} (h:Vo s.me s.now c s.A A):Pr c s {s with A:=A}
 |aJ (t:Int) (p:aD) (L:List (Int×Int)) (h:Just c s p L) (hz:L=[]∨L.length=p.ln):Pr c s (s.send t p L)
 |grw:Pr c s {s with seq:=gr s.seq}
 |mx (fr:Int) (p:aD) (L:List (Int×Int)) (hc:c=some (fr,p,L)):Pr c s {s with seq:=max s.seq p.aX}
 |wr:Pr c s s.write
inductive fU(c:sN):Nat->St->St->Prop
 |nil (n:Nat) (s:St):fU c n s s
 |snoc {n:Nat} {s s1 s2:St} (h:fU c n s s1) (k:Pr c s1 s2):fU c (n+1) s s2
theorem fU.up{c:sN}(h:fU c n s s')(hk:n<=k):fU c k s s':=by
 induction h generalizing k with
 |nil n s=>exact .nil _ _
 |snoc h1 h2 ih=>
  obtain⟨j,rfl⟩:∃j,k=j+1:=⟨k - 1,by omega⟩;exact .snoc (ih (by omega)) h2
theorem fU.trans{c:sN}{s1 s2:St}(h:fU c n s s1)(g:fU c k s1 s2):fU c (n+k) s s2:=by
 induction g with
 |nil k s=>exact h.up (by omega)
 |snoc g1 g2 ih=>exact .snoc (ih h) g2
theorem fU.one{c:sN}(h:Pr c s s'):fU c 1 s s':=.snoc (.nil 0 s) h
theorem fU.zw{c:sN}(h:ael s s'):fU c 1 s s':=.one (.zw h)
theorem fU.me{c:sN}(h:fU c n s s'):s'.me=s.me:=by
 induction h with
 |nil=>rfl
 |snoc _ k ih=>
  rw[<-ih];cases k with
  |zw h=>exact h.me
  |_=>rfl
theorem fU.now{c:sN}(h:fU c n s s'):s'.now=s.now:=by
 induction h with
 |nil=>rfl
 |snoc _ k ih=>
  rw[<-ih];cases k with
  |zw h=>exact h.now
  |_=>rfl
theorem fJ(c:sN)(s:St)(r:Int):fU c 1 s (s.drop r):=.zw ⟨rfl,rfl,rfl,rfl,rfl,rfl,rfl,rfl,rfl,rfl⟩
theorem vE(c:sN)(s:St)(t:Int)(L:List (Int×Int))(h:∀x∈L,x.2=0∨∃y∈s.A,y.dest=x.1∧x.2<=y.seq∧(0<=x.2∨x.2=y.seq)):fU c 1 s (s.lose t L):=by
 unfold St.lose Pw;split
 ·exact .zw ⟨rfl,rfl,rfl,rfl,rfl,rfl,rfl,rfl,by simp,rfl⟩
 ·exact .one (.aJ t (ZG L.length) L (.inr (.inr (.inr (.inr (.inr (.inl ⟨rfl,h⟩)))))) (.inr rfl))
theorem M7(A:List Rt)(d:Int):eT A d=0∨∃y∈A,y.dest=d∧eT A d<=y.seq∧(0<=eT A d∨eT A d=y.seq):=by
 unfold eT;cases h:aK A d with
 |none=>exact .inl rfl
 |some y=>exact .inr ⟨y,(bU h).1,(bU h).2,fo _,.inr rfl⟩
theorem yF(c:sN)(s:St)(t d:Int):fU c 1 s (s.kE t d):=vE c s t _ λx hx=>by
 rw[dO]at hx;subst hx;exact M7 s.A d
theorem pG(c:sN)(s:St)(d:Int)(t:ByteArray):fU c 3 s (s.aN d t):=by
 unfold St.aN;split
 ·refine fU.snoc (fU.snoc (fU.zw (s':={s with eG:=(s.eG+1)%4294967296}) ⟨rfl,rfl,rfl,rfl,rfl,rfl,rfl,rfl,rfl,rfl⟩) (.tab (.use d (s.now+3000)))) (.aJ _ _ [] ?_ (.inl rfl));exact .inr (.inr (.inr (.inr (.inr (.inr rfl)))))
 ·exact .nil _ _
theorem OX(c:sN)(d:Int)(l:List ByteArray)(s:St):fU c (3 * l.length) s (l.foldl (λs t=>s.aN d t) s):=by
 induction l generalizing s with
 |nil=>exact .nil _ _
 |cons a l ih=>
  rw[fP,dY];exact((pG c s d a).trans (ih _)).up (by omega)
theorem yE(c:sN)(s:St)(d:Int)(h4:∀q∈s.Q,q.txt.length<=4):fU c 13 s (s.sendAll d):=by
 unfold St.sendAll;cases hq:St.j6 s.Q d with
 |none=>exact .nil _ _
 |some q=>
  dsimp only;split
  ·have:=h4 q (gZ hq).1;have h1:=OX c d q.txt s;refine fU.up (fU.snoc h1 (.zw ?_)) (by omega);exact⟨rfl,rfl,rfl,rfl,rfl,rfl,rfl,rfl,rfl,rfl⟩
  ·exact .nil _ _
theorem Hf(c:sN)(s:St)(d ttl:Int)(ht:1<=ttl∧ttl<=8):fU c 5 s (s.request d ttl):=by
 unfold St.request;refine fU.snoc (fU.snoc (fU.snoc (fU.snoc (fU.zw (s':={s with dm:=(s.dm+1)%4294967296}) ⟨rfl,rfl,rfl,rfl,rfl,rfl,rfl,rfl,rfl,rfl⟩) .grw) .wr) (.zw ?_)) (.aJ 0 _ [] ?_ (.inl rfl))
 ·exact⟨rfl,rfl,rfl,rfl,rfl,rfl,rfl,rfl,rfl,rfl⟩
 ·exact .inl ⟨rfl,rfl,rfl,ht.1,ht.2,rfl,rfl⟩
theorem vF(c:sN)(s:St)(q:Sr)(ht:1<=q.ttl∧q.ttl<=8):fU c 6 s (s.ask q):=by
 unfold St.ask;split
 ·exact fU.up (n:=1) (.zw ⟨rfl,rfl,rfl,rfl,rfl,rfl,rfl,rfl,rfl,rfl⟩) (by decide)
 ·split
  ·exact fU.up (n:=1) (.zw ⟨rfl,rfl,rfl,rfl,rfl,rfl,rfl,rfl,rfl,rfl⟩) (by decide)
  ·exact fU.snoc (Hf c s q.dest q.ttl ht) (.zw ⟨rfl,rfl,rfl,rfl,rfl,rfl,rfl,rfl,rfl,rfl⟩)
theorem OW(c:sN)(s:St)(q:Sr)(ht:1<=q.ttl∧q.ttl<=8):fU c 6 s (s.widen q):=by
 unfold St.widen;split
 ·exact vF c s _ (by dsimp only;omega)
 ·split
  ·exact vF c s _ (by dsimp only;omega)
  ·split
   ·exact vF c s _ ht
   ·exact fU.up (n:=1) (.zw ⟨rfl,rfl,rfl,rfl,rfl,rfl,rfl,rfl,rfl,rfl⟩) (by decide)
theorem R9(c:sN)(s:St)(q:Sr)(ht:1<=q.ttl∧q.ttl<=8)(h4:∀q∈s.Q,q.txt.length<=4):fU c 13 s (s.step q):=by
 unfold St.step;split
 ·exact yE c s q.dest h4
 ·split
  ·exact(OW c s q ht).up (by omega)
  ·exact(vF c s q ht).up (by omega)
theorem DI(c:sN)(s:St)(d:Int)(t:ByteArray):fU c 7 s (s.await d t):=by
 unfold St.await;cases hq:St.j6 s.Q d with
 |some q=>
  dsimp only;refine(fU.zw ?_).up (by omega);unfold St.hold;split<;>exact⟨rfl,rfl,rfl,rfl,rfl,rfl,rfl,rfl,rfl,rfl⟩
 |none=>
  exact fU.up (n:=1+6) (fU.trans (.zw (s':={s with Q:=s.Q++ [St.ic d t]}) ⟨rfl,rfl,rfl,rfl,rfl,rfl,rfl,rfl,rfl,rfl⟩) (vF c _ (St.ic d t) (by show(1:Int)<=1∧(1:Int)<=8;omega))) (by decide)
theorem GZ(f:Rt->Rt)(hd:∀y,(f y).dest=y.dest)(hr:∀y,y.dest=d->rk (f y)=rk y∧(f y).hops=y.hops)(x:sM (aK A d) q h):sM (aK (A.map f) d) q h:=by
 obtain⟨y,hy,h1⟩:=x;obtain⟨_,kX⟩:=bU hy;refine⟨f y,?_,?_⟩
 ·unfold aK at hy ⊢;rw[List.find?_map];have:((λx:Rt=>x.dest==d)∘ f)=λx=>x.dest==d:=by
   funext z
   simp[hd]
  rw[this,hy];rfl
 ·obtain⟨e1,e2⟩:=hr y kX;rw[e1,e2];exact h1
theorem GY(d' e:Int)(x:sM (aK A d) q h):sM (aK (iO A d' e) d) q h:=by
 refine GZ _ (λy=> ?_) (λy _=> ?_) x
 ·split
  ·exact mq e y
  ·rfl
 ·split
  ·unfold sI;split
   ·exact⟨rfl,rfl⟩
   ·exact⟨rfl,rfl⟩
  ·exact⟨rfl,rfl⟩
theorem G5(d' n:Int)(x:sM (aK A d) q h):sM (aK (kZ A d' n) d) q h:=by
 refine GZ _ (λy=> ?_) (λy _=> ?_) x
 ·split
  ·exact lg n y
  ·rfl
 ·split
  ·unfold qF;split
   ·exact⟨rfl,rfl⟩
   ·exact⟨rfl,rfl⟩
  ·exact⟨rfl,rfl⟩
theorem Iz(A:List Rt)(x:Rt)(h:aK A x.dest=none):aK (uy A x) x.dest=some x:=by
 unfold uy aK;rw[List.find?_append];have h1:(A.take (pos A x.dest)).find? (λz=>z.dest==x.dest)=none:=by
  rw[List.find?_eq_none];intro z hz;have:=(jZ.1 h) z (List.mem_of_mem_take hz);simpa using this
 rw[h1];simp
theorem Ay{me:Int}{n e:Int}(hd:d≠me)(h0:d≠0)(h4:(iP me A d q h n e).2≠4):sM (aK (iP me A d q h n e).1 d) q h:=by
 unfold iP at h4 ⊢;rw[aH (by simp[hd,h0])]at h4 ⊢;cases hl:aK A d with
 |none=>
  rw[hl]at h4;dsimp only at h4 ⊢;split at h4
  ·exact absurd rfl h4
  ·rename_i h8;rw[aH h8];exact⟨newR d q h n e,Iz A (newR d q h n e) hl,.inr ⟨rfl,fo _⟩⟩
 |some x=>
  dsimp only;obtain⟨hx,hxd⟩:=bU hl;split
  ·refine⟨Ac q h n e x,?_,.inr ⟨rfl,fo _⟩⟩;unfold gV aK;rw[List.find?_map];have:((λx:Rt=>x.dest==d)∘ λx=>if x.dest=d then Ac q h n e x else x)=λx=>x.dest==d:=by
    funext z
    by_cases e:z.dest=d<;>simp[e,Ac]
   rw[this,show List.find? (λx=>x.dest==d) A=some x from hl];simp[hxd]
  ·rename_i hg;refine⟨x,hl,?_⟩;have h2:=YD (newR d q h n e) x;have h3:Wj (newR d q h n e) x=false:=by simpa using hg
   rw[h3]at h2;have e1:rk (newR d q h n e)=q:=rfl;rw[e1]at h2;simp only[Bool.not_false,Bool.true_eq,Bool.or_eq_true,eF,iM]at h2;rcases h2 with h2|⟨h2,h3⟩
   ·exact .inl h2
   ·exact .inr ⟨h2.symm,h3⟩
theorem AO(c:sN)(s:St)(p:aD)(hp:(p.dest=s.me∧p.hops=0∧p.aX=s.seq)∨∃y,aK s.A p.dest=some y∧y.valid=true∧p.aX=y.seq∧p.hops=y.hops):fU c 1 s (s.answer p):=by
 unfold St.answer;split
 ·refine .one (.aJ _ _ [] ?_ (.inl rfl));rcases hp with⟨h1,h2,h3⟩|h
  ·exact .inr (.inr (.inl ⟨rfl,h1,h2,rfl,h3⟩))
  ·exact .inr (.inr (.inr (.inl ⟨rfl,rfl,h⟩)))
 ·exact fJ c s 3
theorem BF{now:Int}(h:(bH A d now).2=true):aK A d=some (bH A d now).1∧(bH A d now).1.valid=true:=by
 unfold bH at h ⊢;cases hl:aK A d with
 |none=>rw[hl]at h;cases h
 |some x=>
  rw[hl]at h;dsimp only at h ⊢;split at h
  ·rename_i hv;rw[aM hv];simp only[eF]at hv;exact⟨rfl,hv.1⟩
  ·cases h
theorem pR{f:Rt->Rt}(hd:∀y,(f y).dest=y.dest){y:Rt}(h:aK A d=some y):aK (A.map f) d=some (f y):=by
 unfold aK at h ⊢;rw[List.find?_map];have:((λx:Rt=>x.dest==d)∘ f)=λx=>x.dest==d:=by
  funext z
  simp[hd]
 rw[this,h];rfl
theorem Iy{d' n:Int}{y:Rt}(h:aK A d=some y):∃z,aK (kZ A d' n) d=some z∧z.valid=y.valid∧z.seq=y.seq∧z.hops=y.hops:=by
 refine⟨_,pR (f:=λx=>if x.dest=d' then qF n x else x) (λy=> ?_) h,?_⟩
 ·split
  ·exact lg n y
  ·rfl
 ·split
  ·unfold qF;split<;>exact⟨rfl,rfl,rfl⟩
  ·exact⟨rfl,rfl,rfl⟩
theorem DJ(s:St)(fr:Int)(p:aD)(L:List (Int×Int))(hk:p.kind=1)(hme:p.aJ≠s.me)(hr:p.aJ≠0->sM (aK s.A p.aJ) p.dw (St.far p.hops)):fU (some (fr,p,L)) 3 s (s.asked p):=by
 unfold St.asked;split
 ·unfold St.iG;exact((fU.one (.mx fr p L rfl)).trans (AO _ _ _ (.inl ⟨rfl,rfl,rfl⟩))).up (by omega)
 ·split
  ·rename_i hf;simp only[eF]at hf;obtain⟨h1,h2⟩:=BF hf.1;unfold St.gK;have hb:∃z,aK (if (bH s.A p.aJ s.now).2 then kZ s.A p.dest (bH s.A p.aJ s.now).1.next else s.A) p.dest=some z∧z.valid=true∧z.seq=(bH s.A p.dest s.now).1.seq∧z.hops=(bH s.A p.dest s.now).1.hops:=by
    split
    ·obtain⟨z,e1,e2,e3,e4⟩:=Iy (d':=p.dest) (n:=(bH s.A p.aJ s.now).1.next) h1;exact⟨z,e1,e2.trans h2,e3,e4⟩
    ·exact⟨_,h1,h2,rfl,rfl⟩
   have hs1:fU (some (fr,p,L)) 1 s {s with A:=if (bH s.A p.aJ s.now).2 then kZ s.A p.dest (bH s.A p.aJ s.now).1.next else s.A}:=by
    split
    ·exact .one (.tab (.bN _ _))
    ·exact .nil _ _
   obtain⟨z,e1,e2,e3,e4⟩:=hb;obtain⟨u,k1,k2,k3,k4⟩:=Iy (d':=p.aJ) (n:=(bH s.A p.dest s.now).1.next) e1;refine fU.up (n:=1+1+1) ((hs1.snoc (.tab (.bN _ _))).trans (AO _ _ _ (.inr ⟨u,k1,k2.trans e2,?_,?_⟩))) (by decide)
   ·exact(k3.trans e3).symm
   ·exact(k4.trans e4).symm
  ·split
   ·exact(fJ _ _ _).up (by omega)
   ·rename_i ht;unfold St.askOn;refine fU.up (n:=1) (.one (.aJ 0 {p with ttl:=p.ttl - 1,hops:=St.far p.hops,aX:=if (aK s.A p.dest).isSome then max p.aX (eT s.A p.dest)else p.aX,unk:=if (aK s.A p.dest).isSome then false else p.unk} [] (.inr (.inl ⟨fr,p,L,rfl,hk,hk,rfl,rfl,rfl,rfl,ht,hme,?_,hr⟩)) (.inl rfl))) (by decide);dsimp only;split
    ·rcases Int.le_total p.aX (eT s.A p.dest)with h|h
     ·exact .inr (Int.max_eq_right h)
     ·exact .inl (Int.max_eq_left h)
    ·exact .inl rfl
theorem zq(s:St)(fr:Int)(p:aD)(L:List (Int×Int))(hk:p.kind=1):fU (some (fr,p,L)) 7 s (s.bV fr p):=by
 unfold St.bV;split
 ·exact(fJ _ _ _).up (by omega)
 ·rename_i hn;simp only[not_or]at hn;obtain⟨hme,_⟩:=hn;refine fU.up (n:=1+6) (fU.trans (.zw (s':={s with mem:=dP s.mem (p.aJ,p.id) (s.now+1280) s.tn,tn:=s.tn+1}) ⟨rfl,rfl,rfl,rfl,rfl,rfl,rfl,rfl,rfl,rfl⟩) ?_) (by decide);unfold St.learn;have hup:fU (some (fr,p,L)) 1 ({s with mem:=dP s.mem (p.aJ,p.id) (s.now+1280) s.tn,tn:=s.tn+1}:St) {s with mem:=dP s.mem (p.aJ,p.id) (s.now+1280) s.tn,tn:=s.tn+1,A:=(iP s.me s.A p.aJ p.dw (St.far p.hops) fr (s.now+3000)).1}:=.one (.tab (.Wq fr p L (s.now+3000) rfl hk));split
  ·exact(hup.trans (fJ _ _ 2)).up (by omega)
  ·rename_i h4;have hr:p.aJ≠0->sM (aK (iP s.me s.A p.aJ p.dw (St.far p.hops) fr (s.now+3000)).1 p.aJ) p.dw (St.far p.hops):=λh0=>Ay hme h0 h4;split
   ·refine((hup.snoc (.tab (.use p.aJ (s.now+3000)))).trans (DJ _ fr p L hk hme λh0=>GY _ _ (hr h0))).up (by omega)
   ·exact(hup.trans (DJ _ fr p L hk hme hr)).up (by omega)
theorem CG(s:St)(fr:Int)(p:aD)(L:List (Int×Int))(hk:p.kind=2)(h4:∀q∈s.Q,q.txt.length<=4):fU (some (fr,p,L)) 15 s (s.dN fr p):=by
 unfold St.dN;split
 ·exact(fJ _ _ _).up (by omega)
 ·rename_i hme;dsimp only;have hup:fU (some (fr,p,L)) 1 s {s with A:=(iP s.me s.A p.dest p.aX (St.far p.hops) fr (s.now+p.life)).1}:=.one (.tab (.Wp fr p L (s.now+p.life) rfl hk));split
  ·exact(hup.trans (fJ _ _ 2)).up (by omega)
  ·rename_i h5;have hr:p.dest≠0->sM (aK (iP s.me s.A p.dest p.aX (St.far p.hops) fr (s.now+p.life)).1 p.dest) p.aX (St.far p.hops):=λh0=>Ay hme h0 h5;split
   ·have ha:=hup.trans (yE (some (fr,p,L)) _ p.dest h4);split
    ·exact fU.up (n:=1+13+1) (ha.trans (fJ _ _ 7)) (by decide)
    ·exact ha.up (by omega)
   ·split
    ·exact(hup.trans (fJ _ _ 4)).up (by omega)
    ·rename_i ht;refine fU.up (n:=1+4) (hup.trans ?_) (by decide);unfold St.iD;split
     ·refine fU.snoc (fU.snoc (fU.snoc (fU.one (.tab (.bN _ _))) (.tab (.bN _ _))) (.tab (.use _ _))) (.aJ _ _ [] ?_ (.inl rfl));exact .inr (.inr (.inr (.inr (.inl ⟨fr,p,L,rfl,hk,hk,rfl,rfl,rfl,rfl,ht,hme,λh0=>GY _ _ (G5 _ _ (G5 _ _ (hr h0)))⟩))))
     ·exact(fJ _ _ 3).up (by omega)
theorem EI(s:St)(fr:Int)(p:aD)(L:List (Int×Int))(hk:p.kind=9)(hx:∀y∈s.A,y.valid=true->s.now<y.exp):fU (some (fr,p,L)) 3 s (s.dU fr p):=by
 unfold St.dU;split
 ·exact fU.up (n:=1) (.zw ⟨rfl,rfl,rfl,rfl,rfl,rfl,rfl,rfl,rfl,rfl⟩) (by decide)
 ·split
  ·exact(fJ _ _ _).up (by omega)
  ·split
   ·exact fU.snoc (fU.snoc (fU.one (.tab (.use _ _))) (.tab (.use _ _))) (.aJ _ _ [] (.inr (.inr (.inr (.inr (.inr (.inr hk)))))) (.inl rfl))
   ·rename_i hf;refine fU.trans (n:=2) (k:=1) ?_ (yF _ _ _ _);refine fU.snoc (fJ _ s 3) (.tab (.grow p.dest ?_));intro y hy;have hy':aK s.A p.dest=some y:=hy;cases hv:y.valid with
    |false=>rfl
    |true=>
     exfalso;apply hf;unfold bH;rw[hy'];dsimp only;have:=hx y (bU hy').1 hv;rw[hv,aM (by simpa using this)]
theorem AL(c:sN)(s:St)(fr:Int)(p:aD):fU c 3 s (s.dA fr p):=by
 unfold St.dA;split
 ·refine fU.trans (n:=1) (k:=2) (fJ _ s 8) ?_;exact fU.snoc (yF _ _ _ _) (.zw ⟨rfl,rfl,rfl,rfl,rfl,rfl,rfl,rfl,rfl,rfl⟩)
 ·exact(fJ _ _ _).up (by omega)
theorem OO(fr q:Int)(y:Rt):y.seq<=(bQ fr q y).seq:=by
 unfold bQ;split
 ·show y.seq<=max (gr y.seq) q;have:y.seq<=gr y.seq:=by unfold gr;omega
  omega
 ·exact fo _
theorem Pf{fr:Int}(q:Int)(h:mR A fr d=true):0<=eT (gT A fr d q) d:=by
 unfold mR at h;cases hl:aK A d with
 |none=>rw[hl]at h;cases h
 |some y=>
  rw[hl]at h;have hv:(y.valid&&(y.next==fr))=true:=h;have h1:=pR (f:=λx=>if x.dest=d then bQ fr q x else x) (λy=>by split;exact eU fr q y;rfl) hl;unfold eT gT gV;rw[h1,aM (bU hl).2];show 0<=(bQ fr q y).seq;unfold bQ;rw[aM hv];show 0<=max (gr y.seq) q;have:0<=gr y.seq:=by unfold gr;omega
  omega
theorem Kw(fr:Int)(p:aD)(K:List (Int×Int)):∀(L:List (Int×Int)),(∀x∈L,x∈K)->∀(s:St) (b:Bool) (T:List (Int×Int)),(∀x∈T,0<=x.2∧(x.2=0∨∃y∈s.A,y.dest=x.1∧x.2<=y.seq))->
  fU (some (fr,p,K)) L.length s {s with A:=(L.foldl (St.Ff fr) (s.A,b,T)).1}∧∀x∈(L.foldl (St.Ff fr) (s.A,b,T)).2.2,0<=x.2∧(x.2=0∨∃y∈(L.foldl (St.Ff fr) (s.A,b,T)).1,y.dest=x.1∧x.2<=y.seq):=by
 intro L
 induction L with
 |nil=>exact λ_ s b T hT=>⟨.nil _ _,hT⟩
 |cons a L ih=>
  intro hK s b T hT;rw[fP,dY];have hK':∀x∈L,x∈K:=λx hx=>hK x (iJ _ hx);unfold St.Ff;dsimp only;split
  ·rename_i hlb;have h1:fU (some (fr,p,K)) 1 s {s with A:=gT s.A fr a.1 a.2}:=.one (.tab (.lose fr p K rfl a (hK a gm)));have hkeep:∀x:Int×Int,(x.2=0∨∃y∈s.A,y.dest=x.1∧x.2<=y.seq)->x.2=0∨∃y∈gT s.A fr a.1 a.2,y.dest=x.1∧x.2<=y.seq:=λx hx=>by
    rcases hx with h|⟨y,hy,e,h⟩
    ·exact .inl h
    ·refine .inr ⟨if y.dest=a.1 then bQ fr a.2 y else y,dh.2 ⟨y,hy,rfl⟩,?_⟩;split
     ·exact⟨(eU _ _ y).trans e,Int.le_trans h (OO fr a.2 y)⟩
     ·exact⟨e,h⟩
   have h2:=ih hK' {s with A:=gT s.A fr a.1 a.2} true (if ((aK s.A a.1).any λy=>decide (0<y.bN.length))then T++ [(a.1,eT (gT s.A fr a.1 a.2) a.1)]else T) (λx hx=>by
    split at hx
    ·rcases dG.1 hx with h|h
     ·exact⟨(hT x h).1,hkeep x (hT x h).2⟩
     ·rw[dO]at h;subst h;refine⟨Pf a.2 hlb,?_⟩;rcases M7 (gT s.A fr a.1 a.2) a.1 with h|⟨y,k1,k2,k3,_⟩
      ·exact .inl h
      ·exact .inr ⟨y,k1,k2,k3⟩
    ·exact⟨(hT x hx).1,hkeep x (hT x hx).2⟩)
   exact⟨(h1.trans h2.1).up (by omega),h2.2⟩
  ·have h2:=ih hK' s b T hT;exact⟨h2.1.up (by omega),h2.2⟩
theorem EH(s:St)(fr:Int)(p:aD)(L:List (Int×Int)):fU (some (fr,p,L)) (L.length+2) s (s.fC fr L):=by
 unfold St.fC;dsimp only;obtain⟨h1,h2'⟩:=Kw fr p L L (λ_ h=>h) s false [] (λx hx=>by cases hx);have h2:∀x∈(L.foldl (St.Ff fr) (s.A,false,[])).2.2,x.2=0∨∃y∈(L.foldl (St.Ff fr) (s.A,false,[])).1,y.dest=x.1∧x.2<=y.seq∧(0<=x.2∨x.2=y.seq):=λx hx=>by
  obtain⟨k0,k⟩:=h2' x hx;rcases k with k|⟨y,k1,k2,k3⟩
  ·exact .inl k
  ·exact .inr ⟨y,k1,k2,k3,.inl k0⟩
 split
 ·exact(h1.trans (vE _ _ _ _ h2)).up (by omega)
 ·exact(h1.trans ((fJ _ _ 7).trans (vE _ _ _ _ h2))).up (by omega)
structure Ot where
 bg:List (Bool×Int×Int)
 bn:Bool
 aI:List (Int×ByteArray)
 aR:List (Int×ByteArray)
 aQ:List Int
def St.ot(s:St):Ot:=⟨s.bg,s.bn,s.aI,s.aR,s.aQ⟩
def Ot.none:Ot:=⟨[],false,[],[],[]⟩
def Ot.idle(o:Ot):Bool:=o.bg.isEmpty&&!o.bn&&o.aI.isEmpty&&o.aR.isEmpty&&o.aQ.isEmpty
structure bG where
 addr:Int
 aZ:List Int
 nd:Option St
 hrs:List Bool
 tears:Bool
 whole:Int
def bG.stop(s:bG):bG:={s with nd:=none,tears:=false,whole:=0}
def bG.write(s:bG)(o:Ot):bG×Bool:=
 if o.bg.isEmpty&&!o.bn then(s,true)
 else if s.tears then({s with aZ:=if o.bn then s.aZ else s.aZ++(bB o.bg).take s.whole.toNat}.stop,false)
 else({s with aZ:=(if o.bn then []else s.aZ)++bB o.bg},true)
def bG.zero:bG:=⟨0,[],none,[],false,0⟩
structure aP where
 now:Int
 S:List bG
 bD:List (Nat×Nat×ByteArray)
structure Ev where
 node:Int
 err:Int
 o:Ot
namespace aP
def at'(m:aP)(i:Nat):bG:=m.S.getD i bG.zero
def put(m:aP)(i:Nat)(s:bG):aP:={m with S:=m.S.set i s}
def launch(m:aP)(f:Nat×Nat×ByteArray):aP:={m with bD:=if 48<(m.bD++ [f]).length then(m.bD++ [f]).tail else m.bD++ [f]}
def heard(m:aP)(i:Nat)(t:Int):List Nat:=(List.range m.S.length).filter λj=>(m.at' i).hrs.getD j false&&(decide (t=0)||decide (t=(m.at' j).addr))
def bK(m:aP)(i:Nat)(f:Int×ByteArray):aP:=(m.heard i f.1).foldl (λm j=>m.launch (i,j,f.2)) m
def jG(φ:aP->Int×ByteArray->aP×List Ev)(m:aP)(i:Nat)(o:Ot):aP×List Ev:=
 if o.idle then(m,[])
 else if ((m.at' i).write o).2 then o.aI.foldl (λz f=>((φ z.1 f).1,z.2++(φ z.1 f).2)) (m.put i ((m.at' i).write o).1,[⟨i,0,o⟩])
 else(m.put i ((m.at' i).write o).1,[⟨i,0,Ot.none⟩])
def nU(i:Nat)(m:aP)(f:Int×ByteArray):aP×List Ev:=(m.bK i f,[])
def CZ(m:aP)(i:Nat)(o:Ot):aP×List Ev:=jG (nU i) m i o
def jg(i:Nat)(m:aP)(f:Int×ByteArray):aP×List Ev:=
 if m.heard i f.1≠ []∨f.1=0 then(m.bK i f,[])
 else match ((m.bK i f).at' i).nd with
  |none=>(m.bK i f,[])
  |some s=>((m.bK i f).put i {(m.bK i f).at' i with nd:=some (s.brk m.now f.1)}).CZ i (s.brk m.now f.1).ot
def did(m:aP)(i:Nat)(o:Ot):aP×List Ev:=jG (jg i) m i o
def act(m:aP)(i:Nat)(s:St):aP×List Ev:=(m.put i {m.at' i with nd:=some s}).did i s.ot
def hear(m:aP)(i j:Nat)(b:ByteArray):aP×List Ev:=
 match (m.at' i).nd with
 |none=>(m,[])
 |some s=>m.act i (s.rcv m.now (m.at' j).addr (ak b))
def sP(z:aP×List Ev)(i:Nat):aP×List Ev:=
 match (z.1.at' i).nd with
 |none=>z
 |some s=>((z.1.act i (s.jY z.1.now)).1,z.2++(z.1.act i (s.jY z.1.now)).2)
def tick(m:aP)(n:Int):aP×List Ev:=
 if n<1∨n>60000 then(m,[])else(List.range m.S.length).foldl sP ({m with now:=m.now+n},[])
def link(m:aP)(a b:Nat)(on:Bool):aP:=
 if a=b then m else
  let m:=m.put a {m.at' a with hrs:=(m.at' a).hrs.set b on}
  m.put b {m.at' b with hrs:=(m.at' b).hrs.set a on}
def send(m:aP)(a b:Nat)(t:ByteArray):aP×List Ev:=
 match (m.at' a).nd with
 |none=>(m,[])
 |some s=>
  if t.size>16 then(m,[⟨a,6,Ot.none⟩])
  else if (m.at' b).addr=s.me∨(m.at' b).addr=0 then(m,[⟨a,2,Ot.none⟩])
  else m.act a (s.snd m.now (m.at' b).addr t)
def Lh(m:aP)(a:Nat):aP×List Ev:=m.act a (St.new (m.at' a).addr (m.at' a).aZ m.now)
def has(m:aP)(i:Int):Bool:=decide (0<=i)&&decide (i<m.S.length)
def runs(m:aP)(i:Int):Bool:=m.has i&&(m.at' i.toNat).nd.isSome
end aP
structure Op where
 dK:Int
 a:Int
 b:Int
 n:Int
 on:Bool
 txt:ByteArray
namespace aP
def may(m:aP)(op:Op):Bool:=
 if op.dK=1 then m.has op.a&&m.has op.b
 else if op.dK=2∨op.dK=8 then m.runs op.a&&m.has op.b
 else if op.dK=9∨op.dK=10 then m.runs op.a
 else if op.dK=11 then m.has op.a&&!m.runs op.a
 else true
def flight(m:aP)(op:Op):aP×List Ev:=
 if op.a<0∨m.bD.length=0 then(m,[])
 else
  let k:=op.a.toNat%m.bD.length
  let f:=m.bD.getD k (0,0,⟨#[]⟩)
  if op.dK=4 then {m with bD:=m.bD.eraseIdx k}.hear f.2.1 f.1 f.2.2
  else if op.dK=5 then({m with bD:=m.bD.eraseIdx k},[])
  else if op.dK=6 then(m.launch f,[])
  else({m with bD:=m.bD.set k (f.1,f.2.1,f.2.2.extract 0 (f.2.2.size - (min (max 0 op.n) f.2.2.size).toNat))},[])
def step(m:aP)(op:Op):aP×List Ev:=
 if !m.may op then(m,[⟨0,5,Ot.none⟩])
 else if op.dK=1 then(m.link op.a.toNat op.b.toNat op.on,[])
 else if op.dK=2 then m.send op.a.toNat op.b.toNat op.txt
 else if op.dK=3 then m.tick op.n
 else if op.dK=4∨op.dK=5∨op.dK=6∨op.dK=7 then m.flight op
 else if op.dK=8 then m.hear op.a.toNat op.b.toNat op.txt
 else if op.dK=9 then(m.put op.a.toNat (m.at' op.a.toNat).stop,[])
 else if op.dK=10 then(m.put op.a.toNat {m.at' op.a.toNat with tears:=true,whole:=max 0 op.n},[])
 else if op.dK=11 then m.Lh op.a.toNat
 else(m,[])
def new(L:List Int):aP:=⟨0,L.map λa=>⟨a,bB (St.new a [] 0).bg,some (St.new a [] 0),List.replicate 6 false,false,0⟩,[]⟩
end aP
open Go.RowKit Go.Maps
variable{K:List Nat}{m:aP}{s:bG}{W W' a b:World}
def ZE:List Nat:=[97,94,149,102,5,131,158,38,34,177,9,165,254,35]
def ada:List Nat:=[131,158,38,34,177,9,165,254,35]
def OfK(K:List Nat)(o:Obj):Prop:=(∃es cl,o=.map es cl)∨∃c t,t∈K∧o=.cells c t (0,0)
theorem OfK.mono{K':List Nat}{o:Obj}(h:OfK K o)(hs:∀t∈K,t∈K'):OfK K' o:=by
 rcases h with h|⟨c,t,ht,e⟩
 ·exact .inl h
 ·exact .inr ⟨c,t,hs t ht,e⟩
theorem OfK.not{c:Array Value}{t:Nat}{mk:Nat×Nat}(h:OfK K (.cells c t mk))(ht:t ∉ K):False:=by
 rcases h with⟨es,cl,e⟩|⟨c',t',h1,e⟩
 ·cases e
 ·cases e;exact ht h1
theorem Nn.kind{N:Nat}{g:bI}{s:St}{TL:List Hp.Tm}(n:Nn N g s TL W){k:Nat}(hk:Ft N g s k):∃o,W.heap[k]?=some o∧OfK ada o:=by
 rcases hk with(rfl|rfl|hk)|hk
 ·exact⟨_,n.cr.nd,.inr ⟨_,_,by decide,rfl⟩⟩
 ·obtain⟨es,cl,hm⟩:=n.cr.mo.obj;exact⟨_,hm,.inl ⟨_,_,rfl⟩⟩
 ·rcases hk with rfl|rfl|⟨y,hy,hk|hk⟩
  ·exact⟨_,n.cr.tb.blk,.inr ⟨_,158,by decide,rfl⟩⟩
  ·obtain⟨es,cl,hm⟩:=n.cr.tb.map.obj;exact⟨_,hm,.inl ⟨_,_,rfl⟩⟩
  ·obtain⟨B,p1,p2⟩:=n.cr.tb.ln y hy;rw[p1]at hk;cases hk;exact⟨_,p2,.inr ⟨_,38,by decide,rfl⟩⟩
  ·obtain⟨c,hc⟩:=aS (n.cr.tb.row y hy) hk;exact⟨_,hc,.inr ⟨_,34,by decide,rfl⟩⟩
 ·have r:=n.rs;rcases hk with rfl|hk|rfl|rfl|hk|hk
  ·obtain⟨es,cl,hm⟩:=r.sn.obj;exact⟨_,hm,.inl ⟨_,_,rfl⟩⟩
  ·obtain⟨o,ho,⟨rfl,es,cl,rfl⟩|⟨c,rfl⟩|⟨c,rfl⟩⟩:=r.sr.kind hk
   ·exact⟨_,ho,.inl ⟨_,_,rfl⟩⟩
   ·exact⟨_,ho,.inr ⟨_,177,by decide,rfl⟩⟩
   ·exact⟨_,ho,.inr ⟨_,9,by decide,rfl⟩⟩
  ·exact⟨_,r.tm.blk,.inr ⟨_,165,by decide,rfl⟩⟩
  ·obtain⟨f,p1,_⟩:=r.tm.map;obtain⟨es,cl,hm⟩:=p1.obj;exact⟨_,hm,.inl ⟨_,_,rfl⟩⟩
  ·obtain⟨c,hc⟩:=aS r.tm.row hk;exact⟨_,hc,.inr ⟨_,254,by decide,rfl⟩⟩
  ·obtain⟨c,hc⟩:=aS r.pc hk;exact⟨_,hc,.inr ⟨_,35,by decide,rfl⟩⟩
structure SG where
 B:Nat
 jv:Value
 N:Nat
 g:bI
 TL:List Hp.Tm
def Pk(N:Nat):Option St->Value
 |none=> .pointer none
 |some _=> .pointer (some ⟨N,0,none⟩)
def Gp(x:SG)(s:bG):List Value:=[.int .u32 s.addr,x.jv,Pk x.N s.nd]++s.hrs.map Value.bool++ [.bool s.tears,.int .i64 s.whole]
structure mZ(x:SG)(s:bG)(W:World):Prop where
 blk:W.heap[x.B]?=some (.cells (Gp x s).toArray 102 (0,0))
 hl:s.hrs.length=6
 row:W.ownsRow 0 5 1 x.jv s.aZ.length (U s.aZ)
 nd:∀z,s.nd=some z->Nn x.N x.g z x.TL W∧dV z x.TL
def lC(x:SG)(s:bG)(k:Nat):Prop:=k=x.B∨x.jv.ownBlock=some k∨∃z,s.nd=some z∧Ft x.N x.g z k
def acT:List Nat:=[102,5,131,158,38,34,177,9,165,254,35]
theorem mZ.kind{x:SG}(h:mZ x s W){k:Nat}(hk:lC x s k):∃o,W.heap[k]?=some o∧OfK acT o:=by
 rcases hk with rfl|hk|⟨z,hz,hk⟩
 ·exact⟨_,h.blk,.inr ⟨_,102,by decide,rfl⟩⟩
 ·obtain⟨c,hc⟩:=aS h.row hk;exact⟨_,hc,.inr ⟨_,5,by decide,rfl⟩⟩
 ·obtain⟨o,ho,hK⟩:=(h.nd z hz).1.kind hk;exact⟨o,ho,hK.mono (by decide)⟩
theorem mZ.lt{x:SG}(h:mZ x s W){k:Nat}(hk:lC x s k):k<W.heap.size:=by
 obtain⟨o,ho,_⟩:=h.kind hk;exact aF ho
theorem mZ.kept{x:SG}(h:mZ x s W)(he:∀k,lC x s k->W'.heap[k]?=W.heap[k]?):mZ x s W':=
 ⟨(he _ (.inl rfl)).trans h.blk,h.hl,bP h.row λk hk=>he k (.inr (.inl hk)),λz hz=>⟨(h.nd z hz).1.kept λk hk=>he k (.inr (.inr ⟨z,hz,hk⟩)),(h.nd z hz).2⟩⟩
structure MG where
 G:Nat
 sv:Value
 av:Value
 L:List SG
def LJ(L:List SG):List Value:=L.map λx=> .pointer (some ⟨x.B,0,none⟩)
def oZ(L:List (Nat×Nat×ByteArray)):List Value:=L.flatMap λf=> [.int .i64 f.1,.int .i64 f.2.1,.string f.2.2]
structure MM(y:MG)(m:aP)(W:World):Prop where
 blk:W.heap[y.G]?=some (.cells #[.int .u64 m.now,y.sv,y.av] 97 (0,0))
 Ai:W.ownsRow 0 94 1 y.sv m.S.length (LJ y.L)
 bD:W.ownsRow 0 149 3 y.av m.bD.length (oZ m.bD)
 len:y.L.length=m.S.length
 st:∀(i:Nat) x s,y.L[i]?=some x->m.S[i]?=some s->mZ x s W
 ap:∀(i j:Nat) x s x' s',i≠j->y.L[i]?=some x->m.S[i]?=some s->y.L[j]?=some x'->m.S[j]?=some s'->∀k,lC x s k->¬lC x' s' k
def uP(y:MG)(m:aP)(k:Nat):Prop:=k=y.G∨y.sv.ownBlock=some k∨y.av.ownBlock=some k∨∃(i:Nat) (x:SG) (s:bG),y.L[i]?=some x∧m.S[i]?=some s∧lC x s k
theorem MM.kind{y:MG}(h:MM y m W){k:Nat}(hk:uP y m k):∃o,W.heap[k]?=some o∧OfK ZE o:=by
 rcases hk with rfl|hk|hk|⟨i,x,s,h1,h2,hk⟩
 ·exact⟨_,h.blk,.inr ⟨_,97,by decide,rfl⟩⟩
 ·obtain⟨c,hc⟩:=aS h.Ai hk;exact⟨_,hc,.inr ⟨_,94,by decide,rfl⟩⟩
 ·obtain⟨c,hc⟩:=aS h.bD hk;exact⟨_,hc,.inr ⟨_,149,by decide,rfl⟩⟩
 ·obtain⟨o,ho,hK⟩:=(h.st i x s h1 h2).kind hk;exact⟨o,ho,hK.mono (by decide)⟩
theorem MM.lt{y:MG}(h:MM y m W){k:Nat}(hk:uP y m k):k<W.heap.size:=by
 obtain⟨o,ho,_⟩:=h.kind hk;exact aF ho
theorem MM.not{y:MG}(h:MM y m W){k:Nat}{c:Array Value}{t:Nat}{mk:Nat×Nat}(ho:W.heap[k]?=some (.cells c t mk))(ht:t ∉ ZE):¬uP y m k:=λhk=>by
 obtain⟨o,ho',hK⟩:=h.kind hk;rw[ho]at ho';cases ho';exact hK.not ht
theorem MM.kept{y:MG}(h:MM y m W)(he:∀k,uP y m k->W'.heap[k]?=W.heap[k]?):MM y m W':=
 ⟨(he _ (.inl rfl)).trans h.blk,bP h.Ai λk hk=>he k (.inr (.inl hk)),bP h.bD λk hk=>he k (.inr (.inr (.inl hk))),h.len,λi x s h1 h2=>(h.st i x s h1 h2).kept λk hk=>he k (.inr (.inr (.inr ⟨i,x,s,h1,h2,hk⟩))),h.ap⟩
theorem MM.later{y:MG}(h:MM y m W)(hb:Below W.heap.size W W'):MM y m W':=h.kept λk hk=>hb.block k (h.lt hk)
theorem MM.own{y:MG}(h:MM y m W){i:Nat}{x:SG}{s:bG}(h1:y.L[i]?=some x)(h2:m.S[i]?=some s){k:Nat}(hk:lC x s k):k≠y.G∧y.sv.ownBlock≠some k∧y.av.ownBlock≠some k:=by
 obtain⟨o,ho,hK⟩:=(h.st i x s h1 h2).kind hk;refine⟨?_,λe=> ?_,λe=> ?_⟩
 ·rintro rfl;rw[h.blk]at ho;cases ho;exact hK.not (by decide)
 ·obtain⟨c,hc⟩:=aS h.Ai e;rw[hc]at ho;cases ho;exact hK.not (by decide)
 ·obtain⟨c,hc⟩:=aS h.bD e;rw[hc]at ho;cases ho;exact hK.not (by decide)
structure MU(y:MG)(m:aP)(y':MG)(m':aP)(W W':World):Prop where
 fx:Fx (uP y m) W W'
 sub:∀k,uP y' m' k->uP y m k∨(W.heap.size<=k∧k<W'.heap.size)
 G:y'.G=y.G
 n:m'.S.length=m.S.length
 sv:y'.sv=y.sv
 B:y'.L.map (·.B)=y.L.map (·.B)
theorem MU.refl(y:MG)(m:aP)(W:World):MU y m y m W W:=⟨Fx.refl _ _,λ_ h=> .inl h,rfl,rfl,rfl,rfl⟩
theorem MU.trans{y y' y'':MG}{m' m'':aP}{c:World}(p:MU y m y' m' a b)(q:MU y' m' y'' m'' b c):MU y m y'' m'' a c:=by
 have h1:=p.fx.size;have h2:=q.fx.size;refine⟨p.fx.trans q.fx λi hi hk=>(p.sub i hk).elim id λh=>by omega,λk hk=> ?_,q.G.trans p.G,q.n.trans p.n,q.sv.trans p.sv,q.B.trans p.B⟩;rcases q.sub k hk with h|h
 ·rcases p.sub k h with h|h
  ·exact .inl h
  ·exact .inr (by omega)
 ·exact .inr (by omega)
theorem MU.below{y:MG}(h:Below a.heap.size a b):MU y m y m a b:=⟨Fx.below h,λ_ h=> .inl h,rfl,rfl,rfl,rfl⟩
theorem cO{α:Type}{L:List α}{i j:Nat}{a b:α}(h:(L.set i a)[j]?=some b):(j=i∧b=a)∨(j≠i∧L[j]?=some b):=by
 rw[List.getElem?_set]at h;split at h
 ·rename_i e;split at h
  ·cases h;exact .inl ⟨e.symm,rfl⟩
  ·cases h
 ·rename_i e;exact .inr ⟨λh=>e h.symm,h⟩
theorem MM.turn{y:MG}(h:MM y m W){i:Nat}{x x':SG}{s s':bG}(h1:y.L[i]?=some x)(h2:m.S[i]?=some s)(hf:Fx (lC x s) W W')(hst:mZ x' s' W')(hB:x'.B=x.B)(sub:∀k,lC x' s' k->lC x s k∨(W.heap.size<=k∧k<W'.heap.size)):
  MM {y with L:=y.L.set i x'} {m with S:=m.S.set i s'} W'∧MU y m {y with L:=y.L.set i x'} {m with S:=m.S.set i s'} W W':=by
 have hpt:LJ (y.L.set i x')=LJ y.L:=by
  unfold LJ;rw[List.map_set,hB];refine List.ext_getElem? λj=> ?_;rw[List.getElem?_set];split
  ·rename_i e;subst e;rw[jQ,h1];split
   ·rfl
   ·rename_i hl;rw[iL]at hl;exact absurd (fu.1 h1).1 hl
  ·rfl
 have hoth:∀(j:Nat) z u,j≠i->y.L[j]?=some z->m.S[j]?=some u->∀k,lC z u k->W'.heap[k]?=W.heap[k]?:=λj z u hj e1 e2 k hk=>
  hf.block k ((h.st j z u e1 e2).lt hk) λhc=>h.ap j i z u x s hj e1 e2 h1 h2 k hk hc
 refine⟨⟨(hf.block _ (aF h.blk) λhc=>(h.own h1 h2 hc).1 rfl).trans h.blk,?_,bP h.bD λk hk=>hf.block k (h.bD.lt k hk).2 λhc=>(h.own h1 h2 hc).2.2 hk,?_,?_,?_⟩,⟨hf.mono λk hk=> .inr (.inr (.inr ⟨i,x,s,h1,h2,hk⟩)),?_,rfl,List.length_set,rfl,?_⟩⟩
 ·dsimp only;rw[hpt,List.length_set];exact bP h.Ai λk hk=>hf.block k (h.Ai.lt k hk).2 λhc=>(h.own h1 h2 hc).2.1 hk
 ·simp only[List.length_set];exact h.len
 ·intro j z u e1 e2;rcases cO e1 with⟨rfl,rfl⟩|⟨hj,e1⟩
  ·rcases cO e2 with⟨_,rfl⟩|⟨hj,_⟩
   ·exact hst
   ·exact absurd rfl hj
  ·rcases cO e2 with⟨e,_⟩|⟨_,e2⟩
   ·exact absurd e hj
   ·exact(h.st j z u e1 e2).kept (hoth j z u hj e1 e2)
 ·intro a b z u z' u' hab e1 e2 e3 e4 k hk hk';rcases cO e1 with⟨rfl,rfl⟩|⟨ha,e1⟩
  ·rcases cO e2 with⟨_,rfl⟩|⟨hj,_⟩
   ·rcases cO e3 with⟨e,_⟩|⟨hb,e3⟩
    ·exact hab e.symm
    ·rcases cO e4 with⟨e,_⟩|⟨_,e4⟩
     ·exact hb e
     ·rcases sub k hk with hc|hc
      ·exact h.ap _ _ _ _ _ _ (Ne.symm hb) h1 h2 e3 e4 k hc hk'
      ·have:=(h.st _ _ _ e3 e4).lt hk';omega
   ·exact hj rfl
  ·rcases cO e2 with⟨e,_⟩|⟨_,e2⟩
   ·exact ha e
   ·rcases cO e3 with⟨rfl,rfl⟩|⟨hb,e3⟩
    ·rcases cO e4 with⟨_,rfl⟩|⟨hj,_⟩
     ·rcases sub k hk' with hc|hc
      ·exact h.ap _ _ _ _ _ _ ha (by assumption) (by assumption) h1 h2 k hk hc
      ·have:=(h.st _ _ _ (by assumption) (by assumption)).lt hk;omega
     ·exact hj rfl
    ·rcases cO e4 with⟨e,_⟩|⟨_,e4⟩
     ·exact hb e
     ·exact h.ap _ _ _ _ _ _ hab e1 e2 e3 e4 k hk hk'
 ·rintro k (rfl|hk|hk|⟨j,z,u,e1,e2,hk⟩)
  ·exact .inl (.inl rfl)
  ·exact .inl (.inr (.inl hk))
  ·exact .inl (.inr (.inr (.inl hk)))
  ·rcases cO e1 with⟨rfl,rfl⟩|⟨hj,e1⟩
   ·rcases cO e2 with⟨_,rfl⟩|⟨hj,_⟩
    ·rcases sub k hk with hc|hc
     ·exact .inl (.inr (.inr (.inr ⟨j,x,s,h1,h2,hc⟩)))
     ·exact .inr hc
    ·exact absurd rfl hj
   ·rcases cO e2 with⟨e,_⟩|⟨_,e2⟩
    ·exact absurd e hj
    ·exact .inl (.inr (.inr (.inr ⟨j,z,u,e1,e2,hk⟩)))
 ·dsimp only;rw[List.map_set,hB];refine List.ext_getElem? λj=> ?_;rw[List.getElem?_set];split
  ·rename_i e;subst e;rw[jQ,h1];split
   ·rfl
   ·rename_i hl;rw[iL]at hl;exact absurd (fu.1 h1).1 hl
  ·rfl
section
variable {P:Program} (w:World)
theorem Au(base:Nat)(t tx ty e:TypeId)(i:TypeInfo)(z:Value)(size bytes:Nat)(ht:P.underlying t=some (.slice e))(hi:P.info? e=some i)(hz:i.zero=some z)
  (hsize:i.size=size) (hby:i.bytes=bytes) (hzs:z.cells.size=size)
  (v:Value) (n:Nat) (xs:List Value) (hown:w.ownsRow base e size v n xs)
  (x:Value) (m:Nat) (news:List Value) (hs:Src P size tx x m news w)
  (h63:n+m<=maxLen) (hbytes:(n+m)* bytes<=140737488355328) (hbase:base<=w.heap.size):
  ∃v' w',(Builtin.append_ #[t,tx] ty #[v,x]).run P w=.ok v' w'∧w'.ownsRow base e size v' (n+m) (xs++news)∧w.grownBy w' v.ownBlock∧(v'.ownBlock=v.ownBlock∨v'.ownBlock=some w.heap.size):=by
 subst hsize;subst hby;have hl:=hs.newsLen;have hsmall:n+m<=9223372036854775807:=by simp only[maxLen]at h63;omega
 have hlen:(xs++news).length=(n+m)* i.size:=by rw[dx,hown.1,hl,Nat.add_mul]
 rcases hown.2 with⟨rfl,rfl⟩|⟨g,cap,cur,rfl,hbg,hg,hnc,hcm,hcs,htake⟩
 ·have hx0:xs=[]:=qz (by have:=hown.1;simpa using this);subst hx0;by_cases hm:m=0
  ·subst hm;have hn0:news=[]:=qz (by rw[hl];simp);subst hn0;have hr:(Builtin.append_ #[t,tx] ty #[.slice none 0 0,x]).run P w=.ok (.slice none 0 0) w:=by
    rcases hs.kind with⟨e',hk⟩|hk<;>simp[Builtin.append_,run_underlying ht,run_underlying hk,sizeOf,typeInfo,hi,hs.len,hs.cells]
   exact⟨_,_,hr,hown,⟨rfl,rfl,rfl,aB _,λ_ _ _=>rfl⟩,.inl rfl⟩
  ·have hr:=run_append_grow_src (P:=P) w t tx ty e i z ht hi hz none 0 0 [] (run_firstCells_none w.drew i.size 0 0 0) x m news hs (by omega) (by omega) (growslice_fits (by omega) hbytes);have hge:=grownCap_ge w (0+m) 0 e;have hcm:grownCap w (0+m) 0 e<=maxLen:=grownCap_le_maxLen w (0+m) 0 e h63;refine⟨_,_,hr,⟨hlen,.inr ⟨w.heap.size,_,_,rfl,hbase,bS w.drew _,hge,hcm,?_,?_⟩⟩,⟨rfl,rfl,rfl,by simp,λk hk _=>Go.heap_alloc_old w.drew _ hk⟩,.inr rfl⟩
   ·simp only[Array.size_append,List.size_toArray,size_zeroCells,hzs,hlen,<-Nat.add_mul]
    congr 1
    omega
   ·simp only[Array.toList_append];rw[<-hlen];exact List.take_left
 ·by_cases hroom:n+m<=cap
  ·have hfit:n * i.size+news.length<=cur.size:=by rw[hl,hcs,<-Nat.add_mul];exact Nat.mul_le_mul_right _ hroom
   have hr:=l7 (P:=P) w t tx ty e i ht hi g n cap cur hg x m news hs hroom hfit;refine⟨_,_,hr,⟨hlen,.inr ⟨g,cap,_,rfl,hbg,setRow_heap w g cur _ e _ hg,hroom,hcm,?_,?_⟩⟩,⟨rfl,rfl,rfl,by simp,λk _ hk=>setRow_other w g k _ (λe=>hk (by simp[Value.ownBlock,e]))⟩,.inl rfl⟩
   ·simp only[List.size_toArray,dx,List.length_take,List.length_drop,Array.length_toList];omega
   ·rw[htake,<-hlen];exact List.take_left
  ·have holds:∀j u,xs[j]?=some u->w.cell? ((⟨g,0,none⟩:Addr).add j)=some u:=hown.cells (g:=g) rfl;have hfo:=run_firstCells_some (P:=P) w.drew i.size n ⟨g,0,none⟩ n cap xs hown.1 (by simpa using holds);have hr:=run_append_grow_src (P:=P) w t tx ty e i z ht hi hz (some ⟨g,0,none⟩) n cap xs hfo x m news hs (by omega) (by omega) (growslice_fits (by omega) hbytes);have hge:=grownCap_ge w (n+m) cap e;have hcm:grownCap w (n+m) cap e<=maxLen:=grownCap_le_maxLen w (n+m) cap e h63;refine⟨_,_,hr,⟨hlen,.inr ⟨w.heap.size,_,_,rfl,hbase,bS w.drew _,hge,hcm,?_,?_⟩⟩,⟨rfl,rfl,rfl,by simp,λk hk _=>Go.heap_alloc_old w.drew _ hk⟩,.inr rfl⟩
   ·simp only[Array.size_append,List.size_toArray,size_zeroCells,hzs,hlen,<-Nat.add_mul]
    congr 1
    omega
   ·simp only[Array.toList_append];rw[<-hlen];exact List.take_left
end
theorem iK{P:Program}{ops:Array Oper}{o:Oper}{a:Act}{w:World}{K:Act->World->Prop}{Q:Exit->Act->World->Prop}{E:Prop}
  (hg:o.guard=none) (s x:Operand) (t tx:TypeId) (hop:o.op=Op.call {callee:=Callee.builtin Builtin.append,args:=#[s,x],argTypes:=#[t,tx]})
  (base:Nat) (e:TypeId) (i:TypeInfo) (z:Value) (size bytes:Nat) (h1:P.underlying t=some (.slice e)) (h2:P.info? e=some i) (h3:i.zero=some z) (h4:i.size=size) (h5:i.bytes=bytes) (h6:z.cells.size=size)
  (v:Value) (n:Nat) (xs:List Value) (hs:a.eval s=v) (hown:w.ownsRow base e size v n xs)
  (xv:Value) (m:Nat) (news:List Value) (hx:a.eval x=xv) (hsrc:Src P size tx xv m news w)
  (b1:n+m<=maxLen) (b2:(n+m)* bytes<=140737488355328) (hbase:base<=w.heap.size)
  (hK:∀v' w',w'.ownsRow base e size v' (n+m) (xs++news)->w.grownBy w' v.ownBlock->(v'.ownBlock=v.ownBlock∨v'.ownBlock=some w.heap.size)->K (a.put o.dst v') w'):
  if Region.wanted o (yielded ops a.tmps)=true then Oper.wp P o a w K Q else E:=by
 have hw:Region.wanted o (yielded ops a.tmps)=true:=by simp[Region.wanted,hg]
 rw[aM hw];obtain⟨v',w',hrun,r1,r2,r3⟩:=Au (P:=P) w base t tx o.type e i z size bytes h1 h2 h3 h4 h5 h6 v n xs hown xv m news hsrc b1 b2 hbase;unfold Oper.wp;simp[execOp,hop,resolve,invoke,builtin,hs,hx,hrun,Result.andThen];exact hK v' w' r1 r2 r3
theorem uU{P:Program}{w:World}{ops:Array Oper}{rest:List Oper}{o:Oper}{a:Act}{Q:Exit->Act->World->Prop}(hg:o.guard=none)(s x:Operand)(t tx:TypeId)(hop:o.op=Op.call {callee:=Callee.builtin Builtin.append,args:=#[s,x],argTypes:=#[t,tx]})
  (base:Nat) (e:TypeId) (i:TypeInfo) (z:Value) (size bytes:Nat) (h1:P.underlying t=some (.slice e)) (h2:P.info? e=some i) (h3:i.zero=some z) (h4:i.size=size) (h5:i.bytes=bytes) (h6:z.cells.size=size)
  (v:Value) (n:Nat) (xs:List Value) (hs:a.eval s=v) (hown:w.ownsRow base e size v n xs)
  (xv:Value) (m:Nat) (news:List Value) (hx:a.eval x=xv) (hsrc:Src P size tx xv m news w)
  (b1:n+m<=maxLen) (b2:(n+m)* bytes<=140737488355328) (hbase:base<=w.heap.size)
  (hK:∀v' w',w'.ownsRow base e size v' (n+m) (xs++news)->w.grownBy w' v.ownBlock->(v'.ownBlock=v.ownBlock∨v'.ownBlock=some w.heap.size)->wpList P ops Q rest (a.put o.dst v') w'):
  wpList P ops Q (o::rest) a w:=by
 refine wpList_plain hg λK hKK=> ?_;have h:=iK (ops:=ops) (E:=True) (K:=K) (Q:=Q) hg s x t tx hop base e i z size bytes h1 h2 h3 h4 h5 h6 v n xs hs hown xv m news hx hsrc b1 b2 hbase λv' w' k1 k2 k3=>hKK _ _ (hK v' w' k1 k2 k3);have hw:Region.wanted o (yielded ops a.tmps)=true:=by simp[Region.wanted,hg]
 rw[aM hw]at h;exact h
theorem Src.ofRow{P:Program}{w:World}{base e size n:Nat}{v:Value}{xs:List Value}{tx e':TypeId}(hk:P.underlying tx=some (.slice e'))(h:w.ownsRow base e size v n xs)(h1:∀u∈xs,u.oneCell'=true):Src P size tx v n xs w:=by
 rcases h.2 with⟨rfl,rfl⟩|⟨g,cap,cur,rfl,_⟩
 ·have hx:xs=[]:=qz (by have:=h.1;simpa using this);subst hx;exact Src.ofNil w hk 0
 ·exact Src.ofSlice w hk ⟨g,0,none⟩ n cap xs h.1 (h.cells (g:=g) rfl) h1
open Go.RowKit Go.Maps
variable{x:SG}{s s':bG}{W w w' w1:World}
theorem mZ.cell(h:mZ x s W):
  W.cell? ⟨x.B,0,none⟩=some (.int .u32 s.addr)∧W.cell? ⟨x.B,1,none⟩=some x.jv∧W.cell? ⟨x.B,2,none⟩=some (Pk x.N s.nd)∧W.cell? ⟨x.B,9,none⟩=some (.bool s.tears)∧W.cell? ⟨x.B,10,none⟩=some (.int .i64 s.whole)∧(∀(j:Nat) b,s.hrs[j]?=some b->W.cell? ⟨x.B,3+j,none⟩=some (.bool b))∧∀j,W.frozen? ⟨x.B,j,none⟩=false:=by
 have hl:=h.hl;have hc:∀j,W.cell? ⟨x.B,j,none⟩=(Gp x s)[j]?:=λj=>by
  rw[aG _ _ j _ _ _ h.blk];simp
 refine⟨(hc 0).trans rfl,(hc 1).trans rfl,(hc 2).trans rfl,?_,?_,λj b hj=> ?_,λj=> ?_⟩
 ·rw[hc];simp[Gp,hl]
 ·rw[hc];simp[Gp,hl]
 ·have hj':=(fu.1 hj).1;rw[hc];simp only[Gp,List.append_assoc];rw[List.getElem?_append_right (by simp),List.getElem?_append_left (by simp;omega)];simp[hj]
 ·simp[World.frozen?,h.blk]
def nD(x:SG)(s s':bG)(w w':World):Prop:=
 ∃x',x'.B=x.B∧mZ x' s' w'∧Fx (lC x s) w w'∧∀k,lC x' s' k->lC x s k∨(w.heap.size<=k∧k<w'.heap.size)
theorem nD.pre(hb:Below w.heap.size w w1)(h:nD x s s' w1 w'):nD x s s' w w':=by
 obtain⟨x',h1,h2,h3,h4⟩:=h;have:=hb.size;have:=h3.size;exact⟨x',h1,h2,(Fx.below hb).trans h3 λ_ _ h=>h,λk hk=>(h4 k hk).imp_right λh=>by omega⟩
theorem nD.trans{s1:bG}(h1:nD x s s1 w w1)(h2:∀x1,x1.B=x.B->mZ x1 s1 w1->nD x1 s1 s' w1 w'):nD x s s' w w':=by
 obtain⟨x1,b1,m1,f1,u1⟩:=h1;obtain⟨x2,b2,m2,f2,u2⟩:=h2 x1 b1 m1;have:=f1.size;have:=f2.size;refine⟨x2,b2.trans b1,m2,f1.trans f2 λk hk hs=>(u1 k hs).elim id λh=>by omega,λk hk=> ?_⟩;rcases u2 k hk with h|h
 ·exact(u1 k h).imp_right λh=>by omega
 ·exact .inr (by omega)
theorem nD.refl(h:mZ x s w):nD x s s w w:=⟨x,rfl,h,Fx.refl _ _,λ_ h=> .inl h⟩
theorem zW{B j:Nat}{l:List Value}{t:Nat}{v:Value}(h:W.heap[B]?=some (.cells l.toArray t (0,0))):(W.setCell ⟨B,j,none⟩ v).heap[B]?=some (.cells (l.set j v).toArray t (0,0)):=by
 simp[World.setCell,Array.getElem?_modify,h]
theorem mZ.set{x':SG}(h:mZ x s W)(j:Nat)(v:Value)(hB:x'.B=x.B)(hc:Gp x' s'=(Gp x s).set j v)(hl:s'.hrs.length=6)(hj:x'.jv=x.jv∧s'.aZ=s.aZ)(hn:∀z,s'.nd=some z->s.nd=some z∧x'.N=x.N∧x'.g=x.g∧x'.TL=x.TL):
  nD x s s' W (W.setCell ⟨x.B,j,none⟩ v):=by
 have hg:W.grownBy (W.setCell ⟨x.B,j,none⟩ v) (some x.B):=ah (aC _ (some x.B)) j _;have hnd:∀z,s.nd=some z->∀k,Ft x.N x.g z k->k≠x.B:=λz hz k hk e=>by
  obtain⟨o,ho,hK⟩:=(h.nd z hz).1.kind hk;subst e;rw[h.blk]at ho;cases ho;exact hK.not (by decide)
 obtain⟨hj1,hj2⟩:=hj;refine⟨x',hB,⟨?_,hl,?_,λz hz=> ?_⟩,Fx.grown hg λk e=>by cases e;exact .inl rfl,λk hk=> .inl ?_⟩
 ·rw[hB,hc];exact zW h.blk
 ·rw[hj1,hj2];exact h.row.kept hg (.inr (aA h.row h.blk (λc e=>(by cases e))))
 ·obtain⟨e0,e1,e2,e3⟩:=hn z hz;rw[e1,e2,e3];exact⟨(h.nd z e0).1.kept λk hk=>hg.block k ((h.nd z e0).1.lt hk) λe=>hnd z e0 k hk (Option.some.inj e),(h.nd z e0).2⟩
 ·rcases hk with hk|hk|⟨z,hz,hk⟩
  ·exact .inl (hk.trans hB)
  ·exact .inr (.inl (by rw[<-hj1];exact hk))
  ·obtain⟨e0,e1,e2,e3⟩:=hn z hz;rw[e1,e2]at hk;exact .inr (.inr ⟨z,e0,hk⟩)
theorem mZ.aZ{W':World}(h:mZ x s W){v:Value}{xs:List Int}(ho:W'.ownsRow 0 5 1 v xs.length (U xs))(hg:W.grownBy W' x.jv.ownBlock)(hv:v.ownBlock=x.jv.ownBlock∨v.ownBlock=some W.heap.size∨v.ownBlock=none):
  nD x s {s with aZ:=xs} W (W'.setCell ⟨x.B,1,none⟩ v):=by
 have hne:x.jv.ownBlock≠some x.B:=aA h.row h.blk (λc e=>(by cases e));have hB:=aF h.blk;have hsz:=hg.size;have hblk:=(hg.block _ hB λe=>hne e.symm).trans h.blk;have hg2:W'.grownBy (W'.setCell ⟨x.B,1,none⟩ v) (some x.B):=ah (aC _ (some x.B)) 1 _;have hnd:∀z,s.nd=some z->∀k,Ft x.N x.g z k->k≠x.B∧x.jv.ownBlock≠some k:=λz hz k hk=>by
  obtain⟨o,ho,hK⟩:=(h.nd z hz).1.kind hk;refine⟨λe=> ?_,λe=> ?_⟩
  ·subst e;rw[h.blk]at ho;cases ho;exact hK.not (by decide)
  ·obtain⟨c,hc⟩:=aS h.row e;rw[hc]at ho;cases ho;exact hK.not (by decide)
 have hf:Fx (lC x s) W (W'.setCell ⟨x.B,1,none⟩ v):=aV (Fx.grown hg λk e=> .inr (.inl e)) hg2 λi _ e=>by cases e;exact .inl rfl
 refine⟨{x with jv:=v},rfl,⟨?_,h.hl,?_,λz hz=> ?_⟩,hf,λk hk=> ?_⟩
 ·rw[show Gp {x with jv:=v} {s with aZ:=xs}=(Gp x s).set 1 v from rfl];exact zW hblk
 ·exact ho.kept hg2 (.inr (aA ho hblk (λc e=>(by cases e))))
 ·refine⟨(h.nd z hz).1.kept λk hk=> ?_,(h.nd z hz).2⟩;have hlt:=(h.nd z hz).1.lt hk;obtain⟨e1,e2⟩:=hnd z hz k hk;exact(hg2.block k (by omega) λe=>e1 (Option.some.inj e)).trans (hg.block k hlt λe=>e2 e.symm)
 ·rcases hk with hk|hk|hk
  ·exact .inl (.inl hk)
  ·rcases hv with e|e|e
   ·exact .inl (.inr (.inl (by rw[<-e];exact hk)))
   ·rw[show({x with jv:=v}:SG).jv=v from rfl,e]at hk;cases hk;have h1:=(ho.lt _ e).2;exact .inr ⟨aB _,by simpa using h1⟩
   ·rw[show({x with jv:=v}:SG).jv=v from rfl,e]at hk;cases hk
  ·exact .inl (.inr (.inr hk))
theorem Ga(h:mZ x s w):Calls Tryz.prog 34 #[.pointer (some ⟨x.B,0,none⟩)] w λe w'=>e=.returned (.tuple #[])∧nD x s s.stop w w':=by
 obtain⟨c0,c1,c2,c9,c10,ch,fz⟩:=h.cell;have f2:=fz 2;have f9:=fz 9;have f10:=fz 10;have hfin:nD x s s.stop w (((w.setCell ⟨x.B,2,none⟩ (.pointer none)).setCell ⟨x.B,9,none⟩ (.bool false)).setCell ⟨x.B,10,none⟩ (.int .i64 0)):=by
  have hl:=h.hl;refine nD.trans (s1:={s with nd:=none}) (h.set (x':=x) (s':={s with nd:=none}) 2 (.pointer none) rfl rfl hl ⟨rfl,rfl⟩ (λz hz=>by cases hz)) λx1 b1 m1=> ?_;rw[show(⟨x.B,9,none⟩:Addr)=⟨x1.B,9,none⟩by rw[b1],show(⟨x.B,10,none⟩:Addr)=⟨x1.B,10,none⟩by rw[b1]];refine nD.trans (s1:={s with nd:=none,tears:=false}) (m1.set (x':=x1) (s':={s with nd:=none,tears:=false}) 9 (.bool false) rfl ?_ hl ⟨rfl,rfl⟩ (λz hz=>by cases hz)) λx2 b2 m2=> ?_
  ·simp[Gp,Pk,List.set_append,hl]
  ·rw[show(⟨x1.B,10,none⟩:Addr)=⟨x2.B,10,none⟩by rw[b2]];refine m2.set (x':=x2) (s':=s.stop) 10 (.int .i64 0) rfl ?_ hl ⟨rfl,rfl⟩ (λz hz=>by cases hz);simp[Gp,Pk,bG.stop,List.set_append,hl]
 clear h c0 c1 ch fz;go_enter Tryz.func34,Tryz.ntmps34;go_wp2;go_returns;exact⟨rfl,hfin⟩
theorem Zf(h:mZ x s w)(n:Int):Calls Tryz.prog 35 #[.pointer (some ⟨x.B,0,none⟩),.int .i64 n] w λe w'=>e=.returned (.tuple #[])∧nD x s {s with tears:=true,whole:=max 0 n} w w':=by
 obtain⟨c0,c1,c2,c9,c10,ch,fz⟩:=h.cell;have f9:=fz 9;have f10:=fz 10;have hfin:∀y,y=max 0 n->nD x s {s with tears:=true,whole:=max 0 n} w ((w.setCell ⟨x.B,9,none⟩ (.bool true)).setCell ⟨x.B,10,none⟩ (.int .i64 y)):=by
  rintro y rfl;have hl:=h.hl;refine nD.trans (s1:={s with tears:=true}) (h.set (x':=x) (s':={s with tears:=true}) 9 (.bool true) rfl ?_ hl ⟨rfl,rfl⟩ (λz hz=>⟨hz,rfl,rfl,rfl⟩)) λx1 b1 m1=> ?_
  ·simp[Gp,List.set_append,hl]
  ·rw[show(⟨x.B,10,none⟩:Addr)=⟨x1.B,10,none⟩by rw[b1]];refine m1.set (x':=x1) (s':={s with tears:=true,whole:=max 0 n}) 10 (.int .i64 (max 0 n)) rfl ?_ hl ⟨rfl,rfl⟩ (λz hz=>⟨hz,rfl,rfl,rfl⟩);simp[Gp,List.set_append,hl]
 replace hfin:=hide hfin;clear h c0 c1 ch fz;go_enter Tryz.func35,Tryz.ntmps35;go_wp2;all_goals (go_returns;exact⟨rfl,hfin.out _ (by omega)⟩)
end Go.Proofs.YtakaadcpaeiccabGreat
