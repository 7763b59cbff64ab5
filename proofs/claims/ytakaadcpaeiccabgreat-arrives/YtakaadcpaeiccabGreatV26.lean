import Derived.Test.YtakaadcpaeiccabGreatV25
set_option maxHeartbeats 4000000
set_option maxRecDepth 100000
namespace Go.Proofs.YtakaadcpaeiccabGreat
variable {lk:Nat->Nat->Bool} {n a b:Nat} {t:ByteArray} {w:Nat} {P B:Gh} {ph:Ph} {K:Nat} {m:aM}
structure WI(lk:Nat->Nat->Bool)(n a b:Nat)(t:ByteArray)(w:Nat)(m:aM):Prop where
 len:m.S.length=n
 now:0<=m.now∧m.now<2000
 hw:1<=w∧w<=2
 aT:m.aT=[]
 st:∀i s,m.S[i]?=some s->IG lk i s∧∃z,s.nd=some z∧(i=a->NA (bJ a) (bJ b) w t true none z)∧(i≠a->ND (bJ a) (bJ b) (w+1) 0 (bJ i) none none z)
structure Dn(lk:Nat->Nat->Bool)(n:Nat)(m:aM):Prop where
 len:m.S.length=n
 aT:m.aT=[]
 st:∀i s,m.S[i]?=some s->IG lk i s∧∃z,s.nd=some z∧z.Q=[]
theorem BI.over(E:Cu a b n t)(L:Cs lk n)(h:BI lk n a b t w P B ph K m)(ha:m.aT=[]):(cmd ph=1∧Dn lk n m)∨(cmd ph=0∧WI lk n a b t w m):=by
 have hsp:=h.aT;rw[ha]at hsp;have hno:∀x,Zi (bJ a) (bJ b) t ph≠some x:=λx e=>by
  rw[e]at hsp;obtain⟨l1,l2,e2,_⟩:=hsp;cases l1<;>cases e2
 cases ph with
 |rp i j ttl hh dj=>exact absurd rfl (hno _)
 |dt i j ttl hh=>exact absurd rfl (hno _)
 |cm=>
  refine .inl ⟨rfl,h.len,ha,λi s hs=> ?_⟩;obtain⟨k1,z,k2,k3⟩:=h.st i s hs;refine⟨k1,z,k2,?_⟩;by_cases e:i=a
  ·exact(k3.ia e).off rfl
  ·exact(k3.io e).Q
 |rq=>
  obtain⟨hb,hB⟩:=h.JI;have hw:=h.hw;refine .inr ⟨rfl,h.len,h.now,⟨hw.1,Classical.byContradiction λhc=> ?_⟩,ha,λi s hs=> ?_⟩
  ·have hu:=Qh P hb n E.lb;have hn:=E.n6;have hnx:∀i,(P i).isSome=true->∀j,j<n->lk i j=true->(P j).isSome=true:=by
    intro i hi j hj hl;obtain⟨x,hx⟩:=Option.isSome_iff_exists.1 hi;obtain⟨_,k2,_⟩:=h.pt i x.1 x.2 hx;rcases h.cov rfl i x.1 x.2 hx (by omega) j hj hl with k3|⟨f,k3,_⟩
    ·exact k3
    ·rw[ha]at k3;cases k3
   have hup:∀k,a+k<n->(P (a+k)).isSome=true:=by
    intro k
    induction k with
    |zero=>intro _;rw[Nat.add_zero,h.pa];rfl
    |succ k ih=>exact λhk=>hnx (a+k) (ih (by omega)) (a+k+1) hk (L.row _ hk)
   have hdn:∀k,k<=a->(P (a - k)).isSome=true:=by
    intro k
    induction k with
    |zero=>intro _;rw[Nat.sub_zero,h.pa];rfl
    |succ k ih=>
     intro hk;have hla:=E.la;refine hnx (a - k) (ih (by omega)) (a - (k+1)) (by omega) ?_;have h1:=L.row (a - (k+1)) (by omega);rw[show a - (k+1)+1=a - k by omega]at h1;exact L.back (by omega) (by omega) h1
   have:(P b).isSome=true:=by
    by_cases hab:a<=b
    ·have h1:=hup (b - a) (by have:=E.lb;omega);rw[show a+(b - a)=b by omega]at h1;exact h1
    ·have h1:=hdn (a - b) (by omega);rw[show a - (a - b)=b by omega]at h1;exact h1
   rw[hb]at this;cases this
  ·obtain⟨k1,z,k2,k3⟩:=h.st i s hs;have e1:uK B i=none:=by unfold uK;rw[hB];rfl
   refine⟨k1,z,k2,λe=> ?_,λe=> ?_⟩
   ·have:=k3.ia e;rw[e1]at this;exact this
   ·have:=k3.io e;rw[e1]at this;exact this.next
theorem BI.start(E:Cu a b n t)(hl:m.S.length=n)(di:0<=m.now∧m.now<2000)(hw:1<=w∧w<=3)(hst:∀i s,m.S[i]?=some s->IG lk i s∧∃z,s.nd=some z∧(i=a->NA (bJ a) (bJ b) w t true none z)∧(i≠a->ND (bJ a) (bJ b) w m.now (bJ i) none none z))(ha:m.aT=mW lk n a (0,iP (nL (2 * (w:Int) - 1) 0 w (bJ a) (bJ b)))):
  BI lk n a b t w (BM (λ_=>none) a (0,a)) (λ_=>none) .rq 41 m:=by
 have hun:=Dz (λ_=>none) (0,a) rfl n E.la;rw[Vm]at hun;have hsome:∀i x,BM (λ_=>none) a (0,a) i=some x->i=a∧x=(0,a):=λi x hi=>by
  by_cases e:i=a
  ·subst e;rw[eX]at hi;exact⟨rfl,(Option.some.inj hi).symm⟩
  ·rw[iB _ _ e]at hi;cases hi
 refine⟨hl,di,hw,λi s hs=> ?_,eX _ _ _,λi d p hi=> ?_,λi h q hi=>(by cases hi),⟨iB _ _ E.ne.symm,λ_=>rfl⟩,λf hf=> ?_,λ_ i d p hi hd j hj hlk=> ?_,?_⟩
 ·obtain⟨k1,z,k2,k3,k4⟩:=hst i s hs;refine⟨k1,z,k2,k3,λe=> ?_⟩;rw[show C9 (BM (λ_=>none) a (0,a)) i=none by unfold C9;rw[iB _ _ e];rfl];exact k4 e
 ·obtain⟨e1,e2⟩:=hsome i _ hi;cases e2;exact⟨by rw[e1];exact E.la,by omega,by omega,λh=>absurd e1 h⟩
 ·rw[ha]at hf;obtain⟨j,hj,rfl⟩:=dW.1 hf;obtain⟨g1,g2⟩:=rW.1 hj;exact⟨0,a,eX _ _ _,by omega,g2,g1,by rw[show((0:Nat):Int)=0 from rfl,Int.sub_zero]⟩
 ·obtain⟨e1,e2⟩:=hsome i _ hi;subst e1;refine .inr ⟨(i,j,iP (nL (2 * (w:Int) - 1) 0 w (bJ i) (bJ b))),?_,rfl,rfl⟩;rw[ha];exact dW.2 ⟨j,rW.2 ⟨hj,hlk⟩,rfl⟩
 ·rw[ha];unfold mW;rw[gY];have:=rV lk n a 0;have hn:=E.n6;show _+6 * _+5<=41;dsimp only;omega
theorem rP{now':Int}{Q R:Nat->St->Prop}{fa:List (Int×ByteArray)}(hfa:fa=[]∨∃x,fa=[(0,x)])(hq:∀i z,i≠a->Q i z->R i (z.iW now')∧wm (z.iW now') [] [])(hqa:∀z,Q a z->R a (z.iW now')∧wm (z.iW now') fa [])(OA:n<=6)(hl:m.S.length=n)(di:m.now=now')(EL:m.aT=[])(hst:∀i s,m.S[i]?=some s->IG lk i s∧∃z,s.nd=some z∧Q i z):
  ∀k,k<=n->((List.range k).foldl aM.kz (m,[])).1.S.length=n∧((List.range k).foldl aM.kz (m,[])).1.now=now'∧(∀i s,((List.range k).foldl aM.kz (m,[])).1.S[i]?=some s->IG lk i s∧∃z,s.nd=some z∧(i<k->R i z)∧(k<=i->Q i z))∧((List.range k).foldl aM.kz (m,[])).1.aT=(if a<k then fa.flatMap (mW lk n a)else [])∧gI ((List.range k).foldl aM.kz (m,[])).2=[]
 |0,_=>⟨hl,di,λi s hs=>by
   obtain⟨k1,z,k2,k3⟩:=hst i s hs;exact⟨k1,z,k2,λh=>by omega,λ_=>k3⟩,EL,rfl⟩
 |k+1,hk=>by
  obtain⟨g1,g2,g3,g4,g5⟩:=rP hfa hq hqa OA hl di EL hst k (by omega);rw[List.range_succ,List.foldl_append,gZ,List.foldl_nil];obtain⟨y,hy⟩:∃y,(List.range k).foldl aM.kz (m,[])=y:=⟨_,rfl⟩;rw[hy]at g1 g2 g3 g4 g5 ⊢;have hs:=bS (by rw[g1];omega:k<y.1.S.length);obtain⟨k1,z,k2,_,k4⟩:=g3 k _ hs;have hQ:=k4 (aB _);have hone:aM.kz y k=((y.1.act k (z.iW now')).1,y.2++(y.1.act k (z.iW now')).2):=by
   unfold aM.kz;rw[dR hs,k2,<-g2]
  obtain⟨F,hF,hR,hO⟩:∃F,(F=if k=a then fa else [])∧R k (z.iW now')∧wm (z.iW now') F []:=by
   by_cases e:k=a
   ·subst e;exact⟨fa,(aI rfl).symm,hqa z hQ⟩
   ·exact⟨[],(ay e).symm,hq k z e hQ⟩
  have hF2:F=[]∨∃f,F=[f]∧(f.1=0∨kW lk n k f.1≠ []):=by
   rw[hF];split
   ·rcases hfa with h|⟨x,h⟩
    ·exact .inl h
    ·exact .inr ⟨_,h,.inl rfl⟩
   ·exact .inl rfl
  have hfl:(fa.flatMap (mW lk n a)).length<=6:=by
   rcases hfa with h|⟨x,h⟩
   ·rw[h];exact dm _
   ·rw[h,kK];unfold mW;rw[gY];exact dN (rV lk n _ _) OA
  have YK:y.1.aT++F.flatMap (mW lk n k)=if a<k+1 then fa.flatMap (mW lk n a)else []:=by
   rw[g4,hF];by_cases e:k=a
   ·subst e;rw[aI rfl,ay (Nat.lt_irrefl _),aI (Nat.lt_succ_self _),List.nil_append]
   ·rw[ay e,List.flatMap_nil,fw];by_cases h:a<k
    ·rw[aI h,aI (by omega)]
    ·rw[ay h,ay (by omega)]
  obtain⟨s',e1,e2,e3,e4⟩:=zu (m:=y.1) g1 (λj s hs=>(g3 j s hs).1) hs hO hF2 (by
   rw[<-bU,YK];split
   ·omega
   ·exact dm _)
  rw[hone];dsimp only;rw[e1];refine⟨by dsimp only;rw[List.length_set];exact g1,g2,λi s hi=> ?_,YK,by rw[Bb,g5,e4];rfl⟩;rcases bW hi with⟨rfl,rfl⟩|⟨hne,hi⟩
  ·exact⟨e3,_,e2,λ_=>hR,λh=>by omega⟩
  ·obtain⟨q1,u,q2,q3,q4⟩:=g3 i s hi;exact⟨q1,u,q2,λh=>q3 (by omega),λh=>q4 (by omega)⟩
theorem Dn.tick(h:Dn lk n m)(OA:n<=6)(e:ByteArray):Dn lk n (m.step (CW e)).1∧gI (m.step (CW e)).2=[]:=by
 rw[wK,h.len];obtain⟨g1,_,g3,g4,g5⟩:=rP (lk:=lk) (a:=0) (now':=m.now+80) (Q:=λ_ z=>z.Q=[]) (R:=λ_ z=>z.Q=[]) (fa:=[]) (.inl rfl) (λ_ _ _ hz=>Lj hz) (λ_ hz=>Lj hz) OA (m:={m with now:=m.now+80}) h.len rfl h.aT h.st n (aB _);refine⟨⟨g1,by rw[g4];split<;>rfl,λi s hs=> ?_⟩,g5⟩;obtain⟨k1,z,k2,k3,_⟩:=g3 i s hs;have hi:=(fO.1 hs).1;rw[g1]at hi;exact⟨k1,z,k2,k3 hi⟩
theorem TM(hw:1<=w∧w<=2):sH w<=640:=by
 rcases(by omega:w=1∨w=2)with rfl|rfl<;>decide
theorem WI.wait(h:WI lk n a b t w m)(OA:n<=6)(e:ByteArray)(hd:m.now+80<sH w):WI lk n a b t w (m.step (CW e)).1∧(m.step (CW e)).1.now=m.now+80∧gI (m.step (CW e)).2=[]:=by
 have hw:=h.hw;have di:=h.now;have hd7:m.now+80<700:=by
  have:=TM hw;omega
 rw[wK,h.len];obtain⟨g1,g2,g3,g4,g5⟩:=rP (lk:=lk) (a:=a) (now':=m.now+80) (Q:=λi z=>(i=a->NA (bJ a) (bJ b) w t true none z)∧(i≠a->ND (bJ a) (bJ b) (w+1) 0 (bJ i) none none z)) (R:=λi z=>(i=a->NA (bJ a) (bJ b) w t true none z)∧(i≠a->ND (bJ a) (bJ b) (w+1) 0 (bJ i) none none z)) (fa:=[]) (.inl rfl) (λi z hi hz=>by
  obtain⟨k1,k2⟩:=LQ (now:=m.now+80) (hz.2 hi) (by omega);exact⟨⟨λe=>absurd e hi,λ_=>k1.still⟩,k2⟩) (λz hz=>by
  obtain⟨k1,k2⟩:=WH (now:=m.now+80) (hz.1 rfl) (by omega) hd;exact⟨⟨λ_=>k1,λh=>absurd rfl h⟩,k2⟩) OA (m:={m with now:=m.now+80}) h.len rfl h.aT h.st n (aB _)
 refine⟨⟨g1,by rw[g2];omega,hw,by rw[g4];split<;>rfl,λi s hs=> ?_⟩,g2,g5⟩;obtain⟨k1,z,k2,k3,_⟩:=g3 i s hs;have hi:=(fO.1 hs).1;rw[g1]at hi;exact⟨k1,z,k2,k3 hi⟩
theorem WI.due(E:Cu a b n t)(h:WI lk n a b t w m)(e:ByteArray)(hd:m.now+80=sH w):BI lk n a b t (w+1) (BM (λ_=>none) a (0,a)) (λ_=>none) .rq 41 (m.step (CW e)).1∧(m.step (CW e)).1.now=m.now+80∧gI (m.step (CW e)).2=[]:=by
 have hw:=h.hw;have di:=h.now;have hd7:m.now+80<700:=by
  have:=TM hw;omega
 rw[wK,h.len];obtain⟨g1,g2,g3,g4,g5⟩:=rP (lk:=lk) (a:=a) (now':=m.now+80) (Q:=λi z=>(i=a->NA (bJ a) (bJ b) w t true none z)∧(i≠a->ND (bJ a) (bJ b) (w+1) 0 (bJ i) none none z)) (R:=λi z=>(i=a->NA (bJ a) (bJ b) (w+1) t true none z)∧(i≠a->ND (bJ a) (bJ b) (w+1) (m.now+80) (bJ i) none none z)) (fa:=[(0,iP (nL (2 * w+1) 0 (w+1) (bJ a) (bJ b)))]) (.inr ⟨_,rfl⟩) (λi z hi hz=>by
  obtain⟨k1,k2⟩:=LQ (now:=m.now+80) (hz.2 hi) (by omega);exact⟨⟨λe=>absurd e hi,λ_=>k1⟩,k2⟩) (λz hz=>by
  obtain⟨k1,k2⟩:=WJ (now:=m.now+80) (hz.1 rfl) (by omega) (by omega) hd;exact⟨⟨λ_=>k1,λh=>absurd rfl h⟩,k2⟩) E.n6 (m:={m with now:=m.now+80}) h.len rfl h.aT h.st n (aB _)
 refine⟨BI.start E g1 (by rw[g2];omega) (by omega) (λi s hs=> ?_) ?_,g2,g5⟩
 ·obtain⟨k1,z,k2,k3,_⟩:=g3 i s hs;have hi:=(fO.1 hs).1;rw[g1]at hi;rw[g2];exact⟨k1,z,k2,k3 hi⟩
 ·rw[g4,aI E.la,kK];rw[show(2 * ((w+1:Nat):Int) - 1)=2 * w+1 by omega];rfl
def hr(m:aM)(i j:Nat):Bool:=(m.at' i).hrs.getD j false
structure PL(n:Nat)(m:aM):Prop where
 len:m.S.length=n
 now:m.now=0
 aT:m.aT=[]
 st:∀i s,m.S[i]?=some s->s.addr=bJ i∧s.tears=false∧s.hrs.length=6∧s.nd=some (St.new (bJ i) [] 0)
 sym:∀i j,i<n->j<n->hr m i j=hr m j i
 irr:∀i,hr m i i=false
theorem PL.new:PL n (aM.new (jN n))∧∀i j,hr (aM.new (jN n)) i j=false:=by
 have hst:∀(i:Nat) s,(aM.new (jN n)).S[i]?=some s->i<n∧s=Jr (bJ i):=λi s hs=>by
  have h1:((jN n).map Jr)[i]?=some s:=hs;have hi:=(fO.1 h1).1;rw[gY,ow]at hi;rw[l9,lC hi]at h1;exact⟨hi,(Option.some.inj h1).symm⟩
 have hrf:∀i j,hr (aM.new (jN n)) i j=false:=λi j=>by
  unfold hr;by_cases hi:i<(aM.new (jN n)).S.length
  ·have hs:=bS hi;rw[dR hs,(hst i _ hs).2];show(List.replicate 6 false).getD j false=false;rw[List.getD_eq_getElem?_getD,List.getElem?_replicate];split<;>rfl
  ·have e:(aM.new (jN n)).at' i=eB.zero:=by
    unfold aM.at';rw[List.getD_eq_getElem?_getD,List.getElem?_eq_none (by omega)];rfl
   rw[e];rfl
 refine⟨⟨?_,rfl,rfl,λi s hs=> ?_,λi j _ _=>by rw[hrf,hrf],λi=>hrf i i⟩,hrf⟩
 ·show((jN n).map _).length=n;rw[gY,ow]
 ·obtain⟨_,rfl⟩:=hst i s hs;exact⟨rfl,rfl,List.length_replicate,rfl⟩
theorem LZ(h:PL n m)(hn:n<=6){i j:Nat}(hi:i<n)(hj:j<n)(hij:i≠j):(m.link i j true).S.length=m.S.length∧((m.link i j true).now=m.now∧(m.link i j true).aT=m.aT)∧(∀x s,(m.link i j true).S[x]?=some s->s.addr=bJ x∧s.tears=false∧s.hrs.length=6∧s.nd=some (St.new (bJ x) [] 0))∧∀x y,hr (m.link i j true) x y=if (x=i∧y=j)∨(x=j∧y=i)then true else hr m x y:=by
 have hl:=h.len;have hsi:=bS (by omega:i<m.S.length);have hsj:=bS (by omega:j<m.S.length);obtain⟨s,hs⟩:∃s,m.S[i]?=some s:=⟨_,hsi⟩;obtain⟨u,hu⟩:∃u,m.S[j]?=some u:=⟨_,hsj⟩;have SS:m.link i j true=(m.put i {s with hrs:=s.hrs.set j true}).put j {u with hrs:=u.hrs.set i true}:=by
  unfold aM.link;rw[ay hij,dR hs];dsimp only;have hu2:(m.put i {s with hrs:=s.hrs.set j true}).S[j]?=some u:=by
   rw[(fJ _ _ _).1,List.getElem?_set_ne hij];exact hu
  rw[dR hu2]
 obtain⟨a1,a2,a3,a4⟩:=h.st i s hs;obtain⟨b1,b2,b3,b4⟩:=h.st j u hu;have hS:∀x,(m.link i j true).S[x]?=if x=j then some {u with hrs:=u.hrs.set i true}else if x=i then some {s with hrs:=s.hrs.set j true}else m.S[x]?:=by
  intro x;rw[SS,(fJ _ _ _).1,(fJ _ _ _).1];by_cases c1:x=j
  ·subst c1;rw[aI rfl,List.getElem?_set_self (by rw[List.length_set];omega)]
  ·rw[ay c1,List.getElem?_set_ne (λh=>c1 h.symm)];by_cases c2:x=i
   ·subst c2;rw[aI rfl,List.getElem?_set_self (by omega)]
   ·rw[ay c2,List.getElem?_set_ne (λh=>c2 h.symm)]
 have hset:∀(L:List Bool) (k y:Nat),k<L.length->(L.set k true).getD y false=if y=k then true else L.getD y false:=by
  intro L k y hk;rw[List.getD_eq_getElem?_getD,List.getD_eq_getElem?_getD];by_cases c:y=k
  ·subst c;rw[List.getElem?_set_self hk,aI rfl];rfl
  ·rw[List.getElem?_set_ne (λh=>c h.symm),ay c]
 refine⟨?_,?_,λx v hx=> ?_,λx y=> ?_⟩
 ·rw[SS,(fJ _ _ _).1,(fJ _ _ _).1,List.length_set,List.length_set]
 ·rw[SS];exact⟨rfl,rfl⟩
 ·rw[hS]at hx;split at hx
  ·rename_i c;cases hx;rw[c];exact⟨b1,b2,by rw[List.length_set];exact b3,b4⟩
  ·split at hx
   ·rename_i c;cases hx;rw[c];exact⟨a1,a2,by rw[List.length_set];exact a3,a4⟩
   ·exact h.st x v hx
 ·have h1:=hS x;unfold hr;by_cases c1:x=j
  ·rw[aI c1]at h1;rw[dR h1];dsimp only;rw[hset _ _ _ (by omega),c1,dR hu];by_cases c3:y=i
   ·rw[aI c3,aI (by omega)]
   ·rw[ay c3,ay (by omega)]
  ·rw[ay c1]at h1;by_cases c2:x=i
   ·rw[aI c2]at h1;rw[dR h1];dsimp only;rw[hset _ _ _ (by omega),c2,dR hs];by_cases c3:y=j
    ·rw[aI c3,aI (by omega)]
    ·rw[ay c3,ay (by omega)]
   ·rw[ay c2]at h1;rw[ay (by omega)];have e:(m.link i j true).at' x=m.at' x:=by
     unfold aM.at';rw[List.getD_eq_getElem?_getD,List.getD_eq_getElem?_getD,h1]
    rw[e]
theorem PL.link(h:PL n m)(hn:n<=6){i j:Nat}(hi:i<n)(hj:j<n)(e:ByteArray):PL n (m.step (Jb i j e)).1∧gI (m.step (Jb i j e)).2=[]∧(∀x y,hr m x y=true->hr (m.step (Jb i j e)).1 x y=true)∧(i≠j->hr (m.step (Jb i j e)).1 i j=true):=by
 have hl:=h.len;rw[Nq (by omega) (by omega)];refine⟨?_,rfl,?_⟩;all_goals
  dsimp only;by_cases hij:i=j
 ·unfold aM.link;rw[aI hij];exact h
 ·have hgo:=LZ h hn hi hj hij;obtain⟨g1,g2,g3,g4⟩:=hgo;refine⟨g1.trans hl,g2.1.trans h.now,g2.2.trans h.aT,g3,λx y hx hy=> ?_,λx=> ?_⟩
  ·rw[g4,g4,h.sym x y hx hy];by_cases c1:(x=i∧y=j)∨(x=j∧y=i)
   ·rw[aI c1,aI (by omega)]
   ·rw[ay c1,ay (by omega)]
  ·rw[g4,ay (by omega)];exact h.irr x
 ·unfold aM.link;rw[aI hij];exact⟨λ_ _ h=>h,λh=>absurd hij h⟩
 ·obtain⟨_,_,_,g4⟩:=LZ h hn hi hj hij;refine⟨λx y hxy=> ?_,λ_=> ?_⟩
  ·rw[g4];split
   ·rfl
   ·exact hxy
  ·rw[g4,aI (.inl ⟨rfl,rfl⟩)]
theorem PL.lks(h:PL n m)(hr':∀i,i+1<n->hr m i (i+1)=true):Cs (hr m) n:=⟨h.sym,h.irr,hr'⟩
theorem PL.send(E:Cu a b n t)(h:PL n m):BI (hr m) n a b t 1 (BM (λ_=>none) a (0,a)) (λ_=>none) .rq 41 (m.step (Rb a b t)).1∧(m.step (Rb a b t)).1.now=0∧gI (m.step (Rb a b t)).2=[]:=by
 have hl:=h.len;have hkk:∀j s,m.S[j]?=some s->IG (hr m) j s:=λj s hs=>⟨(h.st j s hs).1,(h.st j s hs).2.1,λy=>by unfold hr;rw[dR hs]⟩;have hsa:=bS (by have:=E.la;omega:a<m.S.length);have hsb:=bS (by have:=E.lb;omega:b<m.S.length);obtain⟨a1,_,_,a4⟩:=h.st a _ hsa;obtain⟨b1,_,_,_⟩:=h.st b _ hsb;have hme:(St.new (bJ a) [] 0).me=bJ a:=(aR (St.raw (bJ a) [] 0)).me;rw[Np hsa a4 hsb E.ts (by rw[b1,hme];exact jZ E.ne.symm) (by rw[b1];exact(qd E.lb E.n6).2),b1,h.now];obtain⟨k1,k2⟩:=Rx (da:=bJ a) (db:=bJ b) (t:=t) rfl;have hfl:([(0,iP (nL 1 0 1 (bJ a) (bJ b)))].flatMap (mW (hr m) n a)).length<=6:=by
  rw[kK];unfold mW;rw[gY];exact dN (rV _ n _ _) E.n6
 obtain⟨s',e1,e2,e3,e4⟩:=zu (m:=m) hl hkk hsa k2 (.inr ⟨_,rfl,.inl rfl⟩) (by rw[h.aT,List.length_nil];omega);refine⟨BI.start E ?_ ?_ (by omega) (λi s hs=> ?_) ?_,by rw[e1];exact h.now,e4⟩
 ·rw[e1];dsimp only;rw[List.length_set];exact hl
 ·rw[e1];show 0<=m.now∧m.now<2000;rw[h.now];omega
 ·rw[e1]at hs ⊢;rcases bW hs with⟨rfl,rfl⟩|⟨hne,hs⟩
  ·exact⟨e3,_,e2,λ_=>k1,λhn=>absurd rfl hn⟩
  ·exact⟨hkk i s hs,_,(h.st i s hs).2.2.2,λe=>absurd e hne,λ_=>ZH _ _ _ _ _⟩
 ·rw[e1];dsimp only;rw[h.aT,List.nil_append,kK];rfl
def wv(i:Nat):Nat:=if i<3 then 1 else if i<8 then 2 else 3
def RX(lk:Nat->Nat->Bool)(n a b:Nat)(t:ByteArray)(i c K:Nat)(m:aM):Prop:=
 (c=1∧Dn lk n m)∨(∃P B ph,c=cmd ph∧(i=0∨i=3∨i=8)∧m.now=80 * (i:Int)∧BI lk n a b t (wv i) P B ph K m)∨(c=0∧i<8∧m.now=80 * (i:Int)∧WI lk n a b t (wv i) m)
theorem RX.pos{i c:Nat}(h:RX lk n a b t i c K m)(ha:m.aT≠ []):∃K',K=K'+1:=by
 rcases h with⟨_,h⟩|⟨P,B,ph,_,_,_,h⟩|⟨_,_,_,h⟩
 ·exact absurd h.aT ha
 ·have:=h.QR;have h2:=List.length_pos_iff.2 ha;exact⟨K - 1,by omega⟩
 ·exact absurd h.aT ha
theorem RX.del(E:Cu a b n t)(L:Cs lk n){i c:Nat}(h:RX lk n a b t i c (K+1) m)(hK:K+1<=41){k:Nat}(hk:k<m.aT.length)(e:ByteArray):∃c',RX lk n a b t i c' K (m.step (Lx k e)).1∧((gI (m.step (Lx k e)).2=[]∧c'=c)∨(gI (m.step (Lx k e)).2=[((b:Int),bJ a,t)]∧c=0∧c'=1)):=by
 have hf:=bS hk;rcases h with⟨_,h⟩|⟨P,B,ph,h1,h2,h3,h⟩|⟨_,_,_,h⟩
 ·rw[h.aT]at hk;cases hk
 ·obtain⟨P',B',ny,q1,q2⟩:=h.del E L hK hf e;have di:(m.step (Lx k e)).1.now=m.now:=by
   have hft:∃s z,m.S[m.aT[k].2.1]?=some s∧s.nd=some z:=by
    have hlt:m.aT[k].2.1<n:=by
     rcases h.aT.erase hf with⟨⟨_,_,_,_,_,r,_⟩,_⟩|⟨ho,_⟩
     ·exact r
     ·cases ph with
      |rq=>cases ho
      |rp i j ttl hh dj=>
       rw[<-Option.some.inj ho];exact h.JI.2.1
      |dt i j ttl hh=>
       rw[<-Option.some.inj ho];exact h.JI.2.1
      |cm=>cases ho
    have hs:=bS (by rw[h.len];exact hlt:m.aT[k].2.1<m.S.length);obtain⟨_,z,hz,_⟩:=h.st _ _ hs;exact⟨_,z,hs,hz⟩
   obtain⟨s,z,hs,hz⟩:=hft;rw[F3 e hf hs hz,(MX _ _ _).1]
  rcases q2 with⟨q2,q3⟩|⟨q2,q3,q4⟩
  ·exact⟨c,.inr (.inl ⟨P',B',ny,by omega,h2,by rw[di];exact h3,q1⟩),.inl ⟨q2,rfl⟩⟩
  ·exact⟨1,.inr (.inl ⟨P',B',ny,q4.symm,h2,by rw[di];exact h3,q1⟩),.inr ⟨q2,by omega,rfl⟩⟩
 ·rw[h.aT]at hk;cases hk
theorem RX.tick(E:Cu a b n t)(L:Cs lk n){i c:Nat}(h:RX lk n a b t i c K m)(ha:m.aT=[])(e:ByteArray):RX lk n a b t (i+1) c 41 (m.step (CW e)).1∧gI (m.step (CW e)).2=[]:=by
 have hD:Dn lk n m->c=1->RX lk n a b t (i+1) c 41 (m.step (CW e)).1∧gI (m.step (CW e)).2=[]:=λhd hc=>by
  obtain⟨q1,q2⟩:=hd.tick E.n6 e;exact⟨.inl ⟨hc,q1⟩,q2⟩
 have hW:WI lk n a b t (wv i) m->c=0->i<8->m.now=80 * (i:Int)->RX lk n a b t (i+1) c 41 (m.step (CW e)).1∧gI (m.step (CW e)).2=[]:=λhw hc hi di=>by
  have hwv:(i<2∧wv i=1∧wv (i+1)=1)∨(i=2∧wv i=1∧wv (i+1)=2)∨(3<=i∧i<7∧wv i=2∧wv (i+1)=2)∨(i=7∧wv i=2∧wv (i+1)=3):=by
   unfold wv;split<;>split<;>(try split)<;>(try split)<;>omega
  have hd1:sH 1=240:=rfl;have hd2:sH 2=640:=rfl;rcases hwv with⟨w1,w2,w3⟩|⟨w1,w2,w3⟩|⟨w0,w1,w2,w3⟩|⟨w1,w2,w3⟩
  ·rw[w2]at hw;obtain⟨q1,q2,q3⟩:=hw.wait E.n6 e (by show _<sH 1;omega);exact⟨.inr (.inr ⟨hc,by omega,by omega,by rw[w3];exact q1⟩),q3⟩
  ·rw[w2]at hw;obtain⟨q1,q2,q3⟩:=hw.due E e (by show _=sH 1;omega);exact⟨.inr (.inl ⟨_,_,.rq,hc,by omega,by omega,by rw[w3];exact q1⟩),q3⟩
  ·rw[w2]at hw;obtain⟨q1,q2,q3⟩:=hw.wait E.n6 e (by show _<sH 2;omega);exact⟨.inr (.inr ⟨hc,by omega,by omega,by rw[w3];exact q1⟩),q3⟩
  ·rw[w2]at hw;obtain⟨q1,q2,q3⟩:=hw.due E e (by show _=sH 2;omega);exact⟨.inr (.inl ⟨_,_,.rq,hc,by omega,by omega,by rw[w3];exact q1⟩),q3⟩
 rcases h with⟨h1,h⟩|⟨P,B,ph,h1,h2,h3,h⟩|⟨h1,h2,h3,h⟩
 ·exact hD h h1
 ·rcases h.over E L ha with⟨k1,k2⟩|⟨k1,k2⟩
  ·exact hD k2 (h1.trans k1)
  ·refine hW k2 (h1.trans k1) ?_ h3;have:=k2.hw;have h8:wv 8=3:=rfl;rcases h2 with rfl|rfl|rfl
   ·decide
   ·decide
   ·omega
 ·exact hW h h1 h2 h3
theorem RX.last{c:Nat}(h:RX lk n a b t 40 c K m):c=1:=by
 rcases h with⟨h,_⟩|⟨_,_,_,_,h,_⟩|⟨_,h,_⟩
 ·exact h
 ·omega
 ·omega
theorem RX.first(E:Cu a b n t)(h:PL n m):RX (hr m) n a b t 0 0 41 (m.step (Rb a b t)).1∧gI (m.step (Rb a b t)).2=[]:=by
 obtain⟨h1,h2,h3⟩:=h.send E;exact⟨.inr (.inl ⟨_,_,_,rfl,.inl rfl,h2,h1⟩),h3⟩
open Go.RowKit Go.Maps
variable{v:Value}{W:World}
theorem Ld{base e size n:Nat}{xs:List Value}(h:W.ownsRow base e size v n xs):n<=9223372036854775807:=by
 rcases h.2 with⟨_,h0⟩|⟨g,cap,cur,rfl,_,_,hl,hm,_⟩
 ·omega
 ·unfold maxLen at hm;omega
theorem TF{b:Nat}{Lv:List (Ev×KO)}(h:gL b v Lv W){j:Nat}(hj:j<Lv.length):∃(gv cv:Nat) (x:Ev) (ac:Option Addr) (ca:Nat),v=.slice (some ⟨gv,0,none⟩) Lv.length cv∧(Lv.map (·.1))[j]?=some x∧W.cell? ⟨gv,j * 7,none⟩=some (.int .i64 x.node)∧W.cell? ⟨gv,j * 7+5,none⟩=some (.slice ac x.o.aO.length ca)∧∀(q:Nat) c,x.o.aO[q]?=some c->∃ga,ac=some ⟨ga,0,none⟩∧W.cell? ⟨ga,q * 2,none⟩=some (.int .u32 c.1)∧W.cell? ⟨ga,q * 2+1,none⟩=some (.string c.2):=by
 obtain⟨gv,cv,rfl,_⟩:=bZ h.row (by omega);obtain⟨⟨x,u⟩,hx⟩:∃p,Lv[j]?=some p:=⟨_,bS hj⟩;have hc:∀i,i<7->∀z,(xE (x,u))[i]?=some z->W.cell? ⟨gv,j * 7+i,none⟩=some z:=λi hi z hz=>(h.row.cellAt (j * 7+i) (by omega)).trans ((jR xE 7 (by decide) (λ_=>rfl) Lv j i hi hx).trans hz);have ho:=h.out _ (iV hx);obtain⟨ac,ca,aau,_⟩:=ax ho.bO;dsimp only at aau;have h5:=hc 5 (by decide) _ rfl;dsimp only at h5;rw[aau]at h5;refine⟨gv,cv,x,ac,ca,rfl,by rw[l9,hx];rfl,hc 0 (by decide) _ rfl,h5,λq c hq=> ?_⟩;have hql:=(fO.1 hq).1;have hrow:=ho.bO;dsimp only at hrow;rw[aau]at hrow;obtain⟨ga,ca',he,_⟩:=bZ hrow (by omega);cases he;have hd:∀i,i<2->∀z,([.int .u32 c.1,.string c.2]:List Value)[i]?=some z->W.cell? ⟨ga,q * 2+i,none⟩=some z:=λi hi z hz=>(hrow.cellAt (q * 2+i) (by omega)).trans ((jR (λx:Int×ByteArray=>([.int .u32 x.1,.string x.2]:List Value)) 2 (by decide) (λ_=>rfl) x.o.aO q i hi hq).trans hz);exact⟨ga,rfl,hd 0 (by decide) _ rfl,hd 1 (by decide) _ rfl⟩
variable{t:ByteArray}{x:Ev}{E:List Ev}{m:aM}{R:aM->Prop}{G K a b c i j k n q s:Nat}{v:Value}{W W' w:World}
def AS(w:World)(n G c:Nat)(R:aM->Prop)(W:World):Prop:=∃y m i,y.G=G∧i<=c∧SB w n i y m W∧R m
theorem AS.later(h:AS w n G c R W)(hb:Below W.heap.size W W'):AS w n G c R W':=by
 obtain⟨y,m,i,h1,h2,h3,h4⟩:=h;exact⟨y,m,i,h1,h2,h3.later hb,h4⟩
theorem AS.bl(h:AS w n G c R W):Below w.heap.size w W:=by
 obtain⟨y,m,i,h1,h2,h3,h4⟩:=h;exact h3.bl
theorem AS.mono{c':Nat}{R':aM->Prop}(h:AS w n G c R W)(hc:c<=c')(hr:∀m,R m->R' m):AS w n G c' R' W:=by
 obtain⟨y,m,i,h1,h2,h3,h4⟩:=h;exact⟨y,m,i,h1,by omega,h3,hr m h4⟩
def AE(v:Value)(E:List Ev)(W:World):Prop:=∃b L,gL b v L W∧L.map (·.1)=E
theorem AE.later(h:AE v E W)(hb:Below W.heap.size W W'):AE v E W':=by
 obtain⟨b,L,h1,h2⟩:=h;exact⟨b,L,h1.later hb,h2⟩
theorem AE.form(h:AE v E W):∃av cv,v=.slice av E.length cv∧E.length<=9223372036854775807:=by
 obtain⟨b,L,h1,h2⟩:=h;obtain⟨av,cv,e,_⟩:=ax h1.row;have hm:=Ld h1.row;exact⟨av,cv,by rw[<-h2,gY];exact e,by rw[<-h2,gY];exact hm⟩
theorem AE.cells(h:AE v E W){j:Nat}{x:Ev}(hj:E[j]?=some x):∃(gv cv:Nat) (ac:Option Addr) (ca:Nat),v=.slice (some ⟨gv,0,none⟩) E.length cv∧W.cell? ⟨gv,j * 7,none⟩=some (.int .i64 x.node)∧W.cell? ⟨gv,j * 7+5,none⟩=some (.slice ac x.o.aO.length ca)∧x.o.aO.length<=9223372036854775807∧∀(q:Nat) c,x.o.aO[q]?=some c->∃ga,ac=some ⟨ga,0,none⟩∧W.cell? ⟨ga,q * 2,none⟩=some (.int .u32 c.1)∧W.cell? ⟨ga,q * 2+1,none⟩=some (.string c.2):=by
 obtain⟨b,L,h1,h2⟩:=h;have hl:=(fO.1 hj).1;rw[<-h2,gY]at hl;obtain⟨gv,cv,x',ac,ca,k1,k2,k3,k4,k5⟩:=TF h1 hl;rw[h2,hj]at k2;cases k2;obtain⟨p,hp,e⟩:∃p∈L,p.1=x:=dW.1 (by rw[h2];exact iV hj);have hm:=Ld (h1.out p hp).bO;rw[e]at hm;exact⟨gv,cv,ac,ca,by rw[<-h2,gY];exact k1,k3,k4,hm,k5⟩
theorem abz(n:Nat)(hn:0<n∧n<=6)(w:World):Calls Tryz.prog 10 #[.int .i64 n] w λe w'=>∃G,e=.returned (.pointer (some ⟨G,0,none⟩))∧AS w n G 0 (λm=>m=aM.new (jN n)) w':=by
 refine(V9 n hn w).mono ?_;rintro e w' ⟨y,rfl,h⟩;exact⟨y.G,rfl,y,_,0,rfl,aB _,⟨h,ZP _⟩,rfl⟩
theorem I8(h:AS w n G c R W)(hc:c<=4096)(o:Op)(h8:o.fe≠8):Calls Tryz.prog 11 #[.pointer (some ⟨G,0,none⟩),Ee o] W λe W'=>∃v m,e=.returned v∧R m∧AE v (m.step o).2 W'∧AS w n G (c+1) (λm'=>m'=(m.step o).1) W':=by
 obtain⟨y,m,i,rfl,h2,h3,h4⟩:=h;refine(adj h3 (by omega) o λe=>absurd e h8).mono ?_;rintro e W' ⟨v,L,y',rfl,k1,k2,k3,_,k4⟩;exact⟨v,m,rfl,h4,⟨_,L,k2,k1⟩,y',_,i+1,k3,by omega,k4,rfl⟩
theorem abA(h:AS w n G c R W):Calls Tryz.prog 17 #[.pointer (some ⟨G,0,none⟩)] W λe W'=>∃ao cap m,R m∧m.aT.length<=48∧e=.returned (.slice ao m.aT.length cap)∧AS w n G c (λm'=>m'=m) W':=by
 obtain⟨y,m,i,rfl,h2,h3,h4⟩:=h;have ha:=h3.ok.aT;refine(adq h3.mm (by omega)).mono ?_;rintro e W' ⟨v,rfl,k1,k2⟩;obtain⟨ao,cap,rfl,_⟩:=ax k1;exact⟨ao,cap,m,h4,ha,rfl,y,m,i,rfl,h2,h3.later k2,rfl⟩
theorem ints_at{ao:Option Addr}{L:List Int}(h:gG W ao (L.map (Value.int .i64))){k:Nat}{x:Int}(hk:L[k]?=some x):∃g f,ao=some ⟨g,f,none⟩∧g<W.heap.size∧W.cell? ⟨g,f+k,none⟩=some (.int .i64 x):=by
 obtain⟨b,o,h1,h2,h3⟩:=h k (.int .i64 x) (by rw[l9,hk];rfl);exact⟨b,o,h1,h2,h3⟩
def Ck(n k:Nat)(m:aM):Prop:=PL n m∧∀j,j<k->hr m j (j+1)=true
theorem Ck.new(n:Nat):Ck n 0 (aM.new (jN n)):=⟨PL.new.1,λj h=>by omega⟩
theorem Ck.row(h:Ck n k m)(hn:n<=6)(hk:k+1<n)(e:ByteArray):Ck n (k+1) (m.step (Jb k (k+1) e)).1:=by
 obtain⟨h1,_,h3,h4⟩:=h.1.link hn (i:=k) (j:=k+1) (by omega) hk e;refine⟨h1,λj hj=> ?_⟩;by_cases e2:j=k
 ·subst e2;exact h4 (by omega)
 ·exact h3 _ _ (h.2 j (by omega))
theorem Ck.more(h:Ck n k m)(hn:n<=6){i j:Nat}(hi:i<n)(hj:j<n)(e:ByteArray):Ck n k (m.step (Jb i j e)).1:=by
 obtain⟨h1,_,h3,_⟩:=h.1.link hn hi hj e;exact⟨h1,λj hj=>h3 _ _ (h.2 j hj)⟩
def AR(w:World)(n G a b:Nat)(t:ByteArray)(i s c K:Nat)(W:World):Prop:=∃lk,Cs lk n∧AS w n G (100+61 * i+s) (RX lk n a b t i c K) W
theorem AR.later(h:AR w n G a b t i s c K W)(hb:Below W.heap.size W W'):AR w n G a b t i s c K W':=by
 obtain⟨lk,h1,h2⟩:=h;exact⟨lk,h1,h2.later hb⟩
theorem AR.bl(h:AR w n G a b t i s c K W):Below w.heap.size w W:=by
 obtain⟨lk,h1,h2⟩:=h;exact h2.bl
theorem Ym(E:Cu a b n t)(h:AS w n G c (Ck n (n - 1)) W)(hc:c<=99):Calls Tryz.prog 11 #[.pointer (some ⟨G,0,none⟩),Ee (Rb a b t)] W λe W'=>(∃v,e=.returned v)∧AR w n G a b t 0 0 0 41 W':=by
 refine(I8 h (by omega) (Rb a b t) (by show ¬(2:Int)=8;decide)).mono ?_;rintro e W' ⟨v,m,rfl,hr',_,hs⟩;refine⟨⟨v,rfl⟩,hr m,hr'.1.lks λi hi=>hr'.2 i (by omega),hs.mono (by omega) λm' e2=> ?_⟩;rw[e2];exact(RX.first E hr'.1).1
theorem Yl(E:Cu a b n t)(h:∃lk,Cs lk n∧AS w n G (100+61 * i+s) (λm=>RX lk n a b t i c K m∧m.aT=[]) W)(hi:i<40)(hs:s<=60)(e:ByteArray):Calls Tryz.prog 11 #[.pointer (some ⟨G,0,none⟩),Ee (CW e)] W λe W'=>(∃v,e=.returned v)∧AR w n G a b t (i+1) 0 c 41 W':=by
 obtain⟨lk,L,h⟩:=h;refine(I8 h (by omega) (CW e) (by show ¬(3:Int)=8;decide)).mono ?_;rintro e' W' ⟨v,m,rfl,hr',_,hs'⟩;refine⟨⟨v,rfl⟩,lk,L,hs'.mono (by omega) λm' e2=> ?_⟩;rw[e2];exact(hr'.1.tick E L hr'.2 e).1
theorem abC(h:AR w n G a b t i s c K W):Calls Tryz.prog 17 #[.pointer (some ⟨G,0,none⟩)] W λe W'=>∃(ao:Option Addr) (cap l:Nat),e=.returned (.slice ao l cap)∧l<=48∧(l=0->∃lk,Cs lk n∧AS w n G (100+61 * i+s) (λm=>RX lk n a b t i c K m∧m.aT=[]) W')∧(0<l->(∃K',K=K'+1)∧∃lk,Cs lk n∧AS w n G (100+61 * i+s) (λm=>RX lk n a b t i c K m∧m.aT.length=l) W'):=by
 obtain⟨lk,L,h⟩:=h;refine(abA h).mono ?_;rintro e W' ⟨ao,cap,m,h1,h2,rfl,h3⟩;refine⟨ao,cap,m.aT.length,rfl,h2,λhl=>⟨lk,L,h3.mono (aB _) λm' e2=> ?_⟩,λhl=>⟨h1.pos (List.length_pos_iff.1 hl),lk,L,h3.mono (aB _) λm' e2=> ?_⟩⟩
 ·rw[e2];exact⟨h1,nU hl⟩
 ·rw[e2];exact⟨h1,rfl⟩
theorem abB{l:Nat}(E:Cu a b n t)(h:∃lk,Cs lk n∧AS w n G (100+61 * i+s) (λm=>RX lk n a b t i c (K+1) m∧m.aT.length=l) W)(hi:i<40)(hs:s<=60)(hK:K+1<=41){k:Nat}(hk:k<l)(e:ByteArray):Calls Tryz.prog 11 #[.pointer (some ⟨G,0,none⟩),Ee (Lx k e)] W λe' W'=>∃(v:Value) (ev:List Ev) (c':Nat),e'=.returned v∧AE v ev W'∧AR w n G a b t i (s+1) c' K W'∧((gI ev=[]∧c'=c)∨(gI ev=[((b:Int),bJ a,t)]∧c=0∧c'=1)):=by
 obtain⟨lk,L,h⟩:=h;refine(I8 h (by omega) (Lx k e) (by show ¬(4:Int)=8;decide)).mono ?_;rintro e' W' ⟨v,m,rfl,⟨h1,h2⟩,h3,h4⟩;obtain⟨c',q1,q2⟩:=h1.del E L hK (k:=k) (by omega) e;exact⟨v,_,c',rfl,h3,⟨lk,L,h4.mono (by omega) λm' e2=>by rw[e2];exact q1⟩,q2⟩
theorem AR.last(h:AR w n G a b t 40 s c K W):c=1:=by
 obtain⟨lk,L,y,m,i,_,_,_,h4⟩:=h;exact h4.last
theorem AR.le1(h:AR w n G a b t i s c K W):c<=1:=by
 obtain⟨lk,L,y,m,j,_,_,_,h4⟩:=h;rcases h4 with⟨h,_⟩|⟨P,B,ph,h,_⟩|⟨h,_⟩
 ·omega
 ·rw[h];cases ph<;>simp[cmd]
 ·omega
def PC(E:List Ev)(j q:Nat):Nat:=(gI (E.take j)).length+q
theorem Dr(h:E[j]?=some x):(gI (E.take (j+1))).length=(gI (E.take j)).length+x.o.aO.length:=by
 rw[List.take_add_one,h,Bb,bU];simp[gI]
theorem Yd(h:E[j]?=some x):PC E j x.o.aO.length=PC E (j+1) 0:=by
 unfold PC;rw[Dr h];omega
theorem abb(E:List Ev):PC E E.length 0=(gI E).length:=by
 unfold PC;rw[List.take_length];omega
theorem Um{p:Int×ByteArray}(hx:E[j]?=some x)(hp:x.o.aO[q]?=some p):(x.node,p.1,p.2)∈gI E:=List.mem_flatMap.2 ⟨x,iV hx,dW.2 ⟨p,iV hp,rfl⟩⟩
theorem YW(hx:E[j]?=some x)(hq:q<=x.o.aO.length):PC E j q<=(gI E).length:=by
 have h1:=Dr hx;have h2:(gI (E.take (j+1))).length<=(gI E).length:=by
  have h3:gI E=gI (E.take (j+1))++gI (E.drop (j+1)):=by rw[<-Bb,List.take_append_drop]
  rw[h3,bU];omega
 unfold PC;omega
theorem qK{c:Int}{n:Nat}(hn:0<n):∃i:Nat,p_ c n=(i:Int)∧i<n:=by
 have h:=Lm c n (by omega);exact⟨(p_ c n).toNat,by omega,by omega⟩
def SI(g p q:Nat)(x y:Int)(w:World):Prop:=w.cell? ⟨g,p,none⟩=some (.int .i64 x)∧w.cell? ⟨g,q,none⟩=some (.int .i64 y)
theorem I7(nodes:Int)(hn0:-9223372036854775808<=nodes∧nodes<=9223372036854775807)(al:Option Addr)(NL cl:Nat)(L:List Int)(YM:L.length=NL)(hLb:∀x∈L,-9223372036854775808<=x∧x<=9223372036854775807)(ao:Option Addr)(NO co:Nat)(O:List Int)(hNO:O.length=NO)(hOb:∀x∈O,-9223372036854775808<=x∧x<=9223372036854775807)(hNm:NO<=9223372036854775807)
  (fm:Int) (hfm:-9223372036854775808<=fm∧fm<=9223372036854775807) (tg:Int) (htg:-9223372036854775808<=tg∧tg<=9223372036854775807) (t:ByteArray) (w:World) (hL:gG w al (L.map (Value.int .i64))) (hO:gG w ao (O.map (Value.int .i64))):
  Calls Tryz.prog 4 #[.int .i64 nodes,.slice al NL cl,.slice ao NO co,.int .i64 fm,.int .i64 tg,.string t] w λe w'=>e=.returned (.bool true)∧Below w.heap.size w w':=by
 obtain⟨n,hn2,OA,hpk,hpw⟩:=abS (c:=nodes);have HP:=hide (oz nodes 5 hn0.1 hn0.2 (by decide) (by decide) w);have HR:=hide (abz n ⟨by omega,OA⟩ w);go_enter Tryz.func4,Tryz.ntmps4;go_upto_region 2 with(go_at_call 9;refine HP.out.mono ?_;rintro e w2 ⟨rfl,hw2⟩;have hw3:=hw2.symm;subst hw3;clear hw2);clear HP hpk hpw;go_upto_region 3 with(go_at_call 10;refine HR.out.mono ?_;rintro e w3 ⟨G,rfl,hq⟩);replace hq:=hide hq;have hb3:=hq.out.bl;clear HR;by_cases h4:16<t.size
 ·have e1:decide (16<(t.size:Int))=true:=f_ (by omega);clear hq hL hO;go_wp2;go_ret;exact⟨rfl,hb3⟩
 have e1:decide (16<(t.size:Int))=false:=eU (by omega);by_cases h5:64<NL
 ·have e2:decide (64<(NL:Int))=true:=f_ (by omega);clear hq hL hO;go_wp2;go_ret;exact⟨rfl,hb3⟩
 have e2:decide (64<(NL:Int))=false:=eU (by omega);have U3:Hid (AS w n G 0 (Ck n 0) w3):=hide (hq.out.mono (aB _) λm e=>e▸Ck.new n);clear hq hb3;go_wp2_with fail;go_loopw [15] (λi wr=>∃(k:Nat),k+1<=n∧i=.int .i64 k∧Hid (AS w n G k (Ck n k) wr)) (λi _=>n - (intOf i).toNat)
 case atStart=>exact⟨0,by omega,rfl,U3⟩
 case round=>
  clear U3;obtain⟨k,hk,rfl,hq⟩:=hrel;by_cases hlt:k+1<n
  ·have hki:(k:Int)+1<(n:Int):=by omega
   have HD:=hide (I8 hq.out (by omega) (Jb k (k+1) ⟨#[]⟩) (by show ¬(1:Int)=8;decide));have hgo:Hid (∀m,Ck n k m->Ck n (k+1) (m.step (Jb k (k+1) ⟨#[]⟩)).1):=hide λm hm=>hm.row OA hlt _;unfold Ee Jb at HD;dsimp only at HD;rw[show((k+1:Nat):Int)=(k:Int)+1 from rfl]at HD;clear hq;go_wp2_with(go_at_call 11;refine HD.out.mono ?_;rintro e w4 ⟨v,m,rfl,hrm,_,hs⟩;have hs2:=hide (hs.mono (aB _) (λm' e2=>by rw[e2];exact hgo.out m hrm):AS w n G (k+1) (Ck n (k+1)) w4);clear hs hrm HD hgo);go_roundw
   case rel=>exact⟨k+1,by omega,by simp,hs2⟩
   case measure=>exact pE (by omega)
  ·obtain rfl:n=k+1:=by omega
   have hLw:Hid (∀W,Below w.heap.size w W->gG W al (L.map (Value.int .i64))):=hide λW hb=>hL.below hb;have hQ1:Hid (AS w (k+1) G (k+0) (Ck (k+1) k) wr):=hq;have hne:¬((k:Int)+1<((k+1:Nat):Int)):=by omega
   clear hq hk hlt;go_wp2_with fail;go_loopw [16] (λi wr=>∃(j:Nat),i=.int .i64 j∧j<=NL+1∧Hid (AS w (k+1) G (k+j) (Ck (k+1) k) wr)) (λi _=>NL+1 - (intOf i).toNat)
   case atStart=>exact⟨0,rfl,by omega,hQ1⟩
   case round=>
    clear hQ1;obtain⟨j,rfl,hj,hq⟩:=hrel;by_cases hlt:j+1<NL
    ·have hji:(j:Int)+1<(NL:Int):=by omega
     have afx:(j:Int)<(NL:Int):=by omega
     have hwj:IntKind.i64.wrap ((j:Int)+1)=((j+1:Nat):Int):=by simp only[IntKind.wrap,IntKind.signed,IntKind.bits];simp;omega
     have afw:((j+1:Nat):Int)<(NL:Int):=by omega
     have afy:(0:Int)<=(j:Int)+1:=by omega
     obtain⟨x,hx⟩:∃x,L[j]?=some x:=⟨_,bS (by omega)⟩;obtain⟨y,hy⟩:∃y,L[j+1]?=some y:=⟨_,bS (by omega)⟩;obtain⟨g,f,rfl,hgl,d0⟩:=ints_at (hLw.out _ hq.out.bl) hx;obtain⟨g',f',e3,_,d1⟩:=ints_at (hLw.out _ hq.out.bl) hy;cases e3;have hxb:=hLb x (iV hx);have hyb:=hLb y (iV hy);have HPx:=λW=>hide (oz x ((k:Int)+1) hxb.1 hxb.2 (by omega) (by omega) W);have HPy:=λW=>hide (oz y ((k:Int)+1) hyb.1 hyb.2 (by omega) (by omega) W);obtain⟨px,hpx,ad1⟩:=qK (c:=x) (n:=k+1) (by omega);obtain⟨py,hpy,adZ⟩:=qK (c:=y) (n:=k+1) (by omega);rw[show((k+1:Nat):Int)=(k:Int)+1 from rfl]at hpx hpy;rw[hpx]at HPx;rw[hpy]at HPy;have hS:SI g (f+j) (f+(j+1)) x y wr.drew:=⟨d0,d1⟩;have HD:=hide (I8 (hq.out.later (aV _ wr).drew) (by omega) (Jb px py ⟨#[]⟩) (by show ¬(1:Int)=8;decide));have hgo:Hid (∀m,Ck (k+1) k m->Ck (k+1) k (m.step (Jb px py ⟨#[]⟩)).1):=hide λm hm=>hm.more OA ad1 adZ _;unfold Ee Jb at HD;dsimp only at HD;clear hq hxb hyb hpx hpy hx hy d0 d1;go_upto_region 12 with(fail);refine mI (SI g (f+j) (f+(j+1)) x y) [15] (by kernel_rfl) hS (λhHeld=> ?_);refine aQ (i:=0) (v:=?hv0) rfl (by kernel_rfl) (Or.inl ⟨by rfl,?hy0⟩) hHeld ?hr0
     case hy0=>
      rintro w5 ⟨d0,d1⟩;go_simp;try with_reducible rfl
     try simp only[Act.put,List.setIfInBounds_toArray]
     refine aQ (i:=1) (v:=?hv1) rfl (by kernel_rfl) (Or.inl ⟨by rfl,?hy1⟩) hHeld ?hr1
     case hy1=>
      rintro w5 ⟨d0,d1⟩;go_simp;try with_reducible rfl
     try simp only[Act.put]
     refine aQ (i:=2) (v:=?hv2) rfl (by kernel_rfl) (Or.inl ⟨by rfl,?hy2⟩) hHeld ?hr2
     case hy2=>
      rintro w5 ⟨d0,d1⟩;go_simp;try with_reducible rfl
     try simp only[Act.put]
     refine aQ (i:=3) (v:=?hv3) rfl (by kernel_rfl) (Or.inl ⟨by rfl,?hy3⟩) hHeld ?hr3
     case hy3=>
      rintro w5 ⟨d0,d1⟩;go_simp;try with_reducible rfl
     try simp only[Act.put]
     refine aQ (i:=4) (v:=?hv4) rfl (by kernel_rfl) (Or.inl ⟨by rfl,?hy4⟩) hHeld ?hr4
     case hy4=>
      rintro w5 ⟨d0,d1⟩;go_simp;try with_reducible rfl
     try simp only[Act.put]
     refine aQ (i:=5) (v:=?hv5) rfl (by kernel_rfl) (Or.inl ⟨by rfl,?hy5⟩) hHeld ?nD
     case hy5=>
      rintro w5 ⟨d0,d1⟩;go_simp;try with_reducible rfl
     try simp only[Act.put]
     refine aQ (i:=7) (v:=?hv7) rfl (by kernel_rfl) (Or.inl ⟨by rfl,?hy7⟩) hHeld ?zk
     case hy7=>
      rintro w5 ⟨d0,d1⟩;go_simp;try with_reducible rfl
     try simp only[Act.put]
     refine aQ (i:=8) (v:=?hv8) rfl (by kernel_rfl) (Or.inl ⟨by rfl,?hy8⟩) hHeld ?iO
     case hy8=>
      rintro w5 ⟨d0,d1⟩;go_simp;try with_reducible rfl
     try simp only[Act.put]
     refine aQ (i:=9) (v:=.int .i64 ((j+1:Nat):Int)) rfl (by kernel_rfl) (Or.inl ⟨by rfl,?hy9⟩) hHeld ?mY
     case hy9=>
      rintro w5 ⟨d0,d1⟩;go_simp
     try simp only[Act.put]
     refine aQ (i:=10) (v:=?ab1) rfl (by kernel_rfl) (Or.inl ⟨by rfl,?Sk⟩) hHeld ?acd
     case Sk=>
      rintro w5 ⟨d0,d1⟩;go_simp;try with_reducible rfl
     try simp only[Act.put]
     refine aQ (i:=11) (v:=?ab0) rfl (by kernel_rfl) (Or.inl ⟨by rfl,?Sj⟩) hHeld ?ab9
     case Sj=>
      rintro w5 ⟨d0,d1⟩;go_simp;try with_reducible rfl
     try simp only[Act.put]
     refine aQ (i:=12) (v:=?abZ) rfl (by kernel_rfl) (Or.inl ⟨by rfl,?Si⟩) hHeld ?ab8
     case Si=>
      rintro w5 ⟨d0,d1⟩;go_simp;try with_reducible rfl
     try simp only[Act.put]
     refine gm (i:=6) (by kernel_rfl) rfl (λK2 hK2=> ?_);go_simp;go_at_call 9;refine(HPx _).out.mono ?_;rintro e w5 ⟨rfl,rfl⟩;go_simp;refine hK2.out _ _ (λ_=>hHeld) ?_;clear hK2 K2;refine gm (i:=13) (by kernel_rfl) rfl (λK2 hK2=> ?_);go_simp;go_at_call 9;refine(HPy _).out.mono ?_;rintro e w5 ⟨rfl,rfl⟩;go_simp;refine hK2.out _ _ (λ_=>hHeld) ?_;clear hK2 K2;refine gm (i:=14) (by kernel_rfl) rfl (λK2 hK2=> ?_);go_simp;refine hK2.out _ _ (λ_=>hHeld) ?_;clear hK2 K2;refine gm (i:=15) (by kernel_rfl) rfl (λK2 hK2=> ?_);go_simp;go_at_call 11;refine HD.out.mono ?_;rintro e w4 ⟨v,m,rfl,hrm,_,hs⟩;have hs2:=hide (hs.mono (by omega) (λm' e2=>by rw[e2];exact hgo.out m hrm):AS w (k+1) G (k+(j+2)) (Ck (k+1) k) w4);clear hs hrm HD hgo hHeld hS HPx HPy;go_simp;refine hK2.out _ _ (λh=>(h (by decide)).elim) ?_;clear hK2 K2;refine qA (by kernel_rfl) ?_ _;go_wp2;go_roundw
     case rel=>exact⟨j+2,by simp,by omega,hs2⟩
     case measure=>simp[intOf];omega
    ·have hQ2:Hid (AS w (k+1) G 99 (Ck (k+1) k) wr):=hide (hq.out.mono (by omega) λ_ h=>h);have hnj:¬((j:Int)+1<(NL:Int)):=by omega
     obtain⟨a,hpa,han⟩:=qK (c:=fm) (n:=k+1) (by omega);obtain⟨b,hpb,hbn⟩:=qK (c:=tg) (n:=k+1) (by omega);have HPa:=λW=>hide (oz fm ((k:Int)+1) hfm.1 hfm.2 (by omega) (by omega) W);have HPb:=λW=>hide (oz tg ((k:Int)+1) htg.1 htg.2 (by omega) (by omega) W);rw[show((k+1:Nat):Int)=(k:Int)+1 from rfl]at hpa hpb;rw[hpa]at HPa;rw[hpb]at HPb;clear hq hlt hpa hpb hfm htg hL hLw YM hLb hn0;go_upto_region 14 with(go_at_call 9;refine(HPa _).out.mono ?_;rintro e w2 ⟨rfl,hw2⟩;have hw3:=hw2.symm;subst hw3;clear hw2);clear HPa;go_upto_region 15 with(go_at_call 9;refine(HPb _).out.mono ?_;rintro e w2 ⟨rfl,hw2⟩;have hw3:=hw2.symm;subst hw3;clear hw2);clear HPb;have hne2:∃b',b'<k+1∧a≠b'∧((a=b->(b':Int)=((b:Int)+1)%((k:Int)+1))∧(a≠b->b'=b)):=by
      by_cases e:a=b
      ·refine⟨(a+1)%(k+1),Nat.mod_lt _ (by omega),λe2=> ?_,λ_=> ?_,λh=>absurd e h⟩
       ·by_cases h:a+1=k+1
        ·rw[h,Nat.mod_self]at e2;omega
        ·rw[Nat.mod_eq_of_lt (show a+1<k+1 by omega)]at e2;omega
       ·rw[<-e];exact Int.natCast_emod (a+1) (k+1)
      ·exact⟨b,hbn,e,λh=>absurd h e,λ_=>rfl⟩
     obtain⟨b',acK,hab,hb1,hb2⟩:=hne2;have E:Cu a b' (k+1) t:=⟨han,acK,hab,OA,by omega⟩;have HS:=hide (Ym E hQ2.out (aB _));unfold Ee Rb at HS;dsimp only at HS;clear hQ2;go_upto_if 91 with(fail);go_cut [18]from 92 to 95 (λbv W=>bv=.int .i64 b'∧W=wr)
     case first=>
      clear HS E hO hOb hab acK e1 e2;by_cases e:a=b
      ·have h1:=hb1 e;have e3:((a:Int)==(b:Int))=true:=by simp[e]
       go_wp2_with fail;go_meet;exact⟨by rw[h1],rfl⟩
      ·have h1:=hb2 e;have e3:((a:Int)==(b:Int))=false:=by simp;omega
       go_wp2_with fail;go_meet;exact⟨by rw[h1],rfl⟩
     case rest=>
      obtain⟨rfl,rfl⟩:=hcut;clear hb1 hb2 hbn hne hnj;go_upto_region 20 with(go_at_call 11;refine HS.out.mono ?_;rintro e w4 ⟨⟨v,rfl⟩,hr⟩);clear HS;have hR0:=hide hr;clear hr;go_wp2_with fail;clear e1 e2 h4 h5 hj;go_loopw [19,20,21,22] (λcv bv tv iv wr=>∃(i c tn:Nat),i<=40∧cv=.int .i64 c∧bv=.bool false∧tv=.int .i64 tn∧iv=.int .i64 i∧tn<=41 * i∧Hid (AR w (k+1) G a b' t i 0 c 41 wr)) (λ_ _ _ iv _=>40 - (intOf iv).toNat)
      case atStart=>exact⟨0,0,0,by omega,rfl,rfl,rfl,rfl,by omega,hR0⟩
      case round=>
       clear hR0;obtain⟨i,c,tn,hi,rfl,rfl,rfl,rfl,htn,hR⟩:=hrel;by_cases hlt:i<40
       ·have hii:(i:Int)<40:=by omega
        go_wp2_with fail;go_loopw [19,20,21,23] (λcv bv tv sv wr=>∃(s c tn K:Nat),s+K<=41∧cv=.int .i64 c∧bv=.bool false∧tv=.int .i64 tn∧sv=.int .i64 s∧tn<=41 * i+s∧Hid (AR w (k+1) G a b' t i s c K wr)) (λ_ _ _ sv _=>42 - (intOf sv).toNat)
        case atStart=>exact⟨0,c,tn,41,by omega,rfl,rfl,rfl,rfl,by omega,hR⟩
        case round=>
         clear hR;obtain⟨s,c,tn,K,hsK,rfl,rfl,rfl,rfl,htn,hR⟩:=hrel;have hsi:(s:Int)<2000:=by omega
         have HA:=hide (abC hR.out);clear hR;go_upto_region 28 with(go_at_call 17;refine HA.out.mono ?_;rintro e w5 ⟨aa,ca,l,rfl,afs,hl0,hl1⟩);clear HA;by_cases hl:l=0
         ·have hq0:=hide (hl0 hl);subst hl;clear hl0 hl1;have HT:=hide (Yl E hq0.out hlt (by omega) ⟨#[]⟩);unfold Ee CW at HT;dsimp only at HT;clear hq0;go_wp2_with(go_at_call 11;refine HT.out.mono ?_;rintro e w4 ⟨⟨v,rfl⟩,hr⟩;replace hr:=hide hr;clear HT);go_roundw
          case rel=>exact⟨i+1,c,tn,by omega,rfl,rfl,rfl,by simp,by omega,hr⟩
          case measure=>exact pE hlt
         ·obtain⟨⟨K',rfl⟩,hq1⟩:=hl1 (by omega);replace hq1:=hide hq1;clear hl0 hl1;have hlz:((l:Int)==0)=false:=by simp;omega
          have hl0:¬l=0:=hl;go_upto_if 117 with(fail);generalize Td:decide (0<NO)=bo;go_cut [21,25]from 118 to 129 (λtv kv W=>∃tn' kk:Nat,tv=.int .i64 tn'∧kv=.int .i64 kk∧kk<l∧tn'<=tn+1∧W=w5)
          case first=>
           have htk:tn<=2000:=by omega
           cases bo with
           |false=>
            clear hq1 E htn;go_wp2_with fail;go_meet;exact⟨tn,0,rfl,rfl,by omega,by omega,rfl⟩
           |true=>
            have hno:0<NO:=by have:=of_decide_eq_true Td;omega
            have hmod:tn%NO<NO:=Nat.mod_lt _ (by omega);have hmt:(tn:Int).tmod (NO:Int)=((tn%NO:Nat):Int):=by
             rw[Int.tmod_eq_emod_of_nonneg (by omega)];rfl
            obtain⟨x,hx⟩:∃x,O[tn%NO]?=some x:=⟨_,bS (by omega)⟩;have hw5:Below w.heap.size w w5:=by
             obtain⟨_,_,h⟩:=hq1.out;exact h.bl
            obtain⟨g,f,rfl,hgl,d0⟩:=ints_at (hO.below hw5) hx;have hxb:=hOb x (iV hx);obtain⟨kk,hpk,hkl⟩:=qK (c:=x) (n:=l) (by omega);have HPo:=λW=>hide (oz x (l:Int) hxb.1 hxb.2 (by omega) (by omega) W);rw[hpk]at HPo;have hmi:((tn%NO:Nat):Int)<(NO:Int):=by omega
            clear hq1 E htn hw5 hx hxb hpk hmod;go_wp2_with(go_at_call 9;refine(HPo _).out.mono ?_;rintro e w2 ⟨rfl,hw2⟩;have hw3:=hw2.symm;subst hw3;clear hw2);go_meet;exact⟨tn+1,kk,rfl,rfl,hkl,aB _,rfl⟩
          case rest=>
           obtain⟨tn',kk,rfl,rfl,hkk,afi,rfl⟩:=hcut;have HD:=hide (abB E hq1.out hlt (by omega) (by omega) hkk ⟨#[]⟩);unfold Ee Lx at HD;dsimp only at HD;clear hq1 hl0 hlz;go_upto_region 34 with(go_at_call 11;refine HD.out.mono ?_;rintro e w6 ⟨v,ev,c',rfl,hev,hR,hnx⟩);obtain⟨av,cv,rfl,afB⟩:=hev.form;have hle:=hR.le1;have hall:c+(gI ev).length=c'∧∀p∈gI ev,p=((b':Int),bJ a,t):=by
            rcases hnx with⟨h1,h2⟩|⟨h1,h2,h3⟩
            ·exact⟨by rw[h1,h2];rfl,λp hp=>by rw[h1]at hp;cases hp⟩
            ·exact⟨by rw[h1,h2,h3];rfl,λp hp=>by rw[h1]at hp;exact fM.1 hp⟩
           obtain⟨hcl,hall⟩:=hall;replace hall:=hide hall;replace hR:=hide hR;replace hev:=hide hev;clear hnx HD;have hEv:Hid (AR w (k+1) G a b' t i (s+1) c' K' w6∧AE (.slice av ev.length cv) ev w6):=hide ⟨hR.out,hev.out⟩;clear hR hev;go_wp2_with fail;go_loopw [19,20,27] (λcv' bv jv wr=>∃(j:Nat),j<=ev.length∧cv'=.int .i64 ((c+PC ev j 0:Nat):Int)∧bv=.bool false∧jv=.int .i64 j∧Hid (AR w (k+1) G a b' t i (s+1) c' K' wr∧AE (.slice av ev.length cv) ev wr)) (λ_ _ jv _=>ev.length - (intOf jv).toNat)
           case atStart=>exact⟨0,dm _,rfl,rfl,rfl,hEv⟩
           case round=>
            clear hEv;obtain⟨j,hj,rfl,rfl,rfl,hE⟩:=hrel;by_cases hjl:j<ev.length
            ·have afv:(j:Int)<(ev.length:Int):=by omega
             obtain⟨x,hx⟩:∃x,ev[j]?=some x:=⟨_,bS hjl⟩;obtain⟨gv,cv2,ac,ca2,hv,k0,k5,kql,_⟩:=hE.out.2.cells hx;cases hv;go_wp2_with fail;go_loopw [19,20,28] (λcv' bv qv wr=>∃(q:Nat),q<=x.o.aO.length∧cv'=.int .i64 ((c+PC ev j q:Nat):Int)∧bv=.bool false∧qv=.int .i64 q∧Hid (AR w (k+1) G a b' t i (s+1) c' K' wr∧AE (.slice (some ⟨gv,0,none⟩) ev.length cv) ev wr)) (λ_ _ qv _=>x.o.aO.length - (intOf qv).toNat)
             case atStart=>exact⟨0,dm _,rfl,rfl,rfl,hE⟩
             case round=>
              clear hE;obtain⟨q,hq,rfl,rfl,rfl,hE⟩:=hrel;obtain⟨gv',afJ,ac',ca',hv',k0',k5',_,kq⟩:=hE.out.2.cells hx;cases hv';by_cases hql:q<x.o.aO.length
              ·have hqi:(q:Int)<(x.o.aO.length:Int):=by omega
               obtain⟨⟨cf,ct⟩,hc⟩:∃c,x.o.aO[q]?=some c:=⟨_,bS hql⟩;obtain⟨ga,hac,kf,kt⟩:=kq q _ hc;subst hac;have hone:=hall.out _ (Um hx hc);have hn1:=congrArg Prod.fst hone;have hn2:=congrArg (λz=>z.2.1) hone;have hn3:=congrArg (λz=>z.2.2) hone;dsimp only at hn1 hn2 hn3 kf kt;rw[hn1]at k0';rw[hn2,show bJ a=10 * (a:Int)+10 from rfl]at kf;rw[hn3]at kt;have hw:=F_ (k:=a) (by omega);have hgo:Hid (∀W',Below wr.heap.size wr W'->∃q':Nat,q'<=x.o.aO.length∧(.int .i64 (((c+PC ev j q:Nat):Int)+1):Value)=.int .i64 ((c+PC ev j q':Nat):Int)∧(.bool false:Value)=.bool false∧(.int .i64 ((q:Int)+1):Value)=.int .i64 q'∧Hid (AR w (k+1) G a b' t i (s+1) c' K' W'∧AE (.slice (some ⟨gv,0,none⟩) ev.length cv) ev W')):=hide λW' hb=>⟨q+1,by omega,rfl,rfl,by simp,hide ⟨hE.out.1.later hb,hE.out.2.later hb⟩⟩;have hpl:=YW hx hq;clear hE kq hc hone hn1 hn2 hn3 k0 k5;go_wp2_with fail;exact⟨hgo.out wr (aV _ _),pE hql⟩
              ·obtain rfl:q=x.o.aO.length:=by omega
               have hpc:=Yd hx;have hpl:=YW hx (aB _);clear k0 k0' kq;go_wp2;go_roundw
               case rel=>exact⟨j+1,by omega,by rw[<-hpc],rfl,by simp,hE⟩
               case measure=>exact pE hjl
            ·obtain rfl:j=ev.length:=by omega
             have hpa:=abb ev;have hc2:c+PC ev ev.length 0=c':=by omega
             have hE2:=hide hE.out.1;clear hE;go_wp2;go_roundw
             case rel=>exact⟨s+1,c',tn',K',by omega,by rw[hc2],rfl,rfl,by simp,by omega,hE2⟩
             case measure=>simp[intOf];omega
       ·obtain rfl:i=40:=by omega
        have hc1:=hR.out.last;subst hc1;have hbl:=hide hR.out.bl;clear hR;go_wp2;go_ret;exact⟨rfl,hbl.out⟩
end Go.Proofs.YtakaadcpaeiccabGreat
