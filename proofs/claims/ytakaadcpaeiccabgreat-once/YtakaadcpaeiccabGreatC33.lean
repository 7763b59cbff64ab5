import Derived.Test.YtakaadcpaeiccabGreatC32
namespace Go.Proofs.YtakaadcpaeiccabGreat
variable{c:sN}{G G':Int}{A:List Rt}{i:Nat}{y y':Rt}{s:St}{st:bG}
theorem mg{s:Int}(h0:0<=s)(h1:s<4294967295):gr s=s+1:=by unfold gr;omega
def QH(A A':List Rt):Prop:=∀d y,aK A d=some y->∃y',aK A' d=some y'∧qD (rk y',y'.hops) (rk y) y.hops=true
theorem QH.refl(A:List Rt):QH A A:=λ_ y h=>⟨y,h,mW _ _⟩
theorem QH.sle{s':St}(h:QH s.A s'.A)(hz:st.nd=some s):l5 st {st with nd:=some s'}:=by
 refine⟨rfl,λd q h' _ e=> ?_⟩;unfold wO vr at e ⊢;rw[hz]at e;dsimp only at e ⊢;cases hl:aK s.A d with
 |none=>rw[hl]at e;cases e
 |some y=>
  obtain⟨y',hy',g⟩:=h d y hl;rw[hl]at e;rw[hy'];exact D7 g e
theorem Mj{f:Rt->Rt}(hd:∀y,(f y).dest=y.dest)(hf:∀y∈A,qD (rk (f y),(f y).hops) (rk y) y.hops=true):QH A (A.map f):=λd y h=>⟨f y,pR hd h,hf y (bU h).1⟩
theorem NP(q:Int)(h0:0<=y.seq)(h1:y.seq<4294967295)(hv:y.valid=true):qD (rk (qE y q),(qE y q).hops) (rk y) y.hops=true:=by
 have e1:rk (qE y q)=max (gr y.seq) q - 1:=rfl;have e2:rk y=y.seq:=by unfold rk;rw[hv];rfl
 have e3:(qE y q).hops=y.hops:=rfl;rw[e1,e2,e3,mg h0 h1];unfold qD;simp only[Bool.or_eq_true,eF,iM];omega
theorem Tq(fr q:Int)(h0:0<=y.seq)(h1:y.seq<4294967295):qD (rk (bQ fr q y),(bQ fr q y).hops) (rk y) y.hops=true:=by
 unfold bQ;split
 ·rename_i h;simp only[eF]at h;exact NP q h0 h1 h.1
 ·exact mW _ _
theorem MC(h1:rk y'=rk y)(h2:y'.hops=y.hops):qD (rk y',y'.hops) (rk y) y.hops=true:=by rw[h1,h2];exact mW _ _
theorem rV(e:Int)(y:Rt):(sI e y).dest=y.dest∧(sI e y).seq=y.seq∧(sI e y).hops=y.hops∧(sI e y).next=y.next∧(sI e y).valid=y.valid:=by
 unfold sI;split<;>exact⟨rfl,rfl,rfl,rfl,rfl⟩
theorem sF(n:Int)(y:Rt):(qF n y).dest=y.dest∧(qF n y).seq=y.seq∧(qF n y).hops=y.hops∧(qF n y).next=y.next∧(qF n y).valid=y.valid:=by
 unfold qF;split<;>exact⟨rfl,rfl,rfl,rfl,rfl⟩
theorem MF(h1:y'.seq=y.seq)(h2:y'.valid=y.valid):rk y'=rk y:=by unfold rk;rw[h1,h2]
theorem zk.same{S:List bG}(h:zk G S i y)(e:y'.dest=y.dest∧y'.seq=y.seq∧y'.hops=y.hops∧y'.next=y.next∧y'.valid=y.valid):zk G S i y':=by
 obtain⟨e1,e2,e3,e4,e5⟩:=e;refine⟨by rw[e1];exact h.dest,by rw[e3];exact h.hp,by rw[e2];exact h.sq,?_,?_⟩
 ·rw[e1,e2,e3,e4,e5];exact h.nx
 ·rw[e1,e2,e3,e5];exact h.hc
theorem zk.up{S:List bG}(h:zk G S i y)(hG:G<=G'):zk G' S i y:=⟨h.dest,h.hp,⟨h.sq.1,Int.le_trans h.sq.2 hG⟩,h.nx,h.hc⟩
theorem zk.ended{S:List bG}(h:zk G S i y)(hd:y'.dest=y.dest)(hh:y'.hops=y.hops)(hv:y'.valid=false)(hs:0<=y'.seq∧y'.seq<=G'):zk G' S i y':=
 ⟨by rw[hd];exact h.dest,by rw[hh];exact h.hp,hs,λh=>(by rw[hv]at h;cases h),λh=>(by rw[hv]at h;cases h)⟩
structure CI(G:Int)(S:List bG):Prop where
 len:S.length<=6
 za:∀s∈S,a_ s.addr∧s.addr≠0
 inj:∀(i j:Nat) s t,S[i]?=some s->S[j]?=some t->s.addr=t.addr->i=j
 nd:∀(i:Nat) s z,S[i]?=some s->s.nd=some z->z.me=s.addr∧(0<=z.seq∧z.seq<=G)∧Asc z.A∧∀y∈z.A,zk G S i y∧y.dest≠s.addr
theorem CI.set{S:List bG}(h:CI G S)(hG:G<=G'){i:Nat}{s s':bG}(hs:S[i]?=some s)(l:l5 s s')(hn:∀z,s'.nd=some z->z.me=s'.addr∧(0<=z.seq∧z.seq<=G')∧Asc z.A∧∀y∈z.A,zk G' (S.set i s') i y∧y.dest≠s'.addr):CI G' (S.set i s'):=by
 have hg:∀(j:Nat) t,(S.set i s')[j]?=some t->∃u,S[j]?=some u∧t.addr=u.addr:=λj t ht=>by
  rcases cO ht with⟨rfl,rfl⟩|⟨_,ht⟩
  ·exact⟨s,hs,l.addr⟩
  ·exact⟨t,ht,rfl⟩
 refine⟨by rw[List.length_set];exact h.len,λt ht=> ?_,λj k t u ht hu e=> ?_,λj t z ht hz=> ?_⟩
 ·obtain⟨j,hj⟩:=List.getElem?_of_mem ht;obtain⟨u,hu,e⟩:=hg j t hj;rw[e];exact h.za u (gI hu)
 ·obtain⟨t1,ht1,e1⟩:=hg j t ht;obtain⟨u1,hu1,e2⟩:=hg k u hu;exact h.inj j k t1 u1 ht1 hu1 (by rw[<-e1,<-e2];exact e)
 ·rcases cO ht with⟨rfl,rfl⟩|⟨_,ht⟩
  ·exact hn z hz
  ·obtain⟨a,b,c,d⟩:=h.nd j t z ht hz;exact⟨a,⟨b.1,by omega⟩,c,λy hy=>⟨(d y hy).1.set hG hs l,(d y hy).2⟩⟩
def QV(G:Int)(S:List bG)(me:Int)(c:sN):Prop:=
 ∀fr p L,c=some (fr,p,L)->fr≠me∧1<=p.ttl∧(0<=p.aX∧p.aX<=G)∧(∀x∈L,x.2<=G)∧∃(j:Nat) (t:bG),S[j]?=some t∧t.addr=fr∧FrQ G S j p L
theorem QV.set{S:List bG}{me:Int}(h:QV G S me c)(hG:G<=G'){i:Nat}{s s':bG}(hs:S[i]?=some s)(l:l5 s s'):QV G' (S.set i s') me c:=by
 intro fr p L hc;obtain⟨h1,h2,h3,h4,j,t,hj,ha,hf⟩:=h fr p L hc;obtain⟨t',ht',lt⟩:=mV hs l hj;exact⟨h1,h2,⟨h3.1,by omega⟩,λx hx=>Int.le_trans (h4 x hx) hG,j,t',ht',lt.addr.trans ha,hf.set hG hs l⟩
theorem RD{S:List bG}{s:bG}(h:S[i]?=some s):S.set i s=S:=by
 refine List.ext_getElem? λj=> ?_;by_cases e:j=i
 ·subst e;rw[List.getElem?_set_self (fu.1 h).1,h]
 ·rw[List.getElem?_set_ne (λh=>e h.symm)]
theorem wN(hz:st.nd=some s)(d:Int):vr st d=(aK s.A d).map λy=>(rk y,y.hops):=by
 unfold vr;rw[hz]
theorem sM.wO(hz:st.nd=some s){d q h:Int}(r:sM (aK s.A d) q h):wO st d q h=true:=by
 obtain⟨y,hy,e⟩:=r;unfold Go.Proofs.YtakaadcpaeiccabGreat.wO;rw[wN hz,hy];show qD (rk y,y.hops) q h=true;unfold qD;simp only[Bool.or_eq_true,eF,iM];exact e
theorem Dj(me:Int)(A:List Rt)(d q h n e:Int):((iP me A d q h n e).1=A)∨(d≠me∧d≠0∧(iP me A d q h n e).2=0∧((∃x,aK A d=some x∧Wj (newR d q h n e) x=true∧(iP me A d q h n e).1=gV A d (Ac q h n e))∨(aK A d=none∧(iP me A d q h n e).1=uy A (newR d q h n e)))):=by
 unfold iP;split
 ·exact .inl rfl
 ·rename_i hd;simp only[not_or]at hd;cases hl:aK A d with
  |some x=>
   dsimp only;split
   ·rename_i hg;exact .inr ⟨hd.1,hd.2,rfl,.inl ⟨x,rfl,hg,rfl⟩⟩
   ·exact .inl rfl
  |none=>
   dsimp only;split
   ·exact .inl rfl
   ·exact .inr ⟨hd.1,hd.2,rfl,.inr ⟨rfl,rfl⟩⟩
theorem CO(A:List Rt)(x:Rt)(d:Int)(hd:d≠x.dest):aK (uy A x) d=aK A d:=by
 unfold uy aK;have hx:(x.dest==d)=false:=by simpa using λe=>hd e.symm
 conv=>rhs;rw[<-List.take_append_drop (pos A x.dest) A]
 rw[List.find?_append,List.find?_append,List.find?_cons,hx]
theorem Rp{S:List bG}(hS:S[i]?=some st)(hz:st.nd=some s)(h:CI G S)(hc:QV G S s.me c)(hG0:0<=G)(hG:G+1<4294967295)(t:Vo s.me s.now c s.A A):
  l5 st {st with nd:=some {s with A:=A}}∧Asc A∧∀y∈A,zk (G+1) (S.set i {st with nd:=some {s with A:=A}}) i y∧y.dest≠st.addr:=by
 obtain⟨hme,TW,hasc,hln⟩:=h.nd i st s hS hz;have hmap:∀(f:Rt->Rt),(∀y,(f y).dest=y.dest)->(∀y∈s.A,qD (rk (f y),(f y).hops) (rk y) y.hops=true)->(∀y∈s.A,zk (G+1) S i (f y))->A=s.A.map f->l5 st {st with nd:=some {s with A:=A}}∧Asc A∧∀y∈A,zk (G+1) (S.set i {st with nd:=some {s with A:=A}}) i y∧y.dest≠st.addr:=by
  rintro f hd hf hl rfl;have l:l5 st {st with nd:=some {s with A:=s.A.map f}}:=QH.sle (s':={s with A:=s.A.map f}) (Mj hd hf) hz;refine⟨l,?_,λy hy=> ?_⟩
  ·unfold Asc;rw[List.pairwise_map];refine hasc.imp λ{a b} hab=> ?_;rw[hd,hd];exact hab
  ·obtain⟨z,hz',rfl⟩:=dh.1 hy;exact⟨(hl z hz').set (fo _) hS l,by rw[hd];exact(hln z hz').2⟩
 have hmod:∀(f:Rt->Rt) (d:Int),(∀y,(f y).dest=y.dest)->(∀y∈s.A,y.dest=d->qD (rk (f y),(f y).hops) (rk y) y.hops=true∧zk (G+1) S i (f y))->A=gV s.A d f->l5 st {st with nd:=some {s with A:=A}}∧Asc A∧∀y∈A,zk (G+1) (S.set i {st with nd:=some {s with A:=A}}) i y∧y.dest≠st.addr:=by
  intro f d hd hf hA;refine hmap (λx=>if x.dest=d then f x else x) (λy=> ?_) (λy hy=> ?_) (λy hy=> ?_) hA
  ·split
   ·exact hd y
   ·rfl
  ·split
   ·rename_i e;exact(hf y hy e).1
   ·exact mW _ _
  ·split
   ·rename_i e;exact(hf y hy e).2
   ·exact(hln y hy).1.up (by omega)
 have TT:∀(d q hp n e:Int),(d≠s.me->(∃s∈S,s.addr=d)∧0<=hp∧(0<=q∧q<=G)∧hp+1<=8 * (cnt S d q hp:Int)∧n≠s.me∧∃(j:Nat) (t:bG),S[j]?=some t∧t.addr=n∧(t.addr=d∨wO t d q hp=true))->A=(iP s.me s.A d q (St.far hp) n e).1->l5 st {st with nd:=some {s with A:=A}}∧Asc A∧∀y∈A,zk (G+1) (S.set i {st with nd:=some {s with A:=A}}) i y∧y.dest≠st.addr:=by
  intro d q hp n e hx hA;rcases Dj s.me s.A d q (St.far hp) n e with h1|⟨D5,hd0,hcode,h1⟩
  ·rw[h1]at hA;refine hmap id (λy=>rfl) (λy _=>mW _ _) (λy hy=>(hln y hy).1.up (by omega)) (by rw[List.map_id];exact hA)
  ·obtain⟨x1,x2,x3,x4,x5,j,t,hj,ht,hge⟩:=hx D5;have hcl:=La S d q hp;have hlen:=h.len;have KR:St.far hp=hp+1:=by unfold St.far;omega
   have hrk:=Ay (me:=s.me) (A:=s.A) (d:=d) (q:=q) (h:=St.far hp) (n:=n) (e:=e) D5 hd0 (by rw[hcode];decide);rw[<-hA]at hrk;have adA:∀x,aK s.A d=some x->Wj (newR d q (St.far hp) n e) x=true->qD (rk (newR d q (St.far hp) n e),(newR d q (St.far hp) n e).hops) (rk x) x.hops=true∧qD (rk x,x.hops) q hp=false:=by
    intro x _ hg;have e1:rk (newR d q (St.far hp) n e)=q:=rfl;have e2:(newR d q (St.far hp) n e).hops=St.far hp:=rfl;unfold Wj at hg;rw[e1,e2]at hg;rw[e1,e2];unfold qD;split at hg
    ·rename_i e3;simp only[iM]at hg;refine⟨?_,?_⟩
     ·simp only[Bool.or_eq_true,eF,iM];omega
     ·simp only[Bool.or_eq_false_iff,Bool.and_eq_false_iff,decide_eq_false_iff_not];omega
    ·rename_i e3;simp only[iM]at hg;refine⟨?_,?_⟩
     ·simp only[Bool.or_eq_true,eF,iM];omega
     ·simp only[Bool.or_eq_false_iff,Bool.and_eq_false_iff,decide_eq_false_iff_not];omega
   have aeZ:QH s.A A:=by
    intro d' y hy;by_cases hdd:d'=d
    ·subst hdd;rcases h1 with⟨x,hx1,hx2,hx3⟩|⟨hx1,_⟩
     ·rw[hy]at hx1;cases hx1;obtain⟨y',hy',hr⟩:=hrk;refine⟨y',hy',D7 ?_ (adA y hy hx2).1⟩;show qD (rk y',y'.hops) q (St.far hp)=true;unfold qD;simp only[Bool.or_eq_true,eF,iM];exact hr
     ·rw[hy]at hx1;cases hx1
    ·refine⟨y,?_,mW _ _⟩;rcases h1 with⟨x,hx1,hx2,hx3⟩|⟨hx1,hx3⟩
     ·rw[hA,hx3];have h2:=pR (f:=λx=>if x.dest=d then Ac q (St.far hp) n e x else x) (λy=>by split<;>rfl) hy;rw[aH (by rw[(bU hy).2];exact hdd)]at h2;exact h2
     ·rw[hA,hx3,CO _ _ _ hdd];exact hy
   have l:l5 st {st with nd:=some {s with A:=A}}:=QH.sle (s':={s with A:=A}) aeZ hz;have hcm:cnt S d q hp+1<=cnt (S.set i {st with nd:=some {s with A:=A}}) d q (St.far hp):=by
    refine U2 hS (by omega) ?_ ?_
    ·unfold cP wO;rw[wN hz,Bool.or_eq_false_iff];refine⟨by simpa using λe=>D5 (by rw[hme];exact e.symm),?_⟩;rcases h1 with⟨x,hx1,hx2,hx3⟩|⟨hx1,hx3⟩
     ·rw[hx1];exact(adA x hx1 hx2).2
     ·rw[hx1];rfl
    ·unfold cP;rw[Bool.or_eq_true];exact .inr (sM.wO rfl hrk)
   have hnew:∀y,y.dest=d->y.seq=q->y.hops=St.far hp->y.next=n->y.valid=true->zk (G+1) (S.set i {st with nd:=some {s with A:=A}}) i y:=by
    intro y e1 e2 e3 e4 e5;refine⟨by rw[e1];exact gJ hS l.addr x1,by omega,by omega,λ_=> ?_,λ_=> ?_⟩
    ·have hji:j≠i:=λhji=>by
      subst hji;rw[hS]at hj;cases hj;exact x5 (by rw[<-ht,hme])
     refine⟨j,t,hji,(List.getElem?_set_ne (λe=>hji e.symm)).trans hj,ht.trans e4.symm,?_⟩;rw[e1,e2,e3,e4,KR];rcases hge with hge|hge
     ·exact .inl (by rw[<-hge,ht])
     ·exact .inr (by rw[show hp+1 - 1=hp by omega];exact hge)
    ·rw[e1,e2,e3];omega
   refine⟨l,?_,λy hy=> ?_⟩
   ·rcases h1 with⟨x,hx1,hx2,hx3⟩|⟨hx1,hx3⟩
    ·rw[hA,hx3];exact A8 hasc d _ λy=>rfl
    ·rw[hA,hx3];exact IL hasc hx1
   ·rcases h1 with⟨x,hx1,hx2,hx3⟩|⟨hx1,hx3⟩
    ·rw[hA,hx3]at hy;rcases vJ hy with⟨z,hz',he,rfl⟩|⟨hy,_⟩
     ·exact⟨hnew _ he rfl rfl rfl rfl,by show z.dest≠st.addr;rw[he,<-hme];exact D5⟩
     ·exact⟨((hln y hy).1.set (by omega) hS l),(hln y hy).2⟩
    ·rw[hA,hx3]at hy;rcases oI.1 hy with rfl|hy
     ·exact⟨hnew _ rfl rfl rfl rfl rfl,by show d≠st.addr;rw[<-hme];exact D5⟩
     ·exact⟨((hln y hy).1.set (by omega) hS l),(hln y hy).2⟩
 have Ug:∀(fr q:Int) (y:Rt),y∈s.A->(q<=G)->qD (rk (bQ fr q y),(bQ fr q y).hops) (rk y) y.hops=true∧zk (G+1) S i (bQ fr q y):=by
  intro fr q y hy hq;have h2:=(hln y hy).1;have h3:=h2.sq;refine⟨Tq fr q h3.1 (by omega),?_⟩;unfold bQ;split
  ·refine h2.ended rfl rfl rfl ?_;show 0<=max (gr y.seq) q∧max (gr y.seq) q<=G+1;rw[mg h3.1 (by omega)];omega
  ·exact h2.up (by omega)
 cases t with
 |Wq fr p L e hc1 hk=>
  obtain⟨k1,k2,k3,_,j,t,hj,ht,hf⟩:=hc fr p L hc1;obtain⟨f1,f2,f3,f4,f5,u,hu,f6⟩:=hf.k1 hk;rw[hj]at hu;cases hu;exact TT p.aJ p.dw p.hops fr e (λ_=>⟨f1,f2,f3,by omega,k1,j,t,hj,ht,f6⟩) rfl
 |Wp fr p L e hc1 hk=>
  obtain⟨k1,k2,k3,_,j,t,hj,ht,hf⟩:=hc fr p L hc1;obtain⟨f1,f2,f3,f5,u,hu,f6⟩:=hf.k2 hk;rw[hj]at hu;cases hu;exact TT p.dest p.aX p.hops fr e (λ_=>⟨f1,f2,f3,by omega,k1,j,t,hj,ht,f6⟩) rfl
 |use d e=>exact hmod (sI e) d (λy=>mq e y) (λy hy _=>⟨MC (MF (rV e y).2.1 (rV e y).2.2.2.2) (rV e y).2.2.1,((hln y hy).1.same (rV e y)).up (by omega)⟩) rfl
 |bN d n=>exact hmod (qF n) d (λy=>lg n y) (λy hy _=>⟨MC (MF (sF n y).2.1 (sF n y).2.2.2.2) (sF n y).2.2.1,((hln y hy).1.same (sF n y)).up (by omega)⟩) rfl
 |lose fr p L hc1 x hx=>
  obtain⟨_,_,_,k4,_⟩:=hc fr p L hc1;exact hmod (bQ fr x.2) x.1 (λy=>eU _ _ y) (λy hy _=>Ug fr x.2 y hy (k4 x hx)) rfl
 |brk d_=>exact hmap (bQ d_ 0) (λy=>eU _ _ y) (λy hy=>(Ug d_ 0 y hy hG0).1) (λy hy=>(Ug d_ 0 y hy hG0).2) rfl
 |grow d hg=>
  refine hmod St.oM d (λy=>rfl) (λy hy hd=> ?_) rfl;have h2:=(hln y hy).1;have h3:=h2.sq;have hv:=hg y (by rw[<-hd];exact mU hasc hy);have e1:rk (St.oM y)=gr y.seq - 1:=by unfold rk St.oM;dsimp only;rw[hv];rfl
  have e2:rk y=y.seq - 1:=by unfold rk;rw[hv];rfl
  refine⟨?_,h2.ended rfl rfl hv ?_⟩
  ·rw[e1,e2,mg h3.1 (by omega)];show qD (y.seq+1 - 1,y.hops) (y.seq - 1) y.hops=true;unfold qD;simp only[Bool.or_eq_true,iM];exact .inl (by omega)
  ·show 0<=gr y.seq∧gr y.seq<=G+1;rw[mg h3.1 (by omega)];omega
variable{c:sN}{G G' d v:Int}{f:Int->Option Int}{D':Int->Prop}{i:Nat}{s s':St}{st:bG}
abbrev nE:=List (Bool×Int×Int)
def zY(f:Int->Option Int)(d v:Int):Prop:=∃v',f d=some v'∧v<=v'
theorem zY.le{u:Int}(h:zY f d v)(hu:u<=v):zY f d u:=by
 obtain⟨v',h1,h2⟩:=h;exact⟨v',h1,by omega⟩
theorem wR(f:Int->Option Int)(k:Int)(v:Option Int):ku f k v k=v:=aM rfl
theorem Mc{x k:Int}(f:Int->Option Int)(v:Option Int)(h:x≠k):ku f k v x=f x:=aH h
theorem Tc(h:zY f d v)(r:Bool×Int×Int):zY (stepM f r) d v:=by
 obtain⟨v',h1,h2⟩:=h;unfold stepM;split
 ·exact⟨v',h1,h2⟩
 ·by_cases e:d=r.2.1
  ·subst e;refine⟨max v' r.2.2,?_,by omega⟩;rw[wR,h1];rfl
  ·exact⟨v',by rw[Mc _ _ e];exact h1,h2⟩
theorem A9:∀(L:nE) {f:Int->Option Int} {d v:Int},zY f d v->zY (L.foldl stepM f) d v
 | [],_,_,_,h=>h
 |r::L,_,_,_,h=>by
  rw[fP];exact A9 L (Tc h r)
theorem Nf{L M:nE}(h:zY (mG L) d v):zY (mG (L++M)) d v:=by
 unfold mG;rw[List.foldl_append];exact A9 M h
theorem Nc{L:nE}(h:(false,d,v)∈L):zY (mG L) d v:=by
 obtain⟨a,b,rfl⟩:=List.append_of_mem h;unfold mG;rw[List.foldl_append,fP];refine A9 b ⟨max (((a.foldl stepM λ_=>none) d).getD 0) v,?_,by omega⟩;unfold stepM ku;simp
theorem KF{D:Int->Prop}:∀(L:nE) (f:Int->Option Int),(∀d v,f d=some v->D d∧0<=v∧v<=G)->(∀r∈L,(0<=r.2.2∧r.2.2<=G)∧(r.1=false->D r.2.1))->∀d v,L.foldl stepM f d=some v->D d∧0<=v∧v<=G
 | [],_,hf,_=>hf
 |r::L,f,hf,hr=>by
  rw[fP];refine KF L _ (λd v h=> ?_) λx hx=>hr x (iJ _ hx);obtain⟨h1,h2⟩:=hr r gm;unfold stepM at h;split at h
  ·exact hf d v h
  ·rename_i h3;unfold ku at h;split at h
   ·rename_i e;cases h;subst e;refine⟨h2 (by simpa using h3),?_⟩;cases xN:f r.2.1 with
    |none=>
     show 0<=max 0 r.2.2∧max 0 r.2.2<=G;omega
    |some u=>
     have:=(hf _ u xN).2;show 0<=max u r.2.2∧max u r.2.2<=G;omega
   ·exact hf d v h
theorem Sj(hG:0<=G):∀(L:nE) (c:Option Int),(0<=c.getD 0∧c.getD 0<=G)->(∀r∈L,0<=r.2.2∧r.2.2<=G)->0<=(L.foldl lH c).getD 0∧(L.foldl lH c).getD 0<=G
 | [],_,hc,_=>hc
 |r::L,c,hc,hr=>by
  rw[fP];refine Sj hG L _ ?_ λx hx=>hr x (iJ _ hx);have:=hr r gm;unfold lH;split
  ·show 0<=max (c.getD 0) r.2.2∧max (c.getD 0) r.2.2<=G;omega
  ·exact hc
abbrev NwT:=(Int->Option Int)×nE
theorem MZ:∀(A:List Rt) (t:NwT) {d v:Int},zY t.1 d v->zY (A.foldl jF t).1 d v
 | [],_,_,_,h=>h
 |y::A,t,d,v,h=>by
  rw[fP];refine MZ A _ ?_;obtain⟨v',h1,h2⟩:=h;unfold jF;split
  ·rename_i hn;dsimp only;by_cases e:d=y.dest
   ·refine⟨y.seq,by rw[e,wR],?_⟩;unfold sU at hn;rw[<-e,h1]at hn;simp at hn;omega
   ·exact⟨v',by rw[Mc _ _ e];exact h1,h2⟩
  ·exact⟨v',h1,h2⟩
theorem H_:∀(A:List Rt) (t:NwT),∀y∈A,zY (A.foldl jF t).1 y.dest y.seq
 | [],_,_,h=>by cases h
 |z::A,t,y,h=>by
  rw[fP];rcases eD.1 h with rfl|h
  ·refine MZ A _ ?_;unfold jF;split
   ·exact⟨y.seq,wR _ _ _,fo _⟩
   ·rename_i hn;cases hf:t.1 y.dest with
    |none=>
     exfalso;apply hn;unfold sU;rw[hf];rfl
    |some u=>
     refine⟨u,hf,?_⟩;unfold sU at hn;rw[hf]at hn;simp at hn;omega
  ·exact H_ A _ y h
theorem MW:∀(A:List Rt) (t:NwT),∀r∈t.2,r∈(A.foldl jF t).2
 | [],_,_,h=>h
 |y::A,t,r,h=>by
  rw[fP];refine MW A _ r ?_;unfold jF;split
  ·exact List.mem_append_left _ h
  ·exact h
theorem EU:∀(A:List Rt) (t:NwT) (d v:Int),(A.foldl jF t).1 d=some v->t.1 d=some v∨((false,d,v)∈(A.foldl jF t).2∧∃y∈A,y.dest=d∧y.seq=v)
 | [],_,_,_,h=> .inl h
 |y::A,t,d,v,h=>by
  rw[fP]at h ⊢;rcases EU A _ d v h with h1|⟨h1,z,hz,e⟩
  ·unfold jF at h1;split at h1
   ·rename_i hn;dsimp only at h1;unfold ku at h1;split at h1
    ·rename_i e;cases h1;refine .inr ⟨MW A _ _ ?_,y,gm,e.symm,rfl⟩;rw[Ia hn,e];exact List.mem_append_right _ (dO.2 rfl)
    ·exact .inl h1
   ·exact .inl h1
  ·exact .inr ⟨h1,z,iJ _ hz,e⟩
theorem MX:∀(A:List Rt) (t:NwT),∀r∈(A.foldl jF t).2,r∈t.2∨∃y∈A,r=(false,y.dest,y.seq)
 | [],_,_,h=> .inl h
 |y::A,t,r,h=>by
  rw[fP]at h;rcases MX A _ r h with h1|⟨z,hz,e⟩
  ·unfold jF at h1;split at h1
   ·rcases dG.1 h1 with h1|h1
    ·exact .inl h1
    ·exact .inr ⟨y,gm,dO.1 h1⟩
   ·exact .inl h1
  ·exact .inr ⟨z,iJ _ hz,e⟩
structure Jm(G:Int)(D:Int->Prop)(J:nE)(s:St):Prop where
 fw:∀d v,s.f d=some v->zY (mG (J++s.bg)) d v
 rc:∀r∈s.bg,(0<=r.2.2∧r.2.2<=G)∧(r.1=false->D r.2.1)
 on:∀d v,s.f d=some v->(∃y∈s.A,y.dest=d)∧0<=v∧v<=G
 ow:0<=s.own∧s.own<=G
structure Lb(G:Int)(D:Int->Prop)(s:St):Prop where
 ln:∀y∈s.A,D y.dest∧0<=y.seq∧y.seq<=G
 sq:0<=s.seq∧s.seq<=G
theorem Jm.up{D:Int->Prop}{J:nE}(h:Jm G D J s)(hG:G<=G'):Jm G' D J s:=
 ⟨h.fw,λr hr=>⟨⟨(h.rc r hr).1.1,Int.le_trans (h.rc r hr).1.2 hG⟩,(h.rc r hr).2⟩,λd v e=>⟨(h.on d v e).1,(h.on d v e).2.1,Int.le_trans (h.on d v e).2.2 hG⟩,h.ow.1,Int.le_trans h.ow.2 hG⟩
theorem Jm.same{D:Int->Prop}{J:nE}(h:Jm G D J s)(hf:s'.f=s.f)(hn:s'.bg=s.bg)(ho:s'.own=s.own)(hA:∀y∈s.A,∃z∈s'.A,z.dest=y.dest):Jm G D J s':=by
 refine⟨by rw[hf,hn];exact h.fw,by rw[hn];exact h.rc,λd v e=> ?_,by rw[ho];exact h.ow⟩;rw[hf]at e;obtain⟨⟨y,hy,e1⟩,h2⟩:=h.on d v e;obtain⟨z,hz,e2⟩:=hA y hy;exact⟨⟨z,hz,e2.trans e1⟩,h2⟩
theorem Bc{D:Int->Prop}{J:nE}(h:Jm G D J s)(l:Lb G D s):Jm G D J s.write∧∀y∈s.A,zY s.write.f y.dest y.seq:=by
 have hn:s.write.bg=s.bg++(bJ s.seq s.own s.f s.A).2:=rfl;have hf:s.write.f=(bJ s.seq s.own s.f s.A).1:=rfl;refine⟨⟨λd v e=> ?_,λr hr=> ?_,λd v e=> ?_,?_⟩,λy hy=>H_ s.A _ y hy⟩
 ·rw[hf]at e;rw[hn,<-List.append_assoc];rcases EU s.A (s.f,pM s.seq s.own) d v e with h1|⟨h1,_⟩
  ·exact Nf (h.fw d v h1)
  ·exact Nc (List.mem_append_right _ h1)
 ·rw[hn]at hr;rcases dG.1 hr with hr|hr
  ·exact h.rc r hr
  ·rcases MX s.A (s.f,pM s.seq s.own) r hr with hr|⟨y,hy,rfl⟩
   ·have hr':r∈pM s.seq s.own:=hr;unfold pM at hr';split at hr'
    ·rw[dO]at hr';subst hr';exact⟨l.sq,λh=>(by cases h)⟩
    ·cases hr'
   ·exact⟨(l.ln y hy).2,λ_=>(l.ln y hy).1⟩
 ·rw[hf]at e;rcases EU s.A (s.f,pM s.seq s.own) d v e with h1|⟨_,y,hy,e1,e2⟩
  ·exact h.on d v h1
  ·exact⟨⟨y,hy,e1⟩,by rw[<-e2];exact(l.ln y hy).2⟩
 ·have h1:=h.ow;have h2:=l.sq;show 0<=E9 s.seq s.own∧E9 s.seq s.own<=G;unfold E9;split<;>omega
structure JF(G:Int)(D:Int->Prop)(J:nE)(z:St):Prop where
 fw:∀d v,z.f d=some v->zY (mG ((if z.bn then []else J)++z.bg)) d v
 rc:∀r∈z.bg,(0<=r.2.2∧r.2.2<=G)∧(r.1=false->D r.2.1)
 on:∀d v,z.f d=some v->(∃y∈z.A,y.dest=d)∧0<=v∧v<=G
 ow:0<=z.own∧z.own<=G
 ln:∀y∈z.A,zY z.f y.dest y.seq
theorem DW{D:Int->Prop}{J:nE}(h:Jm G D J s)(l:Lb G D s)(hr:s.bn=false∨J=[])(hG:0<=G):JF G D J s.finish:=by
 obtain⟨h1,h2⟩:=Bc h l;unfold St.finish;split
 ·refine⟨λd v e=> ?_,λr hr=> ?_,h1.on,h1.ow,h2⟩
  ·obtain⟨⟨y,hy,rfl⟩,_⟩:=h1.on d v e;refine Nc ?_;show(false,y.dest,v)∈([]:nE)++s.write.cmp;rw[List.nil_append];refine List.mem_append_right _ (dh.2 ⟨y.dest,dh.2 ⟨y,hy,rfl⟩,?_⟩);rw[show s.write.f y.dest=some v from e];rfl
  ·have hr':r∈s.write.cmp:=hr;rcases dG.1 hr' with hr'|hr'
   ·have e:r=(true,0,s.write.own):=dO.1 hr';subst e;exact⟨h1.ow,λh=>(by cases h)⟩
   ·obtain⟨a,ha,rfl⟩:=dh.1 hr';obtain⟨y,hy,rfl⟩:=dh.1 ha;refine⟨?_,λ_=>(l.ln y hy).1⟩;dsimp only;cases e:s.write.f y.dest with
    |none=>exact⟨fo _,hG⟩
    |some v=>exact(h1.on _ v e).2
 ·refine⟨λd v e=> ?_,h1.rc,h1.on,h1.ow,h2⟩;have e2:(if s.write.bn then []else J)=J:=by
   rcases hr with hr|hr
   ·rw[show s.write.bn=s.bn from rfl,hr];rfl
   ·rw[hr];split<;>rfl
  rw[e2];exact h1.fw d v e
theorem TF{D:Int->Prop}{J:nE}(h:JF G D J s):JF G D J s.freed:=⟨h.fw,h.rc,h.on,h.ow,h.ln⟩
structure JI(G:Int)(D:Int->Prop)(st:bG):Prop where
 rc:∀r∈jl st.aZ,(0<=r.2.2∧r.2.2<=G)∧(r.1=false->D r.2.1)
 fl:∀z,st.nd=some z->∃L,st.aZ=bB L
 fw:∀z,st.nd=some z->∀d v,z.f d=some v->zY (mG (jl st.aZ)) d v
 on:∀z,st.nd=some z->∀d v,z.f d=some v->(∃y∈z.A,y.dest=d)∧0<=v∧v<=G
 ow:∀z,st.nd=some z->0<=z.own∧z.own<=G
 ln:∀z,st.nd=some z->∀y∈z.A,zY z.f y.dest y.seq
theorem JI.up{D:Int->Prop}(h:JI G D st)(hG:G<=G'):JI G' D st:=
 ⟨λr hr=>⟨⟨(h.rc r hr).1.1,Int.le_trans (h.rc r hr).1.2 hG⟩,(h.rc r hr).2⟩,h.fl,h.fw,λz hz d v e=>⟨(h.on z hz d v e).1,(h.on z hz d v e).2.1,Int.le_trans (h.on z hz d v e).2.2 hG⟩,λz hz=>⟨(h.ow z hz).1,Int.le_trans (h.ow z hz).2 hG⟩,h.ln⟩
theorem JI.D{D:Int->Prop}(h:JI G D st)(hd:∀d,D d->D' d):JI G D' st:=
 ⟨λr hr=>⟨(h.rc r hr).1,λe=>hd _ ((h.rc r hr).2 e)⟩,h.fl,h.fw,h.on,h.ow,h.ln⟩
theorem JI.mle{D:Int->Prop}(h:JI G D st){z:St}(hz:st.nd=some z){y:Rt}(hy:y∈z.A):zY (mG (jl st.aZ)) y.dest y.seq:=by
 obtain⟨v,h1,h2⟩:=h.ln z hz y hy;exact(h.fw z hz _ v h1).le h2
theorem XW(L M:nE)(n:Nat):∃M':nE,(∀r∈M',r∈M)∧jl (bB L++(bB M).take n)=(L++M').map norm:=by
 by_cases h:n<13 * M.length
 ·refine⟨M.take (n / 13),λr hr=>List.mem_of_mem_take hr,?_⟩;have h1:=aaY (L++M) (13 * L.length+n) (by rw[dx];omega);have h2:(13 * L.length+n)/ 13=L.length+n / 13:=by omega
  have e1:(bB (L++M)).take (13 * L.length+n)=bB L++(bB M).take n:=by
   rw[kL,<-iF L,List.take_length_add_append]
  have e2:(L++M).take (L.length+n / 13)=L++M.take (n / 13):=List.take_length_add_append _;rw[e1,h2,e2]at h1;exact h1
 ·refine⟨M,λr hr=>hr,?_⟩;rw[jD (by rw[iF];omega),<-kL];exact xK _
theorem M8{D:Int->Prop}{L:nE}(h:∀r∈L,(0<=r.2.2∧r.2.2<=G)∧(r.1=false->D r.2.1)):∀r∈L.map norm,(0<=r.2.2∧r.2.2<=G)∧(r.1=false->D r.2.1):=by
 intro r hr;obtain⟨x,hx,rfl⟩:=dh.1 hr;obtain⟨o,a,q⟩:=x;have:=h _ hx;cases o
 ·exact this
 ·exact⟨this.1,λh=>(by cases h)⟩
theorem IG{D:Int->Prop}{z:St}(hrc:∀r∈jl st.aZ,(0<=r.2.2∧r.2.2<=G)∧(r.1=false->D r.2.1))(hfl:z.bn=false->∃L,st.aZ=bB L)(h:JF G D (jl st.aZ) z)(hw:(bG.write {st with nd:=some z} z.ot).2=true):JI G D (bG.write {st with nd:=some z} z.ot).1∧(bG.write {st with nd:=some z} z.ot).1.nd=some z∧(bG.write {st with nd:=some z} z.ot).1.addr=st.addr:=by
 by_cases h1:z.ot.bg≠ []∨z.ot.bn=true
 ·rcases Bool.eq_false_or_eq_true st.tears with ht|ht
  ·rw[bG.o5 (s:={st with nd:=some z}) h1 ht]at hw;cases hw
  ·rw[bG.jX (s:={st with nd:=some z}) h1 ht];refine⟨?_,rfl,rfl⟩;have hj:∃L,((if z.bn then []else st.aZ)++bB z.bg)=bB L∧jl (bB L)=(if z.bn then []else jl st.aZ)++z.bg.map norm:=by
    cases hr:z.bn
    ·obtain⟨L,hL⟩:=hfl hr;refine⟨L++z.bg,?_,?_⟩
     ·simp only[Bool.false_eq_true,if_false];rw[hL,kL]
     ·rw[xK,hL,xK,List.map_append];simp
    ·refine⟨z.bg,by simp,?_⟩;rw[xK];simp
   obtain⟨L,e1,e2⟩:=hj;have e3:jl ((if z.ot.bn then []else st.aZ)++bB z.ot.bg)=(if z.bn then []else jl st.aZ)++z.bg.map norm:=by
    show jl ((if z.bn then []else st.aZ)++bB z.bg)=_;rw[e1];exact e2
   refine⟨?_,λu _=>⟨L,e1⟩,λu hu d v e=> ?_,λu hu=> ?_,λu hu=> ?_,λu hu=> ?_⟩
   ·dsimp only;rw[e3];intro r hr;rcases dG.1 hr with hr|hr
    ·split at hr
     ·cases hr
     ·exact hrc r hr
    ·exact M8 h.rc r hr
   ·cases hu;dsimp only;rw[e3];have h2:=h.fw d v e;obtain⟨v',k1,k2⟩:=h2;refine⟨v',?_,k2⟩;rw[<-k1];unfold mG;rw[List.foldl_append,List.foldl_append,List.foldl_map];have e4:(λ(f:Int->Option Int) r=>stepM f (norm r))=stepM:=by
     funext f r
     obtain⟨o,a,q⟩:=r;cases o<;>rfl
    rw[e4]
   ·cases hu;exact h.on
   ·cases hu;exact h.ow
   ·cases hu;exact h.ln
 ·simp only[not_or,Classical.not_not]at h1;have h2:z.ot.bn=false:=by simpa using h1.2
  rw[bG.oh (s:={st with nd:=some z}) h1.1 h2];refine⟨⟨hrc,λu _=>hfl h2,λu hu d v e=> ?_,λu hu=> ?_,λu hu=> ?_,λu hu=> ?_⟩,rfl,rfl⟩
  ·cases hu;have h3:=h.fw d v e;rw[show z.bn=false from h2,show z.bg=[]from h1.1]at h3;simpa using h3
  ·cases hu;exact h.on
  ·cases hu;exact h.ow
  ·cases hu;exact h.ln
theorem XZ{D:Int->Prop}{z:St}(hrc:∀r∈jl st.aZ,(0<=r.2.2∧r.2.2<=G)∧(r.1=false->D r.2.1))(hfl:z.bn=false->∃L,st.aZ=bB L)(h:JF G D (jl st.aZ) z)(hi:z.ot.idle=true):JI G D {st with nd:=some z}:=by
 rw[Fj]at hi;simp only[eF,iM,Bool.not_eq_true']at hi;have e:=bG.oh (s:={st with nd:=some z}) hi.1.1 hi.1.2;have h1:=(IG hrc hfl h (by rw[e])).1;rw[e]at h1;exact h1
theorem XY{D:Int->Prop}{z:St}(hrc:∀r∈jl st.aZ,(0<=r.2.2∧r.2.2<=G)∧(r.1=false->D r.2.1))(hfl:z.bn=false->∃L,st.aZ=bB L)(hz:∀r∈z.bg,(0<=r.2.2∧r.2.2<=G)∧(r.1=false->D r.2.1))(hw:(bG.write {st with nd:=some z} z.ot).2=false):JI G D (bG.write {st with nd:=some z} z.ot).1∧(bG.write {st with nd:=some z} z.ot).1.nd=none∧(bG.write {st with nd:=some z} z.ot).1.addr=st.addr∧∀d v,zY (mG (jl st.aZ)) d v->zY (mG (jl (bG.write {st with nd:=some z} z.ot).1.aZ)) d v:=by
 by_cases h1:z.ot.bg≠ []∨z.ot.bn=true
 ·rcases(Bool.eq_false_or_eq_true st.tears).symm with ht|ht
  ·rw[bG.jX (s:={st with nd:=some z}) h1 ht]at hw;cases hw
  ·rw[bG.o5 (s:={st with nd:=some z}) h1 ht];have hj:∃M:nE,(∀r∈M,(0<=r.2.2∧r.2.2<=G)∧(r.1=false->D r.2.1))∧jl (if z.bn then st.aZ else st.aZ++(bB z.bg).take st.whole.toNat)=jl st.aZ++M:=by
    cases hr:z.bn
    ·obtain⟨L,hL⟩:=hfl hr;obtain⟨M,hM1,hM2⟩:=XW L z.bg st.whole.toNat;refine⟨M.map norm,M8 λr hr=>hz r (hM1 r hr),?_⟩;simp only[Bool.false_eq_true,if_false];rw[hL,hM2,xK,List.map_append]
    ·exact⟨[],λr hr=>(by cases hr),by simp⟩
   obtain⟨M,hM,e⟩:=hj;have e':jl (bG.stop {st with nd:=some z,aZ:=if z.ot.bn then st.aZ else st.aZ++(bB z.ot.bg).take st.whole.toNat}).aZ=jl st.aZ++M:=e;refine⟨⟨?_,λu hu=>(by cases hu),λu hu=>(by cases hu),λu hu=>(by cases hu),λu hu=>(by cases hu),λu hu=>(by cases hu)⟩,rfl,rfl,λd v hd=> ?_⟩
   ·rw[e'];intro r hr;rcases dG.1 hr with hr|hr
    ·exact hrc r hr
    ·exact hM r hr
   ·rw[e'];exact Nf hd
 ·simp only[not_or,Classical.not_not]at h1;have h2:z.ot.bn=false:=by simpa using h1.2
  rw[bG.oh (s:={st with nd:=some z}) h1.1 h2]at hw;cases hw
theorem GK{D:Int->Prop}{S:List bG}{st':bG}(hJ:JI G D st)(hl:∀z,st.nd=some z->∀y∈z.A,zk G S i y)(hn:st'.nd=none)(ha:st'.addr=st.addr)(hm:∀d v,zY (mG (jl st.aZ)) d v->zY (mG (jl st'.aZ)) d v):l5 st st':=by
 refine⟨ha,λd q h _ e=> ?_⟩;have adg:vr st' d=(mG (jl st'.aZ) d).map λq=>(q,0):=by unfold vr;rw[hn]
 cases hz:st.nd with
 |none=>
  have hvr:vr st d=(mG (jl st.aZ) d).map λq=>(q,0):=by unfold vr;rw[hz]
  unfold wO at e ⊢;rw[hvr]at e;rw[adg];cases hd:mG (jl st.aZ) d with
  |none=>rw[hd]at e;cases e
  |some v=>
   rw[hd]at e;obtain⟨v',h1,h2⟩:=hm d v ⟨v,hd,fo _⟩;rw[h1];have e':qD (v,0) q h=true:=e;show qD (v',0) q h=true;unfold qD at *;simp only[Bool.or_eq_true,eF,iM]at *;omega
 |some z=>
  unfold wO at e ⊢;rw[wN hz]at e;rw[adg];cases hd:aK z.A d with
  |none=>rw[hd]at e;cases e
  |some y=>
   rw[hd]at e;obtain⟨hy,rfl⟩:=bU hd;obtain⟨v',h1,h2⟩:=hm _ _ (hJ.mle hz hy);have h3:=(hl z hz y hy).hp;rw[h1];have e':qD (rk y,y.hops) q h=true:=e;have e3:rk y<=y.seq:=by unfold rk;split<;>omega
   show qD (v',0) q h=true;unfold qD at *;simp only[Bool.or_eq_true,eF,iM]at *;omega
theorem Ou{me now:Int}{A A':List Rt}(t:Vo me now c A A'):∀y∈A,∃z∈A',z.dest=y.dest:=by
 have hmap:∀(f:Rt->Rt),(∀y,(f y).dest=y.dest)->∀y∈A,∃z∈A.map f,z.dest=y.dest:=λf hf y hy=>⟨f y,dh.2 ⟨y,hy,rfl⟩,hf y⟩;have hmod:∀(f:Rt->Rt) (d:Int),(∀y,(f y).dest=y.dest)->∀y∈A,∃z∈gV A d f,z.dest=y.dest:=λf d hf=>hmap _ λy=>by
  split
  ·exact hf y
  ·rfl
 have TT:∀(d q h n e:Int),∀y∈A,∃z∈(iP me A d q h n e).1,z.dest=y.dest:=by
  intro d q h n e;rcases Dj me A d q h n e with h1|⟨_,_,_,⟨x,_,_,h1⟩|⟨_,h1⟩⟩
  ·rw[h1];exact λy hy=>⟨y,hy,rfl⟩
  ·rw[h1];exact hmod _ d λy=>rfl
  ·rw[h1];exact λy hy=>⟨y,oI.2 (.inr hy),rfl⟩
 cases t with
 |Wq=>exact TT _ _ _ _ _
 |Wp=>exact TT _ _ _ _ _
 |use d e=>exact hmod _ d λy=>mq e y
 |bN d n=>exact hmod _ d λy=>lg n y
 |lose fr p L hc x hx=>exact hmod _ x.1 λy=>eU _ _ y
 |brk d_=>exact hmap _ λy=>eU _ _ y
 |grow d _=>exact hmod _ d λy=>rfl
theorem adf{D:Int->Prop}{J:nE}(h:Jm G D J s)(l:Lb G D s)(k:Pr c s s'):Jm G D J s':=by
 cases k with
 |zw e=>exact h.same e.f e.bg e.own (by rw[e.A];exact λy hy=>⟨y,hy,rfl⟩)
 |tab t=>exact h.same rfl rfl rfl (Ou t)
 |aJ _ _ _ _ _=>exact h.same rfl rfl rfl λy hy=>⟨y,hy,rfl⟩
 |grw=>exact h.same rfl rfl rfl λy hy=>⟨y,hy,rfl⟩
 |mx _ _ _ _=>exact h.same rfl rfl rfl λy hy=>⟨y,hy,rfl⟩
 |wr=>exact(Bc h l).1
def Cs(S:List bG)(a d:Int):Prop:=d≠a∧∃t∈S,t.addr=d
theorem Z6{S:List bG}(h:CI G S){i:Nat}{st:bG}{s:St}(hS:S[i]?=some st)(hz:st.nd=some s):Lb G (Cs S st.addr) s:=by
 obtain⟨_,b,_,d⟩:=h.nd i st s hS hz;exact⟨λy hy=>⟨⟨(d y hy).2,(d y hy).1.dest⟩,(d y hy).1.sq⟩,b⟩
theorem nV{S:List bG}{s s':bG}(hs:S[i]?=some s)(e:s'.addr=s.addr){d:Int}(h:∃t∈S.set i s',t.addr=d):∃t∈S,t.addr=d:=by
 obtain⟨t,ht,hd⟩:=h;rcases List.mem_or_eq_of_mem_set ht with ht|rfl
 ·exact⟨t,ht,hd⟩
 ·exact⟨s,gI hs,e.symm.trans hd⟩
theorem Lb.D{D:Int->Prop}(h:Lb G D s)(hd:∀d,D d->D' d):Lb G D' s:=⟨λy hy=>⟨hd _ (h.ln y hy).1,(h.ln y hy).2⟩,h.sq⟩
variable{c:sN}{G:Int}{i n:Nat}{s s':St}{st:bG}
theorem Iw{S:List bG}{A:List Rt}(h:∀y∈A,zk G S i y)(hG0:0<=G)(d:Int):0<=eT A d∧eT A d<=G:=by
 unfold eT;cases hl:aK A d with
 |none=>exact⟨fo _,hG0⟩
 |some y=>exact(h y (bU hl).1).sq
theorem TB{S:List bG}{p:aD}{L:List (Int×Int)}(hS:S[i]?=some st)(hz:st.nd=some s)(h:CI G S)(hc:QV G S s.me c)(hG0:0<=G)(j:Just c s p L):FrQ G S i p L:=by
 obtain⟨hme,TW,hasc,hln⟩:=h.nd i st s hS hz;have PK:∀y∈s.A,zk G S i y:=λy hy=>(hln y hy).1;have hself:∃t∈S,t.addr=st.addr:=⟨st,gI hS,rfl⟩;have hlen:=h.len;have hn0:∀ {d:Int},(∃t∈S,t.addr=d)->d≠0:=λ⟨t,ht,e⟩=>e▸(h.za t ht).2;rcases j with⟨k,e1,e2,e3,e4,e5,e6⟩|⟨fr,q,K,hcq,kq,k,e1,e2,e3,e4,e5,e6,e7,e8⟩|⟨k,e1,e2,e3,e4⟩|⟨k,e1,y,hy,e2,e3,e4⟩|⟨fr,q,K,hcq,kq,k,e1,e2,e3,e4,e5,e6,e7⟩|⟨k,e1⟩|k
 ·refine⟨λ_=> ?_,λh=>(by rw[k]at h;cases h),λh=>(by rw[k]at h;cases h)⟩;have hd:p.aJ=st.addr:=e1.trans hme;rw[hd];have:=NU (S:=S) p.dw p.hops hself;exact⟨hself,by omega,by rw[e5];exact TW,by rw[e6];exact Iw PK hG0 _,by omega,st,hS,.inl rfl⟩
 ·refine⟨λ_=> ?_,λh=>(by rw[k]at h;cases h),λh=>(by rw[k]at h;cases h)⟩;obtain⟨_,t1,q1,_,j,t,hj,ht,hf⟩:=hc fr q K hcq;obtain⟨f1,f2,f3,f4,f5,_⟩:=hf.k1 kq;have hcl:=La S q.aJ q.dw q.hops;have KR:St.far q.hops=q.hops+1:=by unfold St.far;omega
  have hup:=U1 S q.aJ q.dw (show q.hops<=q.hops+1 by omega);rw[e1,e2]at e8;rw[e1,e2,e3,KR];rw[e3,KR]at e8;refine⟨f1,by omega,f3,?_,by omega,st,hS,.inr ((e8 (hn0 f1)).wO hz)⟩;rcases e7 with e7|e7
  ·rw[e7];exact f4
  ·rw[e7];exact Iw PK hG0 _
 ·refine⟨λh=>(by rw[k]at h;cases h),λ_=> ?_,λh=>(by rw[k]at h;cases h)⟩;have hd:p.dest=st.addr:=e1.trans hme;rw[hd];have:=NU (S:=S) p.aX p.hops hself;exact⟨hself,by omega,by rw[e4];exact TW,by omega,st,hS,.inl rfl⟩
 ·refine⟨λh=>(by rw[k]at h;cases h),λ_=> ?_,λh=>(by rw[k]at h;cases h)⟩;obtain⟨IU,kX⟩:=bU hy;have hl:=PK y IU;have hcnt:=hl.hc e2;rw[e3,e4,<-kX];refine⟨hl.dest,hl.hp,hl.sq,by omega,st,hS,.inr ?_⟩;refine sM.wO hz ⟨y,by rw[kX];exact hy,.inr ⟨?_,fo _⟩⟩;unfold rk;rw[e2];rfl
 ·refine⟨λh=>(by rw[k]at h;cases h),λ_=> ?_,λh=>(by rw[k]at h;cases h)⟩;obtain⟨_,t1,q1,_,j,t,hj,ht,hf⟩:=hc fr q K hcq;obtain⟨f1,f2,f3,f5,_⟩:=hf.k2 kq;have hcl:=La S q.dest q.aX q.hops;have KR:St.far q.hops=q.hops+1:=by unfold St.far;omega
  have hup:=U1 S q.dest q.aX (show q.hops<=q.hops+1 by omega);rw[e1,e2,e3,KR]at e7;rw[e1,e2,e3,KR];exact⟨f1,by omega,f3,by omega,st,hS,.inr ((e7 (hn0 f1)).wO hz)⟩
 ·refine⟨λh=>(by rw[k]at h;cases h),λh=>(by rw[k]at h;cases h),λ_ x hx=> ?_⟩;rcases e1 x hx with e|⟨y,hy,_,e2,e3⟩
  ·omega
  ·have:=(PK y hy).sq;omega
 ·exact⟨λh=>(by rw[k]at h;cases h),λh=>(by rw[k]at h;cases h),λh=>(by rw[k]at h;cases h)⟩
theorem XL(st:bG){s:St}(hz:st.nd=some s): {st with nd:=some s}=st:=by
 cases st;cases hz;rfl
theorem Xu{S:List bG}(hS:S[i]?=some st)(hz:st.nd=some s)(h:CI G S)(hc:QV G S s.me c)(hG0:0<=G)(hG:G+1<4294967295)(hf:∀f∈s.aI,zL G S i f.2)(k:Pr c s s'):
  l5 st {st with nd:=some s'}∧CI (G+1) (S.set i {st with nd:=some s'})∧∀f∈s'.aI,zL (G+1) (S.set i {st with nd:=some s'}) i f.2:=by
 obtain⟨hme,TW,hasc,hln⟩:=h.nd i st s hS hz;have hsame:∀s':St,s'.A=s.A->s'.me=s.me->(0<=s'.seq∧s'.seq<=G+1)->l5 st {st with nd:=some s'}∧CI (G+1) (S.set i {st with nd:=some s'}):=by
  intro s' hA hm hq;have l:l5 st {st with nd:=some s'}:=QH.sle (s':=s') (by rw[hA];exact QH.refl _) hz;refine⟨l,h.set (by omega) hS l λz hz'=> ?_⟩;cases hz';rw[hA];exact⟨hm.trans hme,hq,hasc,λy hy=>⟨(hln y hy).1.set (by omega) hS l,(hln y hy).2⟩⟩
 have hfs:∀(s':St),l5 st {st with nd:=some s'}->∀f∈s.aI,zL (G+1) (S.set i {st with nd:=some s'}) i f.2:=λs' l f hf'=>(hf f hf').set (by omega) hS l;cases k with
 |zw e=>
  obtain⟨l,hci⟩:=hsame s' e.A e.me (by rw[e.seq];omega);exact⟨l,hci,by rw[e.aI];exact hfs s' l⟩
 |tab t=>
  obtain⟨l,ha,hl⟩:=Rp hS hz h hc hG0 hG t;exact⟨l,h.set (by omega) hS l λz hz'=>by cases hz';exact⟨hme,by dsimp only;omega,ha,hl⟩,hfs _ l⟩
 |aJ t p L hj hzz=>
  obtain⟨l,hci⟩:=hsame (s.send t p L) rfl rfl (by show 0<=s.seq∧s.seq<=G+1;omega);refine⟨l,hci,λf hf'=> ?_⟩;rcases dG.1 (show f∈s.aI++ [(t,strOfNums (jU p L))]from hf')with hf'|hf'
  ·exact hfs _ l f hf'
  ·rw[dO]at hf';subst hf';exact(YI (TB hS hz h hc hG0 hj) (λs hs=>(h.za s hs).1) (by omega) hzz).set (by omega) hS l
 |grw=>
  obtain⟨l,hci⟩:=hsame {s with seq:=gr s.seq} rfl rfl (by show 0<=gr s.seq∧gr s.seq<=G+1;rw[mg TW.1 (by omega)];omega);exact⟨l,hci,hfs _ l⟩
 |mx fr p L hc1=>
  obtain⟨_,_,k3,_⟩:=hc fr p L hc1;obtain⟨l,hci⟩:=hsame {s with seq:=max s.seq p.aX} rfl rfl (by show 0<=max s.seq p.aX∧max s.seq p.aX<=G+1;omega);exact⟨l,hci,hfs _ l⟩
 |wr=>
  obtain⟨l,hci⟩:=hsame s.write rfl rfl (by show 0<=s.seq∧s.seq<=G+1;omega);exact⟨l,hci,hfs _ l⟩
theorem oo(S:List bG)(i:Nat)(a b:bG):(S.set i a).set i b=S.set i b:=List.set_set ..
theorem Kv{S:List bG}(k:fU c n s s'):∀ {G:Int} {J:nE},S[i]?=some st->st.nd=some s->CI G S->QV G S s.me c->0<=G->G+n<4294967295->(∀f∈s.aI,zL G S i f.2)->Jm G (Cs S st.addr) J s->
  Jm (G+n) (Cs S st.addr) J s'∧l5 st {st with nd:=some s'}∧CI (G+n) (S.set i {st with nd:=some s'})∧QV (G+n) (S.set i {st with nd:=some s'}) s'.me c∧∀f∈s'.aI,zL (G+n) (S.set i {st with nd:=some s'}) i f.2:=by
 induction k with
 |nil n s=>
  intro G J hS hz h hc hG0 hG hf hj;have e:=XL st hz;have l:l5 st {st with nd:=some s}:=by rw[e];exact l5.refl st
  have hs:=RD hS;refine⟨hj.up (by omega),l,h.set (by omega) hS l λz hz'=> ?_,hc.set (by omega) hS l,λf hf'=>(hf f hf').set (by omega) hS l⟩;cases hz';obtain⟨a,b,c,d⟩:=h.nd i st s hS hz;exact⟨a,by omega,c,λy hy=>⟨(d y hy).1.set (by omega) hS l,(d y hy).2⟩⟩
 | @snoc n s s1 s2 k1 k2 ih=>
  intro G J hS hz h hc hG0 hG hf hj;obtain⟨j1,l1,c1,h1,f1⟩:=ih hS hz h hc hG0 (by omega) hf hj;have hS1:(S.set i {st with nd:=some s1})[i]?=some {st with nd:=some s1}:=List.getElem?_set_self (fu.1 hS).1;obtain⟨l2,c2,f2⟩:=Xu hS1 rfl c1 h1 (by omega) (by omega) f1 k2;have hm:s2.me=s1.me:=(fU.one k2).me;have h2:=h1.set (G':=G+n+1) (by omega) hS1 l2;rw[oo]at c2 f2 h2;have j2:=adf j1 ((Z6 c1 hS1 rfl).D λd hd=>⟨hd.1,nV hS l1.addr hd.2⟩) k2;have e:G+(n:Int)+1=G+((n+1:Nat):Int):=by omega
  rw[e]at c2 f2 h2;exact⟨j2.up (by omega),l1.trans l2,c2,by rw[hm];exact h2,f2⟩
theorem Li{S:List bG}(hS:S[i]?=some st)(hz:st.nd=some s)(h:CI G S)(hG:G+1<4294967295)(now:Int)(hji:JI G (Cs S st.addr) st):
  Jm (G+1) (Cs S st.addr) (jl st.aZ) (s.locked.begin now)∧l5 st {st with nd:=some (s.locked.begin now)}∧CI (G+1) (S.set i {st with nd:=some (s.locked.begin now)}):=by
 obtain⟨hme,TW,hasc,hln⟩:=h.nd i st s hS hz;have hA:(s.locked.begin now).A=s.A.map (n_ now):=rfl;have hl:∀y∈s.A,qD (rk (n_ now y),(n_ now y).hops) (rk y) y.hops=true∧zk (G+1) S i (n_ now y):=by
  intro y hy;have h2:=(hln y hy).1;have h3:=h2.sq;unfold n_;split
  ·rename_i hv;have hv':y.valid=true:=by
    unfold K8 at hv;simp only[eF]at hv;exact hv.1
   refine⟨NP 0 h3.1 (by omega) hv',h2.ended rfl rfl rfl ?_⟩;show 0<=max (gr y.seq) 0∧max (gr y.seq) 0<=G+1;rw[mg h3.1 (by omega)];omega
  ·exact⟨mW _ _,h2.up (by omega)⟩
 have l:l5 st {st with nd:=some (s.locked.begin now)}:=QH.sle (s':=s.locked.begin now) (by rw[hA];exact Mj (λy=>h_ now y) λy hy=>(hl y hy).1) hz;have hj0:Jm (G+1) (Cs S st.addr) (jl st.aZ) {s.locked with now:=now,A:=iW s.A now,bg:=[],aI:=[],aR:=[],aQ:=[],bn:=false}:=by
  refine⟨λd v e=> ?_,λr hr=>(by cases hr),λd v e=> ?_,?_⟩
  ·have h1:=hji.fw s hz d v e;simpa using h1
  ·obtain⟨⟨y,hy,e1⟩,h2⟩:=hji.on s hz d v e;exact⟨⟨n_ now y,dh.2 ⟨y,hy,rfl⟩,(h_ now y).trans e1⟩,h2.1,by omega⟩
  ·have:=hji.ow s hz;show 0<=s.own∧s.own<=G+1;omega
 have hlb:Lb (G+1) (Cs S st.addr) {s.locked with now:=now,A:=iW s.A now,bg:=[],aI:=[],aR:=[],aQ:=[],bn:=false}:=by
  refine⟨λy hy=> ?_,by show 0<=s.seq∧s.seq<=G+1;omega⟩;obtain⟨u,hu,rfl⟩:=dh.1 (show y∈s.A.map (n_ now)from hy);have h3:=(hl u hu).2;exact⟨⟨by rw[h_];exact(hln u hu).2,h3.dest⟩,h3.sq⟩
 refine⟨(Bc hj0 hlb).1,l,h.set (by omega) hS l λz hz'=> ?_⟩;cases hz';rw[hA];refine⟨hme,by show 0<=s.seq∧s.seq<=G+1;omega,?_,λy hy=> ?_⟩
 ·unfold Asc;rw[List.pairwise_map];refine hasc.imp λ{a b} hab=> ?_;rw[h_,h_];exact hab
 ·obtain⟨u,hu,rfl⟩:=dh.1 hy;exact⟨(hl u hu).2.set (fo _) hS l,by rw[h_];exact(hln u hu).2⟩
theorem QA{S:List bG}{now:Int}(hS:S[i]?=some st)(hz:st.nd=some s)(h:CI G S)(hc:QV G S s.me c)(hG0:0<=G)(hG:G+n+1<4294967295)(hji:JI G (Cs S st.addr) st)(k:fU c n (s.locked.begin now) s'):
  JF (G+n+1) (Cs S st.addr) (jl st.aZ) s'.finish.freed∧l5 st {st with nd:=some s'.finish.freed}∧CI (G+n+1) (S.set i {st with nd:=some s'.finish.freed})∧∀f∈s'.finish.freed.aI,zL (G+n+1) (S.set i {st with nd:=some s'.finish.freed}) i f.2:=by
 obtain⟨j1,l1,c1⟩:=Li hS hz h (by omega) now hji;have hS1:(S.set i {st with nd:=some (s.locked.begin now)})[i]?=some {st with nd:=some (s.locked.begin now)}:=List.getElem?_set_self (fu.1 hS).1;have h1:=hc.set (G':=G+1) (by omega) hS l1;have j1':Jm (G+1) (Cs (S.set i {st with nd:=some (s.locked.begin now)}) st.addr) (jl st.aZ) (s.locked.begin now):=⟨j1.fw,λr hr=>⟨(j1.rc r hr).1,λe=>⟨((j1.rc r hr).2 e).1,gJ hS l1.addr ((j1.rc r hr).2 e).2⟩⟩,j1.on,j1.ow⟩;obtain⟨j2,l2,c2,_,f2⟩:=Kv k hS1 rfl c1 h1 (by omega) (by omega) (λf hf=>by cases hf) j1';dsimp only at l2 c2 f2 j2;rw[oo]at c2 f2;have hS2:(S.set i {st with nd:=some s'})[i]?=some {st with nd:=some s'}:=List.getElem?_set_self (fu.1 hS).1;have e:=aO s';have hA:s'.finish.freed.A=s'.A:=e.A;have l3:l5 {st with nd:=some s'} {st with nd:=some s'.finish.freed}:=QH.sle (st:={st with nd:=some s'}) (s:=s') (s':=s'.finish.freed) (by rw[hA];exact QH.refl _) rfl;have e2:G+1+(n:Int)=G+n+1:=by omega
 rw[e2]at c2 f2 j2;have Q8:JF (G+n+1) (Cs S st.addr) (jl st.aZ) s'.finish.freed:=by
  refine TF (DW (s:=s') ⟨j2.fw,λr hr=>⟨(j2.rc r hr).1,λe=>⟨((j2.rc r hr).2 e).1,nV hS l1.addr ((j2.rc r hr).2 e).2⟩⟩,j2.on,j2.ow⟩ ((Z6 c2 hS2 rfl).D λd hd=>⟨hd.1,nV hS (l1.trans l2).addr hd.2⟩) (.inl ((NT k).2.trans rfl)) (by omega))
 have c3:=c2.set (fo _) hS2 l3 λz hz'=>by
  cases hz';obtain⟨a,b,c,d⟩:=c2.nd i _ s' hS2 rfl;rw[hA];refine⟨(show s'.finish.freed.me=s'.me from e.me).trans a,by rw[show s'.finish.freed.seq=s'.seq from e.seq];exact b,c,λy hy=>⟨(d y hy).1.set (fo _) hS2 l3,(d y hy).2⟩⟩
 rw[oo]at c3;refine⟨Q8,(l1.trans l2).trans l3,c3,λf hf=> ?_⟩;rw[show s'.finish.freed.aI=s'.aI from e.aI]at hf;have:=(f2 f hf).set (fo _) hS2 l3;rw[oo]at this;exact this
end Go.Proofs.YtakaadcpaeiccabGreat
