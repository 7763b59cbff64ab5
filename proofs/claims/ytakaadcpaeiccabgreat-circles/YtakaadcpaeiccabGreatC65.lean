import Derived.Test.YtakaadcpaeiccabGreatC64
namespace Go.Proofs.YtakaadcpaeiccabGreat
theorem lL {s:Int}(h0:0≤s)(h1:s<4294967295):gr s=s+1:=by unfold gr;omega
def Pf(A A':List Rt):Prop:=∀d y,aJ A d=some y→∃y',aJ A' d=some y'∧nI(rk y',y'.hops)(rk y)y.hops=true
theorem Pf.refl(A:List Rt):Pf A A:=fun _ y h=>⟨y,h,kV _ _⟩
theorem Pf.sle {st:bi} {s s':St}(h:Pf s.A s'.A)(hz:st.nd=some s):kZ st {st with nd:=some s'}:=by
 refine⟨rfl,fun d q h' _ e=> ?_⟩;unfold sG vr at e ⊢;rw [hz]at e;dsimp only at e ⊢;cases hl:aJ s.A d with
 |none=>rw [hl]at e;cases e
 |some y=>
  obtain⟨y',hy',g⟩:=h d y hl;rw [hl]at e;rw [hy'];exact Cf g e
theorem Kr {A:List Rt} {f:Rt→Rt}(hd:∀y,(f y).dest=y.dest)(hf:∀y∈A,nI(rk(f y),(f y).hops)(rk y)y.hops=true):Pf A(A.map f):=fun d y h=>⟨f y,o8 hd h,hf y(bN h).1⟩
theorem L8 {y:Rt}(q:Int)(h0:0≤y.seq)(h1:y.seq<4294967295)(hv:y.valid=true):nI(rk(pY y q),(pY y q).hops)(rk y)y.hops=true:=by
 have e1:rk(pY y q)=max(gr y.seq)q - 1:=rfl;have e2:rk y=y.seq:=by unfold rk;rw [hv];rfl
 have e3:(pY y q).hops=y.hops:=rfl;rw [e1,e2,e3,lL h0 h1];unfold nI;simp only [Bool.or_eq_true,Bool.and_eq_true,decide_eq_true_eq];omega
theorem Rx {y:Rt}(fr q:Int)(h0:0≤y.seq)(h1:y.seq<4294967295):nI(rk(bY fr q y),(bY fr q y).hops)(rk y)y.hops=true:=by
 unfold bY;split
 ·rename_i h;simp only [Bool.and_eq_true]at h;exact L8 q h0 h1 h.1
 ·exact kV _ _
theorem KE {y y':Rt}(h1:rk y'=rk y)(h2:y'.hops=y.hops):nI(rk y',y'.hops)(rk y)y.hops=true:=by rw [h1,h2];exact kV _ _
theorem qX(e:Int)(y:Rt):(sI e y).dest=y.dest∧(sI e y).seq=y.seq∧(sI e y).hops=y.hops∧(sI e y).next=y.next∧(sI e y).valid=y.valid:=by
 unfold sI;split<;>exact⟨rfl,rfl,rfl,rfl,rfl⟩
theorem rC(n:Int)(y:Rt):(qU n y).dest=y.dest∧(qU n y).seq=y.seq∧(qU n y).hops=y.hops∧(qU n y).next=y.next∧(qU n y).valid=y.valid:=by
 unfold qU;split<;>exact⟨rfl,rfl,rfl,rfl,rfl⟩
theorem KG {y y':Rt}(h1:y'.seq=y.seq)(h2:y'.valid=y.valid):rk y'=rk y:=by unfold rk;rw [h1,h2]
theorem xD.same {G:Int} {S:List bi} {i:Nat} {y y':Rt}(h:xD G S i y)(e:y'.dest=y.dest∧y'.seq=y.seq∧y'.hops=y.hops∧y'.next=y.next∧y'.valid=y.valid):xD G S i y':=by
 obtain⟨e1,e2,e3,e4,e5⟩:=e;refine⟨by rw [e1];exact h.dest,by rw [e3];exact h.hp,by rw [e2];exact h.sq,?_,?_⟩
 ·rw [e1,e2,e3,e4,e5];exact h.nx
 ·rw [e1,e2,e3,e5];exact h.hc
theorem xD.up {G G':Int} {S:List bi} {i:Nat} {y:Rt}(h:xD G S i y)(hG:G≤G'):xD G' S i y:=⟨h.dest,h.hp,⟨h.sq.1,Int.le_trans h.sq.2 hG⟩,h.nx,h.hc⟩
theorem xD.ended {G G':Int} {S:List bi} {i:Nat} {y y':Rt}(h:xD G S i y)(hd:y'.dest=y.dest)(hh:y'.hops=y.hops)(hv:y'.valid=false)(hs:0≤y'.seq∧y'.seq≤G'):xD G' S i y':=
 ⟨by rw [hd];exact h.dest,by rw [hh];exact h.hp,hs,fun h=>(by rw [hv]at h;cases h),fun h=>(by rw [hv]at h;cases h)⟩
structure CI(G:Int)(S:List bi):Prop where
 len:S.length≤6
 Ik:∀s∈S,bg s.addr∧s.addr≠0
 inj:∀(i j:Nat)s t,S[i]?=some s→S[j]?=some t→s.addr=t.addr→i=j
 nd:∀(i:Nat)s z,S[i]?=some s→s.nd=some z→z.me=s.addr∧(0≤z.seq∧z.seq≤G)∧Asc z.A∧∀y∈z.A,xD G S i y∧y.dest≠s.addr
theorem CI.set {G G':Int} {S:List bi}(h:CI G S)(hG:G≤G') {i:Nat} {s s':bi}(hs:S[i]?=some s)(l:kZ s s')(hn:∀z,s'.nd=some z→z.me=s'.addr∧(0≤z.seq∧z.seq≤G')∧Asc z.A∧∀y∈z.A,xD G'(S.set i s')i y∧y.dest≠s'.addr):CI G'(S.set i s'):=by
 have hg:∀(j:Nat)t,(S.set i s')[j]?=some t→∃u,S[j]?=some u∧t.addr=u.addr:=fun j t ht=>by
  rcases cZ ht with⟨rfl,rfl⟩|⟨_,ht⟩
  ·exact⟨s,hs,l.addr⟩
  ·exact⟨t,ht,rfl⟩
 refine⟨by rw [List.length_set];exact h.len,fun t ht=> ?_,fun j k t u ht hu e=> ?_,fun j t z ht hz=> ?_⟩
 ·obtain⟨j,hj⟩:=List.getElem?_of_mem ht;obtain⟨u,hu,e⟩:=hg j t hj;rw [e];exact h.Ik u(List.mem_of_getElem? hu)
 ·obtain⟨t1,ht1,e1⟩:=hg j t ht;obtain⟨u1,hu1,e2⟩:=hg k u hu;exact h.inj j k t1 u1 ht1 hu1(by rw [←e1,←e2];exact e)
 ·rcases cZ ht with⟨rfl,rfl⟩|⟨_,ht⟩
  ·exact hn z hz
  ·obtain⟨a,b,c,d⟩:=h.nd j t z ht hz;exact⟨a,⟨b.1,by omega⟩,c,fun y hy=>⟨(d y hy).1.set hG hs l,(d y hy).2⟩⟩
def Pt(G:Int)(S:List bi)(me:Int)(c:mh):Prop:=
 ∀fr p L,c=some(fr,p,L)→fr≠me∧1≤p.aS∧(0≤p.aW∧p.aW≤G)∧(∀x∈L,x.2≤G)∧∃(j:Nat)(t:bi),S[j]?=some t∧t.addr=fr∧Y9 G S j p L
theorem Pt.set {G G':Int} {S:List bi} {me:Int} {c:mh}(h:Pt G S me c)(hG:G≤G') {i:Nat} {s s':bi}(hs:S[i]?=some s)(l:kZ s s'):Pt G'(S.set i s')me c:=by
 intro fr p L hc;obtain⟨h1,h2,h3,h4,j,t,hj,ha,hf⟩:=h fr p L hc;obtain⟨t',ht',lt⟩:=ma hs l hj;exact⟨h1,h2,⟨h3.1,by omega⟩,fun x hx=>Int.le_trans(h4 x hx)hG,j,t',ht',lt.addr.trans ha,hf.set hG hs l⟩
theorem Qn {S:List bi} {i:Nat} {s:bi}(h:S[i]?=some s):S.set i s=S:=by
 refine List.ext_getElem? fun j=> ?_;by_cases e:j=i
 ·subst e;rw [List.getElem?_set_self(List.getElem?_eq_some_iff.1 h).1,h]
 ·rw [List.getElem?_set_ne(fun h=>e h.symm)]
theorem vE {st:bi} {s:St}(hz:st.nd=some s)(d:Int):vr st d=(aJ s.A d).map fun y=>(rk y,y.hops):=by
 unfold vr;rw [hz]
theorem rJ.sG {st:bi} {s:St}(hz:st.nd=some s) {d q h:Int}(r:rJ(aJ s.A d)q h):sG st d q h=true:=by
 obtain⟨y,hy,e⟩:=r;unfold Go.Proofs.YtakaadcpaeiccabGreat.sG;rw [vE hz,hy];show nI(rk y,y.hops)q h=true;unfold nI;simp only [Bool.or_eq_true,Bool.and_eq_true,decide_eq_true_eq];exact e
theorem Bo(me:Int)(A:List Rt)(d q h n e:Int):((iD me A d q h n e).1=A)∨(d≠me∧d≠0∧(iD me A d q h n e).2=0∧((∃x,aJ A d=some x∧U6(fo d q h n e)x=true∧(iD me A d q h n e).1=gI A d(yz q h n e))∨(aJ A d=none∧(iD me A d q h n e).1=tF A(fo d q h n e)))):=by
 unfold iD;split
 ·exact .inl rfl
 ·rename_i hd;simp only [not_or]at hd;cases hl:aJ A d with
  |some x=>
   dsimp only;split
   ·rename_i hg;exact .inr⟨hd.1,hd.2,rfl,.inl⟨x,rfl,hg,rfl⟩⟩
   ·exact .inl rfl
  |none=>
   dsimp only;split
   ·exact .inl rfl
   ·exact .inr⟨hd.1,hd.2,rfl,.inr⟨rfl,rfl⟩⟩
theorem AY(A:List Rt)(x:Rt)(d:Int)(hd:d≠x.dest):aJ(tF A x)d=aJ A d:=by
 unfold tF aJ;have hx:(x.dest==d)=false:=by simpa using fun e=>hd e.symm
 conv=>rhs;rw [←List.take_append_drop(pos A x.dest)A]
 rw [List.find?_append,List.find?_append,List.find?_cons,hx]
theorem Qc {G:Int} {S:List bi} {i:Nat} {st:bi} {s:St} {c:mh} {A:List Rt}(hS:S[i]?=some st)(hz:st.nd=some s)(h:CI G S)(hc:Pt G S s.me c)(hG0:0≤G)(hG:G+1<4294967295)(t:Uh s.me s.now c s.A A):
  kZ st {st with nd:=some {s with A:=A}}∧Asc A∧∀y∈A,xD(G+1)(S.set i {st with nd:=some {s with A:=A}})i y∧y.dest≠st.addr:=by
 obtain⟨hme,R9,hasc,hln⟩:=h.nd i st s hS hz;have hmap:∀(f:Rt→Rt),(∀y,(f y).dest=y.dest)→(∀y∈s.A,nI(rk(f y),(f y).hops)(rk y)y.hops=true)→(∀y∈s.A,xD(G+1)S i(f y))→A=s.A.map f→kZ st {st with nd:=some {s with A:=A}}∧Asc A∧∀y∈A,xD(G+1)(S.set i {st with nd:=some {s with A:=A}})i y∧y.dest≠st.addr:=by
  rintro f hd hf hl rfl;have l:kZ st {st with nd:=some {s with A:=s.A.map f}}:=Pf.sle(s':={s with A:=s.A.map f})(Kr hd hf)hz;refine⟨l,?_,fun y hy=> ?_⟩
  ·unfold Asc;rw [List.pairwise_map];refine hasc.imp fun {a b}hab=> ?_;rw [hd,hd];exact hab
  ·obtain⟨z,hz',rfl⟩:=List.mem_map.1 hy;exact⟨(hl z hz').set(Int.le_refl _)hS l,by rw [hd];exact(hln z hz').2⟩
 have hmod:∀(f:Rt→Rt)(d:Int),(∀y,(f y).dest=y.dest)→(∀y∈s.A,y.dest=d→nI(rk(f y),(f y).hops)(rk y)y.hops=true∧xD(G+1)S i(f y))→A=gI s.A d f→kZ st {st with nd:=some {s with A:=A}}∧Asc A∧∀y∈A,xD(G+1)(S.set i {st with nd:=some {s with A:=A}})i y∧y.dest≠st.addr:=by
  intro f d hd hf hA;refine hmap(fun x=>if x.dest=d then f x else x)(fun y=> ?_)(fun y hy=> ?_)(fun y hy=> ?_)hA
  ·split
   ·exact hd y
   ·rfl
  ·split
   ·rename_i e;exact(hf y hy e).1
   ·exact kV _ _
  ·split
   ·rename_i e;exact(hf y hy e).2
   ·exact(hln y hy).1.up(by omega)
 have R6:∀(d q hp n e:Int),(d≠s.me→(∃s∈S,s.addr=d)∧0≤hp∧(0≤q∧q≤G)∧hp+1≤8 * (cnt S d q hp:Int)∧n≠s.me∧∃(j:Nat)(t:bi),S[j]?=some t∧t.addr=n∧(t.addr=d∨sG t d q hp=true))→A=(iD s.me s.A d q(St.far hp)n e).1→kZ st {st with nd:=some {s with A:=A}}∧Asc A∧∀y∈A,xD(G+1)(S.set i {st with nd:=some {s with A:=A}})i y∧y.dest≠st.addr:=by
  intro d q hp n e hx hA;rcases Bo s.me s.A d q(St.far hp)n e with h1|⟨Cc,hd0,hcode,h1⟩
  ·rw [h1]at hA;refine hmap id(fun y=>rfl)(fun y _=>kV _ _)(fun y hy=>(hln y hy).1.up(by omega))(by rw [List.map_id];exact hA)
  ·obtain⟨x1,x2,x3,x4,x5,j,t,hj,ht,hge⟩:=hx Cc;have hcl:=JE S d q hp;have hlen:=h.len;have Jn:St.far hp=hp+1:=by unfold St.far;omega
   have hrk:=yQ(me:=s.me)(A:=s.A)(d:=d)(q:=q)(h:=St.far hp)(n:=n)(e:=e)Cc hd0(by rw [hcode];decide);rw [←hA]at hrk;have acB:∀x,aJ s.A d=some x→U6(fo d q(St.far hp)n e)x=true→nI(rk(fo d q(St.far hp)n e),(fo d q(St.far hp)n e).hops)(rk x)x.hops=true∧nI(rk x,x.hops)q hp=false:=by
    intro x _ hg;have e1:rk(fo d q(St.far hp)n e)=q:=rfl;have e2:(fo d q(St.far hp)n e).hops=St.far hp:=rfl;unfold U6 at hg;rw [e1,e2]at hg;rw [e1,e2];unfold nI;split at hg
    ·rename_i e3;simp only [decide_eq_true_eq]at hg;refine⟨?_,?_⟩
     ·simp only [Bool.or_eq_true,Bool.and_eq_true,decide_eq_true_eq];omega
     ·simp only [Bool.or_eq_false_iff,Bool.and_eq_false_iff,decide_eq_false_iff_not];omega
    ·rename_i e3;simp only [decide_eq_true_eq]at hg;refine⟨?_,?_⟩
     ·simp only [Bool.or_eq_true,Bool.and_eq_true,decide_eq_true_eq];omega
     ·simp only [Bool.or_eq_false_iff,Bool.and_eq_false_iff,decide_eq_false_iff_not];omega
   have aek:Pf s.A A:=by
    intro d' y hy;by_cases hdd:d'=d
    ·subst hdd;rcases h1 with⟨x,hx1,hx2,hx3⟩|⟨hx1,_⟩
     ·rw [hy]at hx1;cases hx1;obtain⟨y',hy',hr⟩:=hrk;refine⟨y',hy',Cf ?_(acB y hy hx2).1⟩;show nI(rk y',y'.hops)q(St.far hp)=true;unfold nI;simp only [Bool.or_eq_true,Bool.and_eq_true,decide_eq_true_eq];exact hr
     ·rw [hy]at hx1;cases hx1
    ·refine⟨y,?_,kV _ _⟩;rcases h1 with⟨x,hx1,hx2,hx3⟩|⟨hx1,hx3⟩
     ·rw [hA,hx3];have h2:=o8(f:=fun x=>if x.dest=d then yz q(St.far hp)n e x else x)(fun y=>by split<;>rfl)hy;rw [if_neg(by rw [(bN hy).2];exact hdd)]at h2;exact h2
     ·rw [hA,hx3,AY _ _ _ hdd];exact hy
   have l:kZ st {st with nd:=some {s with A:=A}}:=Pf.sle(s':={s with A:=A})aek hz;have hcm:cnt S d q hp+1≤cnt(S.set i {st with nd:=some {s with A:=A}})d q(St.far hp):=by
    refine TN hS(by omega) ?_ ?_
    ·unfold cP sG;rw [vE hz,Bool.or_eq_false_iff];refine⟨by simpa using fun e=>Cc(by rw [hme];exact e.symm),?_⟩;rcases h1 with⟨x,hx1,hx2,hx3⟩|⟨hx1,hx3⟩
     ·rw [hx1];exact(acB x hx1 hx2).2
     ·rw [hx1];rfl
    ·unfold cP;rw [Bool.or_eq_true];exact .inr(rJ.sG rfl hrk)
   have hnew:∀y,y.dest=d→y.seq=q→y.hops=St.far hp→y.next=n→y.valid=true→xD(G+1)(S.set i {st with nd:=some {s with A:=A}})i y:=by
    intro y e1 e2 e3 e4 e5;refine⟨by rw [e1];exact fP hS l.addr x1,by omega,by omega,fun _=> ?_,fun _=> ?_⟩
    ·have hji:j≠i:=fun hji=>by
      subst hji;rw [hS]at hj;cases hj;exact x5(by rw [←ht,hme])
     refine⟨j,t,hji,(List.getElem?_set_ne(fun e=>hji e.symm)).trans hj,ht.trans e4.symm,?_⟩;rw [e1,e2,e3,e4,Jn];rcases hge with hge|hge
     ·exact .inl(by rw [←hge,ht])
     ·exact .inr(by rw [show hp+1 - 1=hp by omega];exact hge)
    ·rw [e1,e2,e3];omega
   refine⟨l,?_,fun y hy=> ?_⟩
   ·rcases h1 with⟨x,hx1,hx2,hx3⟩|⟨hx1,hx3⟩
    ·rw [hA,hx3];exact zl hasc d _ fun y=>rfl
    ·rw [hA,hx3];exact Gf hasc hx1
   ·rcases h1 with⟨x,hx1,hx2,hx3⟩|⟨hx1,hx3⟩
    ·rw [hA,hx3]at hy;rcases zk hy with⟨z,hz',he,rfl⟩|⟨hy,_⟩
     ·exact⟨hnew _ he rfl rfl rfl rfl,by show z.dest≠st.addr;rw [he,←hme];exact Cc⟩
     ·exact⟨((hln y hy).1.set(by omega)hS l),(hln y hy).2⟩
    ·rw [hA,hx3]at hy;rcases qC.1 hy with rfl|hy
     ·exact⟨hnew _ rfl rfl rfl rfl rfl,by show d≠st.addr;rw [←hme];exact Cc⟩
     ·exact⟨((hln y hy).1.set(by omega)hS l),(hln y hy).2⟩
 have Sv:∀(fr q:Int)(y:Rt),y∈s.A→(q≤G)→nI(rk(bY fr q y),(bY fr q y).hops)(rk y)y.hops=true∧xD(G+1)S i(bY fr q y):=by
  intro fr q y hy hq;have h2:=(hln y hy).1;have h3:=h2.sq;refine⟨Rx fr q h3.1(by omega),?_⟩;unfold bY;split
  ·refine h2.ended rfl rfl rfl ?_;show 0≤max(gr y.seq)q∧max(gr y.seq)q≤G+1;rw [lL h3.1(by omega)];omega
  ·exact h2.up(by omega)
 cases t with
 |Ve fr p L e hc1 hk=>
  obtain⟨k1,k2,k3,_,j,t,hj,ht,hf⟩:=hc fr p L hc1;obtain⟨f1,f2,f3,f4,f5,u,hu,f6⟩:=hf.k1 hk;rw [hj]at hu;cases hu;exact R6 p.aI p.dm p.hops fr e(fun _=>⟨f1,f2,f3,by omega,k1,j,t,hj,ht,f6⟩)rfl
 |Vd fr p L e hc1 hk=>
  obtain⟨k1,k2,k3,_,j,t,hj,ht,hf⟩:=hc fr p L hc1;obtain⟨f1,f2,f3,f5,u,hu,f6⟩:=hf.k2 hk;rw [hj]at hu;cases hu;exact R6 p.dest p.aW p.hops fr e(fun _=>⟨f1,f2,f3,by omega,k1,j,t,hj,ht,f6⟩)rfl
 |use d e=>exact hmod(sI e)d(fun y=>lQ e y)(fun y hy _=>⟨KE(KG(qX e y).2.1(qX e y).2.2.2.2)(qX e y).2.2.1,((hln y hy).1.same(qX e y)).up(by omega)⟩)rfl
 |bB d n=>exact hmod(qU n)d(fun y=>kG n y)(fun y hy _=>⟨KE(KG(rC n y).2.1(rC n y).2.2.2.2)(rC n y).2.2.1,((hln y hy).1.same(rC n y)).up(by omega)⟩)rfl
 |mi fr p L hc1 x hx=>
  obtain⟨_,_,_,k4,_⟩:=hc fr p L hc1;exact hmod(bY fr x.2)x.1(fun y=>dZ _ _ y)(fun y hy _=>Sv fr x.2 y hy(k4 x hx))rfl
 |brk dX=>exact hmap(bY dX 0)(fun y=>dZ _ _ y)(fun y hy=>(Sv dX 0 y hy hG0).1)(fun y hy=>(Sv dX 0 y hy hG0).2)rfl
 |grow d hg=>
  refine hmod St.pQ d(fun y=>rfl)(fun y hy hd=> ?_)rfl;have h2:=(hln y hy).1;have h3:=h2.sq;have hv:=hg y(by rw [←hd];exact jm hasc hy);have e1:rk(St.pQ y)=gr y.seq - 1:=by unfold rk St.pQ;dsimp only;rw [hv];rfl
  have e2:rk y=y.seq - 1:=by unfold rk;rw [hv];rfl
  refine⟨?_,h2.ended rfl rfl hv ?_⟩
  ·rw [e1,e2,lL h3.1(by omega)];show nI(y.seq+1 - 1,y.hops)(y.seq - 1)y.hops=true;unfold nI;simp only [Bool.or_eq_true,decide_eq_true_eq];exact .inl(by omega)
  ·show 0≤gr y.seq∧gr y.seq≤G+1;rw [lL h3.1(by omega)];omega
end Go.Proofs.YtakaadcpaeiccabGreat
