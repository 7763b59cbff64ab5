import Derived.Test.YtakaadcpaeiccabGreatC33
set_option maxHeartbeats 2000000
set_option maxRecDepth 100000
namespace Go.Proofs.YtakaadcpaeiccabGreat
variable{c:sF}{G:Int}{i n:Nat}{s s':St}{st:bJ}
theorem G6{S:List bJ}{A:List Rt}(h:∀y∈A,yC G S i y)(hG0:0<=G)(d:Int):0<=eF A d∧eF A d<=G:=by
 unfold eF;cases hl:aJ A d with
 |none=>exact⟨eY _,hG0⟩
 |some y=>exact(h y (bR hl).1).sq
theorem SI{S:List bJ}{p:aF}{L:List (Int×Int)}(hS:S[i]?=some st)(hz:st.nd=some s)(h:CI G S)(hc:Qj G S s.me c)(hG0:0<=G)(j:Just c s p L):ZQ G S i p L:=by
 obtain⟨hme,Tp,hasc,hln⟩:=h.nd i st s hS hz;have O1:∀y∈s.A,yC G S i y:=λy hy=>(hln y hy).1;have hself:∃t∈S,t.addr=st.addr:=⟨st,gG hS,rfl⟩;have hlen:=h.len;have hn0:∀ {d:Int},(∃t∈S,t.addr=d)->d≠0:=λ⟨t,ht,e⟩=>e▸(h.Jp t ht).2;rcases j with⟨k,e1,e2,e3,e4,e5,e6⟩|⟨fr,q,K,hcq,kq,k,e1,e2,e3,e4,e5,e6,e7,e8⟩|⟨k,e1,e2,e3,e4⟩|⟨k,e1,y,hy,e2,e3,e4⟩|⟨fr,q,K,hcq,kq,k,e1,e2,e3,e4,e5,e6,e7⟩|⟨k,e1⟩|k
 ·refine⟨λ_=> ?_,λh=>(by rw[k]at h;cases h),λh=>(by rw[k]at h;cases h)⟩;have hd:p.aK=st.addr:=e1.trans hme;rw[hd];have:=Nk (S:=S) p.dx p.hops hself;exact⟨hself,by omega,by rw[e5];exact Tp,by rw[e6];exact G6 O1 hG0 _,by omega,st,hS,.inl rfl⟩
 ·refine⟨λ_=> ?_,λh=>(by rw[k]at h;cases h),λh=>(by rw[k]at h;cases h)⟩;obtain⟨_,t1,q1,_,j,t,hj,ht,hf⟩:=hc fr q K hcq;obtain⟨f1,f2,f3,f4,f5,_⟩:=hf.k1 kq;have hcl:=Kz S q.aK q.dx q.hops;have Kc:St.far q.hops=q.hops+1:=by unfold St.far;omega
  have hup:=UE S q.aK q.dx (show q.hops<=q.hops+1 by omega);rw[e1,e2]at e8;rw[e1,e2,e3,Kc];rw[e3,Kc]at e8;refine⟨f1,by omega,f3,?_,by omega,st,hS,.inr ((e8 (hn0 f1)).tF hz)⟩;rcases e7 with e7|e7
  ·rw[e7];exact f4
  ·rw[e7];exact G6 O1 hG0 _
 ·refine⟨λh=>(by rw[k]at h;cases h),λ_=> ?_,λh=>(by rw[k]at h;cases h)⟩;have hd:p.dest=st.addr:=e1.trans hme;rw[hd];have:=Nk (S:=S) p.a_ p.hops hself;exact⟨hself,by omega,by rw[e4];exact Tp,by omega,st,hS,.inl rfl⟩
 ·refine⟨λh=>(by rw[k]at h;cases h),λ_=> ?_,λh=>(by rw[k]at h;cases h)⟩;obtain⟨Hw,lm⟩:=bR hy;have hl:=O1 y Hw;have hcnt:=hl.hc e2;rw[e3,e4,<-lm];refine⟨hl.dest,hl.hp,hl.sq,by omega,st,hS,.inr ?_⟩;refine sD.tF hz ⟨y,by rw[lm];exact hy,.inr ⟨?_,eY _⟩⟩;unfold rk;rw[e2];rfl
 ·refine⟨λh=>(by rw[k]at h;cases h),λ_=> ?_,λh=>(by rw[k]at h;cases h)⟩;obtain⟨_,t1,q1,_,j,t,hj,ht,hf⟩:=hc fr q K hcq;obtain⟨f1,f2,f3,f5,_⟩:=hf.k2 kq;have hcl:=Kz S q.dest q.a_ q.hops;have Kc:St.far q.hops=q.hops+1:=by unfold St.far;omega
  have hup:=UE S q.dest q.a_ (show q.hops<=q.hops+1 by omega);rw[e1,e2,e3,Kc]at e7;rw[e1,e2,e3,Kc];exact⟨f1,by omega,f3,by omega,st,hS,.inr ((e7 (hn0 f1)).tF hz)⟩
 ·refine⟨λh=>(by rw[k]at h;cases h),λh=>(by rw[k]at h;cases h),λ_ x hx=> ?_⟩;rcases e1 x hx with e|⟨y,hy,_,e2,e3⟩
  ·omega
  ·have:=(O1 y hy).sq;omega
 ·exact⟨λh=>(by rw[k]at h;cases h),λh=>(by rw[k]at h;cases h),λh=>(by rw[k]at h;cases h)⟩
theorem Xq(st:bJ){s:St}(hz:st.nd=some s): {st with nd:=some s}=st:=by
 cases st;cases hz;rfl
theorem W_{S:List bJ}(hS:S[i]?=some st)(hz:st.nd=some s)(h:CI G S)(hc:Qj G S s.me c)(hG0:0<=G)(hG:G+1<4294967295)(hf:∀f∈s.aL,yV G S i f.2)(k:Pr c s s'):
  lZ st {st with nd:=some s'}∧CI (G+1) (S.set i {st with nd:=some s'})∧∀f∈s'.aL,yV (G+1) (S.set i {st with nd:=some s'}) i f.2:=by
 obtain⟨hme,Tp,hasc,hln⟩:=h.nd i st s hS hz;have hsame:∀s':St,s'.A=s.A->s'.me=s.me->(0<=s'.seq∧s'.seq<=G+1)->lZ st {st with nd:=some s'}∧CI (G+1) (S.set i {st with nd:=some s'}):=by
  intro s' hA hm hq;have l:lZ st {st with nd:=some s'}:=P9.sle (s':=s') (by rw[hA];exact P9.refl _) hz;refine⟨l,h.set (by omega) hS l λz hz'=> ?_⟩;cases hz';rw[hA];exact⟨hm.trans hme,hq,hasc,λy hy=>⟨(hln y hy).1.set (by omega) hS l,(hln y hy).2⟩⟩
 have hfs:∀(s':St),lZ st {st with nd:=some s'}->∀f∈s.aL,yV (G+1) (S.set i {st with nd:=some s'}) i f.2:=λs' l f hf'=>(hf f hf').set (by omega) hS l;cases k with
 |yI e=>
  obtain⟨l,hci⟩:=hsame s' e.A e.me (by rw[e.seq];omega);exact⟨l,hci,by rw[e.aL];exact hfs s' l⟩
 |tab t=>
  obtain⟨l,ha,hl⟩:=QO hS hz h hc hG0 hG t;exact⟨l,h.set (by omega) hS l λz hz'=>by cases hz';exact⟨hme,by dsimp only;omega,ha,hl⟩,hfs _ l⟩
 |aK t p L hj hzz=>
  obtain⟨l,hci⟩:=hsame (s.send t p L) rfl rfl (by show 0<=s.seq∧s.seq<=G+1;omega);refine⟨l,hci,λf hf'=> ?_⟩;rcases eu.1 (show f∈s.aL++ [(t,strOfNums (nI p L))]from hf')with hf'|hf'
  ·exact hfs _ l f hf'
  ·rw[eZ]at hf';subst hf';exact(Yl (SI hS hz h hc hG0 hj) (λs hs=>(h.Jp s hs).1) (by omega) hzz).set (by omega) hS l
 |grw=>
  obtain⟨l,hci⟩:=hsame {s with seq:=gr s.seq} rfl rfl (by show 0<=gr s.seq∧gr s.seq<=G+1;rw[mr Tp.1 (by omega)];omega);exact⟨l,hci,hfs _ l⟩
 |mx fr p L hc1=>
  obtain⟨_,_,k3,_⟩:=hc fr p L hc1;obtain⟨l,hci⟩:=hsame {s with seq:=max s.seq p.a_} rfl rfl (by show 0<=max s.seq p.a_∧max s.seq p.a_<=G+1;omega);exact⟨l,hci,hfs _ l⟩
 |wr=>
  obtain⟨l,hci⟩:=hsame s.write rfl rfl (by show 0<=s.seq∧s.seq<=G+1;omega);exact⟨l,hci,hfs _ l⟩
theorem oC(S:List bJ)(i:Nat)(a b:bJ):(S.set i a).set i b=S.set i b:=List.set_set ..
theorem JO{S:List bJ}(k:fQ c n s s'):∀ {G:Int} {J:nK},S[i]?=some st->st.nd=some s->CI G S->Qj G S s.me c->0<=G->G+n<4294967295->(∀f∈s.aL,yV G S i f.2)->Jm G (BG S st.addr) J s->
  Jm (G+n) (BG S st.addr) J s'∧lZ st {st with nd:=some s'}∧CI (G+n) (S.set i {st with nd:=some s'})∧Qj (G+n) (S.set i {st with nd:=some s'}) s'.me c∧∀f∈s'.aL,yV (G+n) (S.set i {st with nd:=some s'}) i f.2:=by
 induction k with
 |nil n s=>
  intro G J hS hz h hc hG0 hG hf hj;have e:=Xq st hz;have l:lZ st {st with nd:=some s}:=by rw[e];exact lZ.refl st
  have hs:=Q5 hS;refine⟨hj.up (by omega),l,h.set (by omega) hS l λz hz'=> ?_,hc.set (by omega) hS l,λf hf'=>(hf f hf').set (by omega) hS l⟩;cases hz';obtain⟨a,b,c,d⟩:=h.nd i st s hS hz;exact⟨a,by omega,c,λy hy=>⟨(d y hy).1.set (by omega) hS l,(d y hy).2⟩⟩
 | @snoc n s s1 s2 k1 k2 ih=>
  intro G J hS hz h hc hG0 hG hf hj;obtain⟨j1,l1,c1,h1,f1⟩:=ih hS hz h hc hG0 (by omega) hf hj;have hS1:(S.set i {st with nd:=some s1})[i]?=some {st with nd:=some s1}:=List.getElem?_set_self (eB.1 hS).1;obtain⟨l2,c2,f2⟩:=W_ hS1 rfl c1 h1 (by omega) (by omega) f1 k2;have hm:s2.me=s1.me:=(fQ.one k2).me;have h2:=h1.set (G':=G+n+1) (by omega) hS1 l2;rw[oC]at c2 f2 h2;have j2:=acP j1 ((ZH c1 hS1 rfl).D λd hd=>⟨hd.1,nY hS l1.addr hd.2⟩) k2;have e:G+(n:Int)+1=G+((n+1:Nat):Int):=by omega
  rw[e]at c2 f2 h2;exact⟨j2.up (by omega),l1.trans l2,c2,by rw[hm];exact h2,f2⟩
theorem KF{S:List bJ}(hS:S[i]?=some st)(hz:st.nd=some s)(h:CI G S)(hG:G+1<4294967295)(now:Int)(hji:JI G (BG S st.addr) st):
  Jm (G+1) (BG S st.addr) (jl st.bn) (s.locked.begin now)∧lZ st {st with nd:=some (s.locked.begin now)}∧CI (G+1) (S.set i {st with nd:=some (s.locked.begin now)}):=by
 obtain⟨hme,Tp,hasc,hln⟩:=h.nd i st s hS hz;have hA:(s.locked.begin now).A=s.A.map (oP now):=rfl;have hl:∀y∈s.A,om (rk (oP now y),(oP now y).hops) (rk y) y.hops=true∧yC (G+1) S i (oP now y):=by
  intro y hy;have h2:=(hln y hy).1;have h3:=h2.sq;unfold oP;split
  ·rename_i hv;have hv':y.valid=true:=by
    unfold Kv at hv;simp only[fF]at hv;exact hv.1
   refine⟨Nf 0 h3.1 (by omega) hv',h2.ended rfl rfl rfl ?_⟩;show 0<=max (gr y.seq) 0∧max (gr y.seq) 0<=G+1;rw[mr h3.1 (by omega)];omega
  ·exact⟨lV _ _,h2.up (by omega)⟩
 have l:lZ st {st with nd:=some (s.locked.begin now)}:=P9.sle (s':=s.locked.begin now) (by rw[hA];exact Lu (λy=>gX now y) λy hy=>(hl y hy).1) hz;have hj0:Jm (G+1) (BG S st.addr) (jl st.bn) {s.locked with now:=now,A:=iZ s.A now,bA:=[],aL:=[],aY:=[],aT:=[],bC:=false}:=by
  refine⟨λd v e=> ?_,λr hr=>(by cases hr),λd v e=> ?_,?_⟩
  ·have h1:=hji.fw s hz d v e;simpa using h1
  ·obtain⟨⟨y,hy,e1⟩,h2⟩:=hji.on s hz d v e;exact⟨⟨oP now y,di.2 ⟨y,hy,rfl⟩,(gX now y).trans e1⟩,h2.1,by omega⟩
  ·have:=hji.ow s hz;show 0<=s.own∧s.own<=G+1;omega
 have hlb:Lb (G+1) (BG S st.addr) {s.locked with now:=now,A:=iZ s.A now,bA:=[],aL:=[],aY:=[],aT:=[],bC:=false}:=by
  refine⟨λy hy=> ?_,by show 0<=s.seq∧s.seq<=G+1;omega⟩;obtain⟨u,hu,rfl⟩:=di.1 (show y∈s.A.map (oP now)from hy);have h3:=(hl u hu).2;exact⟨⟨by rw[gX];exact(hln u hu).2,h3.dest⟩,h3.sq⟩
 refine⟨(Ak hj0 hlb).1,l,h.set (by omega) hS l λz hz'=> ?_⟩;cases hz';rw[hA];refine⟨hme,by show 0<=s.seq∧s.seq<=G+1;omega,?_,λy hy=> ?_⟩
 ·unfold Asc;rw[List.pairwise_map];refine hasc.imp λ{a b} hab=> ?_;rw[gX,gX];exact hab
 ·obtain⟨u,hu,rfl⟩:=di.1 hy;exact⟨(hl u hu).2.set (eY _) hS l,by rw[gX];exact(hln u hu).2⟩
theorem PU{S:List bJ}{now:Int}(hS:S[i]?=some st)(hz:st.nd=some s)(h:CI G S)(hc:Qj G S s.me c)(hG0:0<=G)(hG:G+n+1<4294967295)(hji:JI G (BG S st.addr) st)(k:fQ c n (s.locked.begin now) s'):
  JF (G+n+1) (BG S st.addr) (jl st.bn) s'.finish.freed∧lZ st {st with nd:=some s'.finish.freed}∧CI (G+n+1) (S.set i {st with nd:=some s'.finish.freed})∧∀f∈s'.finish.freed.aL,yV (G+n+1) (S.set i {st with nd:=some s'.finish.freed}) i f.2:=by
 obtain⟨j1,l1,c1⟩:=KF hS hz h (by omega) now hji;have hS1:(S.set i {st with nd:=some (s.locked.begin now)})[i]?=some {st with nd:=some (s.locked.begin now)}:=List.getElem?_set_self (eB.1 hS).1;have h1:=hc.set (G':=G+1) (by omega) hS l1;have j1':Jm (G+1) (BG (S.set i {st with nd:=some (s.locked.begin now)}) st.addr) (jl st.bn) (s.locked.begin now):=⟨j1.fw,λr hr=>⟨(j1.rc r hr).1,λe=>⟨((j1.rc r hr).2 e).1,gI hS l1.addr ((j1.rc r hr).2 e).2⟩⟩,j1.on,j1.ow⟩;obtain⟨j2,l2,c2,_,f2⟩:=JO k hS1 rfl c1 h1 (by omega) (by omega) (λf hf=>by cases hf) j1';dsimp only at l2 c2 f2 j2;rw[oC]at c2 f2;have hS2:(S.set i {st with nd:=some s'})[i]?=some {st with nd:=some s'}:=List.getElem?_set_self (eB.1 hS).1;have e:=aP s';have hA:s'.finish.freed.A=s'.A:=e.A;have l3:lZ {st with nd:=some s'} {st with nd:=some s'.finish.freed}:=P9.sle (st:={st with nd:=some s'}) (s:=s') (s':=s'.finish.freed) (by rw[hA];exact P9.refl _) rfl;have e2:G+1+(n:Int)=G+n+1:=by omega
 rw[e2]at c2 f2 j2;have Qt:JF (G+n+1) (BG S st.addr) (jl st.bn) s'.finish.freed:=by
  refine SL (Db (s:=s') ⟨j2.fw,λr hr=>⟨(j2.rc r hr).1,λe=>⟨((j2.rc r hr).2 e).1,nY hS l1.addr ((j2.rc r hr).2 e).2⟩⟩,j2.on,j2.ow⟩ ((ZH c2 hS2 rfl).D λd hd=>⟨hd.1,nY hS (l1.trans l2).addr hd.2⟩) (.inl ((Nj k).2.trans rfl)) (by omega))
 have c3:=c2.set (eY _) hS2 l3 λz hz'=>by
  cases hz';obtain⟨a,b,c,d⟩:=c2.nd i _ s' hS2 rfl;rw[hA];refine⟨(show s'.finish.freed.me=s'.me from e.me).trans a,by rw[show s'.finish.freed.seq=s'.seq from e.seq];exact b,c,λy hy=>⟨(d y hy).1.set (eY _) hS2 l3,(d y hy).2⟩⟩
 rw[oC]at c3;refine⟨Qt,(l1.trans l2).trans l3,c3,λf hf=> ?_⟩;rw[show s'.finish.freed.aL=s'.aL from e.aL]at hf;have:=(f2 f hf).set (eY _) hS2 l3;rw[oC]at this;exact this
theorem J6:∀(l T:List Int),l.Nodup->(∀a∈l,a∈T)->l.length<=T.length
 | [],_,_,_=>dh _
 |a::l,T,hn,hs=>by
  obtain⟨h1,h2⟩:=List.nodup_cons.1 hn;have ha:=hs a iJ;have:=J6 l (T.erase a) h2 λb hb=>(List.mem_erase_of_ne λe=>h1 (by rw[<-e];exact hb)).2 (hs b (jR _ hb));rw[List.length_erase_of_mem ha]at this;have:=List.length_pos_of_mem ha;rw[dU];omega
theorem Mi(me:Int)(f:Int->Option Int):∀(ss:List Int) (A:List Rt),A.length+ss.length<=8->(∀a∈ss,a≠me)->(gL f ss).foldl (VA me) A=A++ss.map λa=>yK (false,a,(f a).getD 0)
 | [],A,_,_=>by simp[gL]
 |a::ss,A,hl,hm=>by
  rw[dU]at hl;have h1:VA me A (false,a,(f a).getD 0)=A++ [yK (false,a,(f a).getD 0)]:=by
   unfold VA BK;have:a≠me:=hm a iJ;rw[aQ (by simp[this];omega)]
  show(gL f ss).foldl (VA me) (VA me A (false,a,(f a).getD 0))=_;rw[h1,Mi me f ss _ (by rw[dw,List.length_singleton];omega) λb hb=>hm b (jR _ hb),List.append_assoc];rfl
theorem Xn(me:Int)(f:Int->Option Int)(c:Option Int)(ss:List Int)(hl:ss.length<=8)(hm:∀a∈ss,a≠me):uH me (dz c++gL f ss)=ss.map λa=>yK (false,a,(f a).getD 0):=by
 unfold uH;rw[List.foldl_append];have h1:(dz c).foldl (VA me) []=[]:=by
  cases c with
  |none=>rfl
  |some v=>rfl
 rw[h1,Mi me f ss [] (by simpa using hl) hm,List.nil_append]
theorem UG{J:nK}(h:∀r∈J,0<=r.2.2):∀(f:Int->Option Int) (c:Option Int) (o:nK),iO f c o->iO (J.foldl stepM f) (J.foldl lK c) (J.foldl (λo r=>zW o (norm r)) o):=by
 induction J with
 |nil=>intro f c o h;exact h
 |cons y J ih=>
  intro f c o hc;simp only[gH];exact ih (λz hz=>h z (jR _ hz)) _ _ _ (hc.put y (h y iJ))
theorem PW{G:Int}{S:List bJ}{i:Nat}{st:bJ}(hS:S[i]?=some st)(hz:st.nd=none)(h:CI G S)(hj:JI G (BG S st.addr) st)(hG0:0<=G)(hG:G+1<4294967295)(now:Int):
  JF (G+1) (BG S st.addr) (jl st.bn) (St.new st.addr st.bn now)∧((St.new st.addr st.bn now).bC=false->∃L,st.bn=bE L)∧lZ st {st with nd:=some (St.new st.addr st.bn now)}∧CI (G+1) (S.set i {st with nd:=some (St.new st.addr st.bn now)}):=by
 obtain⟨z0,hz0⟩:∃z0,St.raw st.addr st.bn now=z0:=⟨_,rfl⟩;have e0:=aP z0;have hnew:St.new st.addr st.bn now=z0.finish:=by rw[St.uh,hz0]
 have hbd:=JY (D:=BG S st.addr) (G:=G) (jl st.bn) (λ_=>none) (λd v h=>by cases h) hj.rc;obtain⟨ss,hss,hmem,hcmp⟩:iO (mI (jl st.bn)) (qF (jl st.bn)) (cmpL (jl st.bn)):=UG (λr hr=>(hj.rc r hr).1.1) _ _ _ iO.nil;have hD:∀a∈ss,BG S st.addr a∧∃v,mI (jl st.bn) a=some v∧0<=v∧v<=G:=λa ha=>by
  obtain⟨v,hv⟩:=Option.isSome_iff_exists.1 ((hmem a).1 ha);have:=hbd a v hv;exact⟨this.1,v,hv,this.2⟩
 have hl8:ss.length<=8:=by
  have h1:=J6 ss (S.map (·.addr)) (hss.imp λhab=>by omega) λa ha=>by
   obtain⟨t,ht,e⟩:=(hD a ha).1.2;exact di.2 ⟨t,ht,e⟩
  rw[iK]at h1;have:=h.len;omega
 have hA:z0.A=ss.map λa=>yK (false,a,(mI (jl st.bn) a).getD 0):=by
  rw[<-hz0];show uH st.addr (cmpL (jl st.bn))=_;rw[hcmp];exact Xn _ _ _ _ hl8 λa ha=>(hD a ha).1.1
 have TI:∀y∈z0.A,∃a v,a∈ss∧mI (jl st.bn) a=some v∧(0<=v∧v<=G)∧y.dest=a∧y.seq=v+1∧y.hops=0∧y.valid=false:=by
  intro y hy;rw[hA]at hy;obtain⟨a,ha,rfl⟩:=di.1 hy;obtain⟨_,v,hv,hb⟩:=hD a ha;refine⟨a,v,ha,hv,hb,rfl,?_,rfl,rfl⟩;show gr ((mI (jl st.bn) a).getD 0)=v+1;rw[hv];exact mr (s:=v) hb.1 (by omega)
 have hasc:Asc z0.A:=by
  rw[hA];unfold Asc;rw[List.pairwise_map];exact hss.imp λhab=>hab
 have hseq:z0.seq=gr ((qF (jl st.bn)).getD 0):=by rw[<-hz0];rfl
 have hob:=RD hG0 (jl st.bn) none ⟨eY _,hG0⟩ λr hr=>(hj.rc r hr).1;have Tp:0<=z0.seq∧z0.seq<=G+1:=by
  rw[hseq];have:(qF (jl st.bn)).getD 0=((jl st.bn).foldl lK none).getD 0:=rfl;rw[mr (by omega) (by omega)];omega
 have hme:z0.me=st.addr:=by rw[<-hz0];rfl
 have l:lZ st {st with nd:=some z0.finish}:=by
  refine⟨rfl,λd q h' _ e=> ?_⟩;unfold tF at e ⊢;have hvr:vr st d=(mI (jl st.bn) d).map λq=>(q,0):=by unfold vr;rw[hz]
  rw[hvr]at e;rw[wo (st:={st with nd:=some z0.finish}) rfl,e0.A];cases hd:mI (jl st.bn) d with
  |none=>rw[hd]at e;cases e
  |some v=>
   rw[hd]at e;have hin:d∈ss:=(hmem d).2 (by rw[hd];rfl);have hy:yK (false,d,(mI (jl st.bn) d).getD 0)∈z0.A:=by
    rw[hA];exact di.2 ⟨d,hin,rfl⟩
   have hl:=jT hasc hy;have hb:=(hbd d v hd).2;rw[show aJ z0.A d=some (yK (false,d,(mI (jl st.bn) d).getD 0))from hl,hd];have e':om (v,0) q h'=true:=e;show om (gr v - 1,0) q h'=true;rw[mr hb.1 (by omega),show v+1 - 1=v by omega];exact e'
 have hlb:Lb (G+1) (BG S st.addr) z0:=by
  refine⟨λy hy=> ?_,Tp⟩;obtain⟨a,v,ha,hv,hb,e1,e2,_⟩:=TI y hy;rw[e1,e2];exact⟨(hD a ha).1,by omega,by omega⟩
 have hjm:Jm (G+1) (BG S st.addr) [] z0:=by
  rw[<-hz0];exact⟨λd v e=>(by cases e),λr hr=>(by cases hr),λd v e=>(by cases e),by show(0:Int)<=0∧(0:Int)<=G+1;omega⟩
 have Qt:=Db hjm hlb (.inr rfl) (by omega);have hrep:st.bn≠ []->z0.finish.bC=true:=by
  intro hne;have hr:z0.bC=true:=by
   rw[<-hz0];show decide (st.bn≠ [])=true;simpa using hne
  unfold St.finish;split
  ·rfl
  ·exact hr
 rw[hnew];refine⟨?_,λhr=>⟨[],?_⟩,l,h.set (by omega) hS l λz hz'=> ?_⟩
 ·by_cases hne:st.bn=[]
  ·rw[hne];exact Qt
  ·refine⟨λd v e=> ?_,Qt.rc,Qt.on,Qt.ow,Qt.ln⟩;have h1:=Qt.fw d v e;rw[hrep hne]at h1 ⊢;exact h1
 ·refine Classical.byContradiction λhne=> ?_;rw[hrep hne]at hr;cases hr
 ·cases hz';rw[e0.A,e0.me,e0.seq];refine⟨hme,Tp,hasc,λy hy=> ?_⟩;obtain⟨a,v,ha,hv,hb,e1,e2,e3,e4⟩:=TI y hy;refine⟨⟨?_,by omega,by omega,λh=>(by rw[e4]at h;cases h),λh=>(by rw[e4]at h;cases h)⟩,by rw[e1];exact(hD a ha).1.1⟩;rw[e1];exact gI (s':={st with nd:=some z0.finish}) hS rfl (hD a ha).1.2
structure QK(S:List bJ)(z:St):Prop where
 nd:(z.Q.map (·.dest)).Nodup
 on:∀q∈z.Q,∃t∈S,t.addr=q.dest
theorem QK.len{S:List bJ}{z:St}(h:QK S z):z.Q.length<=S.length:=by
 have:=J6 (z.Q.map (·.dest)) (S.map (·.addr)) h.nd λa ha=>by
  obtain⟨q,hq,rfl⟩:=di.1 ha;obtain⟨t,ht,e⟩:=h.on q hq;exact di.2 ⟨t,ht,e⟩
 rw[iK,iK]at this;exact this
theorem QK.sub{S:List bJ}{z z':St}(h:QK S z)(hs:(z'.Q.map (·.dest)).Sublist (z.Q.map (·.dest))):QK S z':=by
 refine⟨List.Pairwise.sublist hs h.nd,λq hq=> ?_⟩;have:=hs.subset (di.2 ⟨q,hq,rfl⟩);obtain⟨u,hu,e⟩:=di.1 this;rw[<-e];exact h.on u hu
theorem zK(Q:List Sr)(q:Sr):(St.dm Q q).map (·.dest)=Q.map (·.dest):=by
 unfold St.dm;rw[List.map_map];refine List.map_congr_left λz _=> ?_;simp only[Function.comp_apply];split
 ·rename_i e;exact e.symm
 ·rfl
theorem xB(s:St)(q:Sr):(s.ask q).Q.map (·.dest)=s.Q.map (·.dest):=by
 obtain⟨o,h1,_⟩:=IL s q;rw[h1,zK]
theorem qO(s:St)(d:Int):((s.sendAll d).Q.map (·.dest)).Sublist (s.Q.map (·.dest)):=by
 unfold St.sendAll;split
 ·exact List.Sublist.refl _
 ·split
  ·exact List.filter_sublist.map _
  ·exact List.Sublist.refl _
theorem QV(s:St)(q:Sr):((s.step q).Q.map (·.dest)).Sublist (s.Q.map (·.dest)):=by
 have ha:∀q:Sr,((s.ask q).Q.map (·.dest)).Sublist (s.Q.map (·.dest)):=λq=>by rw[xB];exact List.Sublist.refl _
 unfold St.step;split
 ·exact qO _ _
 ·split
  ·unfold St.widen;split
   ·exact ha _
   ·split
    ·exact ha _
    ·split
     ·exact ha _
     ·exact List.filter_sublist.map _
  ·exact ha _
theorem Cw:∀(D:List Sr) (s:St),((D.foldl St.step s).Q.map (·.dest)).Sublist (s.Q.map (·.dest))
 | [],_=>List.Sublist.refl _
 |q::D,s=>by
  rw[gH];exact(Cw D _).trans (QV s q)
theorem QK.kU{S:List bJ}{z:St}(h:QK S z)(now:Int):QK S (z.kU now):=by
 refine h.sub ?_;show(((St.kS z.Q now).foldl St.step (z.locked.begin now)).finish.Q.map (·.dest)).Sublist _;rw[(aP _).Q];exact Cw _ _
theorem TQ(s:St)(fr:Int)(xs:List Int):((s.hear fr xs).Q.map (·.dest)).Sublist (s.Q.map (·.dest)):=by
 unfold St.hear;split
 ·exact List.Sublist.refl _
 ·unfold St.gT;split
  ·unfold St.eP;split<;>exact List.Sublist.refl _
  ·split
   ·rw[n_];exact List.Sublist.refl _
   ·split
    ·unfold St.fE;split
     ·exact List.Sublist.refl _
     ·dsimp only;split
      ·exact List.Sublist.refl _
      ·split
       ·split
        ·exact qO _ _
        ·exact qO _ _
       ·split
        ·exact List.Sublist.refl _
        ·unfold St.iM;split<;>exact List.Sublist.refl _
    ·split
     ·unfold St.gW;dsimp only;rw[Sq];split<;>exact List.Sublist.refl _
     ·unfold St.fO;split
      ·exact List.Sublist.refl _
      ·split
       ·exact List.Sublist.refl _
       ·split<;>exact List.Sublist.refl _
theorem QK.rcv{S:List bJ}{z:St}(h:QK S z)(now fr:Int)(xs:List Int):QK S (z.rcv now fr xs):=by
 refine h.sub ?_;show(((z.locked.begin now).hear fr xs).finish.Q.map (·.dest)).Sublist _;rw[(aP _).Q];exact TQ _ _ _
theorem QK.brk{S:List bJ}{z:St}(h:QK S z)(now d_:Int):QK S (z.brk now d_):=h.sub (by rw[(Ba z now d_).2.2];exact List.Sublist.refl _)
theorem QK.snd{S:List bJ}{z:St}(h:QK S z)(now d:Int)(t:ByteArray)(hd:∃u∈S,u.addr=d):QK S (z.snd now d t):=by
 have e:(z.snd now d t).Q=(if (bN (z.locked.begin now).A d (z.locked.begin now).now).2 then(z.locked.begin now).bg d t else(z.locked.begin now).await d t).Q:=(aP _).Q;have hk:∀s:St,s.Q=z.Q->QK S (s.await d t):=by
  intro s hs;unfold St.await;split
  ·rename_i q hq;refine h.sub ?_;show((St.dm s.Q (s.hold q t).2).map (·.dest)).Sublist _;rw[zK,hs];exact List.Sublist.refl _
  ·rename_i hn;have hq:∀q∈z.Q,q.dest≠d:=by rw[<-hs];exact CG.1 hn
   refine⟨?_,λq hq'=> ?_⟩
   ·rw[xB];show((s.Q++ [St.iQ d t]).map (·.dest)).Nodup;rw[hs,List.map_append];refine List.nodup_append.2 ⟨h.nd,by simp,λa ha b hb=> ?_⟩;obtain⟨q,hq',rfl⟩:=di.1 ha;have e2:b=d:=by simpa[St.iQ]using hb
    rw[e2];exact hq q hq'
   ·have h1:q.dest∈(({s with Q:=s.Q++ [St.iQ d t]}:St).ask (St.iQ d t)).Q.map (·.dest):=di.2 ⟨q,hq',rfl⟩;rw[xB]at h1;obtain⟨u,hu,e2⟩:=di.1 h1;rcases eu.1 (show u∈s.Q++ [St.iQ d t]from hu)with hu|hu
    ·rw[hs]at hu;rw[<-e2];exact h.on u hu
    ·rw[eZ]at hu;subst hu;rw[<-e2];exact hd
 refine⟨?_,?_⟩
 ·rw[e];split
  ·rw[(gK _ _ _).1];exact h.nd
  ·exact(hk (z.locked.begin now) rfl).nd
 ·rw[e];split
  ·rw[(gK _ _ _).1];exact h.on
  ·exact(hk (z.locked.begin now) rfl).on
theorem Rs(S:List bJ)(me:Int)(xs:List Int)(now:Int):QK S (St.new me xs now):=by
 have e:(St.new me xs now).Q=[]:=(aP (St.raw me xs now)).Q;exact⟨by rw[e];exact List.Pairwise.nil,λq hq=>(by rw[e]at hq;cases hq)⟩
variable{c:sF}{B G G':Int}{e:List Ev}{S0:List bJ}{m:aS}{i k n:Nat}{P:m_}{s s' st:bJ}
structure CM(G:Int)(m:aS):Prop where
 ci:CI G m.S
 ji:∀(i:Nat) s,m.S[i]?=some s->JI G (BG m.S s.addr) s
 fr:∀f∈m.bO,yV G m.S f.1 f.2.2
 nk:Vj m
 qk:∀(i:Nat) s z,m.S[i]?=some s->s.nd=some z->QK m.S z
def QG(S S':List bJ):Prop:=∀(i:Nat) s,S[i]?=some s->∃s',S'[i]?=some s'∧lZ s s'
theorem QG.refl(S:List bJ):QG S S:=λ_ s h=>⟨s,h,lZ.refl s⟩
theorem QG.set{S:List bJ}(h:QG S0 S){i:Nat}{s s':bJ}(hs:S[i]?=some s)(l:lZ s s'):QG S0 (S.set i s'):=λj t ht=>by
 obtain⟨u,hu,l1⟩:=h j t ht;obtain⟨u',hu',l2⟩:=mY hs l hu;exact⟨u',hu',l1.trans l2⟩
theorem Nh{S:List bJ}(hs:S[i]?=some s)(e:s'.addr=s.addr){a d:Int}(h:BG S a d):BG (S.set i s') a d:=⟨h.1,gI hs e h.2⟩
theorem QK.S{S:List bJ}{z:St}(h:QK S z){i:Nat}{s s':bJ}(hs:S[i]?=some s)(e:s'.addr=s.addr):QK (S.set i s') z:=⟨h.nd,λq hq=>gI hs e (h.on q hq)⟩
theorem A9(h:CM G m)(hG:G<=G'){i:Nat}{s s':bJ}(hS:m.S[i]?=some s)(l:lZ s s')(c:CI G' (m.S.set i s'))(j:JI G' (BG m.S s'.addr) s')(hk:∀z,s'.nd=some z->NK z∧QK m.S z):CM G' (m.put i s'):=by
 refine⟨c,λk t ht=> ?_,λf hf=>(h.fr f hf).set hG hS l,h.nk.put i λz hz=>(hk z hz).1,λk t z ht hz=> ?_⟩
 ·rcases b_ ht with⟨_,rfl⟩|⟨_,ht⟩
  ·exact j.D λd hd=>Nh hS l.addr hd
  ·exact((h.ji k t ht).up hG).D λd hd=>Nh hS l.addr hd
 ·rcases b_ ht with⟨_,rfl⟩|⟨_,ht⟩
  ·exact(hk z hz).2.S hS l.addr
  ·exact(h.qk k t z ht hz).S hS l.addr
theorem QY(ha:s'.addr=s.addr)(hv:∀d,vr s' d=vr s d):lZ s s':=⟨ha,λd q h _ e=>by unfold tF at *;rw[hv];exact e⟩
theorem WG{z:St}(ha:s'.addr=s.addr)(h:s.nd=some z)(h':s'.nd=some z):lZ s s':=QY ha λd=>by rw[wo h,wo h']
theorem YG(h:CM G m){i:Nat}{s s':bJ}(hS:m.S[i]?=some s)(ha:s'.addr=s.addr)(hn:s'.nd=s.nd)(hj:s'.bn=s.bn):CM G (m.put i s')∧lZ s s':=by
 have l:lZ s s':=QY ha λd=>by unfold vr;rw[hn,hj]
 have c:=h.ci.set (eY _) hS l λz hz=>by
  rw[hn]at hz;obtain⟨a,b,c,d⟩:=h.ci.nd i s z hS hz;rw[ha];exact⟨a,b,c,λy hy=>⟨(d y hy).1.set (eY _) hS l,(d y hy).2⟩⟩
 have j:=h.ji i s hS;refine⟨A9 h (eY _) hS l c ?_ λz hz=> ?_,l⟩
 ·rw[ha];exact⟨by rw[hj];exact j.rc,by rw[hn,hj];exact j.fl,by rw[hn,hj];exact j.fw,by rw[hn];exact j.on,by rw[hn];exact j.ow,by rw[hn];exact j.ln⟩
 ·rw[hn]at hz;exact⟨h.nk i s z hS hz,h.qk i s z hS hz⟩
def wt(P:m_):Nat:=P.countP λf=>decide (f.1≠0)
theorem ZU(P Q:m_):wt (P++Q)=wt P+wt Q:=List.countP_append ..
theorem QL(P:m_):wt P<=P.length:=List.countP_le_length
def CJ(S0:List bJ)(B:Int)(k i:Nat)(z:BQ)(P:m_):Prop:=i<z.1.S.length∧∃G,0<=G∧CM G z.1∧QG S0 z.1.S∧(∀f∈P,yV G z.1.S i f.2)∧G+3 * (wt P:Int)+400 * (k:Int)<=B
def CIn(S0:List bJ)(B:Int)(k:Nat)(z:BQ):Prop:=∃G,0<=G∧CM G z.1∧QG S0 z.1.S∧G+400 * (k:Int)<=B
theorem ZG{z:St}(hS:m.S[i]?=some st)(h:CM G m)(hle:QG S0 m.S)(hG0:0<=G)(hG:G<=G')(l:lZ st {st with nd:=some z})(c:CI G' (m.S.set i {st with nd:=some z}))(hf:∀f∈z.aL,yV G' (m.S.set i {st with nd:=some z}) i f.2)(Qt:JF G' (BG m.S st.addr) (jl st.bn) z)(hfl:z.bC=false->∃L,st.bn=bE L)(nk:NK z)(qk:QK m.S z)(hP:∀f∈P,yV G m.S i f.2)(hB:G'+3 * ((wt z.aL:Int)+wt P)+400 * (k:Int)<=B):
  P7 (CJ S0 B k i) i (m,e) P {st with nd:=some z} z.ot:=by
 have hrc:=((h.ji i st hS).up hG).rc;have hil:=(eB.1 hS).1;have hi:∀s:bJ,i<(m.put i s).S.length:=λs=>by rw[(ic _ _ _).1,List.length_set];exact hil
 have hw0:(0:Int)<=wt z.aL:=Int.natCast_nonneg _;have hP':∀ {s':bJ},lZ st s'->∀f∈P,yV G' (m.S.set i s') i f.2:=λl f hf=>(hP f hf).set hG hS l;have hS1:(m.S.set i {st with nd:=some z})[i]?=some {st with nd:=some z}:=List.getElem?_set_self hil;refine⟨λhid=> ?_,λ_ hw=> ?_,λ_ hw=> ?_⟩
 ·exact⟨hi _,G',by omega,A9 h hG hS l c (XC hrc hfl Qt hid) (λu hu=>by cases hu;exact⟨nk,qk⟩),hle.set hS l,hP' l,by omega⟩
 ·obtain⟨j,hn,ha⟩:=Hg hrc hfl Qt hw;generalize (bJ.write {st with nd:=some z} z.ot).1=s2 at j hn ha ⊢;have l12:lZ {st with nd:=some z} s2:=WG ha rfl hn;have l2:=l.trans l12;have c2:=c.set (eY _) hS1 l12 λu hu=>by
   rw[hn]at hu;cases hu;obtain⟨a,b,c,d⟩:=c.nd i _ z hS1 rfl;rw[ha];exact⟨a,b,c,λy hy=>⟨(d y hy).1.set (eY _) hS1 l12,(d y hy).2⟩⟩
  rw[oC]at c2;refine⟨hi _,G',by omega,A9 h hG hS l2 c2 (by rw[ha];exact j) (λu hu=>by rw[hn]at hu;cases hu;exact⟨nk,qk⟩),hle.set hS l2,λf hf'=> ?_,?_⟩
  ·rcases eu.1 hf' with hf'|hf'
   ·have h1:=(hf f hf').set (eY _) hS1 l12;rw[oC]at h1;exact h1
   ·exact hP' l2 f hf'
  ·rw[show z.ot.aL=z.aL from rfl,ZU];omega
 ·obtain⟨j,hn,ha,hm⟩:=XB hrc hfl Qt.rc hw;generalize (bJ.write {st with nd:=some z} z.ot).1=s3 at j hn ha hm ⊢;have l3:lZ st s3:=F5 (h.ji i st hS) (λu hu y hy=>((h.ci.nd i st u hS hu).2.2.2 y hy).1) hn ha hm;have c3:=h.ci.set hG hS l3 λu hu=>by rw[hn]at hu;cases hu
  exact⟨hi _,G',by omega,A9 h hG hS l3 c3 (by rw[ha];exact j) (λu hu=>by rw[hn]at hu;cases hu),hle.set hS l3,hP' l3,by omega⟩
theorem ES{s s':St}(k:fQ c n s s'):s'.aL.length<=s.aL.length+n:=by
 induction k with
 |nil=>exact Nat.le_add_right _ _
 |snoc _ k ih=>
  refine dH ?_ (Nat.add_le_add_right ih 1);cases k with
  |yI e=>rw[e.aL];exact Nat.le_succ _
  |tab _=>exact Nat.le_succ _
  |aK t p L _ _=>
   show(_++ [_]).length<=_;rw[dw];exact aD _
  |grw=>exact Nat.le_succ _
  |mx _ _ _ _=>exact Nat.le_succ _
  |wr=>exact Nat.le_succ _
theorem Gx{D:Int->Prop}{z z':St}(h:JI G D st)(hz:st.nd=some z):z'.bC=false->∃L,st.bn=bE L:=λ_=>h.fl z hz
theorem zk{z s':St}{w:Nat}{now:Int}(hB4:B<4294967295)(hS:m.S[i]?=some st)(hz:st.nd=some z)(h:CM G m)(hle:QG S0 m.S)(hG0:0<=G)(hc:Qj G m.S z.me c)(kk:fQ c n (z.locked.begin now) s')(nk:NK s'.finish.freed)(qk:QK m.S s'.finish.freed)(hP:∀f∈P,yV G m.S i f.2)(hw:wt s'.finish.freed.aL<=w)(hB:G+n+1+3 * ((w:Int)+wt P)+400 * (k:Int)<=B):
  P7 (CJ S0 B k i) i (m,e) P {st with nd:=some s'.finish.freed} s'.finish.freed.ot:=by
 have hp0:(0:Int)<=wt P:=Int.natCast_nonneg _;have hw0:(0:Int)<=w:=Int.natCast_nonneg _;have hk0:(0:Int)<=k:=Int.natCast_nonneg _;obtain⟨a1,a2,a3,a4⟩:=PU hS hz h.ci hc hG0 (by omega) (h.ji i st hS) kk;exact ZG hS h hle hG0 (by omega) a2 a3 a4 a1 (Gx (h.ji i st hS) hz) nk qk hP (by omega)
theorem vI{S:List bJ}{me:Int}:Qj G S me none:=λfr p L h=>by cases h
theorem N7(m:aS)(i:Nat)(f:Int×ByteArray):∀g∈(m.bU i f).bO,g∈m.bO∨∃j,g=(i,j,f.2):=by
 unfold aS.bU;generalize m.heard i f.1=l
 induction l generalizing m with
 |nil=>exact λg hg=> .inl hg
 |cons a l ih=>
  intro g hg;rw[gH]at hg;rcases ih _ g hg with h|h
  ·have h1:∀g∈m.bO++ [(i,a,f.2)],g∈m.bO∨∃j,g=(i,j,f.2):=λg hg=>by
    rcases eu.1 hg with hg|hg
    ·exact .inl hg
    ·exact .inr ⟨a,eZ.1 hg⟩
   unfold aS.launch at h;dsimp only at h;split at h
   ·exact h1 g (List.mem_of_mem_tail h)
   ·exact h1 g h
  ·exact .inr h
theorem xw{m':aS}(h:CM G m)(hS:m'.S=m.S)(ha:∀g∈m'.bO,yV G m.S g.1 g.2.2):CM G m':=by
 refine⟨by rw[hS];exact h.ci,?_,?_,h.nk.S hS,?_⟩
 ·rw[hS];exact h.ji
 ·rw[hS];exact ha
 ·rw[hS];exact h.qk
theorem abY(S0:List bJ){B:Int}(hB4:B<4294967295)(k i:Nat):Y4 (CJ S0 B k i) i:=by
 have hse:∀m e f P,CJ S0 B k i (m,e) (f::P)->∃G,0<=G∧CM G (m.bU i f)∧QG S0 (m.bU i f).S∧i<(m.bU i f).S.length∧(∀g∈P,yV G (m.bU i f).S i g.2)∧G+3 * (wt (f::P):Int)+400 * (k:Int)<=B:=by
  rintro m e f P ⟨hi,G,hG0,h,hle,hf,hb⟩;have hS:=(jk m i f).1;refine⟨G,hG0,xw h hS λg hg=> ?_,by rw[hS];exact hle,by rw[hS];exact hi,λg hg=>by rw[hS];exact hf g (jR _ hg),hb⟩;rcases N7 m i f g hg with hg|⟨j,rfl⟩
  ·exact h.fr g hg
  ·exact hf f iJ
 refine⟨λm e f P hj=> ?_,λm e P f s z hj hf0 _ hs hz=> ?_⟩
 ·obtain⟨G,h0,h1,h2,h3,h4,h5⟩:=hse m e f P hj;have:wt P<=wt (f::P):=List.Sublist.countP_le (List.sublist_cons_self _ _);exact⟨h3,G,h0,h1,h2,h4,by omega⟩
 ·obtain⟨G,h0,h1,h2,h3,h4,h5⟩:=hse m e f P hj;have hw:wt (f::P)=wt P+1:=by
   unfold wt;rw[List.countP_cons,aQ (by simpa using hf0)]
  obtain⟨s',k1,k2⟩:=Ff z m.now f.1;have nk:=((h1.nk i s z hs hz).brk m.now f.1).1;have qk:=(h1.qk i s z hs hz).brk m.now f.1;have hfr:=Np z m.now f.1;rw[k2]at nk qk hfr ⊢;refine zk hB4 hs hz h1 h2 h0 vI k1 nk qk h4 (w:=0) ?_ (by omega);refine Nat.le_of_eq (List.countP_eq_zero.2 λg hg=> ?_);simpa using hfr g hg
theorem CM.zero(_:CM G m){j:Nat}(h0:(m.at' j).addr≠0):∃s,m.S[j]?=some s∧m.at' j=s:=by
 cases hs:m.S[j]? with
 |some s=>exact⟨s,rfl,eX hs⟩
 |none=>
  exfalso;apply h0;unfold aS.at';rw[List.getD_eq_getElem?_getD,hs];rfl
theorem Xx{xs:List Int}(h:vG xs=true):(lsX xs).length<=8:=by
 match xs,h with
 |x0::x1::x2::x3::x4::r,h=>
  simp only[vG,fF]at h;show(nC x1 x4 r).length<=8;unfold nC;split
  ·rename_i e;have h3:=(eT h.2).2.2.2.2.2.2;rw[Ec]at h3;have hln:(iX x0 x1 x2 x4 r).ln=x4.toNat:=by
    subst e;rfl
   rw[hln]at h3;unfold qA;rw[iK,List.length_range];omega
  ·exact dh _
theorem aaU(h:CM G m)(hG0:0<=G){me:Int}{j:Nat}{b:ByteArray}(hf:yV G m.S j b)(hF:vG (aI b)=true)(h0:(m.at' j).addr≠0)(hme:(m.at' j).addr≠me):Qj G m.S me (MS (m.at' j).addr (aI b)):=by
 intro fr p L hc;rw[aaT]at hc;cases hc;obtain⟨s,hs,e⟩:=h.zero h0;have hw:=hf.whole hF;rw[e]at hme ⊢;have hgood:(Xc (aI b)).eU=true:=by
  match hx:aI b,hF with
  |x0::x1::x2::x3::x4::r,hF=>
   simp only[vG,fF]at hF;exact hF.2
 obtain⟨hl,t0,t1,_,_,_,hk⟩:=eT hgood;refine⟨hme,t0,?_,?_,j,s,hs,rfl,hw⟩
 ·rcases hk with hk|hk|hk|hk
  ·exact(hw.k1 hk).2.2.2.1
  ·exact(hw.k2 hk).2.2.1
  ·have hd:(Xc (aI b)).a_=0:=by
    simp only[aF.xS,xD,fF,jg]at hl;rw[hl.2.2.2.2.2.2.2.1];unfold aF.dz;rw[hk];rfl
   omega
  ·have hd:(Xc (aI b)).a_=0:=by
    simp only[aF.xS,xD,fF,jg]at hl;rw[hl.2.2.2.2.2.2.2.1];unfold aF.dz;rw[hk.1];rfl
   omega
 ·intro x hx;by_cases hk3:(Xc (aI b)).kind=3
  ·exact(hw.k3 hk3 x hx).2
  ·exfalso;have hkk:(Xc (aI b)).kind=(aI b).getD 1 0:=Ec _ _ _ _ _;rw[hkk]at hk3;unfold lsX nC at hx;rw[aM hk3]at hx;cases hx
theorem YF(S0:List bJ){B:Int}(hB4:B<4294967295)(o:Op)(ho:o.dX≠8):Dx (CIn S0 B) (CJ S0 B) o:=by
 have hlt:∀ {m:aS} {i:Nat} {s:bJ},m.S[i]?=some s->i<m.S.length:=λh=>(eB.1 h).1;have hsame:∀(k0:Nat) (m:aS) (e:List Ev) (i:Nat) (s s':bJ),m.S[i]?=some s->s'.addr=s.addr->s'.nd=s.nd->s'.bn=s.bn->CIn S0 B k0 (m,e)->CIn S0 B k0 (m.put i s',e):=by
  rintro k0 m e i s s' hS ha hn hj ⟨G,h0,h1,h2,h3⟩;obtain⟨c,l⟩:=YG h1 hS ha hn hj;exact⟨G,h0,c,h2.set hS l,h3⟩
 refine⟨?_,?_,λk i=>abY S0 hB4 k i,λ_ m e a r h=>h,?_,?_,?_,?_,?_,?_,?_,?_,?_,?_,?_,?_⟩
 ·rintro k z ⟨G,h0,h1,h2,h3⟩;exact⟨G,h0,h1,h2,by omega⟩
 ·rintro k i z ⟨_,G,h0,h1,h2,_,h3⟩;have:(0:Int)<=wt []:=Int.natCast_nonneg _;exact⟨G,h0,h1,h2,by omega⟩
 ·intro k0 m e a b ha hb _ h;unfold aS.link;split
  ·exact h
  ·have hsa:=cZ ha;have h1:=hsame k0 m e a _ {m.at' a with hrs:=(m.at' a).hrs.set b o.on} hsa (by rw[eX hsa]) (by rw[eX hsa]) (by rw[eX hsa]) h;have hb':b<(m.put a {m.at' a with hrs:=(m.at' a).hrs.set b o.on}).S.length:=by rw[(ic _ _ _).1,List.length_set];exact hb
   have hsb:=cZ hb';exact hsame k0 _ e b _ _ hsb (by rw[eX hsb]) (by rw[eX hsb]) (by rw[eX hsb]) h1
 ·rintro m e a b s z hs hz hb _ _ _ _ _ _ ⟨G,h0,h1,h2,h3⟩;have hbs:=cZ hb;have hbd:∃u∈m.S,u.addr=(m.at' b).addr:=⟨_,gG hbs,by rw[eX hbs]⟩;have nk:=((h1.nk a s z hs hz).snd m.now (m.at' b).addr o.txt).1;have qk:=(h1.qk a s z hs hz).snd m.now (m.at' b).addr o.txt hbd;have hk:∃n s',n<=7∧fQ none n (z.locked.begin m.now) s'∧z.snd m.now (m.at' b).addr o.txt=s'.finish.freed:=by
   unfold St.snd St.sends;dsimp only;split
   ·exact⟨3,_,by omega,pI none _ _ _,rfl⟩
   ·exact⟨7,_,by omega,CR none _ _ _,rfl⟩
  obtain⟨n,s',hn,k1,k2⟩:=hk;rw[k2]at nk qk ⊢;have hfl:=ES k1;have hfr:s'.finish.freed.aL=s'.aL:=(aP s').aL;refine zk hB4 hs hz h1 h2 h0 vI k1 nk qk (λf hf=>by cases hf) (w:=n) ?_ ?_
  ·refine dH (QL _) ?_;rw[hfr];have:(z.locked.begin m.now).aL.length=0:=rfl;omega
  ·have:(wt []:Int)=0:=rfl;omega
 ·rintro m e _ _ _ ⟨G,h0,h1,h2,h3⟩;exact⟨G,h0,xw h1 rfl h1.fr,h2,by omega⟩
 ·rintro k0 m e i s z hs hz _ ⟨G,h0,h1,h2,h3⟩;have nk0:=h1.nk i s z hs hz;have qk0:=h1.qk i s z hs hz;have nk:=(nk0.kU m.now).1;have qk:=qk0.kU m.now;obtain⟨s',k1,k2⟩:=DK z m.now nk0.NU;have hd:=Uw z.Q m.now;have hq:=qk0.len;have hl:=h1.ci.len;rw[k2]at nk qk ⊢;have hfl:=ES k1;have hfr:s'.finish.freed.aL=s'.aL:=(aP s').aL;refine zk hB4 hs hz h1 h2 h0 vI k1 nk qk (λf hf=>by cases hf) (w:=13 * (St.kS z.Q m.now).length) ?_ ?_
  ·refine dH (QL _) ?_;rw[hfr];have:(z.locked.begin m.now).aL.length=0:=rfl;omega
  ·have:(wt []:Int)=0:=rfl;omega
 ·rintro k0 m e k f _ _ ⟨G,h0,h1,h2,h3⟩;exact⟨G,h0,xw h1 rfl λg hg=>h1.fr g (List.mem_of_mem_eraseIdx hg),h2,h3⟩
 ·rintro k0 m e k f s z hf hs hz _ ⟨G,h0,h1,h2,h3⟩;have hm:CM G {m with bO:=m.bO.eraseIdx k}:=xw h1 rfl λg hg=>h1.fr g (List.mem_of_mem_eraseIdx hg);have nk0:=h1.nk f.2.1 s z hs hz;have qk0:=h1.qk f.2.1 s z hs hz;have nk:=(nk0.rcv m.now (m.at' f.1).addr (aI f.2.2) (ou _)).1;have qk:=qk0.rcv m.now (m.at' f.1).addr (aI f.2.2);have hk:∃n c s',n<=23∧Qj G m.S z.me c∧fQ c n (z.locked.begin m.now) s'∧z.rcv m.now (m.at' f.1).addr (aI f.2.2)=s'.finish.freed:=by
   by_cases hb:vG (aI f.2.2)=false∨(m.at' f.1).addr=0∨(m.at' f.1).addr=z.me
   ·refine⟨1,none,(z.locked.begin m.now).drop 0,by omega,vI,fJ none _ 0,?_⟩;show((z.locked.begin m.now).hear _ _).finish.freed=_;have hb':vG (aI f.2.2)=false∨(m.at' f.1).addr=0∨(m.at' f.1).addr=(z.locked.begin m.now).me:=hb;unfold St.hear;rw[aQ hb']
   ·have hb':=hb;simp only[not_or]at hb';have hF:vG (aI f.2.2)=true:=by simpa using hb'.1
    refine⟨_,_,_,?_,aaU h1 h0 (h1.fr f (gG hf)) hF hb'.2.1 hb'.2.2,Gp (z.locked.begin m.now) (m.at' f.1).addr (aI f.2.2) (λq hq=>(nk0.NU q hq).1) (Ir z.A m.now),rfl⟩;have:=Xx hF;unfold lsX at this;omega
  obtain⟨n,c,s',hn,hc,k1,k2⟩:=hk;rw[k2]at nk qk ⊢;have hfl:=ES k1;have hfr:s'.finish.freed.aL=s'.aL:=(aP s').aL;refine zk (m:={m with bO:=m.bO.eraseIdx k}) hB4 hs hz hm h2 h0 hc k1 nk qk (λf hf=>by cases hf) (w:=n) ?_ ?_
  ·refine dH (QL _) ?_;rw[hfr];have:(z.locked.begin m.now).aL.length=0:=rfl;omega
  ·have:(wt []:Int)=0:=rfl;omega
 ·rintro k0 m e k f hf _ ⟨G,h0,h1,h2,h3⟩;refine⟨G,h0,xw h1 rfl λg hg=> ?_,h2,h3⟩;have ha:∀g∈m.bO++ [f],yV G m.S g.1 g.2.2:=λg hg=>by
   rcases eu.1 hg with hg|hg
   ·exact h1.fr g hg
   ·rw[eZ]at hg;subst hg;exact h1.fr g (gG hf)
  have hg':g∈(m.launch f).bO:=hg;unfold aS.launch at hg';dsimp only at hg';split at hg'
  ·exact ha g (List.mem_of_mem_tail hg')
  ·exact ha g hg'
 ·rintro k0 m e k f n hf _ _ ⟨G,h0,h1,h2,h3⟩;refine⟨G,h0,xw h1 rfl λg hg=> ?_,h2,h3⟩;rcases List.mem_or_eq_of_mem_set hg with hg|rfl
  ·exact h1.fr g hg
  ·exact(h1.fr f (gG hf)).cut n
 ·intro k0 m e a b s z _ _ _ h8 _;exact absurd h8 ho
 ·rintro k0 m e a s hs ⟨G,h0,h1,h2,h3⟩;have l:lZ s s.stop:=F5 (h1.ji a s hs) (λu hu y hy=>((h1.ci.nd a s u hs hu).2.2.2 y hy).1) rfl rfl λd v h=>h;have j:=h1.ji a s hs;exact⟨G,h0,A9 h1 (eY _) hs l (h1.ci.set (eY _) hs l λz hz=>by cases hz) ⟨j.rc,λz hz=>(by cases hz),λz hz=>(by cases hz),λz hz=>(by cases hz),λz hz=>(by cases hz),λz hz=>(by cases hz)⟩ (λz hz=>by cases hz),h2.set hs l,h3⟩
 ·intro k0 m e a s n hs h;exact hsame k0 m e a s _ hs rfl rfl rfl h
 ·rintro k0 m e a s hs hz ⟨G,h0,h1,h2,h3⟩;obtain⟨a1,a2,a3,a4⟩:=PW hs hz h1.ci (h1.ji a s hs) h0 (by omega) m.now;obtain⟨nk,hf0⟩:=JW s.addr s.bn m.now;refine ZG hs h1 h2 h0 (by omega) a3 a4 (by rw[hf0];exact λf hf=>by cases hf) a1 a2 nk (Rs _ _ _ _) (λf hf=>by cases hf) ?_;rw[hf0];have:(wt []:Int)=0:=rfl;omega
theorem CM.step(h:CM G m)(hG0:0<=G)(hG:G+2800<4294967295)(hfl:∀f∈m.bO,f.2.1<m.S.length)(o:Op)(ho:o.dX≠8):∃G',0<=G'∧G'<=G+2800∧CM G' (m.step o).1∧QG m.S (m.step o).1.S:=by
 obtain⟨G',h0,h1,h2,h3⟩:=zG (YF m.S (B:=G+2800) (by omega) o ho) (e:=[]) hfl (n:=7) (by have:=h.ci.len;omega) ⟨G,hG0,h,QG.refl _,by omega⟩;exact⟨G',h0,by omega,h1,h2⟩
theorem CX:∀ {L:List Int},L.Nodup->∀(i j:Nat) (a:Int),L[i]?=some a->L[j]?=some a->i=j
 | [],_,_,_,_,h,_=>by cases h
 |x::L,hn,i,j,a,hi,hj=>by
  rw[List.nodup_cons]at hn;cases i with
  |zero=>
   cases j with
   |zero=>rfl
   |succ j=>
    cases hi;exact absurd (gG (show L[j]?=some x from hj)) hn.1
  |succ i=>
   cases j with
   |zero=>
    cases hj;exact absurd (gG (show L[i]?=some x from hi)) hn.1
   |succ j=>rw[CX hn.2 i j a hi hj]
theorem abW{L:List Int}(hn:L.length<=6)(hU:∀a∈L,bB a)(h0:∀a∈L,a≠0)(hd:L.Nodup):CM 1 (aS.new L):=by
 have hst:∀(i:Nat) s,(aS.new L).S[i]?=some s->∃a,L[i]?=some a∧s=F4 a:=by
  intro i s hs;have h1:(L.map F4)[i]?=some s:=hs;rw[kr]at h1;cases ha:L[i]? with
  |none=>rw[ha]at h1;cases h1
  |some a=>rw[ha]at h1;exact⟨a,rfl,(Option.some.inj h1).symm⟩
 have hnd:∀a z,(F4 a).nd=some z->z.A=[]∧z.seq=1∧z.me=a∧(z.f=λ_=>none)∧z.own=1∧z=St.new a [] 0:=by
  intro a z hz;cases hz;exact⟨rfl,rfl,rfl,rfl,rfl,rfl⟩
 have hnw:∀a,(St.new a [] 0).bA=[(true,0,1)]:=λa=>rfl;refine⟨⟨by rw[Eo];exact hn,λs hs=> ?_,λi j s t hs ht e=> ?_,λi s z hs hz=> ?_⟩,λi s hs=> ?_,λf hf=>(by cases hf),(Un hn hU h0).2,λi s z hs hz=> ?_⟩
 ·obtain⟨i,hi⟩:=List.getElem?_of_mem hs;obtain⟨a,ha,rfl⟩:=hst i s hi;exact⟨hU a (gG ha),h0 a (gG ha)⟩
 ·obtain⟨a,ha,rfl⟩:=hst i s hs;obtain⟨b,hb,rfl⟩:=hst j t ht;have e':a=b:=e;subst e';exact CX hd i j a ha hb
 ·obtain⟨a,ha,rfl⟩:=hst i s hs;obtain⟨e1,e2,e3,_⟩:=hnd a z hz;rw[e1,e2,e3];exact⟨rfl,by omega,List.Pairwise.nil,λy hy=>(by cases hy)⟩
 ·obtain⟨a,ha,rfl⟩:=hst i s hs;have hj:jl (F4 a).bn=[(true,0,1)]:=by
   show jl (bE (St.new a [] 0).bA)=_;rw[hnw,wQ];rfl
  refine⟨λr hr=> ?_,λz hz=>⟨_,rfl⟩,λz hz d v e=> ?_,λz hz d v e=> ?_,λz hz=> ?_,λz hz y hy=> ?_⟩
  ·rw[hj,eZ]at hr;subst hr;exact⟨by dsimp only;omega,λh=>(by cases h)⟩
  ·obtain⟨_,_,_,e4,_⟩:=hnd a z hz;rw[e4]at e;cases e
  ·obtain⟨_,_,_,e4,_⟩:=hnd a z hz;rw[e4]at e;cases e
  ·obtain⟨_,_,_,_,e5,_⟩:=hnd a z hz;rw[e5];omega
  ·obtain⟨e1,_⟩:=hnd a z hz;rw[e1]at hy;cases hy
 ·obtain⟨a,ha,rfl⟩:=hst i s hs;obtain⟨_,_,_,_,_,e6⟩:=hnd a z hz;rw[e6];exact Rs _ _ _ _
open Go.RowKit Go.Maps
variable{L:List (Rt×Value)}{W:World}
theorem uV{k:Nat}{o:Obj}(h:W.heap[k]?=some o):k<W.heap.size:=(gZ.1 h).1
theorem TJ{P:Prop}(h:P):Hid P:=h
def QA(a b:Rt):Bool:=decide (rk a>rk b)||(decide (rk a=rk b)&&decide (a.hops<b.hops))
theorem C_(x:Rt)(ao:Option Addr)(n c:Nat)(hx:x.Ok)(w:World):Calls Tryz.prog 39 #[.agg #[.int .u32 x.dest,.int .u32 x.seq,.int .i64 x.hops,.int .u32 x.next,.bool x.valid,.int .u64 x.exp,.slice ao n c]] w λe w'=>e=.returned (.int .i64 (rk x))∧Below w.heap.size w w':=by
 have hq:=hx.seq;unfold bB at hq;obtain⟨d,q,hp,nx,vl,ex,bf⟩:=x;dsimp only at hq ⊢;have hb:Below w.heap.size w (w.alloc (.cells #[.int .u32 d,.int .u32 q,.int .i64 hp,.int .u32 nx,.bool vl,.int .u64 ex,.slice ao n c] 38)):=bq;obtain⟨h0,h1⟩:=hq;clear hx;cases vl with
 |true=>
  go_enter Tryz.func39,Tryz.ntmps39;go_wp2;go_ret;exact⟨rfl,hb⟩
 |false=>
  go_enter Tryz.func39,Tryz.ntmps39;go_wp2;go_ret;exact⟨rfl,hb⟩
theorem acG{x:Rt}(hx:x.Ok):-1<=rk x∧rk x<=4294967295:=by
 have hq:=hx.seq;unfold bB at hq;unfold rk;split<;>omega
theorem Aj(x z:Rt)(ao bo:Option Addr)(n c n' c':Nat)(hx:x.Ok)(hz:z.Ok)(w:World):Calls Tryz.prog 15 #[.agg #[.int .u32 x.dest,.int .u32 x.seq,.int .i64 x.hops,.int .u32 x.next,.bool x.valid,.int .u64 x.exp,.slice ao n c],.agg #[.int .u32 z.dest,.int .u32 z.seq,.int .i64 z.hops,.int .u32 z.next,.bool z.valid,.int .u64 z.exp,.slice bo n' c']] w λe w'=>e=.returned (.bool (QA x z))∧Below w.heap.size w w':=by
 have R1:=TJ λW=>C_ x ao n c hx W;have R2:=TJ λW=>C_ z bo n' c' hz W;obtain⟨a,ha⟩:∃a,rk x=a:=⟨_,rfl⟩;obtain⟨b,hb⟩:∃b,rk z=b:=⟨_,rfl⟩;have he:Hid (QA x z=(decide (a>b)||(decide (a=b)&&decide (x.hops<z.hops)))):=TJ (by unfold QA;rw[ha,hb]);rw[ha]at R1;rw[hb]at R2;have b1:=acG hx;have b2:=acG hz;rw[ha]at b1;rw[hb]at b2;rw[he.out];obtain⟨d,q,hp,nx,vl,ex,bf⟩:=x;obtain⟨d',q',hp',nx',vl',ex',bf'⟩:=z;dsimp only at R1 R2 ⊢;clear hx hz ha hb he;have hb0:Below w.heap.size w ((w.alloc (.cells #[.int .u32 d,.int .u32 q,.int .i64 hp,.int .u32 nx,.bool vl,.int .u64 ex,.slice ao n c] 38)).alloc (.cells #[.int .u32 d',.int .u32 q',.int .i64 hp',.int .u32 nx',.bool vl',.int .u64 ex',.slice bo n' c'] 38)):=(bq).alloc (by simp) _;go_enter Tryz.func15,Tryz.ntmps15;go_wp2_with fail;have a0:=bS w (.cells #[.int .u32 d,.int .u32 q,.int .i64 hp,.int .u32 nx,.bool vl,.int .u64 ex,.slice ao n c] 38);obtain⟨w1,hw1⟩:∃w1,w.alloc (.cells #[.int .u32 d,.int .u32 q,.int .i64 hp,.int .u32 nx,.bool vl,.int .u64 ex,.slice ao n c] 38)=w1:=⟨_,rfl⟩;have hz1:w1.heap.size=w.heap.size+1:=by rw[<-hw1];simp
 rw[hw1]at hb0 a0 ⊢;have b0:=bS w1 (.cells #[.int .u32 d',.int .u32 q',.int .i64 hp',.int .u32 nx',.bool vl',.int .u64 ex',.slice bo n' c'] 38);have a1:=((aV w1.heap.size w1).alloc (aD _) (.cells #[.int .u32 d',.int .u32 q',.int .i64 hp',.int .u32 nx',.bool vl',.int .u64 ex',.slice bo n' c'] 38)).block w.heap.size (by omega);generalize w1.alloc _=w2 at hb0 a1 b0 ⊢;rw[a0]at a1;rw[hz1]at b0;clear hw1 a0 hz1;refine aU (R1.out _) ?_;rintro e w3 ⟨rfl,h3⟩;have a3:=(h3.block _ (uV a1)).trans a1;have b3:=(h3.block _ (uV b0)).trans b0;have hb3:=hb0.trans (h3.mono hb0.size);clear h3 a1 b0 hb0 R1;have p0:=aH _ _ 0 _ _ _ b3;have p1:=aH _ _ 1 _ _ _ b3;have p2:=aH _ _ 2 _ _ _ b3;have p3:=aH _ _ 3 _ _ _ b3;have p4:=aH _ _ 4 _ _ _ b3;have p5:=aH _ _ 5 _ _ _ b3;have p6:=aH _ _ 6 _ _ _ b3;simp only[List.getElem?_toArray,List.getElem?_cons_succ,List.getElem?_cons_zero]at p0 p1 p2 p3 p4 p5 p6;go_wp2_with fail;refine aU (R2.out _) ?_;rintro e w4 ⟨rfl,h4⟩;have a4:=(h4.block _ (uV a3)).trans a3;have b4:=(h4.block _ (uV b3)).trans b3;have hb4:=hb3.trans (h4.mono hb3.size);clear h4 a3 b3 hb3 R2 p0 p1 p2 p3 p4 p5 p6;have q2:=aH _ _ 2 _ _ _ a4;have p2:=aH _ _ 2 _ _ _ b4;simp only[List.getElem?_toArray,List.getElem?_cons_succ,List.getElem?_cons_zero]at q2 p2;clear a4 b4;go_wp2;all_goals
  go_ret;refine⟨?_,hb4⟩;clear hb4 q2 p2;have key:∀x y:Bool,(x=true ↔ y=true)->Ending.returned (.bool x)=Ending.returned (.bool y):=λx y h=>by rw[Bool.eq_iff_iff.2 h]
  refine key _ _ ?_;simp only[Bool.or_eq_true,fF,jg]<;>omega
theorem vE{b g c:Nat}(h:oo b (.slice (some ⟨g,0,none⟩) L.length c) L W){k:Nat}{x:Rt}{v:Value}(hp:L[k]?=some (x,v)):∃(ao:Option Addr) (cb:Nat),v=.slice ao x.bH.length cb∧W.cell? ⟨g,k * 7,none⟩=some (.int .u32 x.dest)∧W.cell? ⟨g,k * 7+1,none⟩=some (.int .u32 x.seq)∧W.cell? ⟨g,k * 7+2,none⟩=some (.int .i64 x.hops)∧W.cell? ⟨g,k * 7+3,none⟩=some (.int .u32 x.next)∧W.cell? ⟨g,k * 7+4,none⟩=some (.bool x.valid)∧W.cell? ⟨g,k * 7+5,none⟩=some (.int .u64 x.exp)∧W.cell? ⟨g,k * 7+6,none⟩=some (.slice ao x.bH.length cb):=by
 have hk:=(eB.1 hp).1;obtain⟨ao,cb,hv,_⟩:=ak (h.bH _ (gG hp));dsimp only at hv;subst hv;have hc:∀i,i<7->∀u,(rtC (x,.slice ao x.bH.length cb))[i]?=some u->W.cell? ⟨g,k * 7+i,none⟩=some u:=λi hi u hu=>(h.row.cellAt (k * 7+i) (by omega)).trans ((U4 hp hi).trans hu);exact⟨ao,cb,rfl,hc 0 (by decide) _ rfl,hc 1 (by decide) _ rfl,hc 2 (by decide) _ rfl,hc 3 (by decide) _ rfl,hc 4 (by decide) _ rfl,hc 5 (by decide) _ rfl,hc 6 (by decide) _ rfl⟩
theorem Da{bb:Nat}{v:Value}{w:World}(h:oo bb v L w)(ha:Asc (L.map (·.1)))(d:Int){x:Rt}(hl:aJ (L.map (·.1)) d=some x)(h8:L.length<=1000):Calls Tryz.prog 14 #[v,.int .u32 d] w λe w'=>∃(ao:Option Addr) (n c:Nat),e=.returned (.tuple #[.agg #[.int .u32 x.dest,.int .u32 x.seq,.int .i64 x.hops,.int .u32 x.next,.bool x.valid,.int .u64 x.exp,.slice ao n c],.bool true])∧Below w.heap.size w w':=by
 obtain⟨h1,hd⟩:=OT ha hl;obtain⟨p,hp⟩:∃p,pos (L.map (·.1)) d=p:=⟨_,rfl⟩;have hlt:=Ea (L.map (·.1)) d;rw[hp]at h1 hlt;rw[kr]at h1;obtain⟨u,hu⟩:∃u,L[p]?=some (x,u):=by
  cases e:L[p]? with
  |none=>rw[e]at h1;cases h1
  |some q=>rw[e]at h1;cases h1;exact⟨q.2,rfl⟩
 have hpl:=(eB.1 hu).1;obtain⟨g,c,rfl,_⟩:=bV h.row (by omega);have hb:Below w.heap.size w (w.alloc (.cells #[.int .u32 0,.int .u32 0,.int .i64 0,.int .u32 0,.bool false,.int .u64 0,.slice none 0 0] 38)):=bq;have hfin:Hid (∀ao n' c',Below w.heap.size w (w.alloc (.cells #[.int .u32 x.dest,.int .u32 x.seq,.int .i64 x.hops,.int .u32 x.next,.bool x.valid,.int .u64 x.exp,.slice ao n' c'] 38))):=TJ λao n' c'=>bq;have h':=h.later hb;replace h':=TJ h';clear h hp hb hl;go_enter Tryz.func14,Tryz.ntmps14;go_wp2_with fail;go_loop [6] (λi=>∃k:Nat,k<=p∧i=.int .i64 k) (λi=>p+1 - (intOf i).toNat)
 case atStart=>exact⟨0,dh _,rfl⟩
 case round=>
  obtain⟨k,hk,rfl⟩:=hrel;have hki:(k:Int)<(L.length:Int):=by omega
  by_cases he:k=p
  ·subst he;obtain⟨ao,cb,rfl,k0,k1,k2,k3,k4,k5,k6⟩:=vE h'.out hu;clear h' hlt ha hk;go_wp2_with fail;exact bodyPost_ret (v:=.tuple #[.agg #[.int .u32 d,.int .u32 x.seq,.int .i64 x.hops,.int .u32 x.next,.bool x.valid,.int .u64 x.exp,.slice ao x.bH.length cb],.bool true]) (by simp[results,Tryz.results14,go_sem]) rfl ⟨⟨ao,_,cb,rfl⟩,by have:=hfin.out ao x.bH.length cb;rwa [hd]at this⟩
  ·obtain⟨z,hz,hzd⟩:=hlt k (by omega);rw[kr]at hz;obtain⟨v,hv⟩:∃v,L[k]?=some (z,v):=by
    cases e:L[k]? with
    |none=>rw[e]at hz;cases hz
    |some q=>rw[e]at hz;cases hz;exact⟨q.2,rfl⟩
   obtain⟨ao,cb,rfl,k0,k1,k2,k3,k4,k5,k6⟩:=vE h'.out hv;have hne:(z.dest==d)=false:=by simp;omega
   clear h' hlt ha;go_wp2;go_round
   case rel=>exact⟨k+1,by omega,by go_num⟩
   case measure=>simp[intOf];omega
end Go.Proofs.YtakaadcpaeiccabGreat
