import Derived.Test.YtakaadcpaeiccabGreatC66
namespace Go.Proofs.YtakaadcpaeiccabGreat
theorem FZ {G:Int} {S:List bi} {i:Nat} {A:List Rt}(h:∀y∈A,xD G S i y)(hG0:0≤G)(d:Int):0≤dY A d∧dY A d≤G:=by
 unfold dY;cases hl:aJ A d with
 |none=>exact⟨Int.le_refl _,hG0⟩
 |some y=>exact(h y(bN hl).1).sq
theorem RH {G:Int} {S:List bi} {i:Nat} {st:bi} {s:St} {c:mh} {p:ah} {L:List(Int×Int)}(hS:S[i]?=some st)(hz:st.nd=some s)(h:CI G S)(hc:Pt G S s.me c)(hG0:0≤G)(j:adO c s p L):Y9 G S i p L:=by
 obtain⟨hme,R9,hasc,hln⟩:=h.nd i st s hS hz;have Og:∀y∈s.A,xD G S i y:=fun y hy=>(hln y hy).1;have hself:∃t∈S,t.addr=st.addr:=⟨st,List.mem_of_getElem? hS,rfl⟩;have hlen:=h.len;have hn0:∀ {d:Int},(∃t∈S,t.addr=d)→d≠0:=fun⟨t,ht,e⟩=>e▸(h.Ik t ht).2;rcases j with⟨k,e1,e2,e3,e4,e5,e6⟩|⟨fr,q,K,hcq,kq,k,e1,e2,e3,e4,e5,e6,e7,e8⟩|⟨k,e1,e2,e3,e4⟩|⟨k,e1,y,hy,e2,e3,e4⟩|⟨fr,q,K,hcq,kq,k,e1,e2,e3,e4,e5,e6,e7⟩|⟨k,e1⟩|k
 ·refine⟨fun _=> ?_,fun h=>(by rw [k]at h;cases h),fun h=>(by rw [k]at h;cases h)⟩;have hd:p.aI=st.addr:=e1.trans hme;rw [hd];have:=Md(S:=S)p.dm p.hops hself;exact⟨hself,by omega,by rw [e5];exact R9,by rw [e6];exact FZ Og hG0 _,by omega,st,hS,.inl rfl⟩
 ·refine⟨fun _=> ?_,fun h=>(by rw [k]at h;cases h),fun h=>(by rw [k]at h;cases h)⟩;obtain⟨_,t1,q1,_,j,t,hj,ht,hf⟩:=hc fr q K hcq;obtain⟨f1,f2,f3,f4,f5,_⟩:=hf.k1 kq;have hcl:=JE S q.aI q.dm q.hops;have Jn:St.far q.hops=q.hops+1:=by unfold St.far;omega
  have hup:=TM S q.aI q.dm(show q.hops≤q.hops+1 by omega);rw [e1,e2]at e8;rw [e1,e2,e3,Jn];rw [e3,Jn]at e8;refine⟨f1,by omega,f3,?_,by omega,st,hS,.inr((e8(hn0 f1)).sG hz)⟩;rcases e7 with e7|e7
  ·rw [e7];exact f4
  ·rw [e7];exact FZ Og hG0 _
 ·refine⟨fun h=>(by rw [k]at h;cases h),fun _=> ?_,fun h=>(by rw [k]at h;cases h)⟩;have hd:p.dest=st.addr:=e1.trans hme;rw [hd];have:=Md(S:=S)p.aW p.hops hself;exact⟨hself,by omega,by rw [e4];exact R9,by omega,st,hS,.inl rfl⟩
 ·refine⟨fun h=>(by rw [k]at h;cases h),fun _=> ?_,fun h=>(by rw [k]at h;cases h)⟩;obtain⟨Gh,kD⟩:=bN hy;have hl:=Og y Gh;have hcnt:=hl.hc e2;rw [e3,e4,←kD];refine⟨hl.dest,hl.hp,hl.sq,by omega,st,hS,.inr ?_⟩;refine rJ.sG hz⟨y,by rw [kD];exact hy,.inr⟨?_,Int.le_refl _⟩⟩;unfold rk;rw [e2];rfl
 ·refine⟨fun h=>(by rw [k]at h;cases h),fun _=> ?_,fun h=>(by rw [k]at h;cases h)⟩;obtain⟨_,t1,q1,_,j,t,hj,ht,hf⟩:=hc fr q K hcq;obtain⟨f1,f2,f3,f5,_⟩:=hf.k2 kq;have hcl:=JE S q.dest q.aW q.hops;have Jn:St.far q.hops=q.hops+1:=by unfold St.far;omega
  have hup:=TM S q.dest q.aW(show q.hops≤q.hops+1 by omega);rw [e1,e2,e3,Jn]at e7;rw [e1,e2,e3,Jn];exact⟨f1,by omega,f3,by omega,st,hS,.inr((e7(hn0 f1)).sG hz)⟩
 ·refine⟨fun h=>(by rw [k]at h;cases h),fun h=>(by rw [k]at h;cases h),fun _ x hx=> ?_⟩;rcases e1 x hx with e|⟨y,hy,_,e2,e3⟩
  ·omega
  ·have:=(Og y hy).sq;omega
 ·exact⟨fun h=>(by rw [k]at h;cases h),fun h=>(by rw [k]at h;cases h),fun h=>(by rw [k]at h;cases h)⟩
theorem Ww(st:bi) {s:St}(hz:st.nd=some s): {st with nd:=some s}=st:=by
 cases st;cases hz;rfl
theorem V9 {G:Int} {S:List bi} {i:Nat} {st:bi} {s s':St} {c:mh}(hS:S[i]?=some st)(hz:st.nd=some s)(h:CI G S)(hc:Pt G S s.me c)(hG0:0≤G)(hG:G+1<4294967295)(hf:∀f∈s.aH,x_ G S i f.2)(k:Pr c s s'):
  kZ st {st with nd:=some s'}∧CI(G+1)(S.set i {st with nd:=some s'})∧∀f∈s'.aH,x_(G+1)(S.set i {st with nd:=some s'})i f.2:=by
 obtain⟨hme,R9,hasc,hln⟩:=h.nd i st s hS hz;have hsame:∀s':St,s'.A=s.A→s'.me=s.me→(0≤s'.seq∧s'.seq≤G+1)→kZ st {st with nd:=some s'}∧CI(G+1)(S.set i {st with nd:=some s'}):=by
  intro s' hA hm hq;have l:kZ st {st with nd:=some s'}:=Pf.sle(s':=s')(by rw [hA];exact Pf.refl _)hz;refine⟨l,h.set(by omega)hS l fun z hz'=> ?_⟩;cases hz';rw [hA];exact⟨hm.trans hme,hq,hasc,fun y hy=>⟨(hln y hy).1.set(by omega)hS l,(hln y hy).2⟩⟩
 have hfs:∀(s':St),kZ st {st with nd:=some s'}→∀f∈s.aH,x_(G+1)(S.set i {st with nd:=some s'})i f.2:=fun s' l f hf'=>(hf f hf').set(by omega)hS l;cases k with
 |xK e=>
  obtain⟨l,hci⟩:=hsame s' e.A e.me(by rw [e.seq];omega);exact⟨l,hci,by rw [e.aH];exact hfs s' l⟩
 |tab t=>
  obtain⟨l,ha,hl⟩:=Qc hS hz h hc hG0 hG t;exact⟨l,h.set(by omega)hS l fun z hz'=>by cases hz';exact⟨hme,by dsimp only;omega,ha,hl⟩,hfs _ l⟩
 |aI t p L hj hzz=>
  obtain⟨l,hci⟩:=hsame(s.send t p L)rfl rfl(by show 0≤s.seq∧s.seq≤G+1;omega);refine⟨l,hci,fun f hf'=> ?_⟩;rcases List.mem_append.1(show f∈s.aH++ [(t,strOfNums(mF p L))]from hf')with hf'|hf'
  ·exact hfs _ l f hf'
  ·rw [List.mem_singleton]at hf';subst hf';exact(Xz(RH hS hz h hc hG0 hj)(fun s hs=>(h.Ik s hs).1)(by omega)hzz).set(by omega)hS l
 |grw=>
  obtain⟨l,hci⟩:=hsame {s with seq:=gr s.seq}rfl rfl(by show 0≤gr s.seq∧gr s.seq≤G+1;rw [lL R9.1(by omega)];omega);exact⟨l,hci,hfs _ l⟩
 |mx fr p L hc1=>
  obtain⟨_,_,k3,_⟩:=hc fr p L hc1;obtain⟨l,hci⟩:=hsame {s with seq:=max s.seq p.aW}rfl rfl(by show 0≤max s.seq p.aW∧max s.seq p.aW≤G+1;omega);exact⟨l,hci,hfs _ l⟩
 |wr=>
  obtain⟨l,hci⟩:=hsame s.write rfl rfl(by show 0≤s.seq∧s.seq≤G+1;omega);exact⟨l,hci,hfs _ l⟩
theorem nO(S:List bi)(i:Nat)(a b:bi):(S.set i a).set i b=S.set i b:=List.VO ..
theorem IQ {S:List bi} {i:Nat} {st:bi} {s s':St} {c:mh} {n:Nat}(k:fC c n s s'):∀ {G:Int} {J:mH},S[i]?=some st→st.nd=some s→CI G S→Pt G S s.me c→0≤G→G+n<4294967295→(∀f∈s.aH,x_ G S i f.2)→Jm G(Ay S st.addr)J s→
  Jm(G+n)(Ay S st.addr)J s'∧kZ st {st with nd:=some s'}∧CI(G+n)(S.set i {st with nd:=some s'})∧Pt(G+n)(S.set i {st with nd:=some s'})s'.me c∧∀f∈s'.aH,x_(G+n)(S.set i {st with nd:=some s'})i f.2:=by
 induction k with
 |nil n s=>
  intro G J hS hz h hc hG0 hG hf hj;have e:=Ww st hz;have l:kZ st {st with nd:=some s}:=by rw [e];exact kZ.refl st
  have hs:=Qn hS;refine⟨hj.up(by omega),l,h.set(by omega)hS l fun z hz'=> ?_,hc.set(by omega)hS l,fun f hf'=>(hf f hf').set(by omega)hS l⟩;cases hz';obtain⟨a,b,c,d⟩:=h.nd i st s hS hz;exact⟨a,by omega,c,fun y hy=>⟨(d y hy).1.set(by omega)hS l,(d y hy).2⟩⟩
 | @snoc n s s1 s2 k1 k2 ih=>
  intro G J hS hz h hc hG0 hG hf hj;obtain⟨j1,l1,c1,h1,f1⟩:=ih hS hz h hc hG0(by omega)hf hj;have hS1:(S.set i {st with nd:=some s1})[i]?=some {st with nd:=some s1}:=List.getElem?_set_self(List.getElem?_eq_some_iff.1 hS).1;obtain⟨l2,c2,f2⟩:=V9 hS1 rfl c1 h1(by omega)(by omega)f1 k2;have hm:s2.me=s1.me:=(fC.one k2).me;have h2:=h1.set(G':=G+n+1)(by omega)hS1 l2;rw [nO]at c2 f2 h2;have j2:=aca j1((Y0 c1 hS1 rfl).D fun d hd=>⟨hd.1,ng hS l1.addr hd.2⟩)k2;have e:G+(n:Int)+1=G+((n+1:Nat):Int):=by omega
  rw [e]at c2 f2 h2;exact⟨j2.up(by omega),l1.trans l2,c2,by rw [hm];exact h2,f2⟩
theorem JL {G:Int} {S:List bi} {i:Nat} {st:bi} {s:St}(hS:S[i]?=some st)(hz:st.nd=some s)(h:CI G S)(hG:G+1<4294967295)(now:Int)(hji:JI G(Ay S st.addr)st):
  Jm(G+1)(Ay S st.addr)(jl st.aY)(s.aQ.begin now)∧kZ st {st with nd:=some(s.aQ.begin now)}∧CI(G+1)(S.set i {st with nd:=some(s.aQ.begin now)}):=by
 obtain⟨hme,R9,hasc,hln⟩:=h.nd i st s hS hz;have hA:(s.aQ.begin now).A=s.A.map(og now):=rfl;have hl:∀y∈s.A,nI(rk(og now y),(og now y).hops)(rk y)y.hops=true∧xD(G+1)S i(og now y):=by
  intro y hy;have h2:=(hln y hy).1;have h3:=h2.sq;unfold og;split
  ·rename_i hv;have hv':y.valid=true:=by
    unfold JB at hv;simp only [Bool.and_eq_true]at hv;exact hv.1
   refine⟨L8 0 h3.1(by omega)hv',h2.ended rfl rfl rfl ?_⟩;show 0≤max(gr y.seq)0∧max(gr y.seq)0≤G+1;rw [lL h3.1(by omega)];omega
  ·exact⟨kV _ _,h2.up(by omega)⟩
 have l:kZ st {st with nd:=some(s.aQ.begin now)}:=Pf.sle(s':=s.aQ.begin now)(by rw [hA];exact Kr(fun y=>gF now y)fun y hy=>(hl y hy).1)hz;have hj0:Jm(G+1)(Ay S st.addr)(jl st.aY) {s.aQ with now:=now,A:=iG s.A now,a_:=[],aH:=[],aR:=[],aN:=[],aZ:=false}:=by
  refine⟨fun d v e=> ?_,fun r hr=>(by cases hr),fun d v e=> ?_,?_⟩
  ·have h1:=hji.fw s hz d v e;simpa using h1
  ·obtain⟨⟨y,hy,e1⟩,h2⟩:=hji.on s hz d v e;exact⟨⟨og now y,List.mem_map.2⟨y,hy,rfl⟩,(gF now y).trans e1⟩,h2.1,by omega⟩
  ·have:=hji.ow s hz;show 0≤s.own∧s.own≤G+1;omega
 have hlb:Lb(G+1)(Ay S st.addr) {s.aQ with now:=now,A:=iG s.A now,a_:=[],aH:=[],aR:=[],aN:=[],aZ:=false}:=by
  refine⟨fun y hy=> ?_,by show 0≤s.seq∧s.seq≤G+1;omega⟩;obtain⟨u,hu,rfl⟩:=List.mem_map.1(show y∈s.A.map(og now)from hy);have h3:=(hl u hu).2;exact⟨⟨by rw [gF];exact(hln u hu).2,h3.dest⟩,h3.sq⟩
 refine⟨(zu hj0 hlb).1,l,h.set(by omega)hS l fun z hz'=> ?_⟩;cases hz';rw [hA];refine⟨hme,by show 0≤s.seq∧s.seq≤G+1;omega,?_,fun y hy=> ?_⟩
 ·unfold Asc;rw [List.pairwise_map];refine hasc.imp fun {a b}hab=> ?_;rw [gF,gF];exact hab
 ·obtain⟨u,hu,rfl⟩:=List.mem_map.1 hy;exact⟨(hl u hu).2.set(Int.le_refl _)hS l,by rw [gF];exact(hln u hu).2⟩
theorem O5 {G:Int} {S:List bi} {i:Nat} {st:bi} {s s':St} {c:mh} {n:Nat} {now:Int}(hS:S[i]?=some st)(hz:st.nd=some s)(h:CI G S)(hc:Pt G S s.me c)(hG0:0≤G)(hG:G+n+1<4294967295)(hji:JI G(Ay S st.addr)st)(k:fC c n(s.aQ.begin now)s'):
  JF(G+n+1)(Ay S st.addr)(jl st.aY)s'.finish.freed∧kZ st {st with nd:=some s'.finish.freed}∧CI(G+n+1)(S.set i {st with nd:=some s'.finish.freed})∧∀f∈s'.finish.freed.aH,x_(G+n+1)(S.set i {st with nd:=some s'.finish.freed})i f.2:=by
 obtain⟨j1,l1,c1⟩:=JL hS hz h(by omega)now hji;have hS1:(S.set i {st with nd:=some(s.aQ.begin now)})[i]?=some {st with nd:=some(s.aQ.begin now)}:=List.getElem?_set_self(List.getElem?_eq_some_iff.1 hS).1;have h1:=hc.set(G':=G+1)(by omega)hS l1;have j1':Jm(G+1)(Ay(S.set i {st with nd:=some(s.aQ.begin now)})st.addr)(jl st.aY)(s.aQ.begin now):=⟨j1.fw,fun r hr=>⟨(j1.rc r hr).1,fun e=>⟨((j1.rc r hr).2 e).1,fP hS l1.addr((j1.rc r hr).2 e).2⟩⟩,j1.on,j1.ow⟩;obtain⟨j2,l2,c2,_,f2⟩:=IQ k hS1 rfl c1 h1(by omega)(by omega)(fun f hf=>by cases hf)j1';dsimp only at l2 c2 f2 j2;rw [nO]at c2 f2;have hS2:(S.set i {st with nd:=some s'})[i]?=some {st with nd:=some s'}:=List.getElem?_set_self(List.getElem?_eq_some_iff.1 hS).1;have e:=aO s';have hA:s'.finish.freed.A=s'.A:=e.A;have l3:kZ {st with nd:=some s'} {st with nd:=some s'.finish.freed}:=Pf.sle(st:={st with nd:=some s'})(s:=s')(s':=s'.finish.freed)(by rw [hA];exact Pf.refl _)rfl;have e2:G+1+(n:Int)=G+n+1:=by omega
 rw [e2]at c2 f2 j2;have PM:JF(G+n+1)(Ay S st.addr)(jl st.aY)s'.finish.freed:=by
  refine RJ(BZ(s:=s')⟨j2.fw,fun r hr=>⟨(j2.rc r hr).1,fun e=>⟨((j2.rc r hr).2 e).1,ng hS l1.addr((j2.rc r hr).2 e).2⟩⟩,j2.on,j2.ow⟩((Y0 c2 hS2 rfl).D fun d hd=>⟨hd.1,ng hS(l1.trans l2).addr hd.2⟩)(.inl((Mc k).2.trans rfl))(by omega))
 have c3:=c2.set(Int.le_refl _)hS2 l3 fun z hz'=>by
  cases hz';obtain⟨a,b,c,d⟩:=c2.nd i _ s' hS2 rfl;rw [hA];refine⟨(show s'.finish.freed.me=s'.me from e.me).trans a,by rw [show s'.finish.freed.seq=s'.seq from e.seq];exact b,c,fun y hy=>⟨(d y hy).1.set(Int.le_refl _)hS2 l3,(d y hy).2⟩⟩
 rw [nO]at c3;refine⟨PM,(l1.trans l2).trans l3,c3,fun f hf=> ?_⟩;rw [show s'.finish.freed.aH=s'.aH from e.aH]at hf;have:=(f2 f hf).set(Int.le_refl _)hS2 l3;rw [nO]at this;exact this
theorem Jf:∀(l T:List Int),l.Nodup→(∀a∈l,a∈T)→l.length≤T.length
 | [],_,_,_=>Nat.zero_le _
 |a::l,T,hn,hs=>by
  obtain⟨h1,h2⟩:=List.nodup_cons.1 hn;have ha:=hs a List.mem_cons_self;have:=Jf l(T.erase a)h2 fun b hb=>(List.xN fun e=>h1(by rw [←e];exact hb)).2(hs b(List.mem_cons_of_mem _ hb));rw [List.length_erase_of_mem ha]at this;have:=List.mQ ha;rw [List.length_cons];omega
theorem K5(me:Int)(f:Int→Option Int):∀(ss:List Int)(A:List Rt),A.length+ss.length≤8→(∀a∈ss,a≠me)→(fV f ss).foldl(UT me)A=A++ss.map fun a=>xM(false,a,(f a).getD 0)
 | [],A,_,_=>by simp [fV]
 |a::ss,A,hl,hm=>by
  rw [List.length_cons]at hl;have h1:UT me A(false,a,(f a).getD 0)=A++ [xM(false,a,(f a).getD 0)]:=by
   unfold UT AC;have:a≠me:=hm a List.mem_cons_self;rw [if_pos(by simp [this];omega)]
  show(fV f ss).foldl(UT me)(UT me A(false,a,(f a).getD 0))=_;rw [h1,K5 me f ss _(by rw [List.length_append,List.length_singleton];omega)fun b hb=>hm b(List.mem_cons_of_mem _ hb),List.append_assoc];rfl
theorem Wt(me:Int)(f:Int→Option Int)(c:Option Int)(ss:List Int)(hl:ss.length≤8)(hm:∀a∈ss,a≠me):tY me(dw c++fV f ss)=ss.map fun a=>xM(false,a,(f a).getD 0):=by
 unfold tY;rw [List.foldl_append];have h1:(dw c).foldl(UT me) []=[]:=by
  cases c with
  |none=>rfl
  |some v=>rfl
 rw [h1,K5 me f ss [](by simpa using hl)hm,List.nil_append]
theorem TP {J:mH}(h:∀r∈J,0≤r.2.2):∀(f:Int→Option Int)(c:Option Int)(o:mH),iw f c o→iw(J.foldl gJ f)(J.foldl kQ c)(J.foldl(fun o r=>yU o(norm r))o):=by
 induction J with
 |nil=>intro f c o h;exact h
 |cons y J ih=>
  intro f c o hc;simp only [List.foldl_cons];exact ih(fun z hz=>h z(List.mem_cons_of_mem _ hz))_ _ _(hc.put y(h y List.mem_cons_self))
theorem O7 {G:Int} {S:List bi} {i:Nat} {st:bi}(hS:S[i]?=some st)(hz:st.nd=none)(h:CI G S)(hj:JI G(Ay S st.addr)st)(hG0:0≤G)(hG:G+1<4294967295)(now:Int):
  JF(G+1)(Ay S st.addr)(jl st.aY)(St.new st.addr st.aY now)∧((St.new st.addr st.aY now).aZ=false→∃L,st.aY=bn L)∧kZ st {st with nd:=some(St.new st.addr st.aY now)}∧CI(G+1)(S.set i {st with nd:=some(St.new st.addr st.aY now)}):=by
 obtain⟨z0,hz0⟩:∃z0,St.raw st.addr st.aY now=z0:=⟨_,rfl⟩;have e0:=aO z0;have hnew:St.new st.addr st.aY now=z0.finish:=by rw [St.tC,hz0]
 have hbd:=I_(D:=Ay S st.addr)(G:=G)(jl st.aY)(fun _=>none)(fun d v h=>by cases h)hj.rc;obtain⟨ss,hss,hmem,hcmp⟩:iw(lU(jl st.aY))(qb(jl st.aY))(cmpL(jl st.aY)):=TP(fun r hr=>(hj.rc r hr).1.1)_ _ _ iw.nil;have hD:∀a∈ss,Ay S st.addr a∧∃v,lU(jl st.aY)a=some v∧0≤v∧v≤G:=fun a ha=>by
  obtain⟨v,hv⟩:=Option.isSome_iff_exists.1((hmem a).1 ha);have:=hbd a v hv;exact⟨this.1,v,hv,this.2⟩
 have hl8:ss.length≤8:=by
  have h1:=Jf ss(S.map(·.addr))(hss.imp fun hab=>by omega)fun a ha=>by
   obtain⟨t,ht,e⟩:=(hD a ha).1.2;exact List.mem_map.2⟨t,ht,e⟩
  rw [List.length_map]at h1;have:=h.len;omega
 have hA:z0.A=ss.map fun a=>xM(false,a,(lU(jl st.aY)a).getD 0):=by
  rw [←hz0];show tY st.addr(cmpL(jl st.aY))=_;rw [hcmp];exact Wt _ _ _ _ hl8 fun a ha=>(hD a ha).1.1
 have Sy:∀y∈z0.A,∃a v,a∈ss∧lU(jl st.aY)a=some v∧(0≤v∧v≤G)∧y.dest=a∧y.seq=v+1∧y.hops=0∧y.valid=false:=by
  intro y hy;rw [hA]at hy;obtain⟨a,ha,rfl⟩:=List.mem_map.1 hy;obtain⟨_,v,hv,hb⟩:=hD a ha;refine⟨a,v,ha,hv,hb,rfl,?_,rfl,rfl⟩;show gr((lU(jl st.aY)a).getD 0)=v+1;rw [hv];exact lL(s:=v)hb.1(by omega)
 have hasc:Asc z0.A:=by
  rw [hA];unfold Asc;rw [List.pairwise_map];exact hss.imp fun hab=>hab
 have hseq:z0.seq=gr((qb(jl st.aY)).getD 0):=by rw [←hz0];rfl
 have hob:=QT hG0(jl st.aY)none⟨Int.le_refl _,hG0⟩fun r hr=>(hj.rc r hr).1;have R9:0≤z0.seq∧z0.seq≤G+1:=by
  rw [hseq];have:(qb(jl st.aY)).getD 0=((jl st.aY).foldl kQ none).getD 0:=rfl;rw [lL(by omega)(by omega)];omega
 have hme:z0.me=st.addr:=by rw [←hz0];rfl
 have l:kZ st {st with nd:=some z0.finish}:=by
  refine⟨rfl,fun d q h' _ e=> ?_⟩;unfold sG at e ⊢;have hvr:vr st d=(lU(jl st.aY)d).map fun q=>(q,0):=by unfold vr;rw [hz]
  rw [hvr]at e;rw [vE(st:={st with nd:=some z0.finish})rfl,e0.A];cases hd:lU(jl st.aY)d with
  |none=>rw [hd]at e;cases e
  |some v=>
   rw [hd]at e;have hin:d∈ss:=(hmem d).2(by rw [hd];rfl);have hy:xM(false,d,(lU(jl st.aY)d).getD 0)∈z0.A:=by
    rw [hA];exact List.mem_map.2⟨d,hin,rfl⟩
   have hl:=jm hasc hy;have hb:=(hbd d v hd).2;rw [show aJ z0.A d=some(xM(false,d,(lU(jl st.aY)d).getD 0))from hl,hd];have e':nI(v,0)q h'=true:=e;show nI(gr v - 1,0)q h'=true;rw [lL hb.1(by omega),show v+1 - 1=v by omega];exact e'
 have hlb:Lb(G+1)(Ay S st.addr)z0:=by
  refine⟨fun y hy=> ?_,R9⟩;obtain⟨a,v,ha,hv,hb,e1,e2,_⟩:=Sy y hy;rw [e1,e2];exact⟨(hD a ha).1,by omega,by omega⟩
 have hjm:Jm(G+1)(Ay S st.addr) []z0:=by
  rw [←hz0];exact⟨fun d v e=>(by cases e),fun r hr=>(by cases hr),fun d v e=>(by cases e),by show(0:Int)≤0∧(0:Int)≤G+1;omega⟩
 have PM:=BZ hjm hlb(.inr rfl)(by omega);have hrep:st.aY≠ []→z0.finish.aZ=true:=by
  intro hne;have hr:z0.aZ=true:=by
   rw [←hz0];show decide(st.aY≠ [])=true;simpa using hne
  unfold St.finish;split
  ·rfl
  ·exact hr
 rw [hnew];refine⟨?_,fun hr=>⟨[],?_⟩,l,h.set(by omega)hS l fun z hz'=> ?_⟩
 ·by_cases hne:st.aY=[]
  ·rw [hne];exact PM
  ·refine⟨fun d v e=> ?_,PM.rc,PM.on,PM.ow,PM.ln⟩;have h1:=PM.fw d v e;rw [hrep hne]at h1 ⊢;exact h1
 ·refine Classical.byContradiction fun hne=> ?_;rw [hrep hne]at hr;cases hr
 ·cases hz';rw [e0.A,e0.me,e0.seq];refine⟨hme,R9,hasc,fun y hy=> ?_⟩;obtain⟨a,v,ha,hv,hb,e1,e2,e3,e4⟩:=Sy y hy;refine⟨⟨?_,by omega,by omega,fun h=>(by rw [e4]at h;cases h),fun h=>(by rw [e4]at h;cases h)⟩,by rw [e1];exact(hD a ha).1.1⟩;rw [e1];exact fP(s':={st with nd:=some z0.finish})hS rfl(hD a ha).1.2
structure QK(S:List bi)(z:St):Prop where
 nd:(z.Q.map(·.dest)).Nodup
 on:∀q∈z.Q,∃t∈S,t.addr=q.dest
theorem QK.len {S:List bi} {z:St}(h:QK S z):z.Q.length≤S.length:=by
 have:=Jf(z.Q.map(·.dest))(S.map(·.addr))h.nd fun a ha=>by
  obtain⟨q,hq,rfl⟩:=List.mem_map.1 ha;obtain⟨t,ht,e⟩:=h.on q hq;exact List.mem_map.2⟨t,ht,e⟩
 rw [List.length_map,List.length_map]at this;exact this
theorem QK.sub {S:List bi} {z z':St}(h:QK S z)(hs:(z'.Q.map(·.dest)).Sublist(z.Q.map(·.dest))):QK S z':=by
 refine⟨List.Pairwise.sublist hs h.nd,fun q hq=> ?_⟩;have:=hs.subset(List.mem_map.2⟨q,hq,rfl⟩);obtain⟨u,hu,e⟩:=List.mem_map.1 this;rw [←e];exact h.on u hu
theorem yI(Q:List Sr)(q:Sr):(St.di Q q).map(·.dest)=Q.map(·.dest):=by
 unfold St.di;rw [List.map_map];refine List.map_congr_left fun z _=> ?_;simp only [Function.pE];split
 ·rename_i e;exact e.symm
 ·rfl
theorem wB(s:St)(q:Sr):(s.ask q).Q.map(·.dest)=s.Q.map(·.dest):=by
 obtain⟨o,h1,_⟩:=G6 s q;rw [h1,yI]
theorem qx(s:St)(d:Int):((s.bP d).Q.map(·.dest)).Sublist(s.Q.map(·.dest)):=by
 unfold St.bP;split
 ·exact List.Sublist.refl _
 ·split
  ·exact List.zO.map _
  ·exact List.Sublist.refl _
theorem Qh(s:St)(q:Sr):((s.step q).Q.map(·.dest)).Sublist(s.Q.map(·.dest)):=by
 have ha:∀q:Sr,((s.ask q).Q.map(·.dest)).Sublist(s.Q.map(·.dest)):=fun q=>by rw [wB];exact List.Sublist.refl _
 unfold St.step;split
 ·exact qx _ _
 ·split
  ·unfold St.widen;split
   ·exact ha _
   ·split
    ·exact ha _
    ·split
     ·exact ha _
     ·exact List.zO.map _
  ·exact ha _
theorem Bv:∀(D:List Sr)(s:St),((D.foldl St.step s).Q.map(·.dest)).Sublist(s.Q.map(·.dest))
 | [],_=>List.Sublist.refl _
 |q::D,s=>by
  rw [List.foldl_cons];exact(Bv D _).trans(Qh s q)
theorem QK.j6 {S:List bi} {z:St}(h:QK S z)(now:Int):QK S(z.j6 now):=by
 refine h.sub ?_;show(((St.j3 z.Q now).foldl St.step(z.aQ.begin now)).finish.Q.map(·.dest)).Sublist _;rw [(aO _).Q];exact Bv _ _
theorem SH(s:St)(fr:Int)(xs:List Int):((s.hear fr xs).Q.map(·.dest)).Sublist(s.Q.map(·.dest)):=by
 unfold St.hear;split
 ·exact List.Sublist.refl _
 ·unfold St.gu;split
  ·unfold St.ed;split<;>exact List.Sublist.refl _
  ·split
   ·rw [nD];exact List.Sublist.refl _
   ·split
    ·unfold St.eT;split
     ·exact List.Sublist.refl _
     ·dsimp only;split
      ·exact List.Sublist.refl _
      ·split
       ·split
        ·exact qx _ _
        ·exact qx _ _
       ·split
        ·exact List.Sublist.refl _
        ·unfold St.il;split<;>exact List.Sublist.refl _
    ·split
     ·unfold St.gD;dsimp only;rw [Ru];split<;>exact List.Sublist.refl _
     ·unfold St.fu;split
      ·exact List.Sublist.refl _
      ·split
       ·exact List.Sublist.refl _
       ·split<;>exact List.Sublist.refl _
theorem QK.rcv {S:List bi} {z:St}(h:QK S z)(now fr:Int)(xs:List Int):QK S(z.rcv now fr xs):=by
 refine h.sub ?_;show(((z.aQ.begin now).hear fr xs).finish.Q.map(·.dest)).Sublist _;rw [(aO _).Q];exact SH _ _ _
theorem QK.brk {S:List bi} {z:St}(h:QK S z)(now dX:Int):QK S(z.brk now dX):=h.sub(by rw [(z_ z now dX).2.2];exact List.Sublist.refl _)
theorem QK.snd {S:List bi} {z:St}(h:QK S z)(now d:Int)(t:ByteArray)(hd:∃u∈S,u.addr=d):QK S(z.snd now d t):=by
 have e:(z.snd now d t).Q=(if(bF(z.aQ.begin now).A d(z.aQ.begin now).now).2 then(z.aQ.begin now).aX d t else(z.aQ.begin now).gG d t).Q:=(aO _).Q;have hk:∀s:St,s.Q=z.Q→QK S(s.gG d t):=by
  intro s hs;unfold St.gG;split
  ·rename_i q hq;refine h.sub ?_;show((St.di s.Q(s.hold q t).2).map(·.dest)).Sublist _;rw [yI,hs];exact List.Sublist.refl _
  ·rename_i hn;have hq:∀q∈z.Q,q.dest≠d:=by rw [←hs];exact BF.1 hn
   refine⟨?_,fun q hq'=> ?_⟩
   ·rw [wB];show((s.Q++ [St.iA d t]).map(·.dest)).Nodup;rw [hs,List.map_append];refine List.nodup_append.2⟨h.nd,by simp,fun a ha b hb=> ?_⟩;obtain⟨q,hq',rfl⟩:=List.mem_map.1 ha;have e2:b=d:=by simpa [St.iA]using hb
    rw [e2];exact hq q hq'
   ·have h1:q.dest∈(({s with Q:=s.Q++ [St.iA d t]}:St).ask(St.iA d t)).Q.map(·.dest):=List.mem_map.2⟨q,hq',rfl⟩;rw [wB]at h1;obtain⟨u,hu,e2⟩:=List.mem_map.1 h1;rcases List.mem_append.1(show u∈s.Q++ [St.iA d t]from hu)with hu|hu
    ·rw [hs]at hu;rw [←e2];exact h.on u hu
    ·rw [List.mem_singleton]at hu;subst hu;rw [←e2];exact hd
 refine⟨?_,?_⟩
 ·rw [e];split
  ·rw [(fQ _ _ _).1];exact h.nd
  ·exact(hk(z.aQ.begin now)rfl).nd
 ·rw [e];split
  ·rw [(fQ _ _ _).1];exact h.on
  ·exact(hk(z.aQ.begin now)rfl).on
theorem QI(S:List bi)(me:Int)(xs:List Int)(now:Int):QK S(St.new me xs now):=by
 have e:(St.new me xs now).Q=[]:=(aO(St.raw me xs now)).Q;exact⟨by rw [e];exact List.Pairwise.nil,fun q hq=>(by rw [e]at hq;cases hq)⟩
end Go.Proofs.YtakaadcpaeiccabGreat
