import Derived.Test.YtakaadcpaeiccabGreatC65
namespace Go.Proofs.YtakaadcpaeiccabGreat
abbrev mH:=List(Bool×Int×Int)
def yo(f:Int→Option Int)(d v:Int):Prop:=∃v',f d=some v'∧v≤v'
theorem yo.le {f:Int→Option Int} {d v u:Int}(h:yo f d v)(hu:u≤v):yo f d u:=by
 obtain⟨v',h1,h2⟩:=h;exact⟨v',h1,by omega⟩
theorem vF(f:Int→Option Int)(k:Int)(v:Option Int):jJ f k v k=v:=if_pos rfl
theorem Kj {x k:Int}(f:Int→Option Int)(v:Option Int)(h:x≠k):jJ f k v x=f x:=if_neg h
theorem Rn {f:Int→Option Int} {d v:Int}(h:yo f d v)(r:Bool×Int×Int):yo(gJ f r)d v:=by
 obtain⟨v',h1,h2⟩:=h;unfold gJ;split
 ·exact⟨v',h1,h2⟩
 ·by_cases e:d=r.2.1
  ·subst e;refine⟨max v' r.2.2,?_,by omega⟩;rw [vF,h1];rfl
  ·exact⟨v',by rw [Kj _ _ e];exact h1,h2⟩
theorem zm:∀(L:mH) {f:Int→Option Int} {d v:Int},yo f d v→yo(L.foldl gJ f)d v
 | [],_,_,_,h=>h
 |r::L,_,_,_,h=>by
  rw [List.foldl_cons];exact zm L(Rn h r)
theorem Li {L M:mH} {d v:Int}(h:yo(lU L)d v):yo(lU(L++M))d v:=by
 unfold lU;rw [List.foldl_append];exact zm M h
theorem Lh {L:mH} {d v:Int}(h:(false,d,v)∈L):yo(lU L)d v:=by
 obtain⟨a,b,rfl⟩:=List.append_of_mem h;unfold lU;rw [List.foldl_append,List.foldl_cons];refine zm b⟨max(((a.foldl gJ fun _=>none)d).getD 0)v,?_,by omega⟩;unfold gJ jJ;simp
theorem I_ {G:Int} {D:Int→Prop}:∀(L:mH)(f:Int→Option Int),(∀d v,f d=some v→D d∧0≤v∧v≤G)→(∀r∈L,(0≤r.2.2∧r.2.2≤G)∧(r.1=false→D r.2.1))→∀d v,L.foldl gJ f d=some v→D d∧0≤v∧v≤G
 | [],_,hf,_=>hf
 |r::L,f,hf,hr=>by
  rw [List.foldl_cons];refine I_ L _(fun d v h=> ?_)fun x hx=>hr x(List.mem_cons_of_mem _ hx);obtain⟨h1,h2⟩:=hr r List.mem_cons_self;unfold gJ at h;split at h
  ·exact hf d v h
  ·rename_i h3;unfold jJ at h;split at h
   ·rename_i e;cases h;subst e;refine⟨h2(by simpa using h3),?_⟩;cases vU:f r.2.1 with
    |none=>
     show 0≤max 0 r.2.2∧max 0 r.2.2≤G;omega
    |some u=>
     have:=(hf _ u vU).2;show 0≤max u r.2.2∧max u r.2.2≤G;omega
   ·exact hf d v h
theorem QT {G:Int}(hG:0≤G):∀(L:mH)(c:Option Int),(0≤c.getD 0∧c.getD 0≤G)→(∀r∈L,0≤r.2.2∧r.2.2≤G)→0≤(L.foldl kQ c).getD 0∧(L.foldl kQ c).getD 0≤G
 | [],_,hc,_=>hc
 |r::L,c,hc,hr=>by
  rw [List.foldl_cons];refine QT hG L _ ?_ fun x hx=>hr x(List.mem_cons_of_mem _ hx);have:=hr r List.mem_cons_self;unfold kQ;split
  ·show 0≤max(c.getD 0)r.2.2∧max(c.getD 0)r.2.2≤G;omega
  ·exact hc
abbrev NwT:=(Int→Option Int)×mH
theorem KX:∀(A:List Rt)(t:NwT) {d v:Int},yo t.1 d v→yo(A.foldl iY t).1 d v
 | [],_,_,_,h=>h
 |y::A,t,d,v,h=>by
  rw [List.foldl_cons];refine KX A _ ?_;obtain⟨v',h1,h2⟩:=h;unfold iY;split
  ·rename_i hn;dsimp only;by_cases e:d=y.dest
   ·refine⟨y.seq,by rw [e,vF],?_⟩;unfold rT at hn;rw [←e,h1]at hn;simp at hn;omega
   ·exact⟨v',by rw [Kj _ _ e];exact h1,h2⟩
  ·exact⟨v',h1,h2⟩
theorem FB:∀(A:List Rt)(t:NwT),∀y∈A,yo(A.foldl iY t).1 y.dest y.seq
 | [],_,_,h=>by cases h
 |z::A,t,y,h=>by
  rw [List.foldl_cons];rcases List.mem_cons.1 h with rfl|h
  ·refine KX A _ ?_;unfold iY;split
   ·exact⟨y.seq,vF _ _ _,Int.le_refl _⟩
   ·rename_i hn;cases hf:t.1 y.dest with
    |none=>
     exfalso;apply hn;unfold rT;rw [hf];rfl
    |some u=>
     refine⟨u,hf,?_⟩;unfold rT at hn;rw [hf]at hn;simp at hn;omega
  ·exact FB A _ y h
theorem KV:∀(A:List Rt)(t:NwT),∀r∈t.2,r∈(A.foldl iY t).2
 | [],_,_,h=>h
 |y::A,t,r,h=>by
  rw [List.foldl_cons];refine KV A _ r ?_;unfold iY;split
  ·exact List.mem_append_left _ h
  ·exact h
theorem Dh:∀(A:List Rt)(t:NwT)(d v:Int),(A.foldl iY t).1 d=some v→t.1 d=some v∨((false,d,v)∈(A.foldl iY t).2∧∃y∈A,y.dest=d∧y.seq=v)
 | [],_,_,_,h=> .inl h
 |y::A,t,d,v,h=>by
  rw [List.foldl_cons]at h ⊢;rcases Dh A _ d v h with h1|⟨h1,z,hz,e⟩
  ·unfold iY at h1;split at h1
   ·rename_i hn;dsimp only at h1;unfold jJ at h1;split at h1
    ·rename_i e;cases h1;refine .inr⟨KV A _ _ ?_,y,List.mem_cons_self,e.symm,rfl⟩;rw [FC hn,e];exact List.mem_append_right _(List.mem_singleton.2 rfl)
    ·exact .inl h1
   ·exact .inl h1
  ·exact .inr⟨h1,z,List.mem_cons_of_mem _ hz,e⟩
theorem KW:∀(A:List Rt)(t:NwT),∀r∈(A.foldl iY t).2,r∈t.2∨∃y∈A,r=(false,y.dest,y.seq)
 | [],_,_,h=> .inl h
 |y::A,t,r,h=>by
  rw [List.foldl_cons]at h;rcases KW A _ r h with h1|⟨z,hz,e⟩
  ·unfold iY at h1;split at h1
   ·rcases List.mem_append.1 h1 with h1|h1
    ·exact .inl h1
    ·exact .inr⟨y,List.mem_cons_self,List.mem_singleton.1 h1⟩
   ·exact .inl h1
  ·exact .inr⟨z,List.mem_cons_of_mem _ hz,e⟩
structure Jm(G:Int)(D:Int→Prop)(J:mH)(s:St):Prop where
 fw:∀d v,s.f d=some v→yo(lU(J++s.a_))d v
 rc:∀r∈s.a_,(0≤r.2.2∧r.2.2≤G)∧(r.1=false→D r.2.1)
 on:∀d v,s.f d=some v→(∃y∈s.A,y.dest=d)∧0≤v∧v≤G
 ow:0≤s.own∧s.own≤G
structure Lb(G:Int)(D:Int→Prop)(s:St):Prop where
 ln:∀y∈s.A,D y.dest∧0≤y.seq∧y.seq≤G
 sq:0≤s.seq∧s.seq≤G
theorem Jm.up {G G':Int} {D:Int→Prop} {J:mH} {s:St}(h:Jm G D J s)(hG:G≤G'):Jm G' D J s:=
 ⟨h.fw,fun r hr=>⟨⟨(h.rc r hr).1.1,Int.le_trans(h.rc r hr).1.2 hG⟩,(h.rc r hr).2⟩,fun d v e=>⟨(h.on d v e).1,(h.on d v e).2.1,Int.le_trans(h.on d v e).2.2 hG⟩,h.ow.1,Int.le_trans h.ow.2 hG⟩
theorem Jm.same {G:Int} {D:Int→Prop} {J:mH} {s s':St}(h:Jm G D J s)(hf:s'.f=s.f)(hn:s'.a_=s.a_)(ho:s'.own=s.own)(hA:∀y∈s.A,∃z∈s'.A,z.dest=y.dest):Jm G D J s':=by
 refine⟨by rw [hf,hn];exact h.fw,by rw [hn];exact h.rc,fun d v e=> ?_,by rw [ho];exact h.ow⟩;rw [hf]at e;obtain⟨⟨y,hy,e1⟩,h2⟩:=h.on d v e;obtain⟨z,hz,e2⟩:=hA y hy;exact⟨⟨z,hz,e2.trans e1⟩,h2⟩
theorem zu {G:Int} {D:Int→Prop} {J:mH} {s:St}(h:Jm G D J s)(l:Lb G D s):Jm G D J s.write∧∀y∈s.A,yo s.write.f y.dest y.seq:=by
 have hn:s.write.a_=s.a_++(bE s.seq s.own s.f s.A).2:=rfl;have hf:s.write.f=(bE s.seq s.own s.f s.A).1:=rfl;refine⟨⟨fun d v e=> ?_,fun r hr=> ?_,fun d v e=> ?_,?_⟩,fun y hy=>FB s.A _ y hy⟩
 ·rw [hf]at e;rw [hn,←List.append_assoc];rcases Dh s.A(s.f,o6 s.seq s.own)d v e with h1|⟨h1,_⟩
  ·exact Li(h.fw d v h1)
  ·exact Lh(List.mem_append_right _ h1)
 ·rw [hn]at hr;rcases List.mem_append.1 hr with hr|hr
  ·exact h.rc r hr
  ·rcases KW s.A(s.f,o6 s.seq s.own)r hr with hr|⟨y,hy,rfl⟩
   ·have hr':r∈o6 s.seq s.own:=hr;unfold o6 at hr';split at hr'
    ·rw [List.mem_singleton]at hr';subst hr';exact⟨l.sq,fun h=>(by cases h)⟩
    ·cases hr'
   ·exact⟨(l.ln y hy).2,fun _=>(l.ln y hy).1⟩
 ·rw [hf]at e;rcases Dh s.A(s.f,o6 s.seq s.own)d v e with h1|⟨_,y,hy,e1,e2⟩
  ·exact h.on d v h1
  ·exact⟨⟨y,hy,e1⟩,by rw [←e2];exact(l.ln y hy).2⟩
 ·have h1:=h.ow;have h2:=l.sq;show 0≤Dp s.seq s.own∧Dp s.seq s.own≤G;unfold Dp;split<;>omega
structure JF(G:Int)(D:Int→Prop)(J:mH)(z:St):Prop where
 fw:∀d v,z.f d=some v→yo(lU((if z.aZ then []else J)++z.a_))d v
 rc:∀r∈z.a_,(0≤r.2.2∧r.2.2≤G)∧(r.1=false→D r.2.1)
 on:∀d v,z.f d=some v→(∃y∈z.A,y.dest=d)∧0≤v∧v≤G
 ow:0≤z.own∧z.own≤G
 ln:∀y∈z.A,yo z.f y.dest y.seq
theorem BZ {G:Int} {D:Int→Prop} {J:mH} {s:St}(h:Jm G D J s)(l:Lb G D s)(hr:s.aZ=false∨J=[])(hG:0≤G):JF G D J s.finish:=by
 obtain⟨h1,h2⟩:=zu h l;unfold St.finish;split
 ·refine⟨fun d v e=> ?_,fun r hr=> ?_,h1.on,h1.ow,h2⟩
  ·obtain⟨⟨y,hy,rfl⟩,_⟩:=h1.on d v e;refine Lh ?_;show(false,y.dest,v)∈([]:mH)++s.write.cmp;rw [List.nil_append];refine List.mem_append_right _(List.mem_map.2⟨y.dest,List.mem_map.2⟨y,hy,rfl⟩,?_⟩);rw [show s.write.f y.dest=some v from e];rfl
  ·have hr':r∈s.write.cmp:=hr;rcases List.mem_append.1 hr' with hr'|hr'
   ·have e:r=(true,0,s.write.own):=List.mem_singleton.1 hr';subst e;exact⟨h1.ow,fun h=>(by cases h)⟩
   ·obtain⟨a,ha,rfl⟩:=List.mem_map.1 hr';obtain⟨y,hy,rfl⟩:=List.mem_map.1 ha;refine⟨?_,fun _=>(l.ln y hy).1⟩;dsimp only;cases e:s.write.f y.dest with
    |none=>exact⟨Int.le_refl _,hG⟩
    |some v=>exact(h1.on _ v e).2
 ·refine⟨fun d v e=> ?_,h1.rc,h1.on,h1.ow,h2⟩;have e2:(if s.write.aZ then []else J)=J:=by
   rcases hr with hr|hr
   ·rw [show s.write.aZ=s.aZ from rfl,hr];rfl
   ·rw [hr];split<;>rfl
  rw [e2];exact h1.fw d v e
theorem RJ {G:Int} {D:Int→Prop} {J:mH} {s:St}(h:JF G D J s):JF G D J s.freed:=⟨h.fw,h.rc,h.on,h.ow,h.ln⟩
structure JI(G:Int)(D:Int→Prop)(st:bi):Prop where
 rc:∀r∈jl st.aY,(0≤r.2.2∧r.2.2≤G)∧(r.1=false→D r.2.1)
 fl:∀z,st.nd=some z→∃L,st.aY=bn L
 fw:∀z,st.nd=some z→∀d v,z.f d=some v→yo(lU(jl st.aY))d v
 on:∀z,st.nd=some z→∀d v,z.f d=some v→(∃y∈z.A,y.dest=d)∧0≤v∧v≤G
 ow:∀z,st.nd=some z→0≤z.own∧z.own≤G
 ln:∀z,st.nd=some z→∀y∈z.A,yo z.f y.dest y.seq
theorem JI.up {G G':Int} {D:Int→Prop} {st:bi}(h:JI G D st)(hG:G≤G'):JI G' D st:=
 ⟨fun r hr=>⟨⟨(h.rc r hr).1.1,Int.le_trans(h.rc r hr).1.2 hG⟩,(h.rc r hr).2⟩,h.fl,h.fw,fun z hz d v e=>⟨(h.on z hz d v e).1,(h.on z hz d v e).2.1,Int.le_trans(h.on z hz d v e).2.2 hG⟩,fun z hz=>⟨(h.ow z hz).1,Int.le_trans(h.ow z hz).2 hG⟩,h.ln⟩
theorem JI.D {G:Int} {D D':Int→Prop} {st:bi}(h:JI G D st)(hd:∀d,D d→D' d):JI G D' st:=
 ⟨fun r hr=>⟨(h.rc r hr).1,fun e=>hd _((h.rc r hr).2 e)⟩,h.fl,h.fw,h.on,h.ow,h.ln⟩
theorem JI.mle {G:Int} {D:Int→Prop} {st:bi}(h:JI G D st) {z:St}(hz:st.nd=some z) {y:Rt}(hy:y∈z.A):yo(lU(jl st.aY))y.dest y.seq:=by
 obtain⟨v,h1,h2⟩:=h.ln z hz y hy;exact(h.fw z hz _ v h1).le h2
theorem WJ(L M:mH)(n:Nat):∃M':mH,(∀r∈M',r∈M)∧jl(bn L++(bn M).take n)=(L++M').map norm:=by
 by_cases h:n<13 * M.length
 ·refine⟨M.take(n / 13),fun r hr=>List.mem_of_mem_take hr,?_⟩;have h1:=ZY(L++M)(13 * L.length+n)(by rw [List.length_append];omega);have h2:(13 * L.length+n)/ 13=L.length+n / 13:=by omega
  have e1:(bn(L++M)).take(13 * L.length+n)=bn L++(bn M).take n:=by
   rw [jU,←g_ L,List.oI]
  have e2:(L++M).take(L.length+n / 13)=L++M.take(n / 13):=List.oI _;rw [e1,h2,e2]at h1;exact h1
 ·refine⟨M,fun r hr=>hr,?_⟩;rw [List.take_of_length_le(by rw [g_];omega),←jU];exact vR _
theorem K_ {G:Int} {D:Int→Prop} {L:mH}(h:∀r∈L,(0≤r.2.2∧r.2.2≤G)∧(r.1=false→D r.2.1)):∀r∈L.map norm,(0≤r.2.2∧r.2.2≤G)∧(r.1=false→D r.2.1):=by
 intro r hr;obtain⟨x,hx,rfl⟩:=List.mem_map.1 hr;obtain⟨o,a,q⟩:=x;have:=h _ hx;cases o
 ·exact this
 ·exact⟨this.1,fun h=>(by cases h)⟩
theorem F_ {G:Int} {D:Int→Prop} {st:bi} {z:St}(hrc:∀r∈jl st.aY,(0≤r.2.2∧r.2.2≤G)∧(r.1=false→D r.2.1))(hfl:z.aZ=false→∃L,st.aY=bn L)(h:JF G D(jl st.aY)z)(hw:(bi.write {st with nd:=some z}z.ot).2=true):JI G D(bi.write {st with nd:=some z}z.ot).1∧(bi.write {st with nd:=some z}z.ot).1.nd=some z∧(bi.write {st with nd:=some z}z.ot).1.addr=st.addr:=by
 by_cases h1:z.ot.a_≠ []∨z.ot.aZ=true
 ·rcases Bool.rG st.tears with ht|ht
  ·rw [bi.oF(s:={st with nd:=some z})h1 ht]at hw;cases hw
  ·rw [bi.jy(s:={st with nd:=some z})h1 ht];refine⟨?_,rfl,rfl⟩;have hj:∃L,((if z.aZ then []else st.aY)++bn z.a_)=bn L∧jl(bn L)=(if z.aZ then []else jl st.aY)++z.a_.map norm:=by
    cases hr:z.aZ
    ·obtain⟨L,hL⟩:=hfl hr;refine⟨L++z.a_,?_,?_⟩
     ·simp only [Bool.false_eq_true,if_false];rw [hL,jU]
     ·rw [vR,hL,vR,List.map_append];simp
    ·refine⟨z.a_,by simp,?_⟩;rw [vR];simp
   obtain⟨L,e1,e2⟩:=hj;have e3:jl((if z.ot.aZ then []else st.aY)++bn z.ot.a_)=(if z.aZ then []else jl st.aY)++z.a_.map norm:=by
    show jl((if z.aZ then []else st.aY)++bn z.a_)=_;rw [e1];exact e2
   refine⟨?_,fun u _=>⟨L,e1⟩,fun u hu d v e=> ?_,fun u hu=> ?_,fun u hu=> ?_,fun u hu=> ?_⟩
   ·dsimp only;rw [e3];intro r hr;rcases List.mem_append.1 hr with hr|hr
    ·split at hr
     ·cases hr
     ·exact hrc r hr
    ·exact K_ h.rc r hr
   ·cases hu;dsimp only;rw [e3];have h2:=h.fw d v e;obtain⟨v',k1,k2⟩:=h2;refine⟨v',?_,k2⟩;rw [←k1];unfold lU;rw [List.foldl_append,List.foldl_append,List.foldl_map];have e4:(fun(f:Int→Option Int)r=>gJ f(norm r))=gJ:=by
     funext f r
     obtain⟨o,a,q⟩:=r;cases o<;>rfl
    rw [e4]
   ·cases hu;exact h.on
   ·cases hu;exact h.ow
   ·cases hu;exact h.ln
 ·simp only [not_or,Classical.not_not]at h1;have h2:z.ot.aZ=false:=by simpa using h1.2
  rw [bi.nL(s:={st with nd:=some z})h1.1 h2];refine⟨⟨hrc,fun u _=>hfl h2,fun u hu d v e=> ?_,fun u hu=> ?_,fun u hu=> ?_,fun u hu=> ?_⟩,rfl,rfl⟩
  ·cases hu;have h3:=h.fw d v e;rw [show z.aZ=false from h2,show z.a_=[]from h1.1]at h3;simpa using h3
  ·cases hu;exact h.on
  ·cases hu;exact h.ow
  ·cases hu;exact h.ln
theorem WL {G:Int} {D:Int→Prop} {st:bi} {z:St}(hrc:∀r∈jl st.aY,(0≤r.2.2∧r.2.2≤G)∧(r.1=false→D r.2.1))(hfl:z.aZ=false→∃L,st.aY=bn L)(h:JF G D(jl st.aY)z)(hi:z.ot.idle=true):JI G D {st with nd:=some z}:=by
 rw [Dy]at hi;simp only [Bool.and_eq_true,decide_eq_true_eq,Bool.not_eq_true']at hi;have e:=bi.nL(s:={st with nd:=some z})hi.1.1 hi.1.2;have h1:=(F_ hrc hfl h(by rw [e])).1;rw [e]at h1;exact h1
theorem WK {G:Int} {D:Int→Prop} {st:bi} {z:St}(hrc:∀r∈jl st.aY,(0≤r.2.2∧r.2.2≤G)∧(r.1=false→D r.2.1))(hfl:z.aZ=false→∃L,st.aY=bn L)(hz:∀r∈z.a_,(0≤r.2.2∧r.2.2≤G)∧(r.1=false→D r.2.1))(hw:(bi.write {st with nd:=some z}z.ot).2=false):JI G D(bi.write {st with nd:=some z}z.ot).1∧(bi.write {st with nd:=some z}z.ot).1.nd=none∧(bi.write {st with nd:=some z}z.ot).1.addr=st.addr∧∀d v,yo(lU(jl st.aY))d v→yo(lU(jl(bi.write {st with nd:=some z}z.ot).1.aY))d v:=by
 by_cases h1:z.ot.a_≠ []∨z.ot.aZ=true
 ·rcases(Bool.rG st.tears).symm with ht|ht
  ·rw [bi.jy(s:={st with nd:=some z})h1 ht]at hw;cases hw
  ·rw [bi.oF(s:={st with nd:=some z})h1 ht];have hj:∃M:mH,(∀r∈M,(0≤r.2.2∧r.2.2≤G)∧(r.1=false→D r.2.1))∧jl(if z.aZ then st.aY else st.aY++(bn z.a_).take st.whole.toNat)=jl st.aY++M:=by
    cases hr:z.aZ
    ·obtain⟨L,hL⟩:=hfl hr;obtain⟨M,hM1,hM2⟩:=WJ L z.a_ st.whole.toNat;refine⟨M.map norm,K_ fun r hr=>hz r(hM1 r hr),?_⟩;simp only [Bool.false_eq_true,if_false];rw [hL,hM2,vR,List.map_append]
    ·exact⟨[],fun r hr=>(by cases hr),by simp⟩
   obtain⟨M,hM,e⟩:=hj;have e':jl(bi.stop {st with nd:=some z,aY:=if z.ot.aZ then st.aY else st.aY++(bn z.ot.a_).take st.whole.toNat}).aY=jl st.aY++M:=e;refine⟨⟨?_,fun u hu=>(by cases hu),fun u hu=>(by cases hu),fun u hu=>(by cases hu),fun u hu=>(by cases hu),fun u hu=>(by cases hu)⟩,rfl,rfl,fun d v hd=> ?_⟩
   ·rw [e'];intro r hr;rcases List.mem_append.1 hr with hr|hr
    ·exact hrc r hr
    ·exact hM r hr
   ·rw [e'];exact Li hd
 ·simp only [not_or,Classical.not_not]at h1;have h2:z.ot.aZ=false:=by simpa using h1.2
  rw [bi.nL(s:={st with nd:=some z})h1.1 h2]at hw;cases hw
theorem ET {G:Int} {D:Int→Prop} {S:List bi} {i:Nat} {st st':bi}(hJ:JI G D st)(hl:∀z,st.nd=some z→∀y∈z.A,xD G S i y)(hn:st'.nd=none)(ha:st'.addr=st.addr)(hm:∀d v,yo(lU(jl st.aY))d v→yo(lU(jl st'.aY))d v):kZ st st':=by
 refine⟨ha,fun d q h _ e=> ?_⟩;have acd:vr st' d=(lU(jl st'.aY)d).map fun q=>(q,0):=by unfold vr;rw [hn]
 cases hz:st.nd with
 |none=>
  have hvr:vr st d=(lU(jl st.aY)d).map fun q=>(q,0):=by unfold vr;rw [hz]
  unfold sG at e ⊢;rw [hvr]at e;rw [acd];cases hd:lU(jl st.aY)d with
  |none=>rw [hd]at e;cases e
  |some v=>
   rw [hd]at e;obtain⟨v',h1,h2⟩:=hm d v⟨v,hd,Int.le_refl _⟩;rw [h1];have e':nI(v,0)q h=true:=e;show nI(v',0)q h=true;unfold nI at *;simp only [Bool.or_eq_true,Bool.and_eq_true,decide_eq_true_eq]at *;omega
 |some z=>
  unfold sG at e ⊢;rw [vE hz]at e;rw [acd];cases hd:aJ z.A d with
  |none=>rw [hd]at e;cases e
  |some y=>
   rw [hd]at e;obtain⟨hy,rfl⟩:=bN hd;obtain⟨v',h1,h2⟩:=hm _ _(hJ.mle hz hy);have h3:=(hl z hz y hy).hp;rw [h1];have e':nI(rk y,y.hops)q h=true:=e;have e3:rk y≤y.seq:=by unfold rk;split<;>omega
   show nI(v',0)q h=true;unfold nI at *;simp only [Bool.or_eq_true,Bool.and_eq_true,decide_eq_true_eq]at *;omega
theorem ML {me now:Int} {c:mh} {A A':List Rt}(t:Uh me now c A A'):∀y∈A,∃z∈A',z.dest=y.dest:=by
 have hmap:∀(f:Rt→Rt),(∀y,(f y).dest=y.dest)→∀y∈A,∃z∈A.map f,z.dest=y.dest:=fun f hf y hy=>⟨f y,List.mem_map.2⟨y,hy,rfl⟩,hf y⟩;have hmod:∀(f:Rt→Rt)(d:Int),(∀y,(f y).dest=y.dest)→∀y∈A,∃z∈gI A d f,z.dest=y.dest:=fun f d hf=>hmap _ fun y=>by
  split
  ·exact hf y
  ·rfl
 have R6:∀(d q h n e:Int),∀y∈A,∃z∈(iD me A d q h n e).1,z.dest=y.dest:=by
  intro d q h n e;rcases Bo me A d q h n e with h1|⟨_,_,_,⟨x,_,_,h1⟩|⟨_,h1⟩⟩
  ·rw [h1];exact fun y hy=>⟨y,hy,rfl⟩
  ·rw [h1];exact hmod _ d fun y=>rfl
  ·rw [h1];exact fun y hy=>⟨y,qC.2(.inr hy),rfl⟩
 cases t with
 |Ve=>exact R6 _ _ _ _ _
 |Vd=>exact R6 _ _ _ _ _
 |use d e=>exact hmod _ d fun y=>lQ e y
 |bB d n=>exact hmod _ d fun y=>kG n y
 |mi fr p L hc x hx=>exact hmod _ x.1 fun y=>dZ _ _ y
 |brk dX=>exact hmap _ fun y=>dZ _ _ y
 |grow d _=>exact hmod _ d fun y=>rfl
theorem aca {G:Int} {D:Int→Prop} {J:mH} {c:mh} {s s':St}(h:Jm G D J s)(l:Lb G D s)(k:Pr c s s'):Jm G D J s':=by
 cases k with
 |xK e=>exact h.same e.f e.a_ e.own(by rw [e.A];exact fun y hy=>⟨y,hy,rfl⟩)
 |tab t=>exact h.same rfl rfl rfl(ML t)
 |aI _ _ _ _ _=>exact h.same rfl rfl rfl fun y hy=>⟨y,hy,rfl⟩
 |grw=>exact h.same rfl rfl rfl fun y hy=>⟨y,hy,rfl⟩
 |mx _ _ _ _=>exact h.same rfl rfl rfl fun y hy=>⟨y,hy,rfl⟩
 |wr=>exact(zu h l).1
def Ay(S:List bi)(a d:Int):Prop:=d≠a∧∃t∈S,t.addr=d
theorem Y0 {G:Int} {S:List bi}(h:CI G S) {i:Nat} {st:bi} {s:St}(hS:S[i]?=some st)(hz:st.nd=some s):Lb G(Ay S st.addr)s:=by
 obtain⟨_,b,_,d⟩:=h.nd i st s hS hz;exact⟨fun y hy=>⟨⟨(d y hy).2,(d y hy).1.dest⟩,(d y hy).1.sq⟩,b⟩
theorem ng {S:List bi} {i:Nat} {s s':bi}(hs:S[i]?=some s)(e:s'.addr=s.addr) {d:Int}(h:∃t∈S.set i s',t.addr=d):∃t∈S,t.addr=d:=by
 obtain⟨t,ht,hd⟩:=h;rcases List.mem_or_eq_of_mem_set ht with ht|rfl
 ·exact⟨t,ht,hd⟩
 ·exact⟨s,List.mem_of_getElem? hs,e.symm.trans hd⟩
theorem Lb.D {G:Int} {D D':Int→Prop} {s:St}(h:Lb G D s)(hd:∀d,D d→D' d):Lb G D' s:=⟨fun y hy=>⟨hd _(h.ln y hy).1,(h.ln y hy).2⟩,h.sq⟩
end Go.Proofs.YtakaadcpaeiccabGreat
