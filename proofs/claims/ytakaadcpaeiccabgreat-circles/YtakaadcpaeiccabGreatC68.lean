import Derived.Test.YtakaadcpaeiccabGreatC67
set_option maxHeartbeats 2000000
set_option maxRecDepth 100000
namespace Go.Proofs.YtakaadcpaeiccabGreat
structure CM(G:Int)(m:aK):Prop where
 ci:CI G m.S
 ji:∀(i:Nat)s,m.S[i]?=some s→JI G(Ay m.S s.addr)s
 fr:∀f∈m.bG,x_ G m.S f.1 f.2.2
 nk:Uy m
 qk:∀(i:Nat)s z,m.S[i]?=some s→s.nd=some z→QK m.S z
def PZ(S S':List bi):Prop:=∀(i:Nat)s,S[i]?=some s→∃s',S'[i]?=some s'∧kZ s s'
theorem PZ.refl(S:List bi):PZ S S:=fun _ s h=>⟨s,h,kZ.refl s⟩
theorem PZ.set {S0 S:List bi}(h:PZ S0 S) {i:Nat} {s s':bi}(hs:S[i]?=some s)(l:kZ s s'):PZ S0(S.set i s'):=fun j t ht=>by
 obtain⟨u,hu,l1⟩:=h j t ht;obtain⟨u',hu',l2⟩:=ma hs l hu;exact⟨u',hu',l1.trans l2⟩
theorem L_ {S:List bi} {i:Nat} {s s':bi}(hs:S[i]?=some s)(e:s'.addr=s.addr) {a d:Int}(h:Ay S a d):Ay(S.set i s')a d:=⟨h.1,fP hs e h.2⟩
theorem QK.S {S:List bi} {z:St}(h:QK S z) {i:Nat} {s s':bi}(hs:S[i]?=some s)(e:s'.addr=s.addr):QK(S.set i s')z:=⟨h.nd,fun q hq=>fP hs e(h.on q hq)⟩
theorem zZ {G G':Int} {m:aK}(h:CM G m)(hG:G≤G') {i:Nat} {s s':bi}(hS:m.S[i]?=some s)(l:kZ s s')(c:CI G'(m.S.set i s'))(j:JI G'(Ay m.S s'.addr)s')(hk:∀z,s'.nd=some z→NK z∧QK m.S z):CM G'(m.put i s'):=by
 refine⟨c,fun k t ht=> ?_,fun f hf=>(h.fr f hf).set hG hS l,h.nk.put i fun z hz=>(hk z hz).1,fun k t z ht hz=> ?_⟩
 ·rcases cZ ht with⟨_,rfl⟩|⟨_,ht⟩
  ·exact j.D fun d hd=>L_ hS l.addr hd
  ·exact((h.ji k t ht).up hG).D fun d hd=>L_ hS l.addr hd
 ·rcases cZ ht with⟨_,rfl⟩|⟨_,ht⟩
  ·exact(hk z hz).2.S hS l.addr
  ·exact(h.qk k t z ht hz).S hS l.addr
theorem Qk {s s':bi}(ha:s'.addr=s.addr)(hv:∀d,vr s' d=vr s d):kZ s s':=⟨ha,fun d q h _ e=>by unfold sG at *;rw [hv];exact e⟩
theorem VL {s s':bi} {z:St}(ha:s'.addr=s.addr)(h:s.nd=some z)(h':s'.nd=some z):kZ s s':=Qk ha fun d=>by rw [vE h,vE h']
theorem XV {G:Int} {m:aK}(h:CM G m) {i:Nat} {s s':bi}(hS:m.S[i]?=some s)(ha:s'.addr=s.addr)(hn:s'.nd=s.nd)(hj:s'.aY=s.aY):CM G(m.put i s')∧kZ s s':=by
 have l:kZ s s':=Qk ha fun d=>by unfold vr;rw [hn,hj]
 have c:=h.ci.set(Int.le_refl _)hS l fun z hz=>by
  rw [hn]at hz;obtain⟨a,b,c,d⟩:=h.ci.nd i s z hS hz;rw [ha];exact⟨a,b,c,fun y hy=>⟨(d y hy).1.set(Int.le_refl _)hS l,(d y hy).2⟩⟩
 have j:=h.ji i s hS;refine⟨zZ h(Int.le_refl _)hS l c ?_ fun z hz=> ?_,l⟩
 ·rw [ha];exact⟨by rw [hj];exact j.rc,by rw [hn,hj];exact j.fl,by rw [hn,hj];exact j.fw,by rw [hn];exact j.on,by rw [hn];exact j.ow,by rw [hn];exact j.ln⟩
 ·rw [hn]at hz;exact⟨h.nk i s z hS hz,h.qk i s z hS hz⟩
def wt(P:lN):Nat:=P.countP fun f=>decide(f.1≠0)
theorem Zc(P Q:lN):wt(P++Q)=wt P+wt Q:=List.U9 ..
theorem P_(P:lN):wt P≤P.length:=List.ww
def CJ(S0:List bi)(B:Int)(k i:Nat)(z:AR)(P:lN):Prop:=i<z.1.S.length∧∃G,0≤G∧CM G z.1∧PZ S0 z.1.S∧(∀f∈P,x_ G z.1.S i f.2)∧G+3 * (wt P:Int)+400 * (k:Int)≤B
def CIn(S0:List bi)(B:Int)(k:Nat)(z:AR):Prop:=∃G,0≤G∧CM G z.1∧PZ S0 z.1.S∧G+400 * (k:Int)≤B
theorem YY {S0:List bi} {B:Int} {k i:Nat} {m:aK} {e:List Ev} {P:lN} {st:bi} {z:St} {G G':Int}(hS:m.S[i]?=some st)(h:CM G m)(hle:PZ S0 m.S)(hG0:0≤G)(hG:G≤G')(l:kZ st {st with nd:=some z})(c:CI G'(m.S.set i {st with nd:=some z}))(hf:∀f∈z.aH,x_ G'(m.S.set i {st with nd:=some z})i f.2)(PM:JF G'(Ay m.S st.addr)(jl st.aY)z)(hfl:z.aZ=false→∃L,st.aY=bn L)(nk:NK z)(qk:QK m.S z)(hP:∀f∈P,x_ G m.S i f.2)(hB:G'+3 * ((wt z.aH:Int)+wt P)+400 * (k:Int)≤B):
  Pd(CJ S0 B k i)i(m,e)P {st with nd:=some z}z.ot:=by
 have hrc:=((h.ji i st hS).up hG).rc;have hil:=(List.getElem?_eq_some_iff.1 hS).1;have hi:∀s:bi,i<(m.put i s).S.length:=fun s=>by rw [(gK _ _ _).1,List.length_set];exact hil
 have hw0:(0:Int)≤wt z.aH:=Int.natCast_nonneg _;have hP':∀ {s':bi},kZ st s'→∀f∈P,x_ G'(m.S.set i s')i f.2:=fun l f hf=>(hP f hf).set hG hS l;have hS1:(m.S.set i {st with nd:=some z})[i]?=some {st with nd:=some z}:=List.getElem?_set_self hil;refine⟨fun hid=> ?_,fun _ hw=> ?_,fun _ hw=> ?_⟩
 ·exact⟨hi _,G',by omega,zZ h hG hS l c(WL hrc hfl PM hid)(fun u hu=>by cases hu;exact⟨nk,qk⟩),hle.set hS l,hP' l,by omega⟩
 ·obtain⟨j,hn,ha⟩:=F_ hrc hfl PM hw;generalize(bi.write {st with nd:=some z}z.ot).1=s2 at j hn ha ⊢;have l12:kZ {st with nd:=some z}s2:=VL ha rfl hn;have l2:=l.trans l12;have c2:=c.set(Int.le_refl _)hS1 l12 fun u hu=>by
   rw [hn]at hu;cases hu;obtain⟨a,b,c,d⟩:=c.nd i _ z hS1 rfl;rw [ha];exact⟨a,b,c,fun y hy=>⟨(d y hy).1.set(Int.le_refl _)hS1 l12,(d y hy).2⟩⟩
  rw [nO]at c2;refine⟨hi _,G',by omega,zZ h hG hS l2 c2(by rw [ha];exact j)(fun u hu=>by rw [hn]at hu;cases hu;exact⟨nk,qk⟩),hle.set hS l2,fun f hf'=> ?_,?_⟩
  ·rcases List.mem_append.1 hf' with hf'|hf'
   ·have h1:=(hf f hf').set(Int.le_refl _)hS1 l12;rw [nO]at h1;exact h1
   ·exact hP' l2 f hf'
  ·rw [show z.ot.aH=z.aH from rfl,Zc];omega
 ·obtain⟨j,hn,ha,hm⟩:=WK hrc hfl PM.rc hw;generalize(bi.write {st with nd:=some z}z.ot).1=s3 at j hn ha hm ⊢;have l3:kZ st s3:=ET(h.ji i st hS)(fun u hu y hy=>((h.ci.nd i st u hS hu).2.2.2 y hy).1)hn ha hm;have c3:=h.ci.set hG hS l3 fun u hu=>by rw [hn]at hu;cases hu
  exact⟨hi _,G',by omega,zZ h hG hS l3 c3(by rw [ha];exact j)(fun u hu=>by rw [hn]at hu;cases hu),hle.set hS l3,hP' l3,by omega⟩
theorem DZ {c:mh} {n:Nat} {s s':St}(k:fC c n s s'):s'.aH.length≤s.aH.length+n:=by
 induction k with
 |nil=>exact Nat.le_add_right _ _
 |snoc _ k ih=>
  refine Nat.le_trans ?_(Nat.Pb ih 1);cases k with
  |xK e=>rw [e.aH];exact Nat.le_succ _
  |tab _=>exact Nat.le_succ _
  |aI t p L _ _=>
   show(_++ [_]).length≤_;rw [List.length_append];exact Nat.le_refl _
  |grw=>exact Nat.le_succ _
  |mx _ _ _ _=>exact Nat.le_succ _
  |wr=>exact Nat.le_succ _
theorem Fz {G:Int} {D:Int→Prop} {st:bi} {z z':St}(h:JI G D st)(hz:st.nd=some z):z'.aZ=false→∃L,st.aY=bn L:=fun _=>h.fl z hz
theorem yl {S0:List bi} {B:Int} {k i:Nat} {m:aK} {e:List Ev} {P:lN} {st:bi} {z s':St} {G:Int} {c:mh} {n w:Nat} {now:Int}(hB4:B<4294967295)(hS:m.S[i]?=some st)(hz:st.nd=some z)(h:CM G m)(hle:PZ S0 m.S)(hG0:0≤G)(hc:Pt G m.S z.me c)(kk:fC c n(z.aQ.begin now)s')(nk:NK s'.finish.freed)(qk:QK m.S s'.finish.freed)(hP:∀f∈P,x_ G m.S i f.2)(hw:wt s'.finish.freed.aH≤w)(hB:G+n+1+3 * ((w:Int)+wt P)+400 * (k:Int)≤B):
  Pd(CJ S0 B k i)i(m,e)P {st with nd:=some s'.finish.freed}s'.finish.freed.ot:=by
 have hp0:(0:Int)≤wt P:=Int.natCast_nonneg _;have hw0:(0:Int)≤w:=Int.natCast_nonneg _;have hk0:(0:Int)≤k:=Int.natCast_nonneg _;obtain⟨a1,a2,a3,a4⟩:=O5 hS hz h.ci hc hG0(by omega)(h.ji i st hS)kk;exact YY hS h hle hG0(by omega)a2 a3 a4 a1(Fz(h.ji i st hS)hz)nk qk hP(by omega)
theorem uO {G:Int} {S:List bi} {me:Int}:Pt G S me none:=fun fr p L h=>by cases h
theorem M6(m:aK)(i:Nat)(f:Int×ByteArray):∀g∈(m.bR i f).bG,g∈m.bG∨∃j,g=(i,j,f.2):=by
 unfold aK.bR;generalize m.heard i f.1=l
 induction l generalizing m with
 |nil=>exact fun g hg=> .inl hg
 |cons a l ih=>
  intro g hg;rw [List.foldl_cons]at hg;rcases ih _ g hg with h|h
  ·have h1:∀g∈m.bG++ [(i,a,f.2)],g∈m.bG∨∃j,g=(i,j,f.2):=fun g hg=>by
    rcases List.mem_append.1 hg with hg|hg
    ·exact .inl hg
    ·exact .inr⟨a,List.mem_singleton.1 hg⟩
   unfold aK.eG at h;dsimp only at h;split at h
   ·exact h1 g(List.fK h)
   ·exact h1 g h
  ·exact .inr h
theorem wy {G:Int} {m m':aK}(h:CM G m)(hS:m'.S=m.S)(ha:∀g∈m'.bG,x_ G m.S g.1 g.2.2):CM G m':=by
 refine⟨by rw [hS];exact h.ci,?_,?_,h.nk.S hS,?_⟩
 ·rw [hS];exact h.ji
 ·rw [hS];exact ha
 ·rw [hS];exact h.qk
theorem abj(S0:List bi) {B:Int}(hB4:B<4294967295)(k i:Nat):Yi(CJ S0 B k i)i:=by
 have hse:∀m e f P,CJ S0 B k i(m,e)(f::P)→∃G,0≤G∧CM G(m.bR i f)∧PZ S0(m.bR i f).S∧i<(m.bR i f).S.length∧(∀g∈P,x_ G(m.bR i f).S i g.2)∧G+3 * (wt(f::P):Int)+400 * (k:Int)≤B:=by
  rintro m e f P⟨hi,G,hG0,h,hle,hf,hb⟩;have hS:=(iM m i f).1;refine⟨G,hG0,wy h hS fun g hg=> ?_,by rw [hS];exact hle,by rw [hS];exact hi,fun g hg=>by rw [hS];exact hf g(List.mem_cons_of_mem _ hg),hb⟩;rcases M6 m i f g hg with hg|⟨j,rfl⟩
  ·exact h.fr g hg
  ·exact hf f List.mem_cons_self
 refine⟨fun m e f P hj=> ?_,fun m e P f s z hj hf0 _ hs hz=> ?_⟩
 ·obtain⟨G,h0,h1,h2,h3,h4,h5⟩:=hse m e f P hj;have:wt P≤wt(f::P):=List.Sublist.abM(List.Kw _ _);exact⟨h3,G,h0,h1,h2,h4,by omega⟩
 ·obtain⟨G,h0,h1,h2,h3,h4,h5⟩:=hse m e f P hj;have hw:wt(f::P)=wt P+1:=by
   unfold wt;rw [List.countP_cons,if_pos(by simpa using hf0)]
  obtain⟨s',k1,k2⟩:=Eg z m.now f.1;have nk:=((h1.nk i s z hs hz).brk m.now f.1).1;have qk:=(h1.qk i s z hs hz).brk m.now f.1;have hfr:=Mf z m.now f.1;rw [k2]at nk qk hfr ⊢;refine yl hB4 hs hz h1 h2 h0 uO k1 nk qk h4(w:=0) ?_(by omega);refine Nat.le_of_eq(List.countP_eq_zero.2 fun g hg=> ?_);simpa using hfr g hg
theorem CM.zero {G:Int} {m:aK}(h:CM G m) {j:Nat}(h0:(m.at' j).addr≠0):∃s,m.S[j]?=some s∧m.at' j=s:=by
 cases hs:m.S[j]? with
 |some s=>exact⟨s,rfl,eB hs⟩
 |none=>
  exfalso;apply h0;unfold aK.at';rw [List.getD_eq_getElem?_getD,hs];rfl
theorem WG {xs:List Int}(h:uM xs=true):(ZT xs).length≤8:=by
 match xs,h with
 |x0::x1::x2::x3::x4::r,h=>
  simp only [uM,Bool.and_eq_true]at h;show(jX x1 x4 r).length≤8;unfold jX;split
  ·rename_i e;have h3:=(ek h.2).2.2.2.2.2.2;rw [C_]at h3;have hln:(fU x0 x1 x2 x4 r).ln=x4.toNat:=by
    subst e;rfl
   rw [hln]at h3;unfold oV;rw [List.length_map,List.Dv];omega
  ·exact Nat.zero_le _
theorem aai {G:Int} {m:aK}(h:CM G m)(hG0:0≤G) {me:Int} {j:Nat} {b:ByteArray}(hf:x_ G m.S j b)(hF:uM(aF b)=true)(h0:(m.at' j).addr≠0)(hme:(m.at' j).addr≠me):Pt G m.S me(LF(m.at' j).addr(aF b)):=by
 intro fr p L hc;rw [aah]at hc;cases hc;obtain⟨s,hs,e⟩:=h.zero h0;have hw:=hf.whole hF;rw [e]at hme ⊢;have hgood:(We(aF b)).dL=true:=by
  match hx:aF b,hF with
  |x0::x1::x2::x3::x4::r,hF=>
   simp only [uM,Bool.and_eq_true]at hF;exact hF.2
 obtain⟨hl,t0,t1,_,_,_,hk⟩:=ek hgood;refine⟨hme,t0,?_,?_,j,s,hs,rfl,hw⟩
 ·rcases hk with hk|hk|hk|hk
  ·exact(hw.k1 hk).2.2.2.1
  ·exact(hw.k2 hk).2.2.1
  ·have hd:(We(aF b)).aW=0:=by
    simp only [ah.wU,wD,Bool.and_eq_true,decide_eq_true_eq]at hl;rw [hl.2.2.2.2.2.2.2.1];unfold ah.dw;rw [hk];rfl
   omega
  ·have hd:(We(aF b)).aW=0:=by
    simp only [ah.wU,wD,Bool.and_eq_true,decide_eq_true_eq]at hl;rw [hl.2.2.2.2.2.2.2.1];unfold ah.dw;rw [hk.1];rfl
   omega
 ·intro x hx;by_cases hk3:(We(aF b)).kind=3
  ·exact(hw.k3 hk3 x hx).2
  ·exfalso;have hkk:(We(aF b)).kind=(aF b).getD 1 0:=C_ _ _ _ _ _;rw [hkk]at hk3;unfold ZT jX at hx;rw [if_neg hk3]at hx;cases hx
theorem XU(S0:List bi) {B:Int}(hB4:B<4294967295)(o:Op)(ho:o.dS≠8):Cs(CIn S0 B)(CJ S0 B)o:=by
 have hlt:∀ {m:aK} {i:Nat} {s:bi},m.S[i]?=some s→i<m.S.length:=fun h=>(List.getElem?_eq_some_iff.1 h).1;have hsame:∀(k0:Nat)(m:aK)(e:List Ev)(i:Nat)(s s':bi),m.S[i]?=some s→s'.addr=s.addr→s'.nd=s.nd→s'.aY=s.aY→CIn S0 B k0(m,e)→CIn S0 B k0(m.put i s',e):=by
  rintro k0 m e i s s' hS ha hn hj⟨G,h0,h1,h2,h3⟩;obtain⟨c,l⟩:=XV h1 hS ha hn hj;exact⟨G,h0,c,h2.set hS l,h3⟩
 refine⟨?_,?_,fun k i=>abj S0 hB4 k i,fun _ m e a r h=>h,?_,?_,?_,?_,?_,?_,?_,?_,?_,?_,?_,?_⟩
 ·rintro k z⟨G,h0,h1,h2,h3⟩;exact⟨G,h0,h1,h2,by omega⟩
 ·rintro k i z⟨_,G,h0,h1,h2,_,h3⟩;have:(0:Int)≤wt []:=Int.natCast_nonneg _;exact⟨G,h0,h1,h2,by omega⟩
 ·intro k0 m e a b ha hb _ h;unfold aK.link;split
  ·exact h
  ·have hsa:=List.getElem?_eq_getElem ha;have h1:=hsame k0 m e a _ {m.at' a with hrs:=(m.at' a).hrs.set b o.on}hsa(by rw [eB hsa])(by rw [eB hsa])(by rw [eB hsa])h;have hb':b<(m.put a {m.at' a with hrs:=(m.at' a).hrs.set b o.on}).S.length:=by rw [(gK _ _ _).1,List.length_set];exact hb
   have hsb:=List.getElem?_eq_getElem hb';exact hsame k0 _ e b _ _ hsb(by rw [eB hsb])(by rw [eB hsb])(by rw [eB hsb])h1
 ·rintro m e a b s z hs hz hb _ _ _ _ _ _⟨G,h0,h1,h2,h3⟩;have hbs:=List.getElem?_eq_getElem hb;have hbd:∃u∈m.S,u.addr=(m.at' b).addr:=⟨_,List.mem_of_getElem? hbs,by rw [eB hbs]⟩;have nk:=((h1.nk a s z hs hz).snd m.now(m.at' b).addr o.txt).1;have qk:=(h1.qk a s z hs hz).snd m.now(m.at' b).addr o.txt hbd;have hk:∃n s',n≤7∧fC none n(z.aQ.begin m.now)s'∧z.snd m.now(m.at' b).addr o.txt=s'.finish.freed:=by
   unfold St.snd St.sends;dsimp only;split
   ·exact⟨3,_,by omega,oU none _ _ _,rfl⟩
   ·exact⟨7,_,by omega,BK none _ _ _,rfl⟩
  obtain⟨n,s',hn,k1,k2⟩:=hk;rw [k2]at nk qk ⊢;have hfl:=DZ k1;have hfr:s'.finish.freed.aH=s'.aH:=(aO s').aH;refine yl hB4 hs hz h1 h2 h0 uO k1 nk qk(fun f hf=>by cases hf)(w:=n) ?_ ?_
  ·refine Nat.le_trans(P_ _) ?_;rw [hfr];have:(z.aQ.begin m.now).aH.length=0:=rfl;omega
  ·have:(wt []:Int)=0:=rfl;omega
 ·rintro m e _ _ _⟨G,h0,h1,h2,h3⟩;exact⟨G,h0,wy h1 rfl h1.fr,h2,by omega⟩
 ·rintro k0 m e i s z hs hz _⟨G,h0,h1,h2,h3⟩;have nk0:=h1.nk i s z hs hz;have qk0:=h1.qk i s z hs hz;have nk:=(nk0.j6 m.now).1;have qk:=qk0.j6 m.now;obtain⟨s',k1,k2⟩:=Cy z m.now nk0.MZ;have hd:=TD z.Q m.now;have hq:=qk0.len;have hl:=h1.ci.len;rw [k2]at nk qk ⊢;have hfl:=DZ k1;have hfr:s'.finish.freed.aH=s'.aH:=(aO s').aH;refine yl hB4 hs hz h1 h2 h0 uO k1 nk qk(fun f hf=>by cases hf)(w:=13 * (St.j3 z.Q m.now).length) ?_ ?_
  ·refine Nat.le_trans(P_ _) ?_;rw [hfr];have:(z.aQ.begin m.now).aH.length=0:=rfl;omega
  ·have:(wt []:Int)=0:=rfl;omega
 ·rintro k0 m e k f _ _⟨G,h0,h1,h2,h3⟩;exact⟨G,h0,wy h1 rfl fun g hg=>h1.fr g(List.iR hg),h2,h3⟩
 ·rintro k0 m e k f s z hf hs hz _⟨G,h0,h1,h2,h3⟩;have hm:CM G {m with bG:=m.bG.eraseIdx k}:=wy h1 rfl fun g hg=>h1.fr g(List.iR hg);have nk0:=h1.nk f.2.1 s z hs hz;have qk0:=h1.qk f.2.1 s z hs hz;have nk:=(nk0.rcv m.now(m.at' f.1).addr(aF f.2.2)(nM _)).1;have qk:=qk0.rcv m.now(m.at' f.1).addr(aF f.2.2);have hk:∃n c s',n≤23∧Pt G m.S z.me c∧fC c n(z.aQ.begin m.now)s'∧z.rcv m.now(m.at' f.1).addr(aF f.2.2)=s'.finish.freed:=by
   by_cases hb:uM(aF f.2.2)=false∨(m.at' f.1).addr=0∨(m.at' f.1).addr=z.me
   ·refine⟨1,none,(z.aQ.begin m.now).drop 0,by omega,uO,fe none _ 0,?_⟩;show((z.aQ.begin m.now).hear _ _).finish.freed=_;have hb':uM(aF f.2.2)=false∨(m.at' f.1).addr=0∨(m.at' f.1).addr=(z.aQ.begin m.now).me:=hb;unfold St.hear;rw [if_pos hb']
   ·have hb':=hb;simp only [not_or]at hb';have hF:uM(aF f.2.2)=true:=by simpa using hb'.1
    refine⟨_,_,_,?_,aai h1 h0(h1.fr f(List.mem_of_getElem? hf))hF hb'.2.1 hb'.2.2,Fp(z.aQ.begin m.now)(m.at' f.1).addr(aF f.2.2)(fun q hq=>(nk0.MZ q hq).1)(GJ z.A m.now),rfl⟩;have:=WG hF;unfold ZT at this;omega
  obtain⟨n,c,s',hn,hc,k1,k2⟩:=hk;rw [k2]at nk qk ⊢;have hfl:=DZ k1;have hfr:s'.finish.freed.aH=s'.aH:=(aO s').aH;refine yl(m:={m with bG:=m.bG.eraseIdx k})hB4 hs hz hm h2 h0 hc k1 nk qk(fun f hf=>by cases hf)(w:=n) ?_ ?_
  ·refine Nat.le_trans(P_ _) ?_;rw [hfr];have:(z.aQ.begin m.now).aH.length=0:=rfl;omega
  ·have:(wt []:Int)=0:=rfl;omega
 ·rintro k0 m e k f hf _⟨G,h0,h1,h2,h3⟩;refine⟨G,h0,wy h1 rfl fun g hg=> ?_,h2,h3⟩;have ha:∀g∈m.bG++ [f],x_ G m.S g.1 g.2.2:=fun g hg=>by
   rcases List.mem_append.1 hg with hg|hg
   ·exact h1.fr g hg
   ·rw [List.mem_singleton]at hg;subst hg;exact h1.fr g(List.mem_of_getElem? hf)
  have hg':g∈(m.eG f).bG:=hg;unfold aK.eG at hg';dsimp only at hg';split at hg'
  ·exact ha g(List.fK hg')
  ·exact ha g hg'
 ·rintro k0 m e k f n hf _ _⟨G,h0,h1,h2,h3⟩;refine⟨G,h0,wy h1 rfl fun g hg=> ?_,h2,h3⟩;rcases List.mem_or_eq_of_mem_set hg with hg|rfl
  ·exact h1.fr g hg
  ·exact(h1.fr f(List.mem_of_getElem? hf)).cut n
 ·intro k0 m e a b s z _ _ _ h8 _;exact absurd h8 ho
 ·rintro k0 m e a s hs⟨G,h0,h1,h2,h3⟩;have l:kZ s s.stop:=ET(h1.ji a s hs)(fun u hu y hy=>((h1.ci.nd a s u hs hu).2.2.2 y hy).1)rfl rfl fun d v h=>h;have j:=h1.ji a s hs;exact⟨G,h0,zZ h1(Int.le_refl _)hs l(h1.ci.set(Int.le_refl _)hs l fun z hz=>by cases hz)⟨j.rc,fun z hz=>(by cases hz),fun z hz=>(by cases hz),fun z hz=>(by cases hz),fun z hz=>(by cases hz),fun z hz=>(by cases hz)⟩(fun z hz=>by cases hz),h2.set hs l,h3⟩
 ·intro k0 m e a s n hs h;exact hsame k0 m e a s _ hs rfl rfl rfl h
 ·rintro k0 m e a s hs hz⟨G,h0,h1,h2,h3⟩;obtain⟨a1,a2,a3,a4⟩:=O7 hs hz h1.ci(h1.ji a s hs)h0(by omega)m.now;obtain⟨nk,hf0⟩:=I8 s.addr s.aY m.now;refine YY hs h1 h2 h0(by omega)a3 a4(by rw [hf0];exact fun f hf=>by cases hf)a1 a2 nk(QI _ _ _ _)(fun f hf=>by cases hf) ?_;rw [hf0];have:(wt []:Int)=0:=rfl;omega
theorem CM.step {G:Int} {m:aK}(h:CM G m)(hG0:0≤G)(hG:G+2800<4294967295)(hfl:∀f∈m.bG,f.2.1<m.S.length)(o:Op)(ho:o.dS≠8):∃G',0≤G'∧G'≤G+2800∧CM G'(m.step o).1∧PZ m.S(m.step o).1.S:=by
 obtain⟨G',h0,h1,h2,h3⟩:=yE(XU m.S(B:=G+2800)(by omega)o ho)(e:=[])hfl(n:=7)(by have:=h.ci.len;omega)⟨G,hG0,h,PZ.refl _,by omega⟩;exact⟨G',h0,by omega,h1,h2⟩
theorem BP:∀ {L:List Int},L.Nodup→∀(i j:Nat)(a:Int),L[i]?=some a→L[j]?=some a→i=j
 | [],_,_,_,_,h,_=>by cases h
 |x::L,hn,i,j,a,hi,hj=>by
  rw [List.nodup_cons]at hn;cases i with
  |zero=>
   cases j with
   |zero=>rfl
   |succ j=>
    cases hi;exact absurd(List.mem_of_getElem?(show L[j]?=some x from hj))hn.1
  |succ i=>
   cases j with
   |zero=>
    cases hj;exact absurd(List.mem_of_getElem?(show L[i]?=some x from hi))hn.1
   |succ j=>rw [BP hn.2 i j a hi hj]
theorem abg {L:List Int}(hn:L.length≤6)(hU:∀a∈L,bg a)(h0:∀a∈L,a≠0)(hd:L.Nodup):CM 1(aK.new L):=by
 have hst:∀(i:Nat)s,(aK.new L).S[i]?=some s→∃a,L[i]?=some a∧s=ES a:=by
  intro i s hs;have h1:(L.map ES)[i]?=some s:=hs;rw [List.getElem?_map]at h1;cases ha:L[i]? with
  |none=>rw [ha]at h1;cases h1
  |some a=>rw [ha]at h1;exact⟨a,rfl,(Option.some.inj h1).symm⟩
 have hnd:∀a z,(ES a).nd=some z→z.A=[]∧z.seq=1∧z.me=a∧(z.f=fun _=>none)∧z.own=1∧z=St.new a []0:=by
  intro a z hz;cases hz;exact⟨rfl,rfl,rfl,rfl,rfl,rfl⟩
 have hnw:∀a,(St.new a []0).a_=[(true,0,1)]:=fun a=>rfl;refine⟨⟨by rw [Dm];exact hn,fun s hs=> ?_,fun i j s t hs ht e=> ?_,fun i s z hs hz=> ?_⟩,fun i s hs=> ?_,fun f hf=>(by cases hf),(Tt hn hU h0).2,fun i s z hs hz=> ?_⟩
 ·obtain⟨i,hi⟩:=List.getElem?_of_mem hs;obtain⟨a,ha,rfl⟩:=hst i s hi;exact⟨hU a(List.mem_of_getElem? ha),h0 a(List.mem_of_getElem? ha)⟩
 ·obtain⟨a,ha,rfl⟩:=hst i s hs;obtain⟨b,hb,rfl⟩:=hst j t ht;have e':a=b:=e;subst e';exact BP hd i j a ha hb
 ·obtain⟨a,ha,rfl⟩:=hst i s hs;obtain⟨e1,e2,e3,_⟩:=hnd a z hz;rw [e1,e2,e3];exact⟨rfl,by omega,List.Pairwise.nil,fun y hy=>(by cases hy)⟩
 ·obtain⟨a,ha,rfl⟩:=hst i s hs;have hj:jl(ES a).aY=[(true,0,1)]:=by
   show jl(bn(St.new a []0).a_)=_;rw [hnw,vR];rfl
  refine⟨fun r hr=> ?_,fun z hz=>⟨_,rfl⟩,fun z hz d v e=> ?_,fun z hz d v e=> ?_,fun z hz=> ?_,fun z hz y hy=> ?_⟩
  ·rw [hj,List.mem_singleton]at hr;subst hr;exact⟨by dsimp only;omega,fun h=>(by cases h)⟩
  ·obtain⟨_,_,_,e4,_⟩:=hnd a z hz;rw [e4]at e;cases e
  ·obtain⟨_,_,_,e4,_⟩:=hnd a z hz;rw [e4]at e;cases e
  ·obtain⟨_,_,_,_,e5,_⟩:=hnd a z hz;rw [e5];omega
  ·obtain⟨e1,_⟩:=hnd a z hz;rw [e1]at hy;cases hy
 ·obtain⟨a,ha,rfl⟩:=hst i s hs;obtain⟨_,_,_,_,_,e6⟩:=hnd a z hz;rw [e6];exact QI _ _ _ _
open Go.RowKit Go.Maps
theorem ut {W:World} {k:Nat} {o:Obj}(h:W.heap[k]?=some o):k<W.heap.size:=(Array.getElem?_eq_some_iff.1 h).1
theorem Sz {P:Prop}(h:P):Hid P:=h
def PT(a b:Rt):Bool:=decide(rk a>rk b)||(decide(rk a=rk b)&&decide(a.hops<b.hops))
theorem BV(x:Rt)(ao:Option Addr)(n c:Nat)(hx:x.Ok)(w:World):Calls Tryz.prog 39 #[.agg #[.int .u32 x.dest,.int .u32 x.seq,.int .i64 x.hops,.int .u32 x.next,.bool x.valid,.int .u64 x.exp,.slice ao n c]]w fun e w'=>e=.returned(.int .i64(rk x))∧Below w.heap.size w w':=by
 have hq:=hx.seq;unfold bg at hq;obtain⟨d,q,hp,nx,vl,ex,bf⟩:=x;dsimp only at hq ⊢;have hb:Below w.heap.size w(w.alloc(.cells #[.int .u32 d,.int .u32 q,.int .i64 hp,.int .u32 nx,.bool vl,.int .u64 ex,.slice ao n c]38)):=(Below.refl _ _).alloc(Nat.le_refl _)_;obtain⟨h0,h1⟩:=hq;clear hx;cases vl with
 |true=>
  go_enter Tryz.func39,Tryz.ntmps39
  go_wp2
  go_ret
  exact⟨rfl,hb⟩
 |false=>
  go_enter Tryz.func39,Tryz.ntmps39
  go_wp2
  go_ret
  exact⟨rfl,hb⟩
theorem abX {x:Rt}(hx:x.Ok):-1≤rk x∧rk x≤4294967295:=by
 have hq:=hx.seq;unfold bg at hq;unfold rk;split<;>omega
theorem zq(x z:Rt)(ao bo:Option Addr)(n c n' c':Nat)(hx:x.Ok)(hz:z.Ok)(w:World):Calls Tryz.prog 15 #[.agg #[.int .u32 x.dest,.int .u32 x.seq,.int .i64 x.hops,.int .u32 x.next,.bool x.valid,.int .u64 x.exp,.slice ao n c],.agg #[.int .u32 z.dest,.int .u32 z.seq,.int .i64 z.hops,.int .u32 z.next,.bool z.valid,.int .u64 z.exp,.slice bo n' c']]w fun e w'=>e=.returned(.bool(PT x z))∧Below w.heap.size w w':=by
 have R1:=Sz fun W=>BV x ao n c hx W;have R2:=Sz fun W=>BV z bo n' c' hz W;obtain⟨a,ha⟩:∃a,rk x=a:=⟨_,rfl⟩;obtain⟨b,hb⟩:∃b,rk z=b:=⟨_,rfl⟩;have he:Hid(PT x z=(decide(a>b)||(decide(a=b)&&decide(x.hops<z.hops)))):=Sz(by unfold PT;rw [ha,hb]);rw [ha]at R1;rw [hb]at R2;have b1:=abX hx;have b2:=abX hz;rw [ha]at b1;rw [hb]at b2;rw [he.out];obtain⟨d,q,hp,nx,vl,ex,bf⟩:=x;obtain⟨d',q',hp',nx',vl',ex',bf'⟩:=z;dsimp only at R1 R2 ⊢;clear hx hz ha hb he;have hb0:Below w.heap.size w((w.alloc(.cells #[.int .u32 d,.int .u32 q,.int .i64 hp,.int .u32 nx,.bool vl,.int .u64 ex,.slice ao n c]38)).alloc(.cells #[.int .u32 d',.int .u32 q',.int .i64 hp',.int .u32 nx',.bool vl',.int .u64 ex',.slice bo n' c']38)):=((Below.refl _ _).alloc(Nat.le_refl _)_).alloc(by simp)_;go_enter Tryz.func15,Tryz.ntmps15
 go_wp2_with fail
 have a0:=heap_alloc_new w(.cells #[.int .u32 d,.int .u32 q,.int .i64 hp,.int .u32 nx,.bool vl,.int .u64 ex,.slice ao n c]38);obtain⟨w1,hw1⟩:∃w1,w.alloc(.cells #[.int .u32 d,.int .u32 q,.int .i64 hp,.int .u32 nx,.bool vl,.int .u64 ex,.slice ao n c]38)=w1:=⟨_,rfl⟩;have hz1:w1.heap.size=w.heap.size+1:=by rw [←hw1];simp
 rw [hw1]at hb0 a0 ⊢;have b0:=heap_alloc_new w1(.cells #[.int .u32 d',.int .u32 q',.int .i64 hp',.int .u32 nx',.bool vl',.int .u64 ex',.slice bo n' c']38);have a1:=((Below.refl w1.heap.size w1).alloc(Nat.le_refl _)(.cells #[.int .u32 d',.int .u32 q',.int .i64 hp',.int .u32 nx',.bool vl',.int .u64 ex',.slice bo n' c']38)).block w.heap.size(by omega);generalize w1.alloc _=w2 at hb0 a1 b0 ⊢;rw [a0]at a1;rw [hz1]at b0;clear hw1 a0 hz1;refine Calls.mono(R1.out _) ?_;rintro e w3⟨rfl,h3⟩;have a3:=(h3.block _(ut a1)).trans a1;have b3:=(h3.block _(ut b0)).trans b0;have hb3:=hb0.trans(h3.mono hb0.size);clear h3 a1 b0 hb0 R1;have p0:=cell_of_row _ _ 0 _ _ _ b3;have p1:=cell_of_row _ _ 1 _ _ _ b3;have p2:=cell_of_row _ _ 2 _ _ _ b3;have p3:=cell_of_row _ _ 3 _ _ _ b3;have p4:=cell_of_row _ _ 4 _ _ _ b3;have p5:=cell_of_row _ _ 5 _ _ _ b3;have p6:=cell_of_row _ _ 6 _ _ _ b3;simp only [List.getElem?_toArray,List.getElem?_cons_succ,List.getElem?_cons_zero]at p0 p1 p2 p3 p4 p5 p6;go_wp2_with fail
 refine Calls.mono(R2.out _) ?_;rintro e w4⟨rfl,h4⟩;have a4:=(h4.block _(ut a3)).trans a3;have b4:=(h4.block _(ut b3)).trans b3;have hb4:=hb3.trans(h4.mono hb3.size);clear h4 a3 b3 hb3 R2 p0 p1 p2 p3 p4 p5 p6;have q2:=cell_of_row _ _ 2 _ _ _ a4;have p2:=cell_of_row _ _ 2 _ _ _ b4;simp only [List.getElem?_toArray,List.getElem?_cons_succ,List.getElem?_cons_zero]at q2 p2;clear a4 b4;go_wp2
 all_goals
  go_ret
  refine⟨?_,hb4⟩;clear hb4 q2 p2;have key:∀x y:Bool,(x=true ↔ y=true)→Ending.returned(.bool x)=Ending.returned(.bool y):=fun x y h=>by rw [Bool.eq_iff_iff.2 h]
  refine key _ _ ?_;simp only [Bool.or_eq_true,Bool.and_eq_true,decide_eq_true_eq,true_iff,Bool.false_eq_true,false_iff]<;>omega
theorem uK {b g c:Nat} {L:List(Rt×Value)} {W:World}(h:nJ b(.slice(some⟨g,0,none⟩)L.length c)L W) {k:Nat} {x:Rt} {v:Value}(hp:L[k]?=some(x,v)):∃(ao:Option Addr)(cb:Nat),v=.slice ao x.bB.length cb∧W.cell?⟨g,k * 7,none⟩=some(.int .u32 x.dest)∧W.cell?⟨g,k * 7+1,none⟩=some(.int .u32 x.seq)∧W.cell?⟨g,k * 7+2,none⟩=some(.int .i64 x.hops)∧W.cell?⟨g,k * 7+3,none⟩=some(.int .u32 x.next)∧W.cell?⟨g,k * 7+4,none⟩=some(.bool x.valid)∧W.cell?⟨g,k * 7+5,none⟩=some(.int .u64 x.exp)∧W.cell?⟨g,k * 7+6,none⟩=some(.slice ao x.bB.length cb):=by
 have hk:=(List.getElem?_eq_some_iff.1 hp).1;obtain⟨ao,cb,hv,_⟩:=ak(h.bB _(List.mem_of_getElem? hp));dsimp only at hv;subst hv;have hc:∀i,i<7→∀u,(Zz(x,.slice ao x.bB.length cb))[i]?=some u→W.cell?⟨g,k * 7+i,none⟩=some u:=fun i hi u hu=>(h.row.cellAt(k * 7+i)(by omega)).trans((Uj hp hi).trans hu);exact⟨ao,cb,rfl,hc 0(by decide)_ rfl,hc 1(by decide)_ rfl,hc 2(by decide)_ rfl,hc 3(by decide)_ rfl,hc 4(by decide)_ rfl,hc 5(by decide)_ rfl,hc 6(by decide)_ rfl⟩
theorem BX {bb:Nat} {v:Value} {L:List(Rt×Value)} {w:World}(h:nJ bb v L w)(ha:Asc(L.map(·.1)))(d:Int) {x:Rt}(hl:aJ(L.map(·.1))d=some x)(h8:L.length≤1000):Calls Tryz.prog 14 #[v,.int .u32 d]w fun e w'=>∃(ao:Option Addr)(n c:Nat),e=.returned(.tuple #[.agg #[.int .u32 x.dest,.int .u32 x.seq,.int .i64 x.hops,.int .u32 x.next,.bool x.valid,.int .u64 x.exp,.slice ao n c],.bool true])∧Below w.heap.size w w':=by
 obtain⟨h1,hd⟩:=N7 ha hl;obtain⟨p,hp⟩:∃p,pos(L.map(·.1))d=p:=⟨_,rfl⟩;have hlt:=C8(L.map(·.1))d;rw [hp]at h1 hlt;rw [List.getElem?_map]at h1;obtain⟨u,hu⟩:∃u,L[p]?=some(x,u):=by
  cases e:L[p]? with
  |none=>rw [e]at h1;cases h1
  |some q=>rw [e]at h1;cases h1;exact⟨q.2,rfl⟩
 have hpl:=(List.getElem?_eq_some_iff.1 hu).1;obtain⟨g,c,rfl,_⟩:=bS h.row(by omega);have hb:Below w.heap.size w(w.alloc(.cells #[.int .u32 0,.int .u32 0,.int .i64 0,.int .u32 0,.bool false,.int .u64 0,.slice none 0 0]38)):=(Below.refl _ _).alloc(Nat.le_refl _)_;have hfin:Hid(∀ao n' c',Below w.heap.size w(w.alloc(.cells #[.int .u32 x.dest,.int .u32 x.seq,.int .i64 x.hops,.int .u32 x.next,.bool x.valid,.int .u64 x.exp,.slice ao n' c']38))):=Sz fun ao n' c'=>(Below.refl _ _).alloc(Nat.le_refl _)_;have h':=h.later hb;replace h':=Sz h';clear h hp hb hl;go_enter Tryz.func14,Tryz.ntmps14
 go_wp2_with fail
 go_loop [6](fun i=>∃k:Nat,k≤p∧i=.int .i64 k)(fun i=>p+1 - (intOf i).toNat)
 case atStart=>exact⟨0,Nat.zero_le _,rfl⟩
 case round=>
  obtain⟨k,hk,rfl⟩:=hrel;have hki:(k:Int)<(L.length:Int):=by omega
  by_cases he:k=p
  ·subst he;obtain⟨ao,cb,rfl,k0,k1,k2,k3,k4,k5,k6⟩:=uK h'.out hu;clear h' hlt ha hk;go_wp2_with fail
   exact bodyPost_ret(v:=.tuple #[.agg #[.int .u32 d,.int .u32 x.seq,.int .i64 x.hops,.int .u32 x.next,.bool x.valid,.int .u64 x.exp,.slice ao x.bB.length cb],.bool true])(by simp [results,Tryz.results14,go_sem])rfl⟨⟨ao,_,cb,rfl⟩,by have:=hfin.out ao x.bB.length cb;rwa [hd]at this⟩
  ·obtain⟨z,hz,hzd⟩:=hlt k(by omega);rw [List.getElem?_map]at hz;obtain⟨v,hv⟩:∃v,L[k]?=some(z,v):=by
    cases e:L[k]? with
    |none=>rw [e]at hz;cases hz
    |some q=>rw [e]at hz;cases hz;exact⟨q.2,rfl⟩
   obtain⟨ao,cb,rfl,k0,k1,k2,k3,k4,k5,k6⟩:=uK h'.out hv;have hne:(z.dest==d)=false:=by simp;omega
   clear h' hlt ha;go_wp2
   go_round
   case rel=>exact⟨k+1,by omega,by go_num⟩
   case measure=>simp [intOf];omega
end Go.Proofs.YtakaadcpaeiccabGreat
