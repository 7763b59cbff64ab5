import Derived.Test.YtakaadcpaeiccabGreatC33
namespace Go.Proofs.YtakaadcpaeiccabGreat
theorem KL:∀(l T:List Int),l.Nodup->(∀a∈l,a∈T)->l.length<=T.length
 | [],_,_,_=>b_ _
 |a::l,T,hn,hs=>by
  obtain⟨h1,h2⟩:=List.nodup_cons.1 hn;have ha:=hs a gm;have:=KL l (T.erase a) h2 λb hb=>(List.mem_erase_of_ne λe=>h1 (by rw[<-e];exact hb)).2 (hs b (iJ _ hb));rw[List.length_erase_of_mem ha]at this;have:=List.length_pos_of_mem ha;rw[dY];omega
theorem M5(me:Int)(f:Int->Option Int):∀(ss:List Int) (A:List Rt),A.length+ss.length<=8->(∀a∈ss,a≠me)->(gM f ss).foldl (V3 me) A=A++ss.map λa=>zy (false,a,(f a).getD 0)
 | [],A,_,_=>by simp[gM]
 |a::ss,A,hl,hm=>by
  rw[dY]at hl;have h1:V3 me A (false,a,(f a).getD 0)=A++ [zy (false,a,(f a).getD 0)]:=by
   unfold V3 Cw;have:a≠me:=hm a gm;rw[aM (by simp[this];omega)]
  show(gM f ss).foldl (V3 me) (V3 me A (false,a,(f a).getD 0))=_;rw[h1,M5 me f ss _ (by rw[dx,List.length_singleton];omega) λb hb=>hm b (iJ _ hb),List.append_assoc];rfl
theorem XH(me:Int)(f:Int->Option Int)(c:Option Int)(ss:List Int)(hl:ss.length<=8)(hm:∀a∈ss,a≠me):um me (dz c++gM f ss)=ss.map λa=>zy (false,a,(f a).getD 0):=by
 unfold um;rw[List.foldl_append];have h1:(dz c).foldl (V3 me) []=[]:=by
  cases c with
  |none=>rfl
  |some v=>rfl
 rw[h1,M5 me f ss [] (by simpa using hl) hm,List.nil_append]
theorem U3{J:nE}(h:∀r∈J,0<=r.2.2):∀(f:Int->Option Int) (c:Option Int) (o:nE),iT f c o->iT (J.foldl stepM f) (J.foldl lH c) (J.foldl (λo r=>AJ o (norm r)) o):=by
 induction J with
 |nil=>intro f c o h;exact h
 |cons y J ih=>
  intro f c o hc;simp only[fP];exact ih (λz hz=>h z (iJ _ hz)) _ _ _ (hc.put y (h y gm))
theorem QD{G:Int}{S:List bG}{i:Nat}{st:bG}(hS:S[i]?=some st)(hz:st.nd=none)(h:CI G S)(hj:JI G (Cs S st.addr) st)(hG0:0<=G)(hG:G+1<4294967295)(now:Int):
  JF (G+1) (Cs S st.addr) (jl st.aZ) (St.new st.addr st.aZ now)∧((St.new st.addr st.aZ now).bn=false->∃L,st.aZ=bB L)∧l5 st {st with nd:=some (St.new st.addr st.aZ now)}∧CI (G+1) (S.set i {st with nd:=some (St.new st.addr st.aZ now)}):=by
 obtain⟨z0,hz0⟩:∃z0,St.raw st.addr st.aZ now=z0:=⟨_,rfl⟩;have e0:=aO z0;have hnew:St.new st.addr st.aZ now=z0.finish:=by rw[St.uq,hz0]
 have hbd:=KF (D:=Cs S st.addr) (G:=G) (jl st.aZ) (λ_=>none) (λd v h=>by cases h) hj.rc;obtain⟨ss,hss,hmem,hcmp⟩:iT (mG (jl st.aZ)) (qI (jl st.aZ)) (cmpL (jl st.aZ)):=U3 (λr hr=>(hj.rc r hr).1.1) _ _ _ iT.nil;have hD:∀a∈ss,Cs S st.addr a∧∃v,mG (jl st.aZ) a=some v∧0<=v∧v<=G:=λa ha=>by
  obtain⟨v,hv⟩:=Option.isSome_iff_exists.1 ((hmem a).1 ha);have:=hbd a v hv;exact⟨this.1,v,hv,this.2⟩
 have hl8:ss.length<=8:=by
  have h1:=KL ss (S.map (·.addr)) (hss.imp λhab=>by omega) λa ha=>by
   obtain⟨t,ht,e⟩:=(hD a ha).1.2;exact dh.2 ⟨t,ht,e⟩
  rw[iL]at h1;have:=h.len;omega
 have hA:z0.A=ss.map λa=>zy (false,a,(mG (jl st.aZ) a).getD 0):=by
  rw[<-hz0];show um st.addr (cmpL (jl st.aZ))=_;rw[hcmp];exact XH _ _ _ _ hl8 λa ha=>(hD a ha).1.1
 have Ui:∀y∈z0.A,∃a v,a∈ss∧mG (jl st.aZ) a=some v∧(0<=v∧v<=G)∧y.dest=a∧y.seq=v+1∧y.hops=0∧y.valid=false:=by
  intro y hy;rw[hA]at hy;obtain⟨a,ha,rfl⟩:=dh.1 hy;obtain⟨_,v,hv,hb⟩:=hD a ha;refine⟨a,v,ha,hv,hb,rfl,?_,rfl,rfl⟩;show gr ((mG (jl st.aZ) a).getD 0)=v+1;rw[hv];exact mg (s:=v) hb.1 (by omega)
 have hasc:Asc z0.A:=by
  rw[hA];unfold Asc;rw[List.pairwise_map];exact hss.imp λhab=>hab
 have hseq:z0.seq=gr ((qI (jl st.aZ)).getD 0):=by rw[<-hz0];rfl
 have ZJ:=Sj hG0 (jl st.aZ) none ⟨fo _,hG0⟩ λr hr=>(hj.rc r hr).1;have TW:0<=z0.seq∧z0.seq<=G+1:=by
  rw[hseq];have:(qI (jl st.aZ)).getD 0=((jl st.aZ).foldl lH none).getD 0:=rfl;rw[mg (by omega) (by omega)];omega
 have hme:z0.me=st.addr:=by rw[<-hz0];rfl
 have l:l5 st {st with nd:=some z0.finish}:=by
  refine⟨rfl,λd q h' _ e=> ?_⟩;unfold wO at e ⊢;have hvr:vr st d=(mG (jl st.aZ) d).map λq=>(q,0):=by unfold vr;rw[hz]
  rw[hvr]at e;rw[wN (st:={st with nd:=some z0.finish}) rfl,e0.A];cases hd:mG (jl st.aZ) d with
  |none=>rw[hd]at e;cases e
  |some v=>
   rw[hd]at e;have hin:d∈ss:=(hmem d).2 (by rw[hd];rfl);have hy:zy (false,d,(mG (jl st.aZ) d).getD 0)∈z0.A:=by
    rw[hA];exact dh.2 ⟨d,hin,rfl⟩
   have hl:=mU hasc hy;have hb:=(hbd d v hd).2;rw[show aK z0.A d=some (zy (false,d,(mG (jl st.aZ) d).getD 0))from hl,hd];have e':qD (v,0) q h'=true:=e;show qD (gr v - 1,0) q h'=true;rw[mg hb.1 (by omega),show v+1 - 1=v by omega];exact e'
 have hlb:Lb (G+1) (Cs S st.addr) z0:=by
  refine⟨λy hy=> ?_,TW⟩;obtain⟨a,v,ha,hv,hb,e1,e2,_⟩:=Ui y hy;rw[e1,e2];exact⟨(hD a ha).1,by omega,by omega⟩
 have hjm:Jm (G+1) (Cs S st.addr) [] z0:=by
  rw[<-hz0];exact⟨λd v e=>(by cases e),λr hr=>(by cases hr),λd v e=>(by cases e),by show(0:Int)<=0∧(0:Int)<=G+1;omega⟩
 have Q8:=DW hjm hlb (.inr rfl) (by omega);have hrep:st.aZ≠ []->z0.finish.bn=true:=by
  intro hne;have hr:z0.bn=true:=by
   rw[<-hz0];show decide (st.aZ≠ [])=true;simpa using hne
  unfold St.finish;split
  ·rfl
  ·exact hr
 rw[hnew];refine⟨?_,λhr=>⟨[],?_⟩,l,h.set (by omega) hS l λz hz'=> ?_⟩
 ·by_cases hne:st.aZ=[]
  ·rw[hne];exact Q8
  ·refine⟨λd v e=> ?_,Q8.rc,Q8.on,Q8.ow,Q8.ln⟩;have h1:=Q8.fw d v e;rw[hrep hne]at h1 ⊢;exact h1
 ·refine Classical.byContradiction λhne=> ?_;rw[hrep hne]at hr;cases hr
 ·cases hz';rw[e0.A,e0.me,e0.seq];refine⟨hme,TW,hasc,λy hy=> ?_⟩;obtain⟨a,v,ha,hv,hb,e1,e2,e3,e4⟩:=Ui y hy;refine⟨⟨?_,by omega,by omega,λh=>(by rw[e4]at h;cases h),λh=>(by rw[e4]at h;cases h)⟩,by rw[e1];exact(hD a ha).1.1⟩;rw[e1];exact gJ (s':={st with nd:=some z0.finish}) hS rfl (hD a ha).1.2
structure QK(S:List bG)(z:St):Prop where
 nd:(z.Q.map (·.dest)).Nodup
 on:∀q∈z.Q,∃t∈S,t.addr=q.dest
theorem QK.len{S:List bG}{z:St}(h:QK S z):z.Q.length<=S.length:=by
 have:=KL (z.Q.map (·.dest)) (S.map (·.addr)) h.nd λa ha=>by
  obtain⟨q,hq,rfl⟩:=dh.1 ha;obtain⟨t,ht,e⟩:=h.on q hq;exact dh.2 ⟨t,ht,e⟩
 rw[iL,iL]at this;exact this
theorem QK.sub{S:List bG}{z z':St}(h:QK S z)(hs:(z'.Q.map (·.dest)).Sublist (z.Q.map (·.dest))):QK S z':=by
 refine⟨List.Pairwise.sublist hs h.nd,λq hq=> ?_⟩;have:=hs.subset (dh.2 ⟨q,hq,rfl⟩);obtain⟨u,hu,e⟩:=dh.1 this;rw[<-e];exact h.on u hu
theorem Am(Q:List Sr)(q:Sr):(St.bR Q q).map (·.dest)=Q.map (·.dest):=by
 unfold St.bR;rw[List.map_map];refine List.map_congr_left λz _=> ?_;simp only[Function.comp_apply];split
 ·rename_i e;exact e.symm
 ·rfl
theorem x_(s:St)(q:Sr):(s.ask q).Q.map (·.dest)=s.Q.map (·.dest):=by
 obtain⟨o,h1,_⟩:=Ef s q;rw[h1,Am]
theorem qU(s:St)(d:Int):((s.sendAll d).Q.map (·.dest)).Sublist (s.Q.map (·.dest)):=by
 unfold St.sendAll;split
 ·exact List.Sublist.refl _
 ·split
  ·exact List.filter_sublist.map _
  ·exact List.Sublist.refl _
theorem Rw(s:St)(q:Sr):((s.step q).Q.map (·.dest)).Sublist (s.Q.map (·.dest)):=by
 have ha:∀q:Sr,((s.ask q).Q.map (·.dest)).Sublist (s.Q.map (·.dest)):=λq=>by rw[x_];exact List.Sublist.refl _
 unfold St.step;split
 ·exact qU _ _
 ·split
  ·unfold St.widen;split
   ·exact ha _
   ·split
    ·exact ha _
    ·split
     ·exact ha _
     ·exact List.filter_sublist.map _
  ·exact ha _
theorem Dp:∀(D:List Sr) (s:St),((D.foldl St.step s).Q.map (·.dest)).Sublist (s.Q.map (·.dest))
 | [],_=>List.Sublist.refl _
 |q::D,s=>by
  rw[fP];exact(Dp D _).trans (Rw s q)
theorem QK.jY{S:List bG}{z:St}(h:QK S z)(now:Int):QK S (z.jY now):=by
 refine h.sub ?_;show(((St.j_ z.Q now).foldl St.step (z.locked.begin now)).finish.Q.map (·.dest)).Sublist _;rw[(aO _).Q];exact Dp _ _
theorem Um(s:St)(fr:Int)(xs:List Int):((s.hear fr xs).Q.map (·.dest)).Sublist (s.Q.map (·.dest)):=by
 unfold St.hear;split
 ·exact List.Sublist.refl _
 ·unfold St.gF;split
  ·unfold St.dA;split<;>exact List.Sublist.refl _
  ·split
   ·rw[nX];exact List.Sublist.refl _
   ·split
    ·unfold St.dN;split
     ·exact List.Sublist.refl _
     ·dsimp only;split
      ·exact List.Sublist.refl _
      ·split
       ·split
        ·exact qU _ _
        ·exact qU _ _
       ·split
        ·exact List.Sublist.refl _
        ·unfold St.iD;split<;>exact List.Sublist.refl _
    ·split
     ·unfold St.fC;dsimp only;rw[Tk];split<;>exact List.Sublist.refl _
     ·unfold St.dU;split
      ·exact List.Sublist.refl _
      ·split
       ·exact List.Sublist.refl _
       ·split<;>exact List.Sublist.refl _
theorem QK.rcv{S:List bG}{z:St}(h:QK S z)(now fr:Int)(xs:List Int):QK S (z.rcv now fr xs):=by
 refine h.sub ?_;show(((z.locked.begin now).hear fr xs).finish.Q.map (·.dest)).Sublist _;rw[(aO _).Q];exact Um _ _ _
theorem QK.brk{S:List bG}{z:St}(h:QK S z)(now d_:Int):QK S (z.brk now d_):=h.sub (by rw[(wm z now d_).2.2];exact List.Sublist.refl _)
theorem QK.snd{S:List bG}{z:St}(h:QK S z)(now d:Int)(t:ByteArray)(hd:∃u∈S,u.addr=d):QK S (z.snd now d t):=by
 have e:(z.snd now d t).Q=(if (bH (z.locked.begin now).A d (z.locked.begin now).now).2 then(z.locked.begin now).aN d t else(z.locked.begin now).await d t).Q:=(aO _).Q;have hk:∀s:St,s.Q=z.Q->QK S (s.await d t):=by
  intro s hs;unfold St.await;split
  ·rename_i q hq;refine h.sub ?_;show((St.bR s.Q (s.hold q t).2).map (·.dest)).Sublist _;rw[Am,hs];exact List.Sublist.refl _
  ·rename_i hn;have hq:∀q∈z.Q,q.dest≠d:=by rw[<-hs];exact wZ.1 hn
   refine⟨?_,λq hq'=> ?_⟩
   ·rw[x_];show((s.Q++ [St.ic d t]).map (·.dest)).Nodup;rw[hs,List.map_append];refine List.nodup_append.2 ⟨h.nd,by simp,λa ha b hb=> ?_⟩;obtain⟨q,hq',rfl⟩:=dh.1 ha;have e2:b=d:=by simpa[St.ic]using hb
    rw[e2];exact hq q hq'
   ·have h1:q.dest∈(({s with Q:=s.Q++ [St.ic d t]}:St).ask (St.ic d t)).Q.map (·.dest):=dh.2 ⟨q,hq',rfl⟩;rw[x_]at h1;obtain⟨u,hu,e2⟩:=dh.1 h1;rcases dG.1 (show u∈s.Q++ [St.ic d t]from hu)with hu|hu
    ·rw[hs]at hu;rw[<-e2];exact h.on u hu
    ·rw[dO]at hu;subst hu;rw[<-e2];exact hd
 refine⟨?_,?_⟩
 ·rw[e];split
  ·rw[(fq _ _ _).1];exact h.nd
  ·exact(hk (z.locked.begin now) rfl).nd
 ·rw[e];split
  ·rw[(fq _ _ _).1];exact h.on
  ·exact(hk (z.locked.begin now) rfl).on
theorem Kt(S:List bG)(me:Int)(xs:List Int)(now:Int):QK S (St.new me xs now):=by
 have e:(St.new me xs now).Q=[]:=(aO (St.raw me xs now)).Q;exact⟨by rw[e];exact List.Pairwise.nil,λq hq=>(by rw[e]at hq;cases hq)⟩
variable{c:sN}{B G G':Int}{e:List Ev}{S0:List bG}{m:aP}{i k n:Nat}{P:kQ}{s s' st:bG}
structure CM(G:Int)(m:aP):Prop where
 ci:CI G m.S
 ji:∀(i:Nat) s,m.S[i]?=some s->JI G (Cs m.S s.addr) s
 fr:∀f∈m.bD,zL G m.S f.1 f.2.2
 nk:Rj m
 qk:∀(i:Nat) s z,m.S[i]?=some s->s.nd=some z->QK m.S z
def Rl(S S':List bG):Prop:=∀(i:Nat) s,S[i]?=some s->∃s',S'[i]?=some s'∧l5 s s'
theorem Rl.refl(S:List bG):Rl S S:=λ_ s h=>⟨s,h,l5.refl s⟩
theorem Rl.set{S:List bG}(h:Rl S0 S){i:Nat}{s s':bG}(hs:S[i]?=some s)(l:l5 s s'):Rl S0 (S.set i s'):=λj t ht=>by
 obtain⟨u,hu,l1⟩:=h j t ht;obtain⟨u',hu',l2⟩:=mV hs l hu;exact⟨u',hu',l1.trans l2⟩
theorem NR{S:List bG}(hs:S[i]?=some s)(e:s'.addr=s.addr){a d:Int}(h:Cs S a d):Cs (S.set i s') a d:=⟨h.1,gJ hs e h.2⟩
theorem QK.S{S:List bG}{z:St}(h:QK S z){i:Nat}{s s':bG}(hs:S[i]?=some s)(e:s'.addr=s.addr):QK (S.set i s') z:=⟨h.nd,λq hq=>gJ hs e (h.on q hq)⟩
theorem BQ(h:CM G m)(hG:G<=G'){i:Nat}{s s':bG}(hS:m.S[i]?=some s)(l:l5 s s')(c:CI G' (m.S.set i s'))(j:JI G' (Cs m.S s'.addr) s')(hk:∀z,s'.nd=some z->NK z∧QK m.S z):CM G' (m.put i s'):=by
 refine⟨c,λk t ht=> ?_,λf hf=>(h.fr f hf).set hG hS l,h.nk.put i λz hz=>(hk z hz).1,λk t z ht hz=> ?_⟩
 ·rcases cO ht with⟨_,rfl⟩|⟨_,ht⟩
  ·exact j.D λd hd=>NR hS l.addr hd
  ·exact((h.ji k t ht).up hG).D λd hd=>NR hS l.addr hd
 ·rcases cO ht with⟨_,rfl⟩|⟨_,ht⟩
  ·exact(hk z hz).2.S hS l.addr
  ·exact(h.qk k t z ht hz).S hS l.addr
theorem Rz(ha:s'.addr=s.addr)(hv:∀d,vr s' d=vr s d):l5 s s':=⟨ha,λd q h _ e=>by unfold wO at *;rw[hv];exact e⟩
theorem Xb{z:St}(ha:s'.addr=s.addr)(h:s.nd=some z)(h':s'.nd=some z):l5 s s':=Rz ha λd=>by rw[wN h,wN h']
theorem Y4(h:CM G m){i:Nat}{s s':bG}(hS:m.S[i]?=some s)(ha:s'.addr=s.addr)(hn:s'.nd=s.nd)(hj:s'.aZ=s.aZ):CM G (m.put i s')∧l5 s s':=by
 have l:l5 s s':=Rz ha λd=>by unfold vr;rw[hn,hj]
 have c:=h.ci.set (fo _) hS l λz hz=>by
  rw[hn]at hz;obtain⟨a,b,c,d⟩:=h.ci.nd i s z hS hz;rw[ha];exact⟨a,b,c,λy hy=>⟨(d y hy).1.set (fo _) hS l,(d y hy).2⟩⟩
 have j:=h.ji i s hS;refine⟨BQ h (fo _) hS l c ?_ λz hz=> ?_,l⟩
 ·rw[ha];exact⟨by rw[hj];exact j.rc,by rw[hn,hj];exact j.fl,by rw[hn,hj];exact j.fw,by rw[hn];exact j.on,by rw[hn];exact j.ow,by rw[hn];exact j.ln⟩
 ·rw[hn]at hz;exact⟨h.nk i s z hS hz,h.qk i s z hS hz⟩
def wt(P:kQ):Nat:=P.countP λf=>decide (f.1≠0)
theorem aae(P Q:kQ):wt (P++Q)=wt P+wt Q:=List.countP_append ..
theorem Rn(P:kQ):wt P<=P.length:=List.countP_le_length
def CJ(S0:List bG)(B:Int)(k i:Nat)(z:zZ)(P:kQ):Prop:=i<z.1.S.length∧∃G,0<=G∧CM G z.1∧Rl S0 z.1.S∧(∀f∈P,zL G z.1.S i f.2)∧G+3 * (wt P:Int)+400 * (k:Int)<=B
def CIn(S0:List bG)(B:Int)(k:Nat)(z:zZ):Prop:=∃G,0<=G∧CM G z.1∧Rl S0 z.1.S∧G+400 * (k:Int)<=B
theorem Z5{z:St}(hS:m.S[i]?=some st)(h:CM G m)(hle:Rl S0 m.S)(hG0:0<=G)(hG:G<=G')(l:l5 st {st with nd:=some z})(c:CI G' (m.S.set i {st with nd:=some z}))(hf:∀f∈z.aI,zL G' (m.S.set i {st with nd:=some z}) i f.2)(Q8:JF G' (Cs m.S st.addr) (jl st.aZ) z)(hfl:z.bn=false->∃L,st.aZ=bB L)(nk:NK z)(qk:QK m.S z)(hP:∀f∈P,zL G m.S i f.2)(hB:G'+3 * ((wt z.aI:Int)+wt P)+400 * (k:Int)<=B):
  N8 (CJ S0 B k i) i (m,e) P {st with nd:=some z} z.ot:=by
 have hrc:=((h.ji i st hS).up hG).rc;have hil:=(fu.1 hS).1;have hi:∀s:bG,i<(m.put i s).S.length:=λs=>by rw[(gQ _ _ _).1,List.length_set];exact hil
 have hw0:(0:Int)<=wt z.aI:=Int.natCast_nonneg _;have hP':∀ {s':bG},l5 st s'->∀f∈P,zL G' (m.S.set i s') i f.2:=λl f hf=>(hP f hf).set hG hS l;have hS1:(m.S.set i {st with nd:=some z})[i]?=some {st with nd:=some z}:=List.getElem?_set_self hil;refine⟨λhid=> ?_,λ_ hw=> ?_,λ_ hw=> ?_⟩
 ·exact⟨hi _,G',by omega,BQ h hG hS l c (XZ hrc hfl Q8 hid) (λu hu=>by cases hu;exact⟨nk,qk⟩),hle.set hS l,hP' l,by omega⟩
 ·obtain⟨j,hn,ha⟩:=IG hrc hfl Q8 hw;generalize (bG.write {st with nd:=some z} z.ot).1=s2 at j hn ha ⊢;have l12:l5 {st with nd:=some z} s2:=Xb ha rfl hn;have l2:=l.trans l12;have c2:=c.set (fo _) hS1 l12 λu hu=>by
   rw[hn]at hu;cases hu;obtain⟨a,b,c,d⟩:=c.nd i _ z hS1 rfl;rw[ha];exact⟨a,b,c,λy hy=>⟨(d y hy).1.set (fo _) hS1 l12,(d y hy).2⟩⟩
  rw[oo]at c2;refine⟨hi _,G',by omega,BQ h hG hS l2 c2 (by rw[ha];exact j) (λu hu=>by rw[hn]at hu;cases hu;exact⟨nk,qk⟩),hle.set hS l2,λf hf'=> ?_,?_⟩
  ·rcases dG.1 hf' with hf'|hf'
   ·have h1:=(hf f hf').set (fo _) hS1 l12;rw[oo]at h1;exact h1
   ·exact hP' l2 f hf'
  ·rw[show z.ot.aI=z.aI from rfl,aae];omega
 ·obtain⟨j,hn,ha,hm⟩:=XY hrc hfl Q8.rc hw;generalize (bG.write {st with nd:=some z} z.ot).1=s3 at j hn ha hm ⊢;have l3:l5 st s3:=GK (h.ji i st hS) (λu hu y hy=>((h.ci.nd i st u hS hu).2.2.2 y hy).1) hn ha hm;have c3:=h.ci.set hG hS l3 λu hu=>by rw[hn]at hu;cases hu
  exact⟨hi _,G',by omega,BQ h hG hS l3 c3 (by rw[ha];exact j) (λu hu=>by rw[hn]at hu;cases hu),hle.set hS l3,hP' l3,by omega⟩
theorem FL{s s':St}(k:fU c n s s'):s'.aI.length<=s.aI.length+n:=by
 induction k with
 |nil=>exact Nat.le_add_right _ _
 |snoc _ k ih=>
  refine dH ?_ (Nat.add_le_add_right ih 1);cases k with
  |zw e=>rw[e.aI];exact Nat.le_succ _
  |tab _=>exact Nat.le_succ _
  |aJ t p L _ _=>
   show(_++ [_]).length<=_;rw[dx];exact aB _
  |grw=>exact Nat.le_succ _
  |mx _ _ _ _=>exact Nat.le_succ _
  |wr=>exact Nat.le_succ _
theorem HZ{D:Int->Prop}{z z':St}(h:JI G D st)(hz:st.nd=some z):z'.bn=false->∃L,st.aZ=bB L:=λ_=>h.fl z hz
theorem zV{z s':St}{w:Nat}{now:Int}(hB4:B<4294967295)(hS:m.S[i]?=some st)(hz:st.nd=some z)(h:CM G m)(hle:Rl S0 m.S)(hG0:0<=G)(hc:QV G m.S z.me c)(kk:fU c n (z.locked.begin now) s')(nk:NK s'.finish.freed)(qk:QK m.S s'.finish.freed)(hP:∀f∈P,zL G m.S i f.2)(hw:wt s'.finish.freed.aI<=w)(hB:G+n+1+3 * ((w:Int)+wt P)+400 * (k:Int)<=B):
  N8 (CJ S0 B k i) i (m,e) P {st with nd:=some s'.finish.freed} s'.finish.freed.ot:=by
 have hp0:(0:Int)<=wt P:=Int.natCast_nonneg _;have hw0:(0:Int)<=w:=Int.natCast_nonneg _;have hk0:(0:Int)<=k:=Int.natCast_nonneg _;obtain⟨a1,a2,a3,a4⟩:=QA hS hz h.ci hc hG0 (by omega) (h.ji i st hS) kk;exact Z5 hS h hle hG0 (by omega) a2 a3 a4 a1 (HZ (h.ji i st hS) hz) nk qk hP (by omega)
theorem vR{S:List bG}{me:Int}:QV G S me none:=λfr p L h=>by cases h
theorem Dy(m:aP)(i:Nat)(f:Int×ByteArray):∀g∈(m.bK i f).bD,g∈m.bD∨∃j,g=(i,j,f.2):=by
 unfold aP.bK;generalize m.heard i f.1=l
 induction l generalizing m with
 |nil=>exact λg hg=> .inl hg
 |cons a l ih=>
  intro g hg;rw[fP]at hg;rcases ih _ g hg with h|h
  ·have h1:∀g∈m.bD++ [(i,a,f.2)],g∈m.bD∨∃j,g=(i,j,f.2):=λg hg=>by
    rcases dG.1 hg with hg|hg
    ·exact .inl hg
    ·exact .inr ⟨a,dO.1 hg⟩
   unfold aP.launch at h;dsimp only at h;split at h
   ·exact h1 g (List.mem_of_mem_tail h)
   ·exact h1 g h
  ·exact .inr h
theorem xY{m':aP}(h:CM G m)(hS:m'.S=m.S)(ha:∀g∈m'.bD,zL G m.S g.1 g.2.2):CM G m':=by
 refine⟨by rw[hS];exact h.ci,?_,?_,h.nk.S hS,?_⟩
 ·rw[hS];exact h.ji
 ·rw[hS];exact ha
 ·rw[hS];exact h.qk
theorem aci(S0:List bG){B:Int}(hB4:B<4294967295)(k i:Nat):VT (CJ S0 B k i) i:=by
 have hse:∀m e f P,CJ S0 B k i (m,e) (f::P)->∃G,0<=G∧CM G (m.bK i f)∧Rl S0 (m.bK i f).S∧i<(m.bK i f).S.length∧(∀g∈P,zL G (m.bK i f).S i g.2)∧G+3 * (wt (f::P):Int)+400 * (k:Int)<=B:=by
  rintro m e f P ⟨hi,G,hG0,h,hle,hf,hb⟩;have hS:=(iQ m i f).1;refine⟨G,hG0,xY h hS λg hg=> ?_,by rw[hS];exact hle,by rw[hS];exact hi,λg hg=>by rw[hS];exact hf g (iJ _ hg),hb⟩;rcases Dy m i f g hg with hg|⟨j,rfl⟩
  ·exact h.fr g hg
  ·exact hf f gm
 refine⟨λm e f P hj=> ?_,λm e P f s z hj hf0 _ hs hz=> ?_⟩
 ·obtain⟨G,h0,h1,h2,h3,h4,h5⟩:=hse m e f P hj;have:wt P<=wt (f::P):=List.Sublist.countP_le (List.sublist_cons_self _ _);exact⟨h3,G,h0,h1,h2,h4,by omega⟩
 ·obtain⟨G,h0,h1,h2,h3,h4,h5⟩:=hse m e f P hj;have hw:wt (f::P)=wt P+1:=by
   unfold wt;rw[List.countP_cons,aM (by simpa using hf0)]
  obtain⟨s',k1,k2⟩:=F4 z m.now f.1;have nk:=((h1.nk i s z hs hz).brk m.now f.1).1;have qk:=(h1.qk i s z hs hz).brk m.now f.1;have hfr:=NW z m.now f.1;rw[k2]at nk qk hfr ⊢;refine zV hB4 hs hz h1 h2 h0 vR k1 nk qk h4 (w:=0) ?_ (by omega);refine Nat.le_of_eq (List.countP_eq_zero.2 λg hg=> ?_);simpa using hfr g hg
theorem CM.zero(h:CM G m){j:Nat}(h0:(m.at' j).addr≠0):∃s,m.S[j]?=some s∧m.at' j=s:=by
 cases hs:m.S[j]? with
 |some s=>exact⟨s,rfl,dX hs⟩
 |none=>
  exfalso;apply h0;unfold aP.at';rw[List.getD_eq_getElem?_getD,hs];rfl
theorem XT{xs:List Int}(h:qB xs=true):(ZF xs).length<=8:=by
 match xs,h with
 |x0::x1::x2::x3::x4::r,h=>
  simp only[qB,eF]at h;show(m_ x1 x4 r).length<=8;unfold m_;split
  ·rename_i e;have h3:=(eY h.2).2.2.2.2.2.2;rw[EK]at h3;have hln:(iY x0 x1 x2 x4 r).ln=x4.toNat:=by
    subst e;rfl
   rw[hln]at h3;unfold qA;rw[iL,List.length_range];omega
  ·exact b_ _
theorem abg(h:CM G m)(hG0:0<=G){me:Int}{j:Nat}{b:ByteArray}(hf:zL G m.S j b)(hF:qB (ak b)=true)(h0:(m.at' j).addr≠0)(hme:(m.at' j).addr≠me):QV G m.S me (Nt (m.at' j).addr (ak b)):=by
 intro fr p L hc;rw[abf]at hc;cases hc;obtain⟨s,hs,e⟩:=h.zero h0;have hw:=hf.whole hF;rw[e]at hme ⊢;have hgood:(pI (ak b)).eZ=true:=by
  match hx:ak b,hF with
  |x0::x1::x2::x3::x4::r,hF=>
   simp only[qB,eF]at hF;exact hF.2
 obtain⟨hl,t0,t1,_,_,_,hk⟩:=eY hgood;refine⟨hme,t0,?_,?_,j,s,hs,rfl,hw⟩
 ·rcases hk with hk|hk|hk|hk
  ·exact(hw.k1 hk).2.2.2.1
  ·exact(hw.k2 hk).2.2.1
  ·have hd:(pI (ak b)).aX=0:=by
    simp only[aD.yH,yc,eF,iM]at hl;rw[hl.2.2.2.2.2.2.2.1];unfold aD.dz;rw[hk];rfl
   omega
  ·have hd:(pI (ak b)).aX=0:=by
    simp only[aD.yH,yc,eF,iM]at hl;rw[hl.2.2.2.2.2.2.2.1];unfold aD.dz;rw[hk.1];rfl
   omega
 ·intro x hx;by_cases hk3:(pI (ak b)).kind=3
  ·exact(hw.k3 hk3 x hx).2
  ·exfalso;have hkk:(pI (ak b)).kind=(ak b).getD 1 0:=EK _ _ _ _ _;rw[hkk]at hk3;unfold ZF m_ at hx;rw[aH hk3]at hx;cases hx
theorem Y3(S0:List bG){B:Int}(hB4:B<4294967295)(o:Op)(ho:o.dK≠8):Cb (CIn S0 B) (CJ S0 B) o:=by
 have hlt:∀ {m:aP} {i:Nat} {s:bG},m.S[i]?=some s->i<m.S.length:=λh=>(fu.1 h).1;have hsame:∀(k0:Nat) (m:aP) (e:List Ev) (i:Nat) (s s':bG),m.S[i]?=some s->s'.addr=s.addr->s'.nd=s.nd->s'.aZ=s.aZ->CIn S0 B k0 (m,e)->CIn S0 B k0 (m.put i s',e):=by
  rintro k0 m e i s s' hS ha hn hj ⟨G,h0,h1,h2,h3⟩;obtain⟨c,l⟩:=Y4 h1 hS ha hn hj;exact⟨G,h0,c,h2.set hS l,h3⟩
 refine⟨?_,?_,λk i=>aci S0 hB4 k i,λ_ m e a r h=>h,?_,?_,?_,?_,?_,?_,?_,?_,?_,?_,?_,?_⟩
 ·rintro k z ⟨G,h0,h1,h2,h3⟩;exact⟨G,h0,h1,h2,by omega⟩
 ·rintro k i z ⟨_,G,h0,h1,h2,_,h3⟩;have:(0:Int)<=wt []:=Int.natCast_nonneg _;exact⟨G,h0,h1,h2,by omega⟩
 ·intro k0 m e a b ha hb _ h;unfold aP.link;split
  ·exact h
  ·have hsa:=cK ha;have h1:=hsame k0 m e a _ {m.at' a with hrs:=(m.at' a).hrs.set b o.on} hsa (by rw[dX hsa]) (by rw[dX hsa]) (by rw[dX hsa]) h;have hb':b<(m.put a {m.at' a with hrs:=(m.at' a).hrs.set b o.on}).S.length:=by rw[(gQ _ _ _).1,List.length_set];exact hb
   have hsb:=cK hb';exact hsame k0 _ e b _ _ hsb (by rw[dX hsb]) (by rw[dX hsb]) (by rw[dX hsb]) h1
 ·rintro m e a b s z hs hz hb _ _ _ _ _ _ ⟨G,h0,h1,h2,h3⟩;have hbs:=cK hb;have hbd:∃u∈m.S,u.addr=(m.at' b).addr:=⟨_,gI hbs,by rw[dX hbs]⟩;have nk:=((h1.nk a s z hs hz).snd m.now (m.at' b).addr o.txt).1;have qk:=(h1.qk a s z hs hz).snd m.now (m.at' b).addr o.txt hbd;have hk:∃n s',n<=7∧fU none n (z.locked.begin m.now) s'∧z.snd m.now (m.at' b).addr o.txt=s'.finish.freed:=by
   unfold St.snd St.sends;dsimp only;split
   ·exact⟨3,_,by omega,pG none _ _ _,rfl⟩
   ·exact⟨7,_,by omega,DI none _ _ _,rfl⟩
  obtain⟨n,s',hn,k1,k2⟩:=hk;rw[k2]at nk qk ⊢;have hfl:=FL k1;have hfr:s'.finish.freed.aI=s'.aI:=(aO s').aI;refine zV hB4 hs hz h1 h2 h0 vR k1 nk qk (λf hf=>by cases hf) (w:=n) ?_ ?_
  ·refine dH (Rn _) ?_;rw[hfr];have:(z.locked.begin m.now).aI.length=0:=rfl;omega
  ·have:(wt []:Int)=0:=rfl;omega
 ·rintro m e _ _ _ ⟨G,h0,h1,h2,h3⟩;exact⟨G,h0,xY h1 rfl h1.fr,h2,by omega⟩
 ·rintro k0 m e i s z hs hz _ ⟨G,h0,h1,h2,h3⟩;have nk0:=h1.nk i s z hs hz;have qk0:=h1.qk i s z hs hz;have nk:=(nk0.jY m.now).1;have qk:=qk0.jY m.now;obtain⟨s',k1,k2⟩:=zM z m.now nk0.Ke;have hd:=UR z.Q m.now;have hq:=qk0.len;have hl:=h1.ci.len;rw[k2]at nk qk ⊢;have hfl:=FL k1;have hfr:s'.finish.freed.aI=s'.aI:=(aO s').aI;refine zV hB4 hs hz h1 h2 h0 vR k1 nk qk (λf hf=>by cases hf) (w:=13 * (St.j_ z.Q m.now).length) ?_ ?_
  ·refine dH (Rn _) ?_;rw[hfr];have:(z.locked.begin m.now).aI.length=0:=rfl;omega
  ·have:(wt []:Int)=0:=rfl;omega
 ·rintro k0 m e k f _ _ ⟨G,h0,h1,h2,h3⟩;exact⟨G,h0,xY h1 rfl λg hg=>h1.fr g (List.mem_of_mem_eraseIdx hg),h2,h3⟩
 ·rintro k0 m e k f s z hf hs hz _ ⟨G,h0,h1,h2,h3⟩;have hm:CM G {m with bD:=m.bD.eraseIdx k}:=xY h1 rfl λg hg=>h1.fr g (List.mem_of_mem_eraseIdx hg);have nk0:=h1.nk f.2.1 s z hs hz;have qk0:=h1.qk f.2.1 s z hs hz;have nk:=(nk0.rcv m.now (m.at' f.1).addr (ak f.2.2) (mD _)).1;have qk:=qk0.rcv m.now (m.at' f.1).addr (ak f.2.2);have hk:∃n c s',n<=23∧QV G m.S z.me c∧fU c n (z.locked.begin m.now) s'∧z.rcv m.now (m.at' f.1).addr (ak f.2.2)=s'.finish.freed:=by
   by_cases hb:qB (ak f.2.2)=false∨(m.at' f.1).addr=0∨(m.at' f.1).addr=z.me
   ·refine⟨1,none,(z.locked.begin m.now).drop 0,by omega,vR,fJ none _ 0,?_⟩;show((z.locked.begin m.now).hear _ _).finish.freed=_;have hb':qB (ak f.2.2)=false∨(m.at' f.1).addr=0∨(m.at' f.1).addr=(z.locked.begin m.now).me:=hb;unfold St.hear;rw[aM hb']
   ·have hb':=hb;simp only[not_or]at hb';have hF:qB (ak f.2.2)=true:=by simpa using hb'.1
    refine⟨_,_,_,?_,abg h1 h0 (h1.fr f (gI hf)) hF hb'.2.1 hb'.2.2,Hl (z.locked.begin m.now) (m.at' f.1).addr (ak f.2.2) (λq hq=>(nk0.Ke q hq).1) (Ji z.A m.now),rfl⟩;have:=XT hF;unfold ZF at this;omega
  obtain⟨n,c,s',hn,hc,k1,k2⟩:=hk;rw[k2]at nk qk ⊢;have hfl:=FL k1;have hfr:s'.finish.freed.aI=s'.aI:=(aO s').aI;refine zV (m:={m with bD:=m.bD.eraseIdx k}) hB4 hs hz hm h2 h0 hc k1 nk qk (λf hf=>by cases hf) (w:=n) ?_ ?_
  ·refine dH (Rn _) ?_;rw[hfr];have:(z.locked.begin m.now).aI.length=0:=rfl;omega
  ·have:(wt []:Int)=0:=rfl;omega
 ·rintro k0 m e k f hf _ ⟨G,h0,h1,h2,h3⟩;refine⟨G,h0,xY h1 rfl λg hg=> ?_,h2,h3⟩;have ha:∀g∈m.bD++ [f],zL G m.S g.1 g.2.2:=λg hg=>by
   rcases dG.1 hg with hg|hg
   ·exact h1.fr g hg
   ·rw[dO]at hg;subst hg;exact h1.fr g (gI hf)
  have hg':g∈(m.launch f).bD:=hg;unfold aP.launch at hg';dsimp only at hg';split at hg'
  ·exact ha g (List.mem_of_mem_tail hg')
  ·exact ha g hg'
 ·rintro k0 m e k f n hf _ _ ⟨G,h0,h1,h2,h3⟩;refine⟨G,h0,xY h1 rfl λg hg=> ?_,h2,h3⟩;rcases List.mem_or_eq_of_mem_set hg with hg|rfl
  ·exact h1.fr g hg
  ·exact(h1.fr f (gI hf)).cut n
 ·intro k0 m e a b s z _ _ _ h8 _;exact absurd h8 ho
 ·rintro k0 m e a s hs ⟨G,h0,h1,h2,h3⟩;have l:l5 s s.stop:=GK (h1.ji a s hs) (λu hu y hy=>((h1.ci.nd a s u hs hu).2.2.2 y hy).1) rfl rfl λd v h=>h;have j:=h1.ji a s hs;exact⟨G,h0,BQ h1 (fo _) hs l (h1.ci.set (fo _) hs l λz hz=>by cases hz) ⟨j.rc,λz hz=>(by cases hz),λz hz=>(by cases hz),λz hz=>(by cases hz),λz hz=>(by cases hz),λz hz=>(by cases hz)⟩ (λz hz=>by cases hz),h2.set hs l,h3⟩
 ·intro k0 m e a s n hs h;exact hsame k0 m e a s _ hs rfl rfl rfl h
 ·rintro k0 m e a s hs hz ⟨G,h0,h1,h2,h3⟩;obtain⟨a1,a2,a3,a4⟩:=QD hs hz h1.ci (h1.ji a s hs) h0 (by omega) m.now;obtain⟨nk,hf0⟩:=EY s.addr s.aZ m.now;refine Z5 hs h1 h2 h0 (by omega) a3 a4 (by rw[hf0];exact λf hf=>by cases hf) a1 a2 nk (Kt _ _ _ _) (λf hf=>by cases hf) ?_;rw[hf0];have:(wt []:Int)=0:=rfl;omega
theorem CM.step(h:CM G m)(hG0:0<=G)(hG:G+2800<4294967295)(hfl:∀f∈m.bD,f.2.1<m.S.length)(o:Op)(ho:o.dK≠8):∃G',0<=G'∧G'<=G+2800∧CM G' (m.step o).1∧Rl m.S (m.step o).1.S:=by
 obtain⟨G',h0,h1,h2,h3⟩:=vg (Y3 m.S (B:=G+2800) (by omega) o ho) (e:=[]) hfl (n:=7) (by have:=h.ci.len;omega) ⟨G,hG0,h,Rl.refl _,by omega⟩;exact⟨G',h0,by omega,h1,h2⟩
theorem xG:∀ {L:List Int},L.Nodup->∀(i j:Nat) (a:Int),L[i]?=some a->L[j]?=some a->i=j
 | [],_,_,_,_,h,_=>by cases h
 |x::L,hn,i,j,a,hi,hj=>by
  rw[List.nodup_cons]at hn;cases i with
  |zero=>
   cases j with
   |zero=>rfl
   |succ j=>
    cases hi;exact absurd (gI (show L[j]?=some x from hj)) hn.1
  |succ i=>
   cases j with
   |zero=>
    cases hj;exact absurd (gI (show L[i]?=some x from hi)) hn.1
   |succ j=>rw[xG hn.2 i j a hi hj]
theorem acg{L:List Int}(hn:L.length<=6)(hU:∀a∈L,a_ a)(h0:∀a∈L,a≠0)(hd:L.Nodup):CM 1 (aP.new L):=by
 have hst:∀(i:Nat) s,(aP.new L).S[i]?=some s->∃a,L[i]?=some a∧s=Dt a:=by
  intro i s hs;have h1:(L.map Dt)[i]?=some s:=hs;rw[jQ]at h1;cases ha:L[i]? with
  |none=>rw[ha]at h1;cases h1
  |some a=>rw[ha]at h1;exact⟨a,rfl,(Option.some.inj h1).symm⟩
 have hnd:∀a z,(Dt a).nd=some z->z.A=[]∧z.seq=1∧z.me=a∧(z.f=λ_=>none)∧z.own=1∧z=St.new a [] 0:=by
  intro a z hz;cases hz;exact⟨rfl,rfl,rfl,rfl,rfl,rfl⟩
 have hnw:∀a,(St.new a [] 0).bg=[(true,0,1)]:=λa=>rfl;refine⟨⟨by rw[E5];exact hn,λs hs=> ?_,λi j s t hs ht e=> ?_,λi s z hs hz=> ?_⟩,λi s hs=> ?_,λf hf=>(by cases hf),(UI hn hU h0).2,λi s z hs hz=> ?_⟩
 ·obtain⟨i,hi⟩:=List.getElem?_of_mem hs;obtain⟨a,ha,rfl⟩:=hst i s hi;exact⟨hU a (gI ha),h0 a (gI ha)⟩
 ·obtain⟨a,ha,rfl⟩:=hst i s hs;obtain⟨b,hb,rfl⟩:=hst j t ht;have e':a=b:=e;subst e';exact xG hd i j a ha hb
 ·obtain⟨a,ha,rfl⟩:=hst i s hs;obtain⟨e1,e2,e3,_⟩:=hnd a z hz;rw[e1,e2,e3];exact⟨rfl,by omega,List.Pairwise.nil,λy hy=>(by cases hy)⟩
 ·obtain⟨a,ha,rfl⟩:=hst i s hs;have hj:jl (Dt a).aZ=[(true,0,1)]:=by
   show jl (bB (St.new a [] 0).bg)=_;rw[hnw,xK];rfl
  refine⟨λr hr=> ?_,λz hz=>⟨_,rfl⟩,λz hz d v e=> ?_,λz hz d v e=> ?_,λz hz=> ?_,λz hz y hy=> ?_⟩
  ·rw[hj,dO]at hr;subst hr;exact⟨by dsimp only;omega,λh=>(by cases h)⟩
  ·obtain⟨_,_,_,e4,_⟩:=hnd a z hz;rw[e4]at e;cases e
  ·obtain⟨_,_,_,e4,_⟩:=hnd a z hz;rw[e4]at e;cases e
  ·obtain⟨_,_,_,_,e5,_⟩:=hnd a z hz;rw[e5];omega
  ·obtain⟨e1,_⟩:=hnd a z hz;rw[e1]at hy;cases hy
 ·obtain⟨a,ha,rfl⟩:=hst i s hs;obtain⟨_,_,_,_,_,e6⟩:=hnd a z hz;rw[e6];exact Kt _ _ _ _
end Go.Proofs.YtakaadcpaeiccabGreat
