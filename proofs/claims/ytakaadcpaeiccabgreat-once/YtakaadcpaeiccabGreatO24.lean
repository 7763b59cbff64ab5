import Derived.Test.YtakaadcpaeiccabGreatO23
import Derived.ChangeMaps5
import Derived.Lib.SmallJoins
set_option maxHeartbeats 4000000
set_option maxRecDepth 100000
namespace Go.Proofs.YtakaadcpaeiccabGreat
variable{c:sO}{A:List Rt}{m:aP}{n:Nat}{f:Rt->Rt}{s s':St}
def F_(me:Int)(A:List Rt):Prop:=∀y∈A,y.dest≠me∧(y.valid=false->y.bN=[])
theorem Ep{me:Int}(h:F_ me A)(hf:∀y,(f y).dest=y.dest∧((y.valid=false->y.bN=[])->(f y).valid=false->(f y).bN=[])):F_ me (A.map f):=by
 intro y hy;obtain⟨z,hz,rfl⟩:=dh.1 hy;obtain⟨h1,h2⟩:=h z hz;obtain⟨e1,e2⟩:=hf z;exact⟨by rw[e1];exact h1,e2 h2⟩
theorem uY{me:Int}{d:Int}(h:F_ me A)(hf:∀y,(f y).dest=y.dest∧((y.valid=false->y.bN=[])->(f y).valid=false->(f y).bN=[])):F_ me (gU A d f):=by
 refine Ep h λy=> ?_;split
 ·exact hf y
 ·exact⟨rfl,λh=>h⟩
theorem Mq{me:Int}(h:F_ me A)(d q hp n e:Int):F_ me (iO me A d q hp n e).1:=by
 unfold iO;split
 ·exact h
 ·rename_i hd;simp only[not_or]at hd;split
  ·split
   ·exact uY h λy=>⟨rfl,λ_ h=>by cases h⟩
   ·exact h
  ·split
   ·exact h
   ·intro y hy;unfold uD at hy;rcases dG.1 hy with hy|hy
    ·exact h y (List.mem_of_mem_take hy)
    ·rcases eF.1 hy with rfl|hy
     ·exact⟨hd.1,λh=>by cases h⟩
     ·exact h y (List.mem_of_mem_drop hy)
theorem Dp(fr q:Int)(y:Rt):(bQ fr q y).dest=y.dest∧((y.valid=false->y.bN=[])->(bQ fr q y).valid=false->(bQ fr q y).bN=[]):=by
 refine⟨eX _ _ y,?_⟩;unfold bQ;split
 ·exact λ_ _=>rfl
 ·exact λh=>h
theorem WO{me:Int}(h:F_ me A)(now:Int):F_ me (iW A now):=by
 refine Ep h λy=>⟨g_ now y,?_⟩;unfold og;split
 ·exact λ_ _=>rfl
 ·exact λh=>h
theorem WM{me now:Int}{A':List Rt}(t:Vq me now c A A')(h:F_ me A):F_ me A':=by
 cases t with
 |Wt=>exact Mq h _ _ _ _ _
 |Ws=>exact Mq h _ _ _ _ _
 |use d e=>
  refine uY h λy=>⟨mr e y,?_⟩;unfold sJ;split
  ·rename_i hv;exact λ_ h=>by
    dsimp only at h;rw[hv]at h;cases h
  ·exact λh=>h
 |bN d n=>
  refine uY h λy=>⟨lg n y,?_⟩;unfold qG;split
  ·rename_i hv;exact λ_ h=>by
    dsimp only at h;rw[hv.1]at h;cases h
  ·exact λh=>h
 |lose fr p L hc x hx=>exact uY h λy=>Dp fr x.2 y
 |brk eu=>exact Ep h λy=>Dp eu 0 y
 |grow d _=>exact uY h λy=>⟨rfl,λh=>h⟩
theorem aam(k:Pr c s s')(h:F_ s.me s.A):F_ s'.me s'.A:=by
 cases k with
 |zy e=>rw[e.me,e.A];exact h
 |tab t=>exact WM t h
 |aI _ _ _ _ _=>exact h
 |grw=>exact h
 |mx _ _ _ _=>exact h
 |wr=>exact h
theorem WN(k:fV c n s s')(h:F_ s.me s.A):F_ s'.me s'.A:=by
 induction k with
 |nil=>exact h
 |snoc _ k ih=>exact aam k (ih h)
theorem uZ{now:Int}(k:fV c n (s.locked.begin now) s')(h:F_ s.me s.A):F_ s'.finish.freed.me s'.finish.freed.A:=by
 have h1:F_ (s.locked.begin now).me (s.locked.begin now).A:=WO h now;have h2:=WN k h1;have e:=aO s';show F_ s'.finish.me s'.finish.A;rw[e.me,e.A];exact h2
structure NK(z:St):Prop where
 Kh:l9 z
 tb:F_ z.me z.A
theorem FT(h:l9 s):l9 s.finish.freed:=by
 intro q hq;have e:=(aO s).Q;have hq':q∈s.finish.Q:=hq;rw[e]at hq';exact h q hq'
theorem NK.rcv{z:St}(h:NK z)(now fr:Int)(xs:List Int)(hb:∀x∈xs,0<=x∧x<=255):NK (z.rcv now fr xs)∧QY (z.rcv now fr xs).aH:=by
 have h4:∀q∈z.Q,q.txt.length<=4:=λq hq=>(h.Kh q hq).1;obtain⟨n,s',h1,h2⟩:=EG z now fr xs h4;refine⟨⟨FT (s:=(z.locked.begin now).hear fr xs) λq hq=>h.Kh q ((BL (z.locked.begin now) fr xs hb h4).qs q hq),?_⟩,?_⟩
 ·rw[h2];exact uZ h1 h.tb
 ·rw[h2];exact vV h1
theorem NK.brk{z:St}(h:NK z)(now eu:Int):NK (z.brk now eu)∧QY (z.brk now eu).aH:=by
 obtain⟨s',h1,h2⟩:=F6 z now eu;refine⟨⟨λq hq=> ?_,?_⟩,?_⟩
 ·rw[(wu z now eu).2.2]at hq;exact h.Kh q hq
 ·rw[h2];exact uZ h1 h.tb
 ·rw[h2];exact vV h1
theorem Dw:∀(D:List Sr) (s:St),(∀q∈D,q.txt.length<=4∧1<=q.ttl∧q.ttl<=8)->l9 s->l9 (D.foldl St.step s)
 | [],_,_,h=>h
 |q::D,s,hD,h=>by
  rw[fQ];exact Dw D _ (λz hz=>hD z (iI _ hz)) (Hf h (hD q gm))
theorem NK.jY{z:St}(h:NK z)(now:Int):NK (z.jY now)∧QY (z.jY now).aH:=by
 obtain⟨s',h1,h2⟩:=zO z now h.Kh;refine⟨⟨FT (s:=(St.j_ z.Q now).foldl St.step (z.locked.begin now)) (Dw _ _ (λq hq=>h.Kh q (BO hq)) h.Kh),?_⟩,?_⟩
 ·rw[h2];exact uZ h1 h.tb
 ·rw[h2];exact vV h1
theorem OH(h:l9 s)(d:Int)(t:ByteArray):l9 (s.await d t):=by
 unfold St.await;split
 ·rename_i q hq;have hq4:=h q (gY hq).1;intro z hz;have hz':z∈St.bR s.Q (s.hold q t).2:=hz;rcases fC hz' with rfl|⟨k,_⟩
  ·unfold St.hold;split
   ·rename_i e;dsimp only;rw[dx,List.length_tail,List.length_singleton];exact⟨by omega,hq4.2⟩
   ·dsimp only;rw[dx,List.length_singleton];exact⟨by omega,hq4.2⟩
  ·exact h z k
 ·refine vD (λz hz=> ?_) ⟨by simp[St.h_],by show(1:Int)<=1∧(1:Int)<=8;omega⟩;rcases dG.1 hz with hz|hz
  ·exact h z hz
  ·rw[dO]at hz;subst hz;exact⟨by simp[St.h_],by show(1:Int)<=1∧(1:Int)<=8;omega⟩
theorem NK.snd{z:St}(h:NK z)(now d:Int)(t:ByteArray):NK (z.snd now d t)∧QY (z.snd now d t).aH:=by
 obtain⟨n,s',h1,h2⟩:=Eu z now d t;refine⟨⟨FT (s:=if (bH (z.locked.begin now).A d (z.locked.begin now).now).2 then(z.locked.begin now).aN d t else(z.locked.begin now).await d t) ?_,?_⟩,?_⟩
 ·split
  ·intro q hq;rw[(fu _ _ _).1]at hq;exact h.Kh q hq
  ·exact OH (s:=z.locked.begin now) h.Kh d t
 ·rw[h2];exact uZ h1 h.tb
 ·rw[h2];exact vV h1
theorem E5(me:Int)(xs:List Int)(now:Int):NK (St.new me xs now)∧(St.new me xs now).aH=[]:=by
 have e:=aO (St.raw me xs now);rw[St.uy];refine⟨⟨λq hq=> ?_,?_⟩,e.aH⟩
 ·rw[e.Q]at hq;cases hq
 ·rw[e.me,e.A];have e2:(St.raw me xs now).A=uq me ((cmpL (jl xs)).take (cmpL (jl xs)).length):=by rw[List.take_length];rfl
  rw[e2];intro y hy;obtain⟨j,x,_,hj,hp,rfl⟩:=zQ _ _ _ y hy;unfold Cy at hp;simp only[eG,bne_iff_ne]at hp;exact⟨hp.2,λ_=>rfl⟩
def Rl(m:aP):Prop:=∀(i:Nat) s z,m.S[i]?=some s->s.nd=some z->NK z
theorem Rl.put(h:Rl m)(i:Nat){s:bG}(hs:∀z,s.nd=some z->NK z):Rl (m.put i s):=by
 intro j u z hj hz;rw[(gP _ _ _).1]at hj;rcases cO hj with⟨_,rfl⟩|⟨_,hj⟩
 ·exact hs z hz
 ·exact h j u z hj hz
theorem Rl.S{m':aP}(h:Rl m)(e:m'.S=m.S):Rl m':=λi s z hs hz=>h i s z (by rw[<-e];exact hs) hz
theorem uU(s:bG)(o:Ot):(∀z,(s.write o).1.nd=some z->s.nd=some z)∧((s.write o).2=true->(s.write o).1.nd=s.nd)∧(s.write o).1.addr=s.addr∧(s.write o).1.hrs=s.hrs:=by
 unfold bG.write;split
 ·exact⟨λ_ h=>h,λ_=>rfl,rfl,rfl⟩
 ·split
  ·exact⟨λ_ h=>(by cases h),λh=>(by cases h),rfl,rfl⟩
  ·exact⟨λ_ h=>h,λ_=>rfl,rfl,rfl⟩
def FK(m:aP):Prop:=qI m∧Rl m
def FKJ(i:Nat)(z:z_)(P:kQ):Prop:=FK z.1∧i<z.1.S.length∧QY P
theorem Ea{i:Nat}{e:List Ev}{P:kQ}{s:bG}{z:St}(h:FKJ i (m,e) P)(hz:NK z)(hf:QY z.aH):N_ (FKJ i) i (m,e) P {s with nd:=some z} z.ot:=by
 have hl:∀s:bG,i<(m.put i s).S.length:=λs=>by rw[(gP _ _ _).1,List.length_set];exact h.2.1
 have hnk:Rl (m.put i (bG.write {s with nd:=some z} z.ot).1):=h.1.2.put i λu hu=>by
  have h1:=(uU {s with nd:=some z} z.ot).1 u hu;cases h1;exact hz
 refine⟨λ_=>⟨⟨h.1.1.put i _,h.1.2.put i λu hu=> ?_⟩,hl _,h.2.2⟩,λ_ _=>⟨⟨h.1.1.put i _,hnk⟩,hl _,λf hf'=> ?_⟩,λ_ _=>⟨⟨h.1.1.put i _,hnk⟩,hl _,h.2.2⟩⟩
 ·cases hu;exact hz
 ·rcases dG.1 hf' with h1|h1
  ·exact hf f h1
  ·exact h.2.2 f h1
theorem ab3(i:Nat):VW (FKJ i) i:=by
 have hse:∀m e f P,FKJ i (m,e) (f::P)->FKJ i (m.bK i f,e) P:=λm e f P h=>by
  have e1:=(iP m i f).1;exact⟨⟨h.1.1.bK h.2.1 (h.2.2 f gm),h.1.2.S e1⟩,by show i<(m.bK i f).S.length;rw[e1];exact h.2.1,λg hg=>h.2.2 g (iI _ hg)⟩
 refine⟨hse,λm e P f s z h _ _ hs hz=> ?_⟩;have h':=hse m e f P h;obtain⟨h1,h2⟩:=(h'.1.2 i s z hs hz).brk m.now f.1;exact Ea h' h1 h2
theorem WX(b:ByteArray)(n:Nat)(hn:n<=b.size):(b.extract 0 n).size<=b.size:=by
 rw[ByteArray.size_extract];omega
theorem YO(o:Op):Ce (λ_ z=>FK z.1) (λ_=>FKJ) o:=by
 have hin:∀i m e,i<m.S.length->FK m->FKJ i (m,e) []:=λi m e hi h=>⟨h,hi,λf hf=>(by cases hf)⟩;have hlt:∀ {m:aP} {i:Nat} {s:bG},m.S[i]?=some s->i<m.S.length:=λh=>(fA.1 h).1;refine⟨λ_ _ h=>h,λ_ i z h=>h.1,λ_=>ab3,λ_ m e a r h=>h,?_,?_,λm e _ _ _ h=>h,?_,?_,?_,?_,?_,?_,?_,?_,?_⟩
 ·intro _ m e a b ha hb _ h;show FK (m.link a b o.on);unfold aP.link;split
  ·exact h
  ·have hk:∀(m:aP) (c:Nat) (L:List Bool),Rl m->Rl (m.put c {m.at' c with hrs:=L}):=λm c L hm=>hm.put c λz hz=>by
    by_cases hc:c<m.S.length
    ·have hs:=cK hc;rw[dX hs]at hz;exact hm c _ z hs hz
    ·unfold aP.at' at hz;rw[List.getD_eq_getElem?_getD,List.getElem?_eq_none (by omega)]at hz;cases hz
   exact⟨(h.1.put a _).put b _,hk _ b _ (hk m a _ h.2)⟩
 ·intro m e a b s z hs hz hb _ _ _ _ _ _ h;obtain⟨h1,h2⟩:=(h.2 a s z hs hz).snd m.now (m.at' b).addr o.txt;exact Ea (hin a m e (hlt hs) h) h1 h2
 ·intro _ m e i s z hs hz _ h;obtain⟨h1,h2⟩:=(h.2 i s z hs hz).jY m.now;exact Ea (hin i m e (hlt hs) h) h1 h2
 ·intro _ m e k f hf _ h;exact⟨λg hg=>h.1 g (List.mem_of_mem_eraseIdx hg),h.2⟩
 ·intro _ m e k f s z hf hs hz _ h;obtain⟨h1,h2⟩:=(h.2 f.2.1 s z hs hz).rcv m.now (m.at' f.1).addr (ak f.2.2) (mE _);exact Ea (hin f.2.1 {m with bD:=m.bD.eraseIdx k} e (hlt hs) ⟨λg hg=>h.1 g (List.mem_of_mem_eraseIdx hg),h.2⟩) h1 h2
 ·intro _ m e k f hf _ h;obtain⟨h1,h2,h3⟩:=h.1 f (gH hf);exact⟨h.1.launch (i:=f.1) (j:=f.2.1) (b:=f.2.2) h1 h2 h3,h.2⟩
 ·intro _ m e k f n hf _ hn h;obtain⟨h1,h2,h3⟩:=h.1 f (gH hf);refine⟨λg hg=> ?_,h.2⟩;rcases List.mem_or_eq_of_mem_set hg with hg|rfl
  ·exact h.1 g hg
  ·exact⟨h1,h2,dH (WX _ _ hn) h3⟩
 ·intro _ m e a b s z hs hz hb _ h;obtain⟨h1,h2⟩:=(h.2 a s z hs hz).rcv m.now (m.at' b).addr (ak o.txt) (mE _);exact Ea (hin a m e (hlt hs) h) h1 h2
 ·intro _ m e a s hs h;exact⟨h.1.put a _,h.2.put a λz hz=>by cases hz⟩
 ·intro _ m e a s n hs h;exact⟨h.1.put a _,h.2.put a λz hz=>h.2 a s z hs hz⟩
 ·intro _ m e a s hs _ h;obtain⟨h1,h2⟩:=E5 s.addr s.aZ m.now;exact Ea (hin a m e (hlt hs) h) h1 (by rw[h2];exact λf hf=>by cases hf)
theorem FK.step(h:FK m)(o:Op):FK (m.step o).1:=vv (YO o) (e:=[]) (λf hf=>(h.1 f hf).2.1) (n:=m.S.length+1) (aA _) h
theorem UK{L:List Int}(hn:L.length<=6)(hU:∀a∈L,a_ a)(h0:∀a∈L,a≠0):FK (aP.new L):=by
 refine⟨(Na hn hU h0).2,λi s z hs hz=> ?_⟩;obtain⟨a,_,rfl⟩:=dh.1 (gH (show(L.map λa=>(⟨a,bB (St.new a [] 0).bg,some (St.new a [] 0),List.replicate 6 false,false,0⟩:bG))[i]?=some s from hs));cases hz;exact(E5 a [] 0).1
open Go.RowKit Go.Maps
variable{N:Int}{e:List Ev}{A:List Int}{y:MG}{m:aP}{i k n:Nat}{s s':bG}{W W' w:World}
def SKI(A:List Int)(N:Int)(k:Nat)(z:z_):Prop:=z.1.S.map (·.addr)=A∧z.1.now<=N+(if k<=A.length then 60000 else 0)
theorem Fg{S:List bG}(hs:S[i]?=some s)(e:s'.addr=s.addr):(S.set i s').map (·.addr)=S.map (·.addr):=by
 rw[List.map_set];refine List.ext_getElem? λj=> ?_;by_cases hj:j=i
 ·subst hj;have hl:=(fA.1 hs).1;rw[List.getElem?_set_self (by rw[iK];exact hl),jQ,hs,e];rfl
 ·rw[List.getElem?_set_ne (λh=>hj h.symm)]
theorem o_{e':List Ev}(h:SKI A N k (m,e)){i:Nat}{s s':bG}(hs:m.S[i]?=some s)(ha:s'.addr=s.addr):SKI A N k (m.put i s',e'):=⟨(Fg hs ha).trans h.1,h.2⟩
theorem xw{P:kQ}{o:Ot}(h:SKI A N k (m,e))(hs:m.S[i]?=some s)(ha:s'.addr=s.addr):N_ (λz _=>SKI A N k z) i (m,e) P s' o:=by
 have hw:=(uU s' o).2.2.1;exact⟨λ_=>o_ h hs ha,λ_ _=>o_ h hs (hw.trans ha),λ_ _=>o_ h hs (hw.trans ha)⟩
theorem oo{z:z_}(h:SKI A N (k+1) z):SKI A N k z:=by
 refine⟨h.1,Int.le_trans h.2 ?_⟩;split<;>split<;>omega
theorem RD(A:List Int)(N:Int)(o:Op):Ce (SKI A N) (λk _ z _=>SKI A N k z) o:=by
 refine⟨λk z h=>oo h,λk i z h=>h,λk i=>⟨λm e f P h=> ?_,λm e P f s z h _ _ hs hz=> ?_⟩,λ_ m e a r h=>h,?_,?_,?_,?_,?_,?_,?_,?_,?_,?_,?_,?_⟩
 ·have e:=iP m i f;exact⟨by rw[e.1];exact h.1,by show(m.bK i f).now<=_;rw[e.2];exact h.2⟩
 ·have e1:=iP m i f;refine xw ⟨?_,?_⟩ hs rfl
  ·rw[e1.1];exact h.1
  ·show(m.bK i f).now<=_;rw[e1.2];exact h.2
 ·intro k0 m e a b ha hb _ h;unfold aP.link;split
  ·exact h
  ·have hsa:=cK ha;have hb':b<(m.put a {m.at' a with hrs:=(m.at' a).hrs.set b o.on}).S.length:=by rw[(gP _ _ _).1,List.length_set];exact hb
   have hsb:=cK hb';exact o_ (o_ (e':=e) h hsa (by rw[dX hsa])) hsb (by rw[dX hsb])
 ·intro m e a b s z hs _ _ _ _ _ _ _ _ h;exact xw (oo h) hs rfl
 ·intro m e h1 h2 _ h;have hl:m.S.length=A.length:=by rw[<-h.1,iK]
  refine⟨h.1,?_⟩;have h3:=h.2;rw[aG (by omega)]at h3;rw[aM (by omega)];show m.now+o.n<=_;dsimp only at h3;omega
 ·intro k0 m e i s z hs _ _ h;exact xw (oo h) hs rfl
 ·intro k0 m e k f _ _ h;exact h
 ·intro k0 m e k f s z _ hs _ _ h;have h':=oo h;exact xw (m:={m with bD:=m.bD.eraseIdx k}) ⟨h'.1,h'.2⟩ hs rfl
 ·intro k0 m e k f _ _ h;exact h
 ·intro k0 m e k f n _ _ _ h;exact h
 ·intro k0 m e a b s z hs _ _ _ h;exact xw (oo h) hs rfl
 ·intro k0 m e a s hs h;exact o_ h hs rfl
 ·intro k0 m e a s n hs h;exact o_ h hs rfl
 ·intro k0 m e a s hs _ h;exact xw (oo h) hs rfl
theorem WZ(hfl:∀f∈m.bD,f.2.1<m.S.length)(o:Op):(m.step o).1.S.map (·.addr)=m.S.map (·.addr)∧(m.step o).1.now<=m.now+60000:=by
 have h:=vv (RD (m.S.map (·.addr)) m.now o) (e:=[]) hfl (n:=m.S.length+1) (aA _) ⟨rfl,by rw[iK,aG (by omega)];show m.now<=m.now+0;omega⟩;refine⟨h.1,?_⟩;have:=h.2;split at this
 ·exact this
 ·dsimp only at this;omega
def iT(n:Nat):List Int:=(List.range n).map λ(i:Nat)=>10 * (i:Int)+10
theorem lM(n:Nat):(iT n).length=n:=by simp[iT]
theorem kC(h:k<n):(iT n)[k]?=some (10 * (k:Int)+10):=by
 unfold iT;rw[jQ,List.getElem?_range h];rfl
theorem OT(n:Nat):iT (n+1)=iT n++ [10 * (n:Int)+10]:=by
 unfold iT;rw[List.range_succ,List.map_append];rfl
theorem lK(hn:n<=6):∀a∈iT n,a_ a∧a≠0:=by
 intro a ha;obtain⟨k,hk⟩:=List.getElem?_of_mem ha;have hl:=(fA.1 hk).1;rw[lM]at hl;rw[kC hl]at hk;cases hk;unfold a_;omega
theorem Az(n:Nat):(iT n).Nodup:=by
 unfold iT;refine List.Pairwise.map _ (λa b (h:a<b)=> ?_) (List.pairwise_lt_range);omega
structure SQ(w:World)(n i:Nat)(y:MG)(m:aP)(W:World):Prop where
 mm:MM y m W
 low:∀k,uR y m k->w.heap.size<=k
 bl:Below w.heap.size w W
 ok:iX (1+1000000 * (i:Int)) i m
 fk:FK m
 nw:m.now<=60000 * (i:Int)
 zi:m.S.map (·.addr)=iT n
theorem SQ.later(h:SQ w n i y m W)(hb:Below W.heap.size W W'):SQ w n i y m W':=
 ⟨h.mm.later hb,h.low,h.bl.trans (hb.mono h.bl.size),h.ok,h.fk,h.nw,h.zi⟩
theorem SQ.stepped{m':aP}(h:SQ w n i y m W){y':MG}(h1:MM y' m' W')(u:MU y m y' m' W W')(ok:iX (1+1000000 * ((i+1:Nat):Int)) (i+1) m')(fk:FK m')(nw:m'.now<=60000 * ((i+1:Nat):Int))(zi:m'.S.map (·.addr)=iT n):SQ w n (i+1) y' m' W':=by
 have hz:=h.bl.size;refine⟨h1,λk hk=> ?_,h.bl.trans (u.fx.Mj hz λj hj hf=>by have:=h.low j hf;omega),ok,fk,nw,zi⟩;rcases u.sub k hk with e|e
 ·exact h.low k e
 ·omega
theorem agb(h:SQ w n i y m W)(hi:i<=4096)(o:Op)(ht:o.dK=8->o.txt.size<=65536)(hfw:∀(i:Nat) s,m.S[i]?=some s->s.nd=none->Zt (jl s.aZ)):
  Calls Tryz.prog 11 #[.pointer (some ⟨y.G,0,none⟩),V4 o] W λe W'=>∃v L y',e=.returned v∧L.map (·.1)=(m.step o).2∧gN W.heap.size v L W'∧y'.G=y.G∧MU y m y' (m.step o).1 W W'∧SQ w n (i+1) y' (m.step o).1 W':=by
 have hnw:=h.nw;refine(agd h.mm h.ok (by omega) (by omega) (by omega) h.fk.1 o ht λk hk hkl hz=>Ve h.ok (by omega) hkl (by have hs:=cK hkl;rw[dX hs]at hz ⊢;exact hfw k _ hs hz)).mono ?_;rintro e W' ⟨⟨v,L,rfl,hL,hev,hmp⟩,hok⟩;obtain⟨s1,s2⟩:=WZ (λf hf=>(h.fk.1 f hf).2.1) o;obtain⟨y',h1,u⟩:=hmp;exact⟨v,L,y',rfl,hL,hev,u.G,u,h.stepped h1 u (hok.up (by omega) (aA _)) (h.fk.step o) (by omega) (s1.trans h.zi)⟩
theorem Xn{W:World}{base e size:Nat}{v:Value}{n:Nat}{xs:List Value}(h:W.ownsRow base e size v n xs)(hn:0<n):∃g cap,v=.slice (some ⟨g,0,none⟩) n cap∧n<=cap:=by
 rcases h.2 with⟨_,h0⟩|⟨g,cap,cur,rfl,hb,_,hl,_⟩
 ·omega
 ·exact⟨g,cap,rfl,hl⟩
theorem GY{k:Nat}(h:k<6):IntKind.u32.wrap (wrap64 (wrap64 (10 * (k:Int))+10))=10 * (k:Int)+10:=by
 simp only[IntKind.wrap,IntKind.signed,IntKind.bits];unfold wrap64;simp;omega
theorem Qz(W:World)(t:Int):∀(j:Nat) (u:Value),[Value.int .u32 t][j]?=some u->(W.alloc (.cells #[.int .u32 t] 34)).cell? ((⟨W.heap.size,0,none⟩:Addr).add j)=some u:=by
 intro j u hj
 match j,hj with
 |0,hj=>
  rw[Addr.add_lit,Nat.zero_add];exact(jP W _ _ _).trans hj
 |j+1,hj=>simp at hj
theorem Xo(n:Nat)(hn:0<n∧n<=6)(w:World):
  Calls Tryz.prog 10 #[.int .i64 n] w λe w'=>∃y:MG,e=.returned (.pointer (some ⟨y.G,0,none⟩))∧SQ w n 0 y (aP.new (iT n)) w':=by
 obtain⟨i2,ki,kz0,kz1,kz2⟩:=info_parts rq;go_enter Tryz.func10,Tryz.ntmps10;go_wp2_with fail;go_loopw [3,4] (λlv i wr=>∃k:Nat,k<=n∧i=.int .i64 k∧wr.ownsRow w.heap.size 34 1 lv k ((iT k).map (Value.int .u32))∧Below w.heap.size w wr) (λ_ i _=>n - (intOf i).toNat)
 case atStart=>exact⟨0,b_ _,rfl,⟨rfl,.inl ⟨rfl,rfl⟩⟩,aU _ _⟩
 case round=>
  obtain⟨k,hk,rfl,hr,hb⟩:=hrel;by_cases hlt:k<n
  ·have hki:(k:Int)<(n:Int):=by omega
   have hw:=GY (k:=k) (by omega);have hwk:wrap64 ((k:Int)+1)=(k:Int)+1:=by unfold wrap64;omega
   have hbU:Below wr.heap.size wr (wr.alloc (.cells #[.int .u32 (10 * (k:Int)+10)] 34)):=bC;have hk1:k+1<=maxLen:=by unfold maxLen;omega
   have hk2:(k+1)* 4<=140737488355328:=by omega
   have hz:=hb.size;have hr0:=hr.alloc (.cells #[.int .u32 (10 * (k:Int)+10)] 34);go_wp2_with(at_builtin;refine wpList_append_own_at _ rfl _ _ 36 rfl w.heap.size 34 i2 (.int .u32 0) 1 4 Tryz.underlying36 ki kz0 kz1 kz2 rfl (by decide) u3 k ((iT k).map (Value.int .u32)) rfl hr0 ⟨wr.heap.size,0,none⟩ 1 1 [.int .u32 (10 * (k:Int)+10)] rfl rfl (Qz wr _) (by simp[Value.oneCell']) hk1 hk2 ?c3 ?_)
   case c3=>simp;omega
   intro v7 w7 iw gV _ hv7;have JX:=(hb.trans (hbU.mono hz)).grown gV (by simp;omega) (λk e=>(hr0.lt k e).1);have Gs:w7.ownsRow w.heap.size 34 1 v7 (k+1) ((iT (k+1)).map (Value.int .u32)):=by rw[OT,List.map_append];exact iw
   clear hr hb hr0 gV hv7 hbU iw hw;go_wp2;go_roundw
   case rel=>exact⟨k+1,by omega,by go_num,Gs,JX⟩
   case measure=>simp[intOf];omega
  ·obtain rfl:k=n:=by omega
   obtain⟨g,cap,rfl,hcap⟩:=Xn hr hn.1;have hHN:=hide (aeu g k cap (iT k) wr (lM k) hn hcap (λj hj=>by rw[List.getD_eq_getElem?_getD,kC hj];exact(lK hn.2 _ (gH (kC hj))).1) (hr.lt g rfl).2 (λj hj=>(hr.cellAt j (by omega)).trans (by rw[jQ,kC hj,List.getD_eq_getElem?_getD,kC hj];rfl)) (λj hj=>by rw[List.getD_eq_getElem?_getD,kC hj];exact(lK hn.2 _ (gH (kC hj))).2) (λi j hij hj=>by rw[List.getD_eq_getElem?_getD,List.getD_eq_getElem?_getD,kC hj,kC (by omega)];show 10 * (i:Int)+10≠10 * (j:Int)+10;omega));have hnew:=Na (L:=iT k) (by rw[lM];exact hn.2) (λa ha=>(lK hn.2 a ha).1) (λa ha=>(lK hn.2 a ha).2);have PY:=UK (L:=iT k) (by rw[lM];exact hn.2) (λa ha=>(lK hn.2 a ha).1) (λa ha=>(lK hn.2 a ha).2);have hz:=hb.size;have hfin:Hid (∀(y:MG) w',MM y (aP.new (iT k)) w'->Fx (λ_=>False) wr w'->(∀q,uR y (aP.new (iT k)) q->wr.heap.size<=q)->SQ w k 0 y (aP.new (iT k)) w'):=hide λy w' h1 h2 h3=>by
    refine⟨h1,λq hq=>dH hz (h3 q hq),hb.trans (h2.Mj hz λ_ _ h=>absurd h id),hnew.1.up (by omega) (aA _),PY,?_,?_⟩
    ·show(0:Int)<=_;omega
    ·show((iT k).map Dv).map (·.addr)=iT k;rw[List.map_map];exact List.map_id _
   clear hnew PY hr hb hcap;go_wp2_with(go_at_call 27;refine hHN.out.mono ?_;rintro e w5 ⟨y,rfl,hm,hf,hge⟩;have hq:=hide (hfin.out y w5 hm hf hge);clear hm hf hge);go_ret;exact⟨y,rfl,hq.out⟩
def OpC(L:List Op):List Value:=L.flatMap λo=> [.int .i64 o.dK,.int .i64 o.a,.int .i64 o.b,.int .i64 o.n,.bool o.on,.string o.txt]
theorem Vt{W:World}{ao:Option Addr}{L:List Op}(h:gM W ao (OpC L)){k:Nat}{o:Op}(hk:L[k]?=some o):∃g f,ao=some ⟨g,f,none⟩∧g<W.heap.size∧W.cell? ⟨g,f+k * 6,none⟩=some (.int .i64 o.dK)∧W.cell? ⟨g,f+k * 6+1,none⟩=some (.int .i64 o.a)∧W.cell? ⟨g,f+k * 6+2,none⟩=some (.int .i64 o.b)∧W.cell? ⟨g,f+k * 6+3,none⟩=some (.int .i64 o.n)∧W.cell? ⟨g,f+k * 6+4,none⟩=some (.bool o.on)∧W.cell? ⟨g,f+k * 6+5,none⟩=some (.string o.txt):=by
 have hat:∀i u,i<6->([.int .i64 o.dK,.int .i64 o.a,.int .i64 o.b,.int .i64 o.n,.bool o.on,.string o.txt]:List Value)[i]?=some u->(OpC L)[k * 6+i]?=some u:=λi u hi hu=>(jk (λo:Op=>([.int .i64 o.dK,.int .i64 o.a,.int .i64 o.b,.int .i64 o.n,.bool o.on,.string o.txt]:List Value)) 6 (by decide) (λ_=>rfl) L k i hi hk).trans hu;obtain⟨g,f,e,hl,_⟩:=h (k * 6+0) _ (hat 0 _ (by decide) rfl);refine⟨g,f,e,hl,h.one e (hat 0 _ (by decide) rfl),?_,?_,?_,?_,?_⟩
 ·have:=h.one e (hat 1 _ (by decide) rfl);rw[<-Nat.add_assoc]at this;exact this
 ·have:=h.one e (hat 2 _ (by decide) rfl);rw[<-Nat.add_assoc]at this;exact this
 ·have:=h.one e (hat 3 _ (by decide) rfl);rw[<-Nat.add_assoc]at this;exact this
 ·have:=h.one e (hat 4 _ (by decide) rfl);rw[<-Nat.add_assoc]at this;exact this
 ·have:=h.one e (hat 5 _ (by decide) rfl);rw[<-Nat.add_assoc]at this;exact this
theorem ac8{c:Int}:∃n:Nat,2<=n∧n<=6∧2+sU c 5=(n:Int)∧wrap64 (2+sU c 5)=(n:Int):=by
 have:=XA c 5 (by decide);refine⟨(2+sU c 5).toNat,by omega,by omega,by omega,?_⟩;unfold wrap64;omega
open Go.ChangeShapes Go.WideShapes Go.ChangeAt Go.Deep
variable{H:Type}{W:World}
theorem aeD:Tryz.prog.cellsOf 28=6:=by kernel_rfl
theorem ML:Tryz.prog.cellsOf 3=1:=by kernel_rfl
theorem ac5:Tryz.prog.cellsOf 9=1:=by kernel_rfl
theorem aaB:Tryz.prog.cellsOf 4=1:=by kernel_rfl
structure aen(o:Op):Prop where
 dK:-9223372036854775808<=o.dK∧o.dK<=9223372036854775807
 a:-9223372036854775808<=o.a∧o.a<=9223372036854775807
 b:-9223372036854775808<=o.b∧o.b<=9223372036854775807
 n:-9223372036854775808<=o.n∧o.n<=9223372036854775807
theorem XE{enc:TypeId×Value->H}(n:Nat)(cs:List Value)(y:DataW H×List MemPlace)(h:DataW.trod enc Tryz.prog W 0 (λ_=>true) true n 28 cs=some y)(hl:cs.length=6):
  ∃o:Op,cs=[.int .i64 o.dK,.int .i64 o.a,.int .i64 o.b,.int .i64 o.n,.bool o.on,.string o.txt]∧aen o:=by
 obtain⟨c0,c1,c2,c3,c4,c5,rfl⟩:∃c0 c1 c2 c3 c4 c5,cs=[c0,c1,c2,c3,c4,c5]:=by
  match cs,hl with
  | [c0,c1,c2,c3,c4,c5],_=>exact⟨c0,c1,c2,c3,c4,c5,rfl⟩
 obtain⟨xs,n,_,_,_,hlen,hget⟩:=DataW.trod_struct Tryz.underlying28 h
 match xs,hlen with
 | [x0,x1,x2,x3,x4,x5],_=>
  have g0:DataW.trod enc Tryz.prog W 0 (λ_=>true) true n 3 (([c0,c1,c2,c3,c4,c5].drop 0).take (Tryz.prog.cellsOf 3))=some x0:=hget 0 _ rfl;rw[ML]at g0;have g1:DataW.trod enc Tryz.prog W 0 (λ_=>true) true n 3 (([c0,c1,c2,c3,c4,c5].drop 1).take (Tryz.prog.cellsOf 3))=some x1:=hget 1 _ rfl;rw[ML]at g1;have g2:DataW.trod enc Tryz.prog W 0 (λ_=>true) true n 3 (([c0,c1,c2,c3,c4,c5].drop 2).take (Tryz.prog.cellsOf 3))=some x2:=hget 2 _ rfl;rw[ML]at g2;have g3:DataW.trod enc Tryz.prog W 0 (λ_=>true) true n 3 (([c0,c1,c2,c3,c4,c5].drop 3).take (Tryz.prog.cellsOf 3))=some x3:=hget 3 _ rfl;rw[ML]at g3;have g4:DataW.trod enc Tryz.prog W 0 (λ_=>true) true n 4 (([c0,c1,c2,c3,c4,c5].drop 4).take (Tryz.prog.cellsOf 4))=some x4:=hget 4 _ rfl;rw[aaB]at g4;have g5:DataW.trod enc Tryz.prog W 0 (λ_=>true) true n 9 (([c0,c1,c2,c3,c4,c5].drop 5).take (Tryz.prog.cellsOf 9))=some x5:=hget 5 _ rfl;rw[ac5]at g5;clear hget;obtain⟨a0,e0,_,w0⟩:=DataW.trod_int Tryz.underlying3 g0;obtain⟨a1,e1,_,w1⟩:=DataW.trod_int Tryz.underlying3 g1;obtain⟨a2,e2,_,w2⟩:=DataW.trod_int Tryz.underlying3 g2;obtain⟨a3,e3,_,w3⟩:=DataW.trod_int Tryz.underlying3 g3;obtain⟨a4,e4,_⟩:=DataW.trod_bool Tryz.underlying4 g4;obtain⟨a5,e5,_,_⟩:=DataW.trod_string Tryz.underlying9 g5;simp at e0 e1 e2 e3 e4 e5;subst e0 e1 e2 e3 e4 e5;exact⟨⟨a0,a1,a2,a3,a4,a5⟩,rfl,⟨bounds_i64 w0,bounds_i64 w1,bounds_i64 w2,bounds_i64 w3⟩⟩
theorem SC{enc:TypeId×Value->H}{fuel:Nat}{c:Value}{x:DataW H×List MemPlace}(h:DataW.trod enc Tryz.prog W 0 (λ_=>true) true fuel 22 [c]=some x):
  ∃ao n cap L,c=.slice ao n cap∧L.length=n∧n<=maxLen∧gM W ao (OpC L)∧∀o∈L,aen o:=
 Pb Tryz.underlying22 aeD (by decide) (λo:Op=> [.int .i64 o.dK,.int .i64 o.a,.int .i64 o.b,.int .i64 o.n,.bool o.on,.string o.txt]) _ (λ_=>rfl) XE h
variable{G G' d h h' q q':Int}{r:Int×Int}{i k:Nat}{s s':bG}{p p':bG->Bool}
def vr(s:bG)(d:Int):Option (Int×Int):=
 match s.nd with
 |some z=>(aK z.A d).map λy=>(rk y,y.hops)
 |none=>(mH (jl s.aZ) d).map λq=>(q,0)
def qE(r:Int×Int)(q h:Int):Bool:=decide (q<r.1)||(decide (r.1=q)&&decide (r.2<=h))
def wT(s:bG)(d q h:Int):Bool:=
 match vr s d with
 |some r=>qE r q h
 |none=>false
def cP(d q h:Int)(s:bG):Bool:=decide (s.addr=d)||wT s d q h
def cnt(S:List bG)(d q h:Int):Nat:=S.countP (cP d q h)
structure l6(s s':bG):Prop where
 addr:s'.addr=s.addr
 ge:∀d q h,d≠s.addr->wT s d q h=true->wT s' d q h=true
theorem l6.refl(s:bG):l6 s s:=⟨rfl,λ_ _ _ _ h=>h⟩
theorem l6.trans{a b c:bG}(p:l6 a b)(q:l6 b c):l6 a c:=⟨q.addr.trans p.addr,λd x h hd e=>q.ge d x h (by rw[p.addr];exact hd) (p.ge d x h hd e)⟩
theorem abW(e:qE r q h=true)(hle:q'<q∨(q'=q∧h<=h')):qE r q' h'=true:=by
 unfold qE at *;simp only[Bool.or_eq_true,eG,iL]at *;omega
theorem mX(q h:Int):qE (q,h) q h=true:=by simp[qE]
theorem D9(e:qE r q h=true)(f:qE (q,h) q' h'=true):qE r q' h'=true:=by
 unfold qE at *;simp only[Bool.or_eq_true,eG,iL]at *;omega
theorem aaf(e:wT s d q h=true)(hle:q'<q∨(q'=q∧h<=h')):wT s d q' h'=true:=by
 unfold wT at *;split
 ·rename_i r hr;rw[hr]at e;exact abW e hle
 ·rename_i hr;rw[hr]at e;exact e
theorem Z9(e:cP d q h s=true)(hle:q'<q∨(q'=q∧h<=h')):cP d q' h' s=true:=by
 unfold cP at *;rw[Bool.or_eq_true]at *;exact e.imp_right λe=>aaf e hle
theorem aeh(l:l6 s s')(e:cP d q h s=true):cP d q h s'=true:=by
 unfold cP at *;rw[l.addr];by_cases hd:s.addr=d
 ·simp[hd]
 ·rw[Bool.or_eq_true]at *;rcases e with e|e
  ·exact .inl e
  ·exact .inr (l.ge d q h (λh=>hd h.symm) e)
theorem tK:∀(S:List bG) (i:Nat) (s':bG),(∀t,p t=true->p' t=true)->(∀s,S[i]?=some s->p s=true->p' s'=true)->S.countP p<=(S.set i s').countP p'
 | [],_,_,_,_=>b_ _
 |t::S,0,s',hp,hs=>by
  rw[List.set_cons_zero,List.countP_cons,List.countP_cons];have h1:S.countP p<=S.countP p':=List.countP_mono_left λt _ h=>hp t h;have h2:=hs t rfl;cases e:p t
  ·simp only[Bool.false_eq_true,if_false];omega
  ·rw[aM rfl,aM (h2 e)];omega
 |t::S,i+1,s',hp,hs=>by
  rw[List.set_cons_succ,List.countP_cons,List.countP_cons];have h1:=tK S i s' hp (λs h=>hs s h);cases e:p t
  ·simp only[Bool.false_eq_true,if_false];omega
  ·rw[aM rfl,aM (hp t e)];omega
theorem qm:∀(S:List bG) (i:Nat) (s s':bG),(∀t,p t=true->p' t=true)->S[i]?=some s->p s=false->p' s'=true->S.countP p+1<=(S.set i s').countP p'
 | [],_,_,_,_,h,_,_=>by cases h
 |t::S,0,s,s',hp,h,h1,h2=>by
  cases h;rw[List.set_cons_zero,List.countP_cons,List.countP_cons,h1,aM h2];have h1:S.countP p<=S.countP p':=List.countP_mono_left λt _ h=>hp t h;simp only[Bool.false_eq_true,if_false];omega
 |t::S,i+1,s,s',hp,h,h1,h2=>by
  rw[List.set_cons_succ,List.countP_cons,List.countP_cons];have h3:=qm S i s s' hp h h1 h2;cases e:p t
  ·simp only[Bool.false_eq_true,if_false];omega
  ·rw[aM rfl,aM (hp t e)];omega
theorem F4{S:List bG}(hs:S[i]?=some s)(l:l6 s s')(d q h:Int):cnt S d q h<=cnt (S.set i s') d q h:=
 tK S i s' (λ_ h=>h) λt ht h=>by
  rw[hs]at ht;cases ht;exact aeh l h
theorem U4{S:List bG}(hs:S[i]?=some s){d q h h':Int}(hle:h<=h')(h1:cP d q h s=false)(h2:cP d q h' s'=true):cnt S d q h+1<=cnt (S.set i s') d q h':=
 qm S i s s' (λ_ h=>Z9 h (.inr ⟨rfl,hle⟩)) hs h1 h2
theorem U3(S:List bG)(d q:Int){h h':Int}(hle:h<=h'):cnt S d q h<=cnt S d q h':=List.countP_mono_left λ_ _ e=>Z9 e (.inr ⟨rfl,hle⟩)
theorem Ld(S:List bG)(d q h:Int):cnt S d q h<=S.length:=List.countP_le_length
theorem NW{S:List bG}(q h:Int)(hd:∃s∈S,s.addr=d):1<=cnt S d q h:=by
 obtain⟨s,hs,e⟩:=hd;exact List.countP_pos_iff.2 ⟨s,hs,by simp[cP,e]⟩
structure zm(G:Int)(S:List bG)(i:Nat)(y:Rt):Prop where
 dest:∃s∈S,s.addr=y.dest
 hp:0<=y.hops
 sq:0<=y.seq∧y.seq<=G
 nx:y.valid=true->∃j s,j≠i∧S[j]?=some s∧s.addr=y.next∧(y.dest=y.next∨wT s y.dest y.seq (y.hops - 1)=true)
 hc:y.valid=true->y.hops+8<=8 * (cnt S y.dest y.seq y.hops:Int)
structure FrQ(G:Int)(S:List bG)(j:Nat)(p:aC)(L:List (Int×Int)):Prop where
 k1:p.kind=1->(∃s∈S,s.addr=p.aI)∧0<=p.hops∧(0<=p.dw∧p.dw<=G)∧(0<=p.aX∧p.aX<=G)∧p.hops+p.ttl<=8 * (cnt S p.aI p.dw p.hops:Int)∧∃s,S[j]?=some s∧(s.addr=p.aI∨wT s p.aI p.dw p.hops=true)
 k2:p.kind=2->(∃s∈S,s.addr=p.dest)∧0<=p.hops∧(0<=p.aX∧p.aX<=G)∧p.hops+p.ttl<=8 * (cnt S p.dest p.aX p.hops:Int)∧∃s,S[j]?=some s∧(s.addr=p.dest∨wT s p.dest p.aX p.hops=true)
 k3:p.kind=3->∀x∈L,0<=x.2∧x.2<=G
theorem gI{S:List bG}(hs:S[i]?=some s)(e:s'.addr=s.addr){d:Int}(h:∃t∈S,t.addr=d):∃t∈S.set i s',t.addr=d:=by
 obtain⟨t,ht,hd⟩:=h;obtain⟨k,hk⟩:=List.getElem?_of_mem ht;by_cases hki:k=i
 ·subst hki;rw[hs]at hk;cases hk;exact⟨s',gH (List.getElem?_set_self (fA.1 hs).1),e.trans hd⟩
 ·exact⟨t,gH ((List.getElem?_set_ne (λe=>hki e.symm)).trans hk),hd⟩
theorem mW{S:List bG}(hs:S[i]?=some s)(l:l6 s s'){j:Nat}{t:bG}(h:S[j]?=some t):∃t',(S.set i s')[j]?=some t'∧l6 t t':=by
 by_cases hji:j=i
 ·subst hji;rw[hs]at h;cases h;exact⟨s',List.getElem?_set_self (fA.1 hs).1,l⟩
 ·exact⟨t,(List.getElem?_set_ne (λe=>hji e.symm)).trans h,l6.refl t⟩
theorem ZA{t t':bG}(l:l6 t t'){d q h:Int}(hd:d≠t.addr∨t.addr=d)(e:t.addr=d∨wT t d q h=true):t'.addr=d∨wT t' d q h=true:=by
 rcases hd with hd|hd
 ·rcases e with e|e
  ·exact absurd e.symm hd
  ·exact .inr (l.ge d q h hd e)
 ·exact .inl (l.addr.trans hd)
theorem zm.set{S:List bG}{y:Rt}(h:zm G S k y)(hG:G<=G')(hs:S[i]?=some s)(l:l6 s s'):zm G' (S.set i s') k y:=by
 refine⟨gI hs l.addr h.dest,h.hp,⟨h.sq.1,Int.le_trans h.sq.2 hG⟩,λhv=> ?_,λhv=> ?_⟩
 ·obtain⟨j,t,hj,ht,ha,hb⟩:=h.nx hv;obtain⟨t',ht',lt⟩:=mW hs l ht;refine⟨j,t',hj,ht',lt.addr.trans ha,?_⟩;by_cases hd:y.dest=y.next
  ·exact .inl hd
  ·refine .inr (lt.ge _ _ _ (by rw[ha];exact hd) ?_);rcases hb with hb|hb
   ·exact absurd hb hd
   ·exact hb
 ·have h1:=h.hc hv;have h2:=F4 hs l y.dest y.seq y.hops;omega
theorem FrQ.set{S:List bG}{p:aC}{L:List (Int×Int)}(h:FrQ G S k p L)(hG:G<=G')(hs:S[i]?=some s)(l:l6 s s'):FrQ G' (S.set i s') k p L:=by
 refine⟨λhk=> ?_,λhk=> ?_,λhk x hx=> ?_⟩
 ·obtain⟨h1,h2,h3,h4,h5,t,ht,h6⟩:=h.k1 hk;obtain⟨t',ht',lt⟩:=mW hs l ht;have:=F4 hs l p.aI p.dw p.hops;exact⟨gI hs l.addr h1,h2,⟨h3.1,by omega⟩,⟨h4.1,by omega⟩,by omega,t',ht',ZA lt (by by_cases e:t.addr=p.aI;exact .inr e;exact .inl λh=>e h.symm) h6⟩
 ·obtain⟨h1,h2,h3,h5,t,ht,h6⟩:=h.k2 hk;obtain⟨t',ht',lt⟩:=mW hs l ht;have:=F4 hs l p.dest p.aX p.hops;exact⟨gI hs l.addr h1,h2,⟨h3.1,by omega⟩,by omega,t',ht',ZA lt (by by_cases e:t.addr=p.dest;exact .inr e;exact .inl λh=>e h.symm) h6⟩
 ·have:=h.k3 hk x hx;omega
variable{b:ByteArray}{G:Int}{L:List (Int×Int)}{j k:Nat}{p:aC}
def g8(x:Int):Int:=((x.toNat%256:Nat):Int)
theorem abY(x:Int):0<=g8 x∧g8 x<=255:=by unfold g8;omega
theorem tH{x:Int}(h:0<=x∧x<=255):g8 x=x:=by unfold g8;omega
theorem aao(xs:List Int):ak (strOfNums xs)=xs.map g8:=by
 simp only[ak,strOfNums_data,List.map_map];refine List.map_congr_left λx _=> ?_;simp only[Function.comp_apply];rw[UInt8.toNat_ofNat'];rfl
def w8(n:Int):Int:=n4 (g8 (n / 16777216)) (g8 (n / 65536%256)) (g8 (n / 256%256)) (g8 (n%256))
theorem Vg(n:Int):(b4 n).map g8=b4 (w8 n):=by
 unfold w8;rw[aei (abY _) (abY _) (abY _)];rfl
theorem Md{n:Int}(h:a_ n):w8 n=n:=by
 unfold a_ at h;unfold w8;rw[tH (by omega),tH (by omega),tH (by omega),tH (by omega)];exact ZE
theorem jK:w8 0=0:=by decide
def wP(p:aC):aC:={p with id:=w8 p.id,dest:=w8 p.dest,aX:=w8 p.aX,aI:=w8 p.aI,dw:=w8 p.dw,life:=w8 p.life}
def wL(L:List (Int×Int)):List (Int×Int):=L.map λx=>(w8 x.1,w8 x.2)
theorem Wq(p:aC):(wP p).nums=p.nums.map λx=>(x.1,w8 x.2):=by
 unfold aC.nums;show(if p.kind=1 then _ else if p.kind=2 then _ else if p.kind=9 then _ else _)=_;split
 ·rfl
 ·split
  ·rfl
  ·split<;>rfl
theorem XU{xs:List Int}(h:∀x∈xs,0<=x∧x<=255):xs.map g8=xs:=by
 conv=>rhs;rw[<-List.map_id xs]
 exact List.map_congr_left λx hx=>tH (h x hx)
theorem UI(hg:p.fe=true):0<=p.cnt∧p.cnt<=255:=by
 obtain⟨_,_,_,h0,h1,hp,hk⟩:=eZ hg;unfold aC.cnt;split
 ·rcases hk with h|h|h|h<;>omega
 ·split<;>omega
theorem ab6(hg:p.fe=true)(L:List (Int×Int)):(zH p L).map g8=zH (wP p) (wL L):=by
 have hc:=UI hg;obtain⟨_,t0,t1,_,_,_,hk⟩:=eZ hg;have hf:0<=nR p∧nR p<=255:=by unfold nR;split<;>omega
 have h1:(p.head).map g8=(wP p).head:=by
  have e:p.head.map g8=[g8 p.ttl,g8 p.kind,g8 (nR p),g8 0,g8 p.cnt]:=rfl;rw[e,tH (by omega),tH (by rcases hk with h|h|h|h<;>omega),tH hf,tH (by omega),tH hc];rfl
 have h2:(p.kN p.nums.length).map g8=(wP p).kN (wP p).nums.length:=by
  unfold aC.kN;rw[jE (aA _),jE (aA _),Wq,List.map_flatMap,List.flatMap_map]
  congr 1
  funext x
  exact Vg x.2
 have h3:(iq L L.length).map g8=iq (wL L) (wL L).length:=by
  unfold iq;rw[jE (aA _),jE (aA _),List.map_flatMap];unfold wL;rw[List.flatMap_map]
  congr 1
  funext x
  rw[List.map_append,Vg,Vg]
 have h4:(ak p.pay).map g8=ak (wP p).pay:=XU (mE p.pay);unfold zH;rw[List.map_append,List.map_append,List.map_append,h1,h2,h3,h4]
theorem YG(hg:p.fe=true):(wP p).fe=true:=by
 obtain⟨_,_,_,_,_,_,hk⟩:=eZ hg;obtain⟨ttl,kind,hops,unk,id,dest,aX,aI,dw,life,la,ln,lc,pay⟩:=p;unfold aC.fe at hg ⊢;simp only[eG]at hg ⊢;obtain⟨⟨⟨h1,h2⟩,h3⟩,h4⟩:=hg;refine⟨⟨⟨h1,h2⟩,?_⟩,?_⟩
 ·unfold wP;dsimp only at h3 ⊢;cases unk
  ·rfl
  ·have hd:aX=0:=by simpa using h3
   subst hd;rfl
 ·dsimp only at hk;rcases hk with rfl|rfl|rfl|⟨rfl,_,_⟩
  ·simp[aC.lT,aC.kM,wP]at h4 ⊢;obtain⟨a,b,c⟩:=h4;exact⟨by rw[a];exact jK,b,c⟩
  ·simp[aC.lT,aC.kM,wP]at h4 ⊢;obtain⟨a,b,c⟩:=h4;exact⟨by rw[a];exact jK,by rw[b];exact jK,c⟩
  ·simp[aC.lT,aC.kM,wP]at h4 ⊢;obtain⟨a,b,c,d⟩:=h4;exact⟨by rw[a];exact jK,by rw[b];exact jK,by rw[c];exact jK,d⟩
  ·simp[aC.lT,aC.kM,wP]at h4 ⊢;obtain⟨a,b,c,d,e,f,g⟩:=h4;exact⟨by rw[a];exact jK,by rw[b];exact jK,by rw[c];exact jK,by rw[d];exact jK,by rw[e];exact jK,by rw[f];exact jK,g⟩
theorem IQ{x0 x1 x2 x3 x4:Int}{r:List Int}(hl:r.length<=dR x1 x4)(h:qC ((x0::x1::x2::x3::x4::r).take k)=true):(x0::x1::x2::x3::x4::r).take k=x0::x1::x2::x3::x4::r∧r.length=dR x1 x4:=by
 match k,h with
 |0,h=>cases h
 |1,h=>cases h
 |2,h=>cases h
 |3,h=>cases h
 |4,h=>cases h
 |k+5,h=>
  simp only[List.take_succ_cons]at h ⊢;have h1:(r.take k).length=dR x1 x4:=by
   refine Classical.byContradiction λhn=> ?_;rw[fH hn]at h;cases h
  rw[List.length_take]at h1;exact⟨by rw[jE (by omega)],by omega⟩
def pJ(xs:List Int):aC:=iZ (xs.getD 0 0) (xs.getD 1 0) (xs.getD 2 0) (xs.getD 4 0) (xs.drop 5)
def ZH(xs:List Int):List (Int×Int):=ng (xs.getD 1 0) (xs.getD 4 0) (xs.drop 5)
theorem abf(fr:Int)(xs:List Int):Nv fr xs=some (fr,pJ xs,ZH xs):=rfl
theorem FP(hz:L=[]∨L.length=p.ln){k:Nat}(h:qC ((ak (strOfNums (jU p L))).take k)=true):
  p.fe=true∧L.length=p.ln∧pJ ((ak (strOfNums (jU p L))).take k)={wP p with la:=none,lc:=0}∧ZH ((ak (strOfNums (jU p L))).take k)=wL L:=by
 rw[aao]at h ⊢;unfold jU at h ⊢;cases hg:p.fe with
 |false=>
  rw[hg]at h;simp only[Bool.false_eq_true,if_false,List.map_nil,List.take_nil]at h;cases h
 |true=>
  rw[hg]at h;rw[aM rfl,ab6 hg]at h ⊢;have hgw:=YG hg;obtain⟨hl,_,_,_,_,hp,hk⟩:=eZ hg;have hln:=(pV hl).1;have hkk:(wP p).kind=p.kind:=rfl;have hlen:L.length=p.ln:=by
   rcases hz with rfl|hz
   ·rcases hk with hk|hk|hk|hk
    ·rw[hln];simp[aC.dz,hk]
    ·rw[hln];simp[aC.dz,hk]
    ·rw[hln];simp[aC.dz,hk]
    ·exfalso;rw[Eb]at h;have h0:(qP (wP p) (wL [])).length=0:=by
      unfold qP;have h1:(wP p).kN (wP p).nums.length=[]:=by
       unfold aC.kN aC.nums;rw[hkk,hk.1];rfl
      have h2:ak (wP p).pay=[]:=by
       have h3:=(pV hl).2.2.2;show ak p.pay=[];rw[h3];unfold aC.dz;rw[hk.1];rfl
      rw[h1,h2];rfl
     have h1:=(IQ (by rw[h0];exact b_ _) h).2;rw[h0]at h1;have h2:=S9 (wP p) hgw;omega
   ·exact hz
  have hlw:(wL L).length=(wP p).ln:=by
   unfold wL;rw[iK];exact hlen
  obtain⟨d1,d2,d3⟩:=YZ (wP p) hgw (wL L) hlw;refine⟨rfl,hlen,?_⟩;rw[Eb]at h ⊢;have e:=(IQ (Nat.le_of_eq d1) h).1;rw[e];exact⟨d2,d3⟩
def zN(G:Int)(S:List bG)(j:Nat)(b:ByteArray):Prop:=∀k,qC ((ak b).take k)=true->FrQ G S j (pJ ((ak b).take k)) (ZH ((ak b).take k))
theorem YK{S:List bG}(h:FrQ G S j p L)(hU:∀s∈S,a_ s.addr)(hG:G<=4294967295)(hz:L=[]∨L.length=p.ln):zN G S j (strOfNums (jU p L)):=by
 intro k hk;obtain⟨_,_,e1,e2⟩:=FP hz hk;rw[e1,e2];have hu:∀ {d:Int},(∃s∈S,s.addr=d)->w8 d=d:=λ⟨s,hs,e⟩=>Md (e▸hU s hs);have hn:∀ {n:Int},0<=n∧n<=G->w8 n=n:=λh=>Md ⟨h.1,by omega⟩;refine⟨λhk=> ?_,λhk=> ?_,λhk x hx=> ?_⟩
 ·obtain⟨a1,a2,a3,a4,a5,a6⟩:=h.k1 hk;show(∃s∈S,s.addr=w8 p.aI)∧0<=p.hops∧(0<=w8 p.dw∧w8 p.dw<=G)∧(0<=w8 p.aX∧w8 p.aX<=G)∧p.hops+p.ttl<=8 * (cnt S (w8 p.aI) (w8 p.dw) p.hops:Int)∧∃s,S[j]?=some s∧(s.addr=w8 p.aI∨wT s (w8 p.aI) (w8 p.dw) p.hops=true);rw[hu a1,hn a3,hn a4];exact h.k1 hk
 ·obtain⟨a1,a2,a3,a5,a6⟩:=h.k2 hk;show(∃s∈S,s.addr=w8 p.dest)∧0<=p.hops∧(0<=w8 p.aX∧w8 p.aX<=G)∧p.hops+p.ttl<=8 * (cnt S (w8 p.dest) (w8 p.aX) p.hops:Int)∧∃s,S[j]?=some s∧(s.addr=w8 p.dest∨wT s (w8 p.dest) (w8 p.aX) p.hops=true);rw[hu a1,hn a3];exact h.k2 hk
 ·obtain⟨y,hy,rfl⟩:=dh.1 hx;have h3:=h.k3 hk y hy;dsimp only;rw[hn h3];exact h3
theorem A9(b:ByteArray)(n:Nat):ak (b.extract 0 n)=(ak b).take n:=by
 unfold ak;rw[ByteArray.data_extract,Array.toList_extract,List.map_take];simp
theorem zN.cut{S:List bG}(h:zN G S j b)(n:Nat):zN G S j (b.extract 0 n):=by
 intro k hk;rw[A9,List.take_take]at hk ⊢;exact h _ hk
theorem zN.whole{S:List bG}(h:zN G S j b)(hF:qC (ak b)=true):FrQ G S j (pJ (ak b)) (ZH (ak b)):=by
 have h1:=h (ak b).length;rw[List.take_length]at h1;exact h1 hF
theorem zN.set{G':Int}{S:List bG}{i:Nat}{s s':bG}(h:zN G S k b)(hG:G<=G')(hs:S[i]?=some s)(l:l6 s s'):zN G' (S.set i s') k b:=λn hn=>(h n hn).set hG hs l
variable{c:sO}{G G':Int}{A:List Rt}{i:Nat}{y y':Rt}{s:St}{st:bG}
theorem mh{s:Int}(h0:0<=s)(h1:s<4294967295):gr s=s+1:=by unfold gr;omega
def QJ(A A':List Rt):Prop:=∀d y,aK A d=some y->∃y',aK A' d=some y'∧qE (rk y',y'.hops) (rk y) y.hops=true
theorem QJ.refl(A:List Rt):QJ A A:=λ_ y h=>⟨y,h,mX _ _⟩
theorem QJ.sle{s':St}(h:QJ s.A s'.A)(hz:st.nd=some s):l6 st {st with nd:=some s'}:=by
 refine⟨rfl,λd q h' _ e=> ?_⟩;unfold wT vr at e ⊢;rw[hz]at e;dsimp only at e ⊢;cases hl:aK s.A d with
 |none=>rw[hl]at e;cases e
 |some y=>
  obtain⟨y',hy',g⟩:=h d y hl;rw[hl]at e;rw[hy'];exact D9 g e
theorem Ml{f:Rt->Rt}(hd:∀y,(f y).dest=y.dest)(hf:∀y∈A,qE (rk (f y),(f y).hops) (rk y) y.hops=true):QJ A (A.map f):=λ_ y h=>⟨f y,pU hd h,hf y (bU h).1⟩
theorem NR(q:Int)(h0:0<=y.seq)(h1:y.seq<4294967295)(hv:y.valid=true):qE (rk (qF y q),(qF y q).hops) (rk y) y.hops=true:=by
 have e1:rk (qF y q)=max (gr y.seq) q - 1:=rfl;have e2:rk y=y.seq:=by unfold rk;rw[hv];rfl
 have e3:(qF y q).hops=y.hops:=rfl;rw[e1,e2,e3,mh h0 h1];unfold qE;simp only[Bool.or_eq_true,eG,iL];omega
theorem Tv(fr q:Int)(h0:0<=y.seq)(h1:y.seq<4294967295):qE (rk (bQ fr q y),(bQ fr q y).hops) (rk y) y.hops=true:=by
 unfold bQ;split
 ·rename_i h;simp only[eG]at h;exact NR q h0 h1 h.1
 ·exact mX _ _
theorem MF(h1:rk y'=rk y)(h2:y'.hops=y.hops):qE (rk y',y'.hops) (rk y) y.hops=true:=by rw[h1,h2];exact mX _ _
theorem rW(e:Int)(y:Rt):(sJ e y).dest=y.dest∧(sJ e y).seq=y.seq∧(sJ e y).hops=y.hops∧(sJ e y).next=y.next∧(sJ e y).valid=y.valid:=by
 unfold sJ;split<;>exact⟨rfl,rfl,rfl,rfl,rfl⟩
theorem sG(n:Int)(y:Rt):(qG n y).dest=y.dest∧(qG n y).seq=y.seq∧(qG n y).hops=y.hops∧(qG n y).next=y.next∧(qG n y).valid=y.valid:=by
 unfold qG;split<;>exact⟨rfl,rfl,rfl,rfl,rfl⟩
theorem MI(h1:y'.seq=y.seq)(h2:y'.valid=y.valid):rk y'=rk y:=by unfold rk;rw[h1,h2]
theorem zm.same{S:List bG}(h:zm G S i y)(e:y'.dest=y.dest∧y'.seq=y.seq∧y'.hops=y.hops∧y'.next=y.next∧y'.valid=y.valid):zm G S i y':=by
 obtain⟨e1,e2,e3,e4,e5⟩:=e;refine⟨by rw[e1];exact h.dest,by rw[e3];exact h.hp,by rw[e2];exact h.sq,?_,?_⟩
 ·rw[e1,e2,e3,e4,e5];exact h.nx
 ·rw[e1,e2,e3,e5];exact h.hc
theorem zm.up{S:List bG}(h:zm G S i y)(hG:G<=G'):zm G' S i y:=⟨h.dest,h.hp,⟨h.sq.1,Int.le_trans h.sq.2 hG⟩,h.nx,h.hc⟩
theorem zm.ended{S:List bG}(h:zm G S i y)(hd:y'.dest=y.dest)(hh:y'.hops=y.hops)(hv:y'.valid=false)(hs:0<=y'.seq∧y'.seq<=G'):zm G' S i y':=
 ⟨by rw[hd];exact h.dest,by rw[hh];exact h.hp,hs,λh=>(by rw[hv]at h;cases h),λh=>(by rw[hv]at h;cases h)⟩
structure CI(G:Int)(S:List bG):Prop where
 len:S.length<=6
 zi:∀s∈S,a_ s.addr∧s.addr≠0
 inj:∀(i j:Nat) s t,S[i]?=some s->S[j]?=some t->s.addr=t.addr->i=j
 nd:∀(i:Nat) s z,S[i]?=some s->s.nd=some z->z.me=s.addr∧(0<=z.seq∧z.seq<=G)∧Asc z.A∧∀y∈z.A,zm G S i y∧y.dest≠s.addr
theorem CI.set{S:List bG}(h:CI G S)(hG:G<=G'){i:Nat}{s s':bG}(hs:S[i]?=some s)(l:l6 s s')(hn:∀z,s'.nd=some z->z.me=s'.addr∧(0<=z.seq∧z.seq<=G')∧Asc z.A∧∀y∈z.A,zm G' (S.set i s') i y∧y.dest≠s'.addr):CI G' (S.set i s'):=by
 have hg:∀(j:Nat) t,(S.set i s')[j]?=some t->∃u,S[j]?=some u∧t.addr=u.addr:=λj t ht=>by
  rcases cO ht with⟨rfl,rfl⟩|⟨_,ht⟩
  ·exact⟨s,hs,l.addr⟩
  ·exact⟨t,ht,rfl⟩
 refine⟨by rw[List.length_set];exact h.len,λt ht=> ?_,λj k t u ht hu e=> ?_,λj t z ht hz=> ?_⟩
 ·obtain⟨j,hj⟩:=List.getElem?_of_mem ht;obtain⟨u,hu,e⟩:=hg j t hj;rw[e];exact h.zi u (gH hu)
 ·obtain⟨t1,ht1,e1⟩:=hg j t ht;obtain⟨u1,hu1,e2⟩:=hg k u hu;exact h.inj j k t1 u1 ht1 hu1 (by rw[<-e1,<-e2];exact e)
 ·rcases cO ht with⟨rfl,rfl⟩|⟨_,ht⟩
  ·exact hn z hz
  ·obtain⟨a,b,c,d⟩:=h.nd j t z ht hz;exact⟨a,⟨b.1,by omega⟩,c,λy hy=>⟨(d y hy).1.set hG hs l,(d y hy).2⟩⟩
def QX(G:Int)(S:List bG)(me:Int)(c:sO):Prop:=
 ∀fr p L,c=some (fr,p,L)->fr≠me∧1<=p.ttl∧(0<=p.aX∧p.aX<=G)∧(∀x∈L,x.2<=G)∧∃(j:Nat) (t:bG),S[j]?=some t∧t.addr=fr∧FrQ G S j p L
theorem QX.set{S:List bG}{me:Int}(h:QX G S me c)(hG:G<=G'){i:Nat}{s s':bG}(hs:S[i]?=some s)(l:l6 s s'):QX G' (S.set i s') me c:=by
 intro fr p L hc;obtain⟨h1,h2,h3,h4,j,t,hj,ha,hf⟩:=h fr p L hc;obtain⟨t',ht',lt⟩:=mW hs l hj;exact⟨h1,h2,⟨h3.1,by omega⟩,λx hx=>Int.le_trans (h4 x hx) hG,j,t',ht',lt.addr.trans ha,hf.set hG hs l⟩
theorem RG{S:List bG}{s:bG}(h:S[i]?=some s):S.set i s=S:=by
 refine List.ext_getElem? λj=> ?_;by_cases e:j=i
 ·subst e;rw[List.getElem?_set_self (fA.1 h).1,h]
 ·rw[List.getElem?_set_ne (λh=>e h.symm)]
theorem wR(hz:st.nd=some s)(d:Int):vr st d=(aK s.A d).map λy=>(rk y,y.hops):=by
 unfold vr;rw[hz]
theorem sN.wT(hz:st.nd=some s){d q h:Int}(r:sN (aK s.A d) q h):wT st d q h=true:=by
 obtain⟨y,hy,e⟩:=r;unfold Go.Proofs.YtakaadcpaeiccabGreat.wT;rw[wR hz,hy];show qE (rk y,y.hops) q h=true;unfold qE;simp only[Bool.or_eq_true,eG,iL];exact e
theorem Dl(me:Int)(A:List Rt)(d q h n e:Int):((iO me A d q h n e).1=A)∨(d≠me∧d≠0∧(iO me A d q h n e).2=0∧((∃x,aK A d=some x∧Wm (newR d q h n e) x=true∧(iO me A d q h n e).1=gU A d (Ae q h n e))∨(aK A d=none∧(iO me A d q h n e).1=uD A (newR d q h n e)))):=by
 unfold iO;split
 ·exact .inl rfl
 ·rename_i hd;simp only[not_or]at hd;cases hl:aK A d with
  |some x=>
   dsimp only;split
   ·rename_i hg;exact .inr ⟨hd.1,hd.2,rfl,.inl ⟨x,rfl,hg,rfl⟩⟩
   ·exact .inl rfl
  |none=>
   dsimp only;split
   ·exact .inl rfl
   ·exact .inr ⟨hd.1,hd.2,rfl,.inr ⟨rfl,rfl⟩⟩
theorem CQ(A:List Rt)(x:Rt)(d:Int)(hd:d≠x.dest):aK (uD A x) d=aK A d:=by
 unfold uD aK;have hx:(x.dest==d)=false:=by simpa using λe=>hd e.symm
 conv=>rhs;rw[<-List.take_append_drop (pos A x.dest) A]
 rw[List.find?_append,List.find?_append,List.find?_cons,hx]
theorem Rs{S:List bG}(hS:S[i]?=some st)(hz:st.nd=some s)(h:CI G S)(hc:QX G S s.me c)(hG0:0<=G)(hG:G+1<4294967295)(t:Vq s.me s.now c s.A A):
  l6 st {st with nd:=some {s with A:=A}}∧Asc A∧∀y∈A,zm (G+1) (S.set i {st with nd:=some {s with A:=A}}) i y∧y.dest≠st.addr:=by
 obtain⟨hme,T9,hasc,hln⟩:=h.nd i st s hS hz;have hmap:∀(f:Rt->Rt),(∀y,(f y).dest=y.dest)->(∀y∈s.A,qE (rk (f y),(f y).hops) (rk y) y.hops=true)->(∀y∈s.A,zm (G+1) S i (f y))->A=s.A.map f->l6 st {st with nd:=some {s with A:=A}}∧Asc A∧∀y∈A,zm (G+1) (S.set i {st with nd:=some {s with A:=A}}) i y∧y.dest≠st.addr:=by
  rintro f hd hf hl rfl;have l:l6 st {st with nd:=some {s with A:=s.A.map f}}:=QJ.sle (s':={s with A:=s.A.map f}) (Ml hd hf) hz;refine⟨l,?_,λy hy=> ?_⟩
  ·unfold Asc;rw[List.pairwise_map];refine hasc.imp λ{a b} hab=> ?_;rw[hd,hd];exact hab
  ·obtain⟨z,hz',rfl⟩:=dh.1 hy;exact⟨(hl z hz').set (fq _) hS l,by rw[hd];exact(hln z hz').2⟩
 have hmod:∀(f:Rt->Rt) (d:Int),(∀y,(f y).dest=y.dest)->(∀y∈s.A,y.dest=d->qE (rk (f y),(f y).hops) (rk y) y.hops=true∧zm (G+1) S i (f y))->A=gU s.A d f->l6 st {st with nd:=some {s with A:=A}}∧Asc A∧∀y∈A,zm (G+1) (S.set i {st with nd:=some {s with A:=A}}) i y∧y.dest≠st.addr:=by
  intro f d hd hf hA;refine hmap (λx=>if x.dest=d then f x else x) (λy=> ?_) (λy hy=> ?_) (λy hy=> ?_) hA
  ·split
   ·exact hd y
   ·rfl
  ·split
   ·rename_i e;exact(hf y hy e).1
   ·exact mX _ _
  ·split
   ·rename_i e;exact(hf y hy e).2
   ·exact(hln y hy).1.up (by omega)
 have TV:∀(d q hp n e:Int),(d≠s.me->(∃s∈S,s.addr=d)∧0<=hp∧(0<=q∧q<=G)∧hp+1<=8 * (cnt S d q hp:Int)∧n≠s.me∧∃(j:Nat) (t:bG),S[j]?=some t∧t.addr=n∧(t.addr=d∨wT t d q hp=true))->A=(iO s.me s.A d q (St.far hp) n e).1->l6 st {st with nd:=some {s with A:=A}}∧Asc A∧∀y∈A,zm (G+1) (S.set i {st with nd:=some {s with A:=A}}) i y∧y.dest≠st.addr:=by
  intro d q hp n e hx hA;rcases Dl s.me s.A d q (St.far hp) n e with h1|⟨D7,hd0,hcode,h1⟩
  ·rw[h1]at hA;refine hmap id (λy=>rfl) (λy _=>mX _ _) (λy hy=>(hln y hy).1.up (by omega)) (by rw[List.map_id];exact hA)
  ·obtain⟨x1,x2,x3,x4,x5,j,t,hj,ht,hge⟩:=hx D7;have hcl:=Ld S d q hp;have hlen:=h.len;have KT:St.far hp=hp+1:=by unfold St.far;omega
   have hrk:=AA (me:=s.me) (A:=s.A) (d:=d) (q:=q) (h:=St.far hp) (n:=n) (e:=e) D7 hd0 (by rw[hcode];decide);rw[<-hA]at hrk;have adA:∀x,aK s.A d=some x->Wm (newR d q (St.far hp) n e) x=true->qE (rk (newR d q (St.far hp) n e),(newR d q (St.far hp) n e).hops) (rk x) x.hops=true∧qE (rk x,x.hops) q hp=false:=by
    intro x _ hg;have e1:rk (newR d q (St.far hp) n e)=q:=rfl;have e2:(newR d q (St.far hp) n e).hops=St.far hp:=rfl;unfold Wm at hg;rw[e1,e2]at hg;rw[e1,e2];unfold qE;split at hg
    ·rename_i e3;simp only[iL]at hg;refine⟨?_,?_⟩
     ·simp only[Bool.or_eq_true,eG,iL];omega
     ·simp only[Bool.or_eq_false_iff,Bool.and_eq_false_iff,decide_eq_false_iff_not];omega
    ·rename_i e3;simp only[iL]at hg;refine⟨?_,?_⟩
     ·simp only[Bool.or_eq_true,eG,iL];omega
     ·simp only[Bool.or_eq_false_iff,Bool.and_eq_false_iff,decide_eq_false_iff_not];omega
   have aeZ:QJ s.A A:=by
    intro d' y hy;by_cases hdd:d'=d
    ·subst hdd;rcases h1 with⟨x,hx1,hx2,hx3⟩|⟨hx1,_⟩
     ·rw[hy]at hx1;cases hx1;obtain⟨y',hy',hr⟩:=hrk;refine⟨y',hy',D9 ?_ (adA y hy hx2).1⟩;show qE (rk y',y'.hops) q (St.far hp)=true;unfold qE;simp only[Bool.or_eq_true,eG,iL];exact hr
     ·rw[hy]at hx1;cases hx1
    ·refine⟨y,?_,mX _ _⟩;rcases h1 with⟨x,hx1,hx2,hx3⟩|⟨hx1,hx3⟩
     ·rw[hA,hx3];have h2:=pU (f:=λx=>if x.dest=d then Ae q (St.far hp) n e x else x) (λy=>by split<;>rfl) hy;rw[aG (by rw[(bU hy).2];exact hdd)]at h2;exact h2
     ·rw[hA,hx3,CQ _ _ _ hdd];exact hy
   have l:l6 st {st with nd:=some {s with A:=A}}:=QJ.sle (s':={s with A:=A}) aeZ hz;have hcm:cnt S d q hp+1<=cnt (S.set i {st with nd:=some {s with A:=A}}) d q (St.far hp):=by
    refine U4 hS (by omega) ?_ ?_
    ·unfold cP wT;rw[wR hz,Bool.or_eq_false_iff];refine⟨by simpa using λe=>D7 (by rw[hme];exact e.symm),?_⟩;rcases h1 with⟨x,hx1,hx2,hx3⟩|⟨hx1,hx3⟩
     ·rw[hx1];exact(adA x hx1 hx2).2
     ·rw[hx1];rfl
    ·unfold cP;rw[Bool.or_eq_true];exact .inr (sN.wT rfl hrk)
   have hnew:∀y,y.dest=d->y.seq=q->y.hops=St.far hp->y.next=n->y.valid=true->zm (G+1) (S.set i {st with nd:=some {s with A:=A}}) i y:=by
    intro y e1 e2 e3 e4 e5;refine⟨by rw[e1];exact gI hS l.addr x1,by omega,by omega,λ_=> ?_,λ_=> ?_⟩
    ·have hji:j≠i:=λhji=>by
      subst hji;rw[hS]at hj;cases hj;exact x5 (by rw[<-ht,hme])
     refine⟨j,t,hji,(List.getElem?_set_ne (λe=>hji e.symm)).trans hj,ht.trans e4.symm,?_⟩;rw[e1,e2,e3,e4,KT];rcases hge with hge|hge
     ·exact .inl (by rw[<-hge,ht])
     ·exact .inr (by rw[show hp+1 - 1=hp by omega];exact hge)
    ·rw[e1,e2,e3];omega
   refine⟨l,?_,λy hy=> ?_⟩
   ·rcases h1 with⟨x,hx1,hx2,hx3⟩|⟨hx1,hx3⟩
    ·rw[hA,hx3];exact A_ hasc d _ λy=>rfl
    ·rw[hA,hx3];exact IU hasc hx1
   ·rcases h1 with⟨x,hx1,hx2,hx3⟩|⟨hx1,hx3⟩
    ·rw[hA,hx3]at hy;rcases vL hy with⟨z,hz',he,rfl⟩|⟨hy,_⟩
     ·exact⟨hnew _ he rfl rfl rfl rfl,by show z.dest≠st.addr;rw[he,<-hme];exact D7⟩
     ·exact⟨((hln y hy).1.set (by omega) hS l),(hln y hy).2⟩
    ·rw[hA,hx3]at hy;rcases oJ.1 hy with rfl|hy
     ·exact⟨hnew _ rfl rfl rfl rfl rfl,by show d≠st.addr;rw[<-hme];exact D7⟩
     ·exact⟨((hln y hy).1.set (by omega) hS l),(hln y hy).2⟩
 have Ui:∀(fr q:Int) (y:Rt),y∈s.A->(q<=G)->qE (rk (bQ fr q y),(bQ fr q y).hops) (rk y) y.hops=true∧zm (G+1) S i (bQ fr q y):=by
  intro fr q y hy hq;have h2:=(hln y hy).1;have h3:=h2.sq;refine⟨Tv fr q h3.1 (by omega),?_⟩;unfold bQ;split
  ·refine h2.ended rfl rfl rfl ?_;show 0<=max (gr y.seq) q∧max (gr y.seq) q<=G+1;rw[mh h3.1 (by omega)];omega
  ·exact h2.up (by omega)
 cases t with
 |Wt fr p L e hc1 hk=>
  obtain⟨k1,k2,k3,_,j,t,hj,ht,hf⟩:=hc fr p L hc1;obtain⟨f1,f2,f3,f4,f5,u,hu,f6⟩:=hf.k1 hk;rw[hj]at hu;cases hu;exact TV p.aI p.dw p.hops fr e (λ_=>⟨f1,f2,f3,by omega,k1,j,t,hj,ht,f6⟩) rfl
 |Ws fr p L e hc1 hk=>
  obtain⟨k1,k2,k3,_,j,t,hj,ht,hf⟩:=hc fr p L hc1;obtain⟨f1,f2,f3,f5,u,hu,f6⟩:=hf.k2 hk;rw[hj]at hu;cases hu;exact TV p.dest p.aX p.hops fr e (λ_=>⟨f1,f2,f3,by omega,k1,j,t,hj,ht,f6⟩) rfl
 |use d e=>exact hmod (sJ e) d (λy=>mr e y) (λy hy _=>⟨MF (MI (rW e y).2.1 (rW e y).2.2.2.2) (rW e y).2.2.1,((hln y hy).1.same (rW e y)).up (by omega)⟩) rfl
 |bN d n=>exact hmod (qG n) d (λy=>lg n y) (λy hy _=>⟨MF (MI (sG n y).2.1 (sG n y).2.2.2.2) (sG n y).2.2.1,((hln y hy).1.same (sG n y)).up (by omega)⟩) rfl
 |lose fr p L hc1 x hx=>
  obtain⟨_,_,_,k4,_⟩:=hc fr p L hc1;exact hmod (bQ fr x.2) x.1 (λy=>eX _ _ y) (λy hy _=>Ui fr x.2 y hy (k4 x hx)) rfl
 |brk eu=>exact hmap (bQ eu 0) (λy=>eX _ _ y) (λy hy=>(Ui eu 0 y hy hG0).1) (λy hy=>(Ui eu 0 y hy hG0).2) rfl
 |grow d hg=>
  refine hmod St.oN d (λy=>rfl) (λy hy hd=> ?_) rfl;have h2:=(hln y hy).1;have h3:=h2.sq;have hv:=hg y (by rw[<-hd];exact mV hasc hy);have e1:rk (St.oN y)=gr y.seq - 1:=by unfold rk St.oN;dsimp only;rw[hv];rfl
  have e2:rk y=y.seq - 1:=by unfold rk;rw[hv];rfl
  refine⟨?_,h2.ended rfl rfl hv ?_⟩
  ·rw[e1,e2,mh h3.1 (by omega)];show qE (y.seq+1 - 1,y.hops) (y.seq - 1) y.hops=true;unfold qE;simp only[Bool.or_eq_true,iL];exact .inl (by omega)
  ·show 0<=gr y.seq∧gr y.seq<=G+1;rw[mh h3.1 (by omega)];omega
end Go.Proofs.YtakaadcpaeiccabGreat
