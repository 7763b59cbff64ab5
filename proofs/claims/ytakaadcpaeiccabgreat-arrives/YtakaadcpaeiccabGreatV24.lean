import Derived.Test.YtakaadcpaeiccabGreatV23
set_option maxHeartbeats 4000000
set_option maxRecDepth 100000
namespace Go.Proofs.YtakaadcpaeiccabGreat
variable{c:uM}{A:List Rt}{m:aM}{n:Nat}{f:Rt->Rt}{s s':St}
def Fj(me:Int)(A:List Rt):Prop:=∀y∈A,y.dest≠me∧(y.valid=false->y.bL=[])
theorem DJ{me:Int}(h:Fj me A)(hf:∀y,(f y).dest=y.dest∧((y.valid=false->y.bL=[])->(f y).valid=false->(f y).bL=[])):Fj me (A.map f):=by
 intro y hy;obtain⟨z,hz,rfl⟩:=dW.1 hy;obtain⟨h1,h2⟩:=h z hz;obtain⟨e1,e2⟩:=hf z;exact⟨by rw[e1];exact h1,e2 h2⟩
theorem uQ{me:Int}{d:Int}(h:Fj me A)(hf:∀y,(f y).dest=y.dest∧((y.valid=false->y.bL=[])->(f y).valid=false->(f y).bL=[])):Fj me (gK A d f):=by
 refine DJ h λy=> ?_;split
 ·exact hf y
 ·exact⟨rfl,λh=>h⟩
theorem K7{me:Int}(h:Fj me A)(d q hp n e:Int):Fj me (fA me A d q hp n e).1:=by
 unfold fA;split
 ·exact h
 ·rename_i hd;simp only[not_or]at hd;split
  ·split
   ·exact uQ h λy=>⟨rfl,λ_ h=>by cases h⟩
   ·exact h
  ·split
   ·exact h
   ·intro y hy;unfold um at hy;rcases fu.1 hy with hy|hy
    ·exact h y (List.mem_of_mem_take hy)
    ·rcases fE.1 hy with rfl|hy
     ·exact⟨hd.1,λh=>by cases h⟩
     ·exact h y (List.mem_of_mem_drop hy)
theorem Cz(fr q:Int)(y:Rt):(dD fr q y).dest=y.dest∧((y.valid=false->y.bL=[])->(dD fr q y).valid=false->(dD fr q y).bL=[]):=by
 refine⟨gB _ _ y,?_⟩;unfold dD;split
 ·exact λ_ _=>rfl
 ·exact λh=>h
theorem VD{me:Int}(h:Fj me A)(now:Int):Fj me (iF A now):=by
 refine DJ h λy=>⟨mG now y,?_⟩;unfold sG;split
 ·exact λ_ _=>rfl
 ·exact λh=>h
theorem Vz{me now:Int}{A':List Rt}(t:Ur me now c A A')(h:Fj me A):Fj me A':=by
 cases t with
 |Vk=>exact K7 h _ _ _ _ _
 |Vj=>exact K7 h _ _ _ _ _
 |use d e=>
  refine uQ h λy=>⟨ol e y,?_⟩;unfold Dy;split
  ·rename_i hv;exact λ_ h=>by
    dsimp only at h;rw[hv]at h;cases h
  ·exact λh=>h
 |bL d n=>
  refine uQ h λy=>⟨mH n y,?_⟩;unfold A8;split
  ·rename_i hv;exact λ_ h=>by
    dsimp only at h;rw[hv.1]at h;cases h
  ·exact λh=>h
 |lose fr p L hc x hx=>exact uQ h λy=>Cz fr x.2 y
 |brk fq=>exact DJ h λy=>Cz fq 0 y
 |grow d _=>exact uQ h λy=>⟨rfl,λh=>h⟩
theorem Za(k:Pr c s s')(h:Fj s.me s.A):Fj s'.me s'.A:=by
 cases k with
 |Ac e=>rw[e.me,e.A];exact h
 |tab t=>exact Vz t h
 |aH _ _ _ _ _=>exact h
 |grw=>exact h
 |mx _ _ _ _=>exact h
 |wr=>exact h
theorem VA(k:gF c n s s')(h:Fj s.me s.A):Fj s'.me s'.A:=by
 induction k with
 |nil=>exact h
 |snoc _ k ih=>exact Za k (ih h)
theorem uR{now:Int}(k:gF c n (s.locked.begin now) s')(h:Fj s.me s.A):Fj s'.finish.freed.me s'.finish.freed.A:=by
 have h1:Fj (s.locked.begin now).me (s.locked.begin now).A:=VD h now;have h2:=VA k h1;have e:=aR s';show Fj s'.finish.me s'.finish.A;rw[e.me,e.A];exact h2
structure NK(z:St):Prop where
 K9:l8 z
 tb:Fj z.me z.A
theorem EX(h:l8 s):l8 s.finish.freed:=by
 intro q hq;have e:=(aR s).Q;have hq':q∈s.finish.Q:=hq;rw[e]at hq';exact h q hq'
theorem NK.rcv{z:St}(h:NK z)(now fr:Int)(xs:List Int)(hb:∀x∈xs,0<=x∧x<=255):NK (z.rcv now fr xs)∧PO (z.rcv now fr xs).aF:=by
 have h4:∀q∈z.Q,q.txt.length<=4:=λq hq=>(h.K9 q hq).1;obtain⟨n,s',h1,h2⟩:=yZ z now fr xs h4;refine⟨⟨EX (s:=(z.locked.begin now).hear fr xs) λq hq=>h.K9 q ((AU (z.locked.begin now) fr xs hb h4).qs q hq),?_⟩,?_⟩
 ·rw[h2];exact uR h1 h.tb
 ·rw[h2];exact vO h1
theorem NK.brk{z:St}(h:NK z)(now fq:Int):NK (z.brk now fq)∧PO (z.brk now fq).aF:=by
 obtain⟨s',h1,h2⟩:=Fe z now fq;refine⟨⟨λq hq=> ?_,?_⟩,?_⟩
 ·rw[(IA z now fq).2.2]at hq;exact h.K9 q hq
 ·rw[h2];exact uR h1 h.tb
 ·rw[h2];exact vO h1
theorem CK:∀(D:List Sr) (s:St),(∀q∈D,q.txt.length<=4∧1<=q.ttl∧q.ttl<=8)->l8 s->l8 (D.foldl St.step s)
 | [],_,_,h=>h
 |q::D,s,hD,h=>by
  rw[gZ];exact CK D _ (λz hz=>hD z (lU _ hz)) (Gl h (hD q jT))
theorem NK.iW{z:St}(h:NK z)(now:Int):NK (z.iW now)∧PO (z.iW now).aF:=by
 obtain⟨s',h1,h2⟩:=DI z now h.K9;refine⟨⟨EX (s:=(St.jA z.Q now).foldl St.step (z.locked.begin now)) (CK _ _ (λq hq=>h.K9 q (Il hq)) h.K9),?_⟩,?_⟩
 ·rw[h2];exact uR h1 h.tb
 ·rw[h2];exact vO h1
theorem Nu(h:l8 s)(d:Int)(t:ByteArray):l8 (s.await d t):=by
 unfold St.await;split
 ·rename_i q hq;have hq4:=h q (jw hq).1;intro z hz;have hz':z∈St.dh s.Q (s.hold q t).2:=hz;rcases fI hz' with rfl|⟨k,_⟩
  ·unfold St.hold;split
   ·rename_i e;dsimp only;rw[bU,List.length_tail,List.length_singleton];exact⟨by omega,hq4.2⟩
   ·dsimp only;rw[bU,List.length_singleton];exact⟨by omega,hq4.2⟩
  ·exact h z k
 ·refine uZ (λz hz=> ?_) ⟨by simp[St.jh],by show(1:Int)<=1∧(1:Int)<=8;omega⟩;rcases fu.1 hz with hz|hz
  ·exact h z hz
  ·rw[fM]at hz;subst hz;exact⟨by simp[St.jh],by show(1:Int)<=1∧(1:Int)<=8;omega⟩
theorem NK.snd{z:St}(h:NK z)(now d:Int)(t:ByteArray):NK (z.snd now d t)∧PO (z.snd now d t).aF:=by
 obtain⟨n,s',h1,h2⟩:=DR z now d t;refine⟨⟨EX (s:=if (bE (z.locked.begin now).A d (z.locked.begin now).now).2 then(z.locked.begin now).aZ d t else(z.locked.begin now).await d t) ?_,?_⟩,?_⟩
 ·split
  ·intro q hq;rw[(jM _ _ _).1]at hq;exact h.K9 q hq
  ·exact Nu (s:=z.locked.begin now) h.K9 d t
 ·rw[h2];exact uR h1 h.tb
 ·rw[h2];exact vO h1
theorem Rn(me:Int)(xs:List Int)(now:Int):NK (St.new me xs now)∧(St.new me xs now).aF=[]:=by
 have e:=aR (St.raw me xs now);rw[St.uf];refine⟨⟨λq hq=> ?_,?_⟩,e.aF⟩
 ·rw[e.Q]at hq;cases hq
 ·rw[e.me,e.A];have e2:(St.raw me xs now).A=wS me ((cmpL (jl xs)).take (cmpL (jl xs)).length):=by rw[List.take_length];rfl
  rw[e2];intro y hy;obtain⟨j,x,_,hj,hp,rfl⟩:=Ei _ _ _ y hy;unfold BS at hp;simp only[jr,bne_iff_ne]at hp;exact⟨hp.2,λ_=>rfl⟩
def Vb(m:aM):Prop:=∀(i:Nat) s z,m.S[i]?=some s->s.nd=some z->NK z
theorem Vb.put(h:Vb m)(i:Nat){s:eB}(hs:∀z,s.nd=some z->NK z):Vb (m.put i s):=by
 intro j u z hj hz;rw[(fJ _ _ _).1]at hj;rcases bW hj with⟨_,rfl⟩|⟨_,hj⟩
 ·exact hs z hz
 ·exact h j u z hj hz
theorem Vb.S{m':aM}(h:Vb m)(e:m'.S=m.S):Vb m':=λi s z hs hz=>h i s z (by rw[<-e];exact hs) hz
theorem FT(s:eB)(o:Ot):(∀z,(s.write o).1.nd=some z->s.nd=some z)∧((s.write o).2=true->(s.write o).1.nd=s.nd)∧(s.write o).1.addr=s.addr∧(s.write o).1.hrs=s.hrs:=by
 unfold eB.write;split
 ·exact⟨λ_ h=>h,λ_=>rfl,rfl,rfl⟩
 ·split
  ·exact⟨λ_ h=>(by cases h),λh=>(by cases h),rfl,rfl⟩
  ·exact⟨λ_ h=>h,λ_=>rfl,rfl,rfl⟩
def FK(m:aM):Prop:=qw m∧Vb m
def Y2(i:Nat)(z:Cq)(P:oP):Prop:=FK z.1∧i<z.1.S.length∧PO P
theorem Dj{i:Nat}{e:List Ev}{P:oP}{s:eB}{z:St}(h:Y2 i (m,e) P)(hz:NK z)(hf:PO z.aF):Kn (Y2 i) i (m,e) P {s with nd:=some z} z.ot:=by
 have hl:∀s:eB,i<(m.put i s).S.length:=λs=>by rw[(fJ _ _ _).1,List.length_set];exact h.2.1
 have hnk:Vb (m.put i (eB.write {s with nd:=some z} z.ot).1):=h.1.2.put i λu hu=>by
  have h1:=(FT {s with nd:=some z} z.ot).1 u hu;cases h1;exact hz
 refine⟨λ_=>⟨⟨h.1.1.put i _,h.1.2.put i λu hu=> ?_⟩,hl _,h.2.2⟩,λ_ _=>⟨⟨h.1.1.put i _,hnk⟩,hl _,λf hf'=> ?_⟩,λ_ _=>⟨⟨h.1.1.put i _,hnk⟩,hl _,h.2.2⟩⟩
 ·cases hu;exact hz
 ·rcases fu.1 hf' with h1|h1
  ·exact hf f h1
  ·exact h.2.2 f h1
theorem aaW(i:Nat):aby (Y2 i) i:=by
 have hse:∀m e f P,Y2 i (m,e) (f::P)->Y2 i (m.cO i f,e) P:=λm e f P h=>by
  have e1:=(iQ m i f).1;exact⟨⟨h.1.1.cO h.2.1 (h.2.2 f jT),h.1.2.S e1⟩,by show i<(m.cO i f).S.length;rw[e1];exact h.2.1,λg hg=>h.2.2 g (lU _ hg)⟩
 refine⟨hse,λm e P f s z h _ _ hs hz=> ?_⟩;have h':=hse m e f P h;obtain⟨h1,h2⟩:=(h'.1.2 i s z hs hz).brk m.now f.1;exact Dj h' h1 h2
theorem VL(b:ByteArray)(n:Nat)(hn:n<=b.size):(b.extract 0 n).size<=b.size:=by
 rw[ByteArray.size_extract];omega
theorem MK(o:Op):Dv (λ_ z=>FK z.1) (λ_=>Y2) o:=by
 have hin:∀i m e,i<m.S.length->FK m->Y2 i (m,e) []:=λi m e hi h=>⟨h,hi,λf hf=>(by cases hf)⟩;have hlt:∀ {m:aM} {i:Nat} {s:eB},m.S[i]?=some s->i<m.S.length:=λh=>(fO.1 h).1;refine⟨λ_ _ h=>h,λ_ i z h=>h.1,λ_=>aaW,λ_ m e a r h=>h,?_,?_,λm e _ _ _ h=>h,?_,?_,?_,?_,?_,?_,?_,?_,?_⟩
 ·intro _ m e a b ha hb _ h;show FK (m.link a b o.on);unfold aM.link;split
  ·exact h
  ·have hk:∀(m:aM) (c:Nat) (L:List Bool),Vb m->Vb (m.put c {m.at' c with hrs:=L}):=λm c L hm=>hm.put c λz hz=>by
    by_cases hc:c<m.S.length
    ·have hs:=bS hc;rw[dR hs]at hz;exact hm c _ z hs hz
    ·unfold aM.at' at hz;rw[List.getD_eq_getElem?_getD,List.getElem?_eq_none (by omega)]at hz;cases hz
   exact⟨(h.1.put a _).put b _,hk _ b _ (hk m a _ h.2)⟩
 ·intro m e a b s z hs hz hb _ _ _ _ _ _ h;obtain⟨h1,h2⟩:=(h.2 a s z hs hz).snd m.now (m.at' b).addr o.txt;exact Dj (hin a m e (hlt hs) h) h1 h2
 ·intro _ m e i s z hs hz _ h;obtain⟨h1,h2⟩:=(h.2 i s z hs hz).iW m.now;exact Dj (hin i m e (hlt hs) h) h1 h2
 ·intro _ m e k f hf _ h;exact⟨λg hg=>h.1 g (List.mem_of_mem_eraseIdx hg),h.2⟩
 ·intro _ m e k f s z hf hs hz _ h;obtain⟨h1,h2⟩:=(h.2 f.2.1 s z hs hz).rcv m.now (m.at' f.1).addr (aA f.2.2) (rQ _);exact Dj (hin f.2.1 {m with aT:=m.aT.eraseIdx k} e (hlt hs) ⟨λg hg=>h.1 g (List.mem_of_mem_eraseIdx hg),h.2⟩) h1 h2
 ·intro _ m e k f hf _ h;obtain⟨h1,h2,h3⟩:=h.1 f (iV hf);exact⟨h.1.launch (i:=f.1) (j:=f.2.1) (b:=f.2.2) h1 h2 h3,h.2⟩
 ·intro _ m e k f n hf _ hn h;obtain⟨h1,h2,h3⟩:=h.1 f (iV hf);refine⟨λg hg=> ?_,h.2⟩;rcases List.mem_or_eq_of_mem_set hg with hg|rfl
  ·exact h.1 g hg
  ·exact⟨h1,h2,dN (VL _ _ hn) h3⟩
 ·intro _ m e a b s z hs hz hb _ h;obtain⟨h1,h2⟩:=(h.2 a s z hs hz).rcv m.now (m.at' b).addr (aA o.txt) (rQ _);exact Dj (hin a m e (hlt hs) h) h1 h2
 ·intro _ m e a s hs h;exact⟨h.1.put a _,h.2.put a λz hz=>by cases hz⟩
 ·intro _ m e a s n hs h;exact⟨h.1.put a _,h.2.put a λz hz=>h.2 a s z hs hz⟩
 ·intro _ m e a s hs _ h;obtain⟨h1,h2⟩:=Rn s.addr s.bH m.now;exact Dj (hin a m e (hlt hs) h) h1 (by rw[h2];exact λf hf=>by cases hf)
theorem FK.step(h:FK m)(o:Op):FK (m.step o).1:=zK (MK o) (e:=[]) (λf hf=>(h.1 f hf).2.1) (n:=m.S.length+1) (aB _) h
theorem aaV{L:List Int}(hn:L.length<=6)(hU:∀a∈L,a_ a)(h0:∀a∈L,a≠0):FK (aM.new L):=by
 refine⟨(LK hn hU h0).2,λi s z hs hz=> ?_⟩;obtain⟨a,_,rfl⟩:=dW.1 (iV (show(L.map λa=>(⟨a,bD (St.new a [] 0).bg,some (St.new a [] 0),List.replicate 6 false,false,0⟩:eB))[i]?=some s from hs));cases hz;exact(Rn a [] 0).1
variable{p:aD}
def g8(x:Int):Int:=((x.toNat%256:Nat):Int)
theorem aaR(x:Int):0<=g8 x∧g8 x<=255:=by unfold g8;omega
theorem sV{x:Int}(h:0<=x∧x<=255):g8 x=x:=by unfold g8;omega
theorem Zc(xs:List Int):aA (strOfNums xs)=xs.map g8:=by
 simp only[aA,strOfNums_data,List.map_map];refine List.map_congr_left λx _=> ?_;simp only[Function.comp_apply];rw[UInt8.toNat_ofNat'];rfl
def w8(n:Int):Int:=n4 (g8 (n / 16777216)) (g8 (n / 65536%256)) (g8 (n / 256%256)) (g8 (n%256))
theorem Uf(n:Int):(b4 n).map g8=b4 (w8 n):=by
 unfold w8;rw[ade (aaR _) (aaR _) (aaR _)];rfl
theorem Cv{n:Int}(h:a_ n):w8 n=n:=by
 unfold a_ at h;unfold w8;rw[sV (by omega),sV (by omega),sV (by omega),sV (by omega)];exact Yv
def wP(p:aD):aD:={p with id:=w8 p.id,dest:=w8 p.dest,bA:=w8 p.bA,aH:=w8 p.aH,dQ:=w8 p.dQ,life:=w8 p.life}
def wL(L:List (Int×Int)):List (Int×Int):=L.map λx=>(w8 x.1,w8 x.2)
theorem Vh(p:aD):(wP p).nums=p.nums.map λx=>(x.1,w8 x.2):=by
 unfold aD.nums;show(if p.kind=1 then _ else if p.kind=2 then _ else if p.kind=9 then _ else _)=_;split
 ·rfl
 ·split
  ·rfl
  ·split<;>rfl
theorem WM{xs:List Int}(h:∀x∈xs,0<=x∧x<=255):xs.map g8=xs:=by
 conv=>rhs;rw[<-List.map_id xs]
 exact List.map_congr_left λx hx=>sV (h x hx)
theorem Ty(hg:p.eG=true):0<=p.cnt∧p.cnt<=255:=by
 obtain⟨_,_,_,h0,h1,hp,hk⟩:=jm hg;unfold aD.cnt;split
 ·rcases hk with h|h|h|h<;>omega
 ·split<;>omega
theorem aaZ(hg:p.eG=true)(L:List (Int×Int)):(yR p L).map g8=yR (wP p) (wL L):=by
 have hc:=Ty hg;obtain⟨_,t0,t1,_,_,_,hk⟩:=jm hg;have hf:0<=lN p∧lN p<=255:=by unfold lN;split<;>omega
 have h1:(p.head).map g8=(wP p).head:=by
  have e:p.head.map g8=[g8 p.ttl,g8 p.kind,g8 (lN p),g8 0,g8 p.cnt]:=rfl;rw[e,sV (by omega),sV (by rcases hk with h|h|h|h<;>omega),sV hf,sV (by omega),sV hc];rfl
 have h2:(p.lJ p.nums.length).map g8=(wP p).lJ (wP p).nums.length:=by
  unfold aD.lJ;rw[kN (aB _),kN (aB _),Vh,List.map_flatMap,List.flatMap_map]
  congr 1
  funext x
  exact Uf x.2
 have h3:(ic L L.length).map g8=ic (wL L) (wL L).length:=by
  unfold ic;rw[kN (aB _),kN (aB _),List.map_flatMap];unfold wL;rw[List.flatMap_map]
  congr 1
  funext x
  rw[List.map_append,Uf,Uf]
 have h4:(aA p.pay).map g8=aA (wP p).pay:=WM (rQ p.pay);unfold yR;rw[List.map_append,List.map_append,List.map_append,h1,h2,h3,h4]
def pkX(xs:List Int):aD:=jd (xs.getD 0 0) (xs.getD 1 0) (xs.getD 2 0) (xs.getD 4 0) (xs.drop 5)
def lsX(xs:List Int):List (Int×Int):=pF (xs.getD 1 0) (xs.getD 4 0) (xs.drop 5)
theorem Nf(me:Int)(A:List Rt)(d q h n e:Int):((fA me A d q h n e).1=A)∨(d≠me∧d≠0∧(fA me A d q h n e).2=0∧((∃x,aK A d=some x∧Va (newR d q h n e) x=true∧(fA me A d q h n e).1=gK A d (zD q h n e))∨(aK A d=none∧(fA me A d q h n e).1=um A (newR d q h n e)))):=by
 unfold fA;split
 ·exact .inl rfl
 ·rename_i hd;simp only[not_or]at hd;cases hl:aK A d with
  |some x=>
   dsimp only;split
   ·rename_i hg;exact .inr ⟨hd.1,hd.2,rfl,.inl ⟨x,rfl,hg,rfl⟩⟩
   ·exact .inl rfl
  |none=>
   dsimp only;split
   ·exact .inl rfl
   ·exact .inr ⟨hd.1,hd.2,rfl,.inr ⟨rfl,rfl⟩⟩
theorem BV(A:List Rt)(x:Rt)(d:Int)(hd:d≠x.dest):aK (um A x) d=aK A d:=by
 unfold um aK;have hx:(x.dest==d)=false:=by simpa using λe=>hd e.symm
 conv=>rhs;rw[<-List.take_append_drop (pos A x.dest) A]
 rw[List.find?_append,List.find?_append,List.find?_cons,hx]
abbrev KC:=List (Bool×Int×Int)
theorem Vi{x k:Int}(f:Int->Option Int)(v:Option Int)(h:x≠k):lX f k v x=f x:=ay h
abbrev NwT:=(Int->Option Int)×KC
theorem LF:∀(A:List Rt) (t:NwT),∀r∈(A.foldl mP t).2,r∈t.2∨∃y∈A,r=(false,y.dest,y.seq)
 | [],_,_,h=> .inl h
 |y::A,t,r,h=>by
  rw[gZ]at h;rcases LF A _ r h with h1|⟨z,hz,e⟩
  ·unfold mP at h1;split at h1
   ·rcases fu.1 h1 with h1|h1
    ·exact .inl h1
    ·exact .inr ⟨y,jT,fM.1 h1⟩
   ·exact .inl h1
  ·exact .inr ⟨z,lU _ hz,e⟩
theorem WS(L M:KC)(n:Nat):∃M':KC,(∀r∈M',r∈M)∧jl (bD L++(bD M).take n)=(L++M').map norm:=by
 by_cases h:n<13 * M.length
 ·refine⟨M.take (n / 13),λr hr=>List.mem_of_mem_take hr,?_⟩;have h1:=ZU (L++M) (13 * L.length+n) (by rw[bU];omega);have h2:(13 * L.length+n)/ 13=L.length+n / 13:=by omega
  have e1:(bD (L++M)).take (13 * L.length+n)=bD L++(bD M).take n:=by
   rw[kL,<-iE L,List.take_length_add_append]
  have e2:(L++M).take (L.length+n / 13)=L++M.take (n / 13):=List.take_length_add_append _;rw[e1,h2,e2]at h1;exact h1
 ·refine⟨M,λr hr=>hr,?_⟩;rw[kN (by rw[iE];omega),<-kL];exact ul _
theorem Cx{me now:Int}{c:uM}{A A':List Rt}(t:Ur me now c A A'):∀y∈A,∃z∈A',z.dest=y.dest:=by
 have hmap:∀(f:Rt->Rt),(∀y,(f y).dest=y.dest)->∀y∈A,∃z∈A.map f,z.dest=y.dest:=λf hf y hy=>⟨f y,dW.2 ⟨y,hy,rfl⟩,hf y⟩;have hmod:∀(f:Rt->Rt) (d:Int),(∀y,(f y).dest=y.dest)->∀y∈A,∃z∈gK A d f,z.dest=y.dest:=λf d hf=>hmap _ λy=>by
  split
  ·exact hf y
  ·rfl
 have Sn:∀(d q h n e:Int),∀y∈A,∃z∈(fA me A d q h n e).1,z.dest=y.dest:=by
  intro d q h n e;rcases Nf me A d q h n e with h1|⟨_,_,_,⟨x,_,_,h1⟩|⟨_,h1⟩⟩
  ·rw[h1];exact λy hy=>⟨y,hy,rfl⟩
  ·rw[h1];exact hmod _ d λy=>rfl
  ·rw[h1];exact λy hy=>⟨y,qP.2 (.inr hy),rfl⟩
 cases t with
 |Vk=>exact Sn _ _ _ _ _
 |Vj=>exact Sn _ _ _ _ _
 |use d e=>exact hmod _ d λy=>ol e y
 |bL d n=>exact hmod _ d λy=>mH n y
 |lose fr p L hc x hx=>exact hmod _ x.1 λy=>gB _ _ y
 |brk fq=>exact hmap _ λy=>gB _ _ y
 |grow d _=>exact hmod _ d λy=>rfl
open Go.RowKit Go.Maps
variable{N:Int}{e:List Ev}{A:List Int}{y:MG}{m:aM}{i k n:Nat}{s s':eB}{W W' w:World}
def YU(A:List Int)(N:Int)(k:Nat)(z:Cq):Prop:=z.1.S.map (·.addr)=A∧z.1.now<=N+(if k<=A.length then 60000 else 0)
theorem Es{S:List eB}(hs:S[i]?=some s)(e:s'.addr=s.addr):(S.set i s').map (·.addr)=S.map (·.addr):=by
 rw[List.map_set];refine List.ext_getElem? λj=> ?_;by_cases hj:j=i
 ·subst hj;have hl:=(fO.1 hs).1;rw[List.getElem?_set_self (by rw[gY];exact hl),l9,hs,e];rfl
 ·rw[List.getElem?_set_ne (λh=>hj h.symm)]
theorem o5{e':List Ev}(h:YU A N k (m,e)){i:Nat}{s s':eB}(hs:m.S[i]?=some s)(ha:s'.addr=s.addr):YU A N k (m.put i s',e'):=⟨(Es hs ha).trans h.1,h.2⟩
theorem wN{P:oP}{o:Ot}(h:YU A N k (m,e))(hs:m.S[i]?=some s)(ha:s'.addr=s.addr):Kn (λz _=>YU A N k z) i (m,e) P s' o:=by
 have hw:=(FT s' o).2.2.1;exact⟨λ_=>o5 h hs ha,λ_ _=>o5 h hs (hw.trans ha),λ_ _=>o5 h hs (hw.trans ha)⟩
theorem om{z:Cq}(h:YU A N (k+1) z):YU A N k z:=by
 refine⟨h.1,Int.le_trans h.2 ?_⟩;split<;>split<;>omega
theorem Qp(A:List Int)(N:Int)(o:Op):Dv (YU A N) (λk _ z _=>YU A N k z) o:=by
 refine⟨λk z h=>om h,λk i z h=>h,λk i=>⟨λm e f P h=> ?_,λm e P f s z h _ _ hs hz=> ?_⟩,λ_ m e a r h=>h,?_,?_,?_,?_,?_,?_,?_,?_,?_,?_,?_,?_⟩
 ·have e:=iQ m i f;exact⟨by rw[e.1];exact h.1,by show(m.cO i f).now<=_;rw[e.2];exact h.2⟩
 ·have e1:=iQ m i f;refine wN ⟨?_,?_⟩ hs rfl
  ·rw[e1.1];exact h.1
  ·show(m.cO i f).now<=_;rw[e1.2];exact h.2
 ·intro k0 m e a b ha hb _ h;unfold aM.link;split
  ·exact h
  ·have hsa:=bS ha;have hb':b<(m.put a {m.at' a with hrs:=(m.at' a).hrs.set b o.on}).S.length:=by rw[(fJ _ _ _).1,List.length_set];exact hb
   have hsb:=bS hb';exact o5 (o5 (e':=e) h hsa (by rw[dR hsa])) hsb (by rw[dR hsb])
 ·intro m e a b s z hs _ _ _ _ _ _ _ _ h;exact wN (om h) hs rfl
 ·intro m e h1 h2 _ h;have hl:m.S.length=A.length:=by rw[<-h.1,gY]
  refine⟨h.1,?_⟩;have h3:=h.2;rw[ay (by omega)]at h3;rw[aI (by omega)];show m.now+o.n<=_;dsimp only at h3;omega
 ·intro k0 m e i s z hs _ _ h;exact wN (om h) hs rfl
 ·intro k0 m e k f _ _ h;exact h
 ·intro k0 m e k f s z _ hs _ _ h;have h':=om h;exact wN (m:={m with aT:=m.aT.eraseIdx k}) ⟨h'.1,h'.2⟩ hs rfl
 ·intro k0 m e k f _ _ h;exact h
 ·intro k0 m e k f n _ _ _ h;exact h
 ·intro k0 m e a b s z hs _ _ _ h;exact wN (om h) hs rfl
 ·intro k0 m e a s hs h;exact o5 h hs rfl
 ·intro k0 m e a s n hs h;exact o5 h hs rfl
 ·intro k0 m e a s hs _ h;exact wN (om h) hs rfl
theorem VO(hfl:∀f∈m.aT,f.2.1<m.S.length)(o:Op):(m.step o).1.S.map (·.addr)=m.S.map (·.addr)∧(m.step o).1.now<=m.now+60000:=by
 have h:=zK (Qp (m.S.map (·.addr)) m.now o) (e:=[]) hfl (n:=m.S.length+1) (aB _) ⟨rfl,by rw[gY,ay (by omega)];show m.now<=m.now+0;omega⟩;refine⟨h.1,?_⟩;have:=h.2;split at this
 ·exact this
 ·dsimp only at this;omega
def jN(n:Nat):List Int:=(List.range n).map λ(i:Nat)=>10 * (i:Int)+10
theorem ow(n:Nat):(jN n).length=n:=by simp[jN]
theorem lC(h:k<n):(jN n)[k]?=some (10 * (k:Int)+10):=by
 unfold jN;rw[l9,List.getElem?_range h];rfl
theorem NF(n:Nat):jN (n+1)=jN n++ [10 * (n:Int)+10]:=by
 unfold jN;rw[List.range_succ,List.map_append];rfl
theorem ou(hn:n<=6):∀a∈jN n,a_ a∧a≠0:=by
 intro a ha;obtain⟨k,hk⟩:=List.getElem?_of_mem ha;have hl:=(fO.1 hk).1;rw[ow]at hl;rw[lC hl]at hk;cases hk;unfold a_;omega
structure SQ(w:World)(n i:Nat)(y:MG)(m:aM)(W:World):Prop where
 mm:MM y m W
 low:∀k,wE y m k->w.heap.size<=k
 bl:Below w.heap.size w W
 ok:ja (1+1000000 * (i:Int)) i m
 fk:FK m
 nw:m.now<=60000 * (i:Int)
 bJ:m.S.map (·.addr)=jN n
theorem SQ.later(h:SQ w n i y m W)(hb:Below W.heap.size W W'):SQ w n i y m W':=
 ⟨h.mm.later hb,h.low,h.bl.trans (hb.mono h.bl.size),h.ok,h.fk,h.nw,h.bJ⟩
theorem SQ.stepped{m':aM}(h:SQ w n i y m W){y':MG}(h1:MM y' m' W')(u:MU y m y' m' W W')(ok:ja (1+1000000 * ((i+1:Nat):Int)) (i+1) m')(fk:FK m')(nw:m'.now<=60000 * ((i+1:Nat):Int))(bJ:m'.S.map (·.addr)=jN n):SQ w n (i+1) y' m' W':=by
 have hz:=h.bl.size;refine⟨h1,λk hk=> ?_,h.bl.trans (u.fx.toBelow hz λj hj hf=>by have:=h.low j hf;omega),ok,fk,nw,bJ⟩;rcases u.sub k hk with e|e
 ·exact h.low k e
 ·omega
theorem ae0(h:SQ w n i y m W)(hi:i<=4096)(o:Op)(ht:o.fe=8->o.txt.size<=65536)(hfw:∀(i:Nat) s,m.S[i]?=some s->s.nd=none->Na (jl s.bH)):
  Calls Tryz.prog 11 #[.pointer (some ⟨y.G,0,none⟩),Ee o] W λe W'=>∃v L y',e=.returned v∧L.map (·.1)=(m.step o).2∧gL W.heap.size v L W'∧y'.G=y.G∧MU y m y' (m.step o).1 W W'∧SQ w n (i+1) y' (m.step o).1 W':=by
 have hnw:=h.nw;refine(ae2 h.mm h.ok (by omega) (by omega) (by omega) h.fk.1 o ht λk hk hkl hz=>Ud h.ok (by omega) hkl (by have hs:=bS hkl;rw[dR hs]at hz ⊢;exact hfw k _ hs hz)).mono ?_;rintro e W' ⟨⟨v,L,rfl,hL,hev,hmp⟩,hok⟩;obtain⟨s1,s2⟩:=VO (λf hf=>(h.fk.1 f hf).2.1) o;obtain⟨y',h1,u⟩:=hmp;exact⟨v,L,y',rfl,hL,hev,u.G,u,h.stepped h1 u (hok.up (by omega) (aB _)) (h.fk.step o) (by omega) (s1.trans h.bJ)⟩
theorem V8{W:World}{base e size:Nat}{v:Value}{n:Nat}{xs:List Value}(h:W.ownsRow base e size v n xs)(hn:0<n):∃g cap,v=.slice (some ⟨g,0,none⟩) n cap∧n<=cap:=by
 rcases h.2 with⟨_,h0⟩|⟨g,cap,cur,rfl,hb,_,hl,_⟩
 ·omega
 ·exact⟨g,cap,rfl,hl⟩
theorem F_{k:Nat}(h:k<6):IntKind.u32.wrap (wrap64 (wrap64 (10 * (k:Int))+10))=10 * (k:Int)+10:=by
 simp only[IntKind.wrap,IntKind.signed,IntKind.bits];unfold wrap64;simp;omega
theorem Pk(W:World)(t:Int):∀(j:Nat) (u:Value),[Value.int .u32 t][j]?=some u->(W.alloc (.cells #[.int .u32 t] 34)).cell? ((⟨W.heap.size,0,none⟩:Addr).add j)=some u:=by
 intro j u hj
 match j,hj with
 |0,hj=>
  rw[Addr.add_lit,Nat.zero_add];exact(ko W _ _ _).trans hj
 |j+1,hj=>simp at hj
theorem V9(n:Nat)(hn:0<n∧n<=6)(w:World):
  Calls Tryz.prog 10 #[.int .i64 n] w λe w'=>∃y:MG,e=.returned (.pointer (some ⟨y.G,0,none⟩))∧SQ w n 0 y (aM.new (jN n)) w':=by
 obtain⟨i2,ki,kz0,kz1,kz2⟩:=info_parts qQ;go_enter Tryz.func10,Tryz.ntmps10;go_wp2_with fail;go_loopw [3,4] (λlv i wr=>∃k:Nat,k<=n∧i=.int .i64 k∧wr.ownsRow w.heap.size 34 1 lv k ((jN k).map (Value.int .u32))∧Below w.heap.size w wr) (λ_ i _=>n - (intOf i).toNat)
 case atStart=>exact⟨0,dm _,rfl,⟨rfl,.inl ⟨rfl,rfl⟩⟩,aV _ _⟩
 case round=>
  obtain⟨k,hk,rfl,hr,hb⟩:=hrel;by_cases hlt:k<n
  ·have hki:(k:Int)<(n:Int):=by omega
   have hw:=F_ (k:=k) (by omega);have hwk:wrap64 ((k:Int)+1)=(k:Int)+1:=by unfold wrap64;omega
   have hbU:Below wr.heap.size wr (wr.alloc (.cells #[.int .u32 (10 * (k:Int)+10)] 34)):=bC;have hk1:k+1<=maxLen:=by unfold maxLen;omega
   have hk2:(k+1)* 4<=140737488355328:=by omega
   have hz:=hb.size;have hr0:=hr.alloc (.cells #[.int .u32 (10 * (k:Int)+10)] 34);go_wp2_with(at_builtin;refine wpList_append_own_at _ rfl _ _ 36 rfl w.heap.size 34 i2 (.int .u32 0) 1 4 Tryz.underlying36 ki kz0 kz1 kz2 rfl (by decide) u3 k ((jN k).map (Value.int .u32)) rfl hr0 ⟨wr.heap.size,0,none⟩ 1 1 [.int .u32 (10 * (k:Int)+10)] rfl rfl (Pk wr _) (by simp[Value.oneCell']) hk1 hk2 ?c3 ?_)
   case c3=>simp;omega
   intro v7 w7 ig gQ _ hv7;have Mw:=(hb.trans (hbU.mono hz)).grown gQ (by simp;omega) (λk e=>(hr0.lt k e).1);have FL:w7.ownsRow w.heap.size 34 1 v7 (k+1) ((jN (k+1)).map (Value.int .u32)):=by rw[NF,List.map_append];exact ig
   clear hr hb hr0 gQ hv7 hbU ig hw;go_wp2;go_roundw
   case rel=>exact⟨k+1,by omega,by go_num,FL,Mw⟩
   case measure=>simp[intOf];omega
  ·obtain rfl:k=n:=by omega
   obtain⟨g,cap,rfl,hcap⟩:=V8 hr hn.1;have hHN:=hide (adp g k cap (jN k) wr (ow k) hn hcap (λj hj=>by rw[List.getD_eq_getElem?_getD,lC hj];exact(ou hn.2 _ (iV (lC hj))).1) (hr.lt g rfl).2 (λj hj=>(hr.cellAt j (by omega)).trans (by rw[l9,lC hj,List.getD_eq_getElem?_getD,lC hj];rfl)) (λj hj=>by rw[List.getD_eq_getElem?_getD,lC hj];exact(ou hn.2 _ (iV (lC hj))).2) (λi j hij hj=>by rw[List.getD_eq_getElem?_getD,List.getD_eq_getElem?_getD,lC hj,lC (by omega)];show 10 * (i:Int)+10≠10 * (j:Int)+10;omega));have hnew:=LK (L:=jN k) (by rw[ow];exact hn.2) (λa ha=>(ou hn.2 a ha).1) (λa ha=>(ou hn.2 a ha).2);have OJ:=aaV (L:=jN k) (by rw[ow];exact hn.2) (λa ha=>(ou hn.2 a ha).1) (λa ha=>(ou hn.2 a ha).2);have hz:=hb.size;have hfin:Hid (∀(y:MG) w',MM y (aM.new (jN k)) w'->Fx (λ_=>False) wr w'->(∀q,wE y (aM.new (jN k)) q->wr.heap.size<=q)->SQ w k 0 y (aM.new (jN k)) w'):=hide λy w' h1 h2 h3=>by
    refine⟨h1,λq hq=>dN hz (h3 q hq),hb.trans (h2.toBelow hz λ_ _ h=>absurd h id),hnew.1.up (by omega) (aB _),OJ,?_,?_⟩
    ·show(0:Int)<=_;omega
    ·show((jN k).map Jr).map (·.addr)=jN k;rw[List.map_map];exact List.map_id _
   clear hnew OJ hr hb hcap;go_wp2_with(go_at_call 27;refine hHN.out.mono ?_;rintro e w5 ⟨y,rfl,hm,hf,hge⟩;have hq:=hide (hfin.out y w5 hm hf hge);clear hm hf hge);go_ret;exact⟨y,rfl,hq.out⟩
theorem abS{c:Int}:∃n:Nat,2<=n∧n<=6∧2+p_ c 5=(n:Int)∧wrap64 (2+p_ c 5)=(n:Int):=by
 have:=Lm c 5 (by decide);refine⟨(2+p_ c 5).toNat,by omega,by omega,by omega,?_⟩;unfold wrap64;omega
variable{c:uM}{e:List Ev}{A B:List Rt}{J:Cq->oP->Prop}{y:MG}{m:aM}{i n:Nat}{P:oP}{L:KC}{s s':St}{st:eB}{W w:World}
def zy(A:List Rt)(L:KC):Prop:=∀r∈L,r.1=false->∃y∈A,y.dest=r.2.1
theorem zy.up(h:zy A L)(hs:∀y∈A,∃z∈B,z.dest=y.dest):zy B L:=by
 intro r hr e;obtain⟨y,hy,e1⟩:=h r hr e;obtain⟨z,hz,e2⟩:=hs y hy;exact⟨z,hz,e2.trans e1⟩
theorem zy.app{M:KC}(h:zy A L)(k:zy A M):zy A (L++M):=λr hr=>(fu.1 hr).elim (h r) (k r)
theorem zy.norm(h:zy A L):zy A (L.map norm):=by
 intro r hr e;obtain⟨x,hx,rfl⟩:=dW.1 hr;obtain⟨o,a,q⟩:=x;cases o
 ·exact h _ hx rfl
 ·cases e
theorem RB(a:Int):∀(L:KC) (f:Int->Option Int),(L.foldl stepM f a).isSome=true->(f a).isSome=true∨∃r∈L,r.1=false∧r.2.1=a
 | [],_,h=> .inl h
 |r::L,f,h=>by
  rw[gZ]at h;rcases RB a L _ h with h1|⟨x,hx,e⟩
  ·unfold stepM at h1;split at h1
   ·exact .inl h1
   ·rename_i h3;by_cases e:a=r.2.1
    ·exact .inr ⟨r,jT,by simpa using h3,e.symm⟩
    ·rw[Vi _ _ e]at h1;exact .inl h1
  ·exact .inr ⟨x,lU _ hx,e⟩
theorem zy.few(h:zy A L)(hl:A.length<=8):Na L:=by
 refine⟨A.map (·.dest),by rw[gY];omega,λa ha=> ?_⟩;rcases RB a L (λ_=>none) ha with h1|⟨r,hr,e1,e2⟩
 ·cases h1
 ·obtain⟨y,hy,e⟩:=h r hr e1;exact dW.2 ⟨y,hy,e.trans e2⟩
structure Ka(B:List Rt)(s:St):Prop where
 len:s.A.length<=8
 bg:zy s.A s.bg
 sub:∀y∈B,∃z∈s.A,z.dest=y.dest
theorem Ak(h:Ka B s):Ka B s.write:=by
 refine⟨h.len,?_,h.sub⟩;have hn:s.write.bg=s.bg++(bK s.seq s.own s.f s.A).2:=rfl;rw[hn];refine zy.app h.bg λr hr e=> ?_;rcases LF s.A (s.f,qL s.seq s.own) r hr with hr|⟨y,hy,rfl⟩
 ·have hr':r∈qL s.seq s.own:=hr;unfold qL at hr';split at hr'
  ·rw[fM]at hr';subst hr';cases e
  ·cases hr'
 ·exact⟨y,hy,rfl⟩
theorem Vu{me now:Int}{A':List Rt}(t:Ur me now c A A')(h:A.length<=8):A'.length<=8:=by
 have hmod:∀d f,(gK A d f).length<=8:=λd f=>by rw[jk];exact h
 have Sn:∀(d q hp n e:Int),(fA me A d q hp n e).1.length<=8:=by
  intro d q hp n e;unfold fA;split
  ·exact h
  ·split
   ·split
    ·exact hmod _ _
    ·exact h
   ·split
    ·exact h
    ·dsimp only;rw[nO];omega
 cases t with
 |Vk=>exact Sn _ _ _ _ _
 |Vj=>exact Sn _ _ _ _ _
 |use d e=>exact hmod d _
 |bL d n=>exact hmod d _
 |lose fr p L hc x hx=>exact hmod x.1 _
 |brk fq=>rw[gY];exact h
 |grow d _=>exact hmod d _
theorem ZQ(k:gF c n s s')(h:Ka B s):Ka B s':=by
 induction k with
 |nil=>exact h
 |snoc _ k ih=>
  have h:=ih h;cases k with
  |Ac e=>exact⟨by rw[e.A];exact h.len,by rw[e.A,e.bg];exact h.bg,by rw[e.A];exact h.sub⟩
  |tab t=>
   refine⟨Vu t h.len,zy.up h.bg (Cx t),λy hy=> ?_⟩;obtain⟨z,hz,e⟩:=h.sub y hy;obtain⟨u,hu,e2⟩:=Cx t z hz;exact⟨u,hu,e2.trans e⟩
  |aH _ _ _ _ _=>exact⟨h.len,h.bg,h.sub⟩
  |grw=>exact⟨h.len,h.bg,h.sub⟩
  |mx _ _ _ _=>exact⟨h.len,h.bg,h.sub⟩
  |wr=>exact Ak h
theorem Db(h:Ka B s):Ka B s.finish:=by
 have h1:=Ak h;unfold St.finish;split
 ·refine⟨h1.len,λr hr e=> ?_,h1.sub⟩;have hr':r∈s.write.cmp:=hr;rcases fu.1 hr' with hr'|hr'
  ·have e1:r=(true,0,s.write.own):=fM.1 hr';subst e1;cases e
  ·obtain⟨a,ha,rfl⟩:=dW.1 hr';obtain⟨y,hy,rfl⟩:=dW.1 ha;exact⟨y,hy,rfl⟩
 ·exact⟨h1.len,h1.bg,h1.sub⟩
theorem WR{now:Int}(k:gF c n (s.locked.begin now) s')(h:s.A.length<=8):Ka s.A s'.finish.freed:=by
 have h0:Ka s.A (s.locked.begin now):=by
  refine Ak (s:={s.locked with now:=now,A:=iF s.A now,bg:=[],aF:=[],aO:=[],aP:=[],bB:=false}) ⟨?_,λr hr=>(by cases hr),λy hy=>⟨sG now y,dW.2 ⟨y,hy,rfl⟩,mG now y⟩⟩;show(s.A.map (sG now)).length<=8;rw[gY];exact h
 have h1:=Db (ZQ k h0);exact⟨h1.len,h1.bg,h1.sub⟩
theorem ZR(me:Int)(xs:List Int)(now:Int):Ka [] (St.new me xs now)∧((St.new me xs now).bB=false->xs=[]):=by
 rw[St.uf];refine⟨Db ⟨?_,λr hr=>(by cases hr),λy hy=>(by cases hy)⟩,λhr=>Classical.byContradiction λhne=> ?_⟩
 ·have:=Ej me (cmpL (jl xs)) (cmpL (jl xs)).length;rw[List.take_length]at this;exact this
 ·have h1:(St.raw me xs now).finish.bB=true:=by
   unfold St.finish;split
   ·rfl
   ·show decide (xs≠ [])=true;simpa using hne
  rw[h1]at hr;cases hr
structure KS(s:eB):Prop where
 off:s.nd=none->Na (jl s.bH)
 on:∀z,s.nd=some z->z.A.length<=8∧(∃L,s.bH=bD L)∧zy z.A (jl s.bH)
theorem KS.few{s:eB}(h:KS s):Na (jl s.bH):=by
 cases hz:s.nd with
 |none=>exact h.off hz
 |some z=>exact(h.on z hz).2.2.few (h.on z hz).1
theorem Eu{s:eB}{z:St}(hz:s.nd=some z)(hl:z.A.length<=8)(hf:∃L,s.bH=bD L)(ho:zy z.A (jl s.bH)):KS s:=by
 refine⟨λh=> ?_,λu hu=> ?_⟩
 ·rw[hz]at h;cases h
 ·rw[hz]at hu;cases hu;exact⟨hl,hf,ho⟩
theorem RS{s:eB}(hz:s.nd=none)(h:Na (jl s.bH)):KS s:=⟨λ_=>h,λu hu=>by rw[hz]at hu;cases hu⟩
theorem abY{z:St}(h:Ka B z)(hF:Na (jl st.bH))(hJ:z.bB=false->(∃L,st.bH=bD L)∧zy B (jl st.bH)):KS (eB.write {st with nd:=some z} z.ot).1∧(z.ot.idle=true->KS {st with nd:=some z}):=by
 have hno:z.bB=false->KS {st with nd:=some z}:=λhr=>Eu (s:={st with nd:=some z}) rfl h.len (hJ hr).1 ((hJ hr).2.up h.sub);refine⟨?_,λhi=> ?_⟩
 ·by_cases h1:z.ot.bg≠ []∨z.ot.bB=true
  ·rcases Bool.eq_false_or_eq_true st.tears with ht|ht
   ·rw[eB.tC (s:={st with nd:=some z}) h1 ht];refine RS rfl ?_;show Na (jl (if z.bB then st.bH else st.bH++(bD z.bg).take st.whole.toNat));rcases Bool.eq_false_or_eq_true z.bB with hr|hr
    ·rw[hr,aI rfl];exact hF
    ·obtain⟨⟨L,hL⟩,hj⟩:=hJ hr;obtain⟨M,hM1,hM2⟩:=WS L z.bg st.whole.toNat;rw[hL,ul]at hj;rw[hr,ay (by decide),hL,hM2,List.map_append];exact zy.few ((hj.up h.sub).app (zy.norm λr hr'=>h.bg r (hM1 r hr'))) h.len
   ·rw[eB.j3 (s:={st with nd:=some z}) h1 ht];show KS {st with nd:=some z,bH:=(if z.bB then []else st.bH)++bD z.bg};rcases Bool.eq_false_or_eq_true z.bB with hr|hr
    ·rw[hr,aI rfl,List.nil_append];refine Eu (z:=z) rfl h.len ⟨_,rfl⟩ ?_;show zy z.A (jl (bD z.bg));rw[ul];exact h.bg.norm
    ·obtain⟨⟨L,hL⟩,hj⟩:=hJ hr;rw[hL,ul]at hj;rw[hr,ay (by decide),hL,<-kL];refine Eu (z:=z) rfl h.len ⟨_,rfl⟩ ?_;show zy z.A (jl (bD (L++z.bg)));rw[ul,List.map_append];exact(hj.up h.sub).app h.bg.norm
  ·simp only[not_or,Classical.not_not]at h1;have h2:z.ot.bB=false:=by simpa using h1.2
   rw[eB.qz (s:={st with nd:=some z}) h1.1 h2];exact hno h2
 ·rw[zi]at hi;simp only[jr,qi,Bool.not_eq_true']at hi;exact hno hi.1.2
def KM(m:aM):Prop:=∀(i:Nat) s,m.S[i]?=some s->KS s
theorem KM.put(h:KM m)(i:Nat){s:eB}(hs:KS s):KM (m.put i s):=by
 intro j u hj;rw[(fJ _ _ _).1]at hj;rcases bW hj with⟨_,rfl⟩|⟨_,hj⟩
 ·exact hs
 ·exact h j u hj
theorem KM.S{m':aM}(h:KM m)(e:m'.S=m.S):KM m':=λi s hs=>h i s (by rw[<-e];exact hs)
theorem RU{z:St}(hm:KM m)(h:Kn J i (m,e) P {st with nd:=some z} z.ot)(k:Ka B z)(hF:Na (jl st.bH))(hJ:z.bB=false->(∃L,st.bH=bD L)∧zy B (jl st.bH)):Kn (λz P=>J z P∧KM z.1) i (m,e) P {st with nd:=some z} z.ot:=by
 obtain⟨a,b⟩:=abY k hF hJ;exact⟨λx=>⟨h.idle x,hm.put i (b x)⟩,λx y=>⟨h.whole x y,hm.put i a⟩,λx y=>⟨h.abD x y,hm.put i a⟩⟩
theorem vJ{u:St}{now:Int}(hm:KM m)(hs:m.S[i]?=some st)(hu:st.nd=some u)(k:gF c n (u.locked.begin now) s')(h:Kn J i (m,e) P {st with nd:=some s'.finish.freed} s'.finish.freed.ot):Kn (λz P=>J z P∧KM z.1) i (m,e) P {st with nd:=some s'.finish.freed} s'.finish.freed.ot:=by
 have ks:=hm i st hs;exact RU hm h (WR k (ks.on u hu).1) ks.few λ_=>(ks.on u hu).2
theorem WQ(o:Op):Dv (λ_ z=>FK z.1∧KM z.1) (λ_ i z P=>Y2 i z P∧KM z.1) o:=by
 have F:=MK o;refine⟨λ_ _ h=>h,λk i z h=>⟨F.out k i z h.1,h.2⟩,λk i=>⟨λm e f P h=>⟨(F.did k i).send m e f P h.1,KM.S h.2 (iQ m i f).1⟩,λm e P f s z h h1 h2 hs hz=> ?_⟩,λk0 m e a r h=>⟨F.evn k0 m e a r h.1,h.2⟩,?_,?_,λm e a b c h=>⟨F.tim m e a b c h.1,h.2⟩,?_,λk0 m e k f hf ho h=>⟨F.land k0 m e k f hf ho h.1,h.2⟩,?_,λk0 m e k f hf ho h=>⟨F.twice k0 m e k f hf ho h.1,h.2⟩,λk0 m e k f n hf ho hn h=>⟨F.cut k0 m e k f n hf ho hn h.1,h.2⟩,?_,?_,?_,?_⟩
 ·have hw:=(F.did k i).brk m e P f s z h.1 h1 h2 hs hz;obtain⟨s',k1,k2⟩:=Fe z m.now f.1;rw[k2]at hw ⊢;exact vJ (KM.S h.2 (iQ m i f).1) hs hz k1 hw
 ·intro k0 m e a b ha hb ho h;refine⟨F.link k0 m e a b ha hb ho h.1,?_⟩;have hm:KM m:=h.2;show KM (m.link a b o.on);unfold aM.link;split
  ·exact hm
  ·have hk:∀(m:aM) (c:Nat) (L:List Bool),KM m->KM (m.put c {m.at' c with hrs:=L}):=by
    intro m c L hm;by_cases hc:c<m.S.length
    ·have hs:=bS hc;rw[dR hs];have k:=hm c _ hs;exact hm.put c ⟨k.off,k.on⟩
    ·intro j u hj;rw[(fJ _ _ _).1,List.set_eq_of_length_le (by omega)]at hj;exact hm j u hj
   exact hk _ b _ (hk m a _ hm)
 ·intro m e a b s z hs hz hb ho h1 h2 h3 h4 h5 h;have hw:=F.snd m e a b s z hs hz hb ho h1 h2 h3 h4 h5 h.1;obtain⟨n,s',k1,k2⟩:=DR z m.now (m.at' b).addr o.txt;rw[k2]at hw ⊢;exact vJ h.2 hs hz k1 hw
 ·intro k0 m e i s z hs hz ho h;have hw:=F.iW k0 m e i s z hs hz ho h.1;obtain⟨s',k1,k2⟩:=DI z m.now (h.1.2 i s z hs hz).K9;rw[k2]at hw ⊢;exact vJ h.2 hs hz k1 hw
 ·intro k0 m e k f s z hf hs hz ho h;have hw:=F.rcv k0 m e k f s z hf hs hz ho h.1;obtain⟨n,s',k1,k2⟩:=yZ z m.now (m.at' f.1).addr (aA f.2.2) λq hq=>((h.1.2 _ s z hs hz).K9 q hq).1;rw[k2]at hw ⊢;exact vJ (m:={m with aT:=m.aT.eraseIdx k}) h.2 hs hz k1 hw
 ·intro k0 m e a b s z hs hz hb ho h;have hw:=F.inj k0 m e a b s z hs hz hb ho h.1;obtain⟨n,s',k1,k2⟩:=yZ z m.now (m.at' b).addr (aA o.txt) λq hq=>((h.1.2 a s z hs hz).K9 q hq).1;rw[k2]at hw ⊢;exact vJ h.2 hs hz k1 hw
 ·intro k0 m e a s hs h;exact⟨F.stop k0 m e a s hs h.1,KM.put h.2 a (RS rfl (h.2 a s hs).few)⟩
 ·intro k0 m e a s n hs h;have k:=h.2 a s hs;exact⟨F.abE k0 m e a s n hs h.1,KM.put h.2 a ⟨k.off,k.on⟩⟩
 ·intro k0 m e a s hs hz h;obtain⟨k1,k2⟩:=ZR s.addr s.bH m.now;refine RU h.2 (F.IB k0 m e a s hs hz h.1) k1 (h.2 a s hs).few λhr=> ?_;rw[k2 hr,show jl []=[]from ul []];exact⟨⟨[],rfl⟩,λr hr=>(by cases hr)⟩
theorem KM.step(h:KM m)(hf:FK m)(o:Op):KM (m.step o).1:=(zK (WQ o) (e:=[]) (λf hf'=>(hf.1 f hf').2.1) (n:=m.S.length+1) (aB _) ⟨hf,h⟩).2
theorem ZP(L:List Int):KM (aM.new L):=by
 intro i s hs;obtain⟨a,_,rfl⟩:=dW.1 (iV (show(L.map λa=>(⟨a,bD (St.new a [] 0).bg,some (St.new a [] 0),List.replicate 6 false,false,0⟩:eB))[i]?=some s from hs));refine Eu (z:=St.new a [] 0) rfl (dm _) ⟨_,rfl⟩ ?_;show zy _ (jl (bD (St.new a [] 0).bg));rw[ul,show(St.new a [] 0).bg.map norm=[(true,0,1)]from rfl];intro r hr e;rw[fM]at hr;subst hr;cases e
structure SB(w:World)(n i:Nat)(y:MG)(m:aM)(W:World):Prop extends SQ w n i y m W where
 km:KM m
theorem SB.later{W':World}(h:SB w n i y m W)(hb:Below W.heap.size W W'):SB w n i y m W':=⟨h.toSQ.later hb,h.km⟩
theorem adj(h:SB w n i y m W)(hi:i<=4096)(o:Op)(ht:o.fe=8->o.txt.size<=65536):
  Calls Tryz.prog 11 #[.pointer (some ⟨y.G,0,none⟩),Ee o] W λe W'=>∃v L y',e=.returned v∧L.map (·.1)=(m.step o).2∧gL W.heap.size v L W'∧y'.G=y.G∧MU y m y' (m.step o).1 W W'∧SB w n (i+1) y' (m.step o).1 W':=by
 refine(ae0 h.toSQ hi o ht λi s hs _=>(h.km i s hs).few).mono ?_;rintro e W' ⟨v,L,y',a,b,c,d,f,g⟩;exact⟨v,L,y',a,b,c,d,f,g,h.km.step h.fk o⟩
variable{d da db hp n ttl:Int}{A:List Rt}{la lb:Option (Int×Int×Int)}{p:aD}
def Qk(y:Rt):Int×Int×Int:=(y.seq,y.hops,y.next)
def ZB(o:Option (Int×Int×Int)):Nat:=if o.isSome then 1 else 0
structure TK(da db:Int)(A:List Rt)(la lb:Option (Int×Int×Int)):Prop where
 ha:(aK A da).map Qk=la
 hb:(aK A db).map Qk=lb
 live:∀y∈A,y.valid=true∧3000<=y.exp
 len:A.length<=ZB la+ZB lb
theorem TK.swap(h:TK da db A la lb):TK db da A lb la:=⟨h.hb,h.ha,h.live,by have:=h.len;omega⟩
theorem TK.nil(da db:Int):TK da db [] none none:=⟨rfl,rfl,λ_ h=>(by cases h),dm _⟩
theorem TK.exp{now:Int}(h:TK da db A la lb)(hn:now<3000):iF A now=A:=by
 unfold iF;conv=>rhs;rw[<-List.map_id A]
 refine List.map_congr_left λy hy=> ?_;have:=(h.live y hy).2;unfold sG Ke;rw[ay (by simp;intro _;omega)];rfl
theorem qO{g:Rt->Rt}(hg:∀y,(g y).dest=y.dest)(d:Int):aK (A.map g) d=(aK A d).map g:=by
 unfold aK;rw[List.find?_map]
 congr 1
 refine congrFun (congrArg _ (funext λy=> ?_)) _;show((g y).dest==d)=_;rw[hg]
theorem TK.mod{g:Rt->Rt}(h:TK da db A la lb)(hg:∀y,(g y).dest=y.dest∧Qk (g y)=Qk y∧(g y).valid=y.valid∧y.exp<=(g y).exp):TK da db (gK A d g) la lb:=by
 have hl:∀e,(aK (gK A d g) e).map Qk=(aK A e).map Qk:=λe=>by
  unfold gK;rw[qO (λy=>by split;exact(hg y).1;rfl),Option.map_map]
  congr 1
  funext y
  show Qk (if y.dest=d then g y else y)=Qk y;split
  ·exact(hg y).2.1
  ·rfl
 refine⟨(hl da).trans h.ha,(hl db).trans h.hb,λy hy=> ?_,by rw[jk];exact h.len⟩;rcases vD hy with⟨x,hx,_,rfl⟩|⟨hx,_⟩
 ·obtain⟨_,_,h3,h4⟩:=hg x;have:=h.live x hx;exact⟨h3.trans this.1,by omega⟩
 ·exact h.live y hx
theorem TK.use(h:TK da db A la lb)(d e:Int):TK da db (gU A d e) la lb:=h.mod λy=>by
 unfold Dy;split
 ·exact⟨rfl,rfl,rfl,by show y.exp<=max y.exp e;omega⟩
 ·exact⟨rfl,rfl,rfl,gP _⟩
theorem TK.bL(h:TK da db A la lb)(d n:Int):TK da db (kM A d n) la lb:=h.mod λy=>by
 unfold A8;split
 ·exact⟨rfl,rfl,rfl,gP _⟩
 ·exact⟨rfl,rfl,rfl,gP _⟩
theorem TK.upd{me q e:Int}(h:TK da db A la lb)(hne:da≠db)(hm:da≠me)(h0:da≠0)(ho:∀x,la=some x->x.1<q)(he:3000<=e):(fA me A da q hp n e).2=0∧TK da db (fA me A da q hp n e).1 (some (q,hp,n)) lb:=by
 unfold fA;rw[ay (by omega)];cases hl:aK A da with
 |none=>
  have hla:la=none:=by rw[<-h.ha,hl];rfl
  subst hla;have hlen:A.length<=ZB lb:=by have:=h.len;unfold ZB at this ⊢;simpa using this
  have hlb:ZB lb<=1:=by unfold ZB;split<;>omega
  dsimp only;rw[ay (by omega)];refine⟨rfl,?_,?_,λy hy=> ?_,?_⟩
  ·rw[xY A (newR da q hp n e) hl];rfl
  ·rw[BV A _ db (by show db≠da;omega)];exact h.hb
  ·rcases qP.1 hy with rfl|hy
   ·exact⟨rfl,he⟩
   ·exact h.live y hy
  ·dsimp only;rw[nO];show A.length+1<=1+ZB lb;omega
 |some x=>
  obtain⟨hx1,hx2⟩:=dA hl;have hla:la=some (Qk x):=by rw[<-h.ha,hl];rfl
  have hq:x.seq<q:=ho _ hla;have hv:=(h.live x hx1).1;have hg:Va (newR da q hp n e) x=true:=by
   unfold Va rk;rw[hv,aI rfl,aI rfl,ay (by show ¬q=x.seq;omega)];simp;omega
  dsimp only;rw[hg,aI rfl];subst hla;have hf:∀y,(zD q hp n e y).dest=y.dest:=λ_=>rfl;refine⟨rfl,?_,?_,λy hy=> ?_,by dsimp only;rw[jk];exact h.len⟩
  ·unfold gK;rw[qO (λy=>by split<;>rfl),hl];show some (Qk (if x.dest=da then _ else x))=_;rw[aI hx2];rfl
  ·have hb:=h.hb;unfold gK;rw[qO (λy=>by split<;>rfl)];cases hl2:aK A db with
   |none=>rw[hl2]at hb;exact hb
   |some y=>
    rw[hl2]at hb;have:=(dA hl2).2;show some (Qk (if y.dest=da then _ else y))=_;rw[ay (by omega)];exact hb
  ·rcases vD hy with⟨x,hx,_,rfl⟩|⟨hx,_⟩
   ·exact⟨rfl,he⟩
   ·exact h.live y hx
theorem TK.find{now:Int}{s:Int}(h:TK da db A (some (s,hp,n)) lb)(hn:now<3000):(bE A da now).2=true∧(bE A da now).1.seq=s∧(bE A da now).1.hops=hp∧(bE A da now).1.next=n:=by
 have ha:=h.ha;cases hl:aK A da with
 |none=>rw[hl]at ha;cases ha
 |some x=>
  rw[hl]at ha;have hx:=h.live x (dA hl).1;have e:=Option.some.inj ha;unfold bE;rw[hl];dsimp only;rw[hx.1,aI (by simp;omega)];exact⟨rfl,congrArg (·.1) e,congrArg (·.2.1) e,congrArg (·.2.2) e⟩
theorem TK.off(h:TK da db A none lb):aK A da=none:=by
 have ha:=h.ha;cases hl:aK A da with
 |none=>rfl
 |some x=>rw[hl]at ha;cases ha
theorem TK.miss(h:TK da db A none lb)(now:Int):(bE A da now).2=false:=by
 unfold bE;rw[h.off]
def iP(p:aD):ByteArray:=strOfNums (pR p [])
structure PU(p:aD):Prop where
 id:a_ p.id
 dest:a_ p.dest
 bA:a_ p.bA
 aH:a_ p.aH
 dQ:a_ p.dQ
 life:a_ p.life
theorem XE(hg:p.eG=true)(hu:PU p)(hl:p.ln=0)(ha:p.la=none)(hc:p.lc=0):Ey (aA (iP p))=true∧pkX (aA (iP p))=p:=by
 have hw:wP p=p:=by
  unfold wP;rw[Cv hu.id,Cv hu.dest,Cv hu.bA,Cv hu.aH,Cv hu.dQ,Cv hu.life]
 obtain⟨d1,d2,_⟩:=XR p hg [] hl.symm;have e:aA (iP p)=p.ttl::p.kind::lN p::0::p.cnt::qD p []:=by
  unfold iP;rw[Zc];unfold pR;rw[aI hg,aaZ hg,hw];exact O9 p []
 have hpk:jd p.ttl p.kind (lN p) p.cnt (qD p [])=p:=by
  rw[d2];obtain⟨ttl,kind,hops,unk,id,dest,bA,aH,dQ,life,la,ln,lc,pay⟩:=p;dsimp only at ha hc ⊢;rw[ha,hc]
 rw[e];refine⟨?_,hpk⟩;rw[wZ (by unfold lN;split<;>omega) d1,hpk];exact hg
theorem ED(hg:p.eG=true)(hu:PU p)(hl:p.ln=0)(ha:p.la=none)(hc:p.lc=0)(s:St){fr:Int}(h0:fr≠0)(hm:fr≠s.me):∃L,s.hear fr (aA (iP p))=s.fD fr p L:=by
 obtain⟨h1,h2⟩:=XE hg hu hl ha hc;refine⟨lsX (aA (iP p)),?_⟩;unfold St.hear;rw[ay (by rw[h1];simp[h0,hm])];show s.fD fr (pkX _) (lsX _)=_;rw[h2]
def nL(ttl d w da db:Int):aD:=⟨ttl,1,d,true,w,db,0,da,w+1,0,none,0,0,⟨#[]⟩⟩
def nu(ttl h da db:Int):aD:=⟨ttl,2,h,false,0,db,1,da,0,6000,none,0,0,⟨#[]⟩⟩
def sI(ttl da db:Int)(t:ByteArray):aD:=⟨ttl,9,0,false,1,db,0,da,0,0,none,0,0,t⟩
theorem abN{w:Int}(h1:1<=ttl∧ttl<=8)(h2:0<=d∧d<=8)(h3:0<=w∧w<=8)(ha:a_ da)(hb:a_ db):(nL ttl d w da db).eG=true∧PU (nL ttl d w da db):=by
 refine⟨?_,?_⟩
 ·unfold nL aD.eG aD.cnt oL aD.l5 aD.kY;simp;exact⟨by omega,rfl⟩
 ·unfold nL;constructor<;>(dsimp only;first|assumption|(unfold a_;omega))
theorem abO{h:Int}(h1:1<=ttl∧ttl<=8)(h2:0<=h∧h<=8)(ha:a_ da)(hb:a_ db):(nu ttl h da db).eG=true∧PU (nu ttl h da db):=by
 refine⟨?_,?_⟩
 ·unfold nu aD.eG aD.cnt oL aD.l5 aD.kY;simp;exact⟨by omega,rfl⟩
 ·unfold nu;constructor<;>(dsimp only;first|assumption|(unfold a_;omega))
theorem ac8{t:ByteArray}(h1:1<=ttl∧ttl<=8)(ht:t.size<=16)(ha:a_ da)(hb:a_ db):(sI ttl da db t).eG=true∧PU (sI ttl da db t):=by
 refine⟨?_,?_⟩
 ·unfold sI aD.eG aD.cnt oL aD.l5 aD.kY;simp;exact⟨by omega,rfl⟩
 ·unfold sI;constructor<;>(dsimp only;first|assumption|(unfold a_;omega))
end Go.Proofs.YtakaadcpaeiccabGreat
