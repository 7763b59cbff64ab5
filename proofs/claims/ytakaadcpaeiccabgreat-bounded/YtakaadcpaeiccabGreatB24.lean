import Derived.Test.YtakaadcpaeiccabGreatB23
import Derived.ChangeMaps5
import Derived.Lib.SmallJoins
set_option maxHeartbeats 8000000
set_option maxRecDepth 100000
namespace Go.Proofs.YtakaadcpaeiccabGreat
variable{b:ByteArray}{m:aP}{φ:aP->Int×ByteArray->aP×List Ev}{i j:Nat}{o:Op}
abbrev nU:=List (Int×ByteArray)
abbrev AY:=aP×List Ev
structure I4(J:AY->nU->Prop)(i:Nat)(z:AY)(P:nU)(s:eU)(o:Ot):Prop where
 idle:o.idle=true->J (z.1.put i s,z.2) P
 whole:o.idle=false->(s.write o).2=true->J (z.1.put i (s.write o).1,z.2++ [⟨i,0,o⟩]) (o.aI++P)
 Z6:o.idle=false->(s.write o).2=false->J (z.1.put i (s.write o).1,z.2++ [⟨i,0,Ot.none⟩]) P
structure Zw(J:AY->nU->Prop)(i:Nat):Prop where
 send:∀m e f P,J (m,e) (f::P)->J (m.bU i f,e) P
 brk:∀m e P f s z,J (m,e) (f::P)->f.1≠0->m.heard i f.1=[]->(m.bU i f).S[i]?=some s->s.nd=some z->I4 J i (m.bU i f,e) P {s with nd:=some (z.brk m.now f.1)} (z.brk m.now f.1).ot
theorem Ga(φ:aP->Int×ByteArray->aP×List Ev)(a:List Ev):∀(L:nU) (m:aP) (b:List Ev),L.foldl (sG φ) (m,a++b)=((L.foldl (sG φ) (m,b)).1,a++(L.foldl (sG φ) (m,b)).2)
 | [],_,_=>rfl
 |f::L,m,b=>by
  rw[iH,iH];unfold sG;dsimp only;rw[List.append_assoc];exact Ga φ a L _ _
theorem Ws{J:AY->nU->Prop}(hφ:∀m e f P,J (m,e) (f::P)->J ((φ m f).1,e++(φ m f).2) P):∀(L:nU) (z:AY) (P:nU),J z (L++P)->J (L.foldl (sG φ) z) P
 | [],_,_,h=>h
 |f::L,z,P,h=>by
  rw[iH];exact Ws hφ L _ P (hφ z.1 z.2 f (L++P) h)
theorem TU(m:aP)(i:Nat)(s s':eU):(m.put i s).put i s'=m.put i s':=by
 unfold aP.put;dsimp only;rw[List.set_set]
theorem Y5(hi:i<m.S.length)(s:eU):(m.put i s).at' i=s:=gL (by rw[(gG _ _ _).1,List.getElem?_set_self hi])
theorem F_{J:AY->nU->Prop}(hφ:∀m e f P,J (m,e) (f::P)->J ((φ m f).1,e++(φ m f).2) P){m:aP}{e:List Ev}{P:nU}{s:eU}{o:Ot}(hi:i<m.S.length)(h:I4 J i (m,e) P s o):J (((m.put i s).jc φ i o).1,e++((m.put i s).jc φ i o).2) P:=by
 unfold aP.jc;rw[Y5 hi,TU];split
 ·rename_i hd;rw[gX];exact h.idle hd
 ·rename_i hd;have hd':o.idle=false:=by simpa using hd
  split
  ·rename_i hw;have h1:=Ws hφ o.aI _ P (h.whole hd' hw);rw[Ga]at h1;exact h1
  ·rename_i hw;exact h.Z6 hd' (by simpa using hw)
theorem Vl{J:AY->nU->Prop}(hJ:Zw J i){m:aP}{e:List Ev}{P:nU}{s:eU}{o:Ot}(hi:i<m.S.length)(h:I4 J i (m,e) P s o):J (((m.put i s).did i o).1,e++((m.put i s).did i o).2) P:=by
 refine F_ (φ:=aP.iL i) (λm e f P hj=> ?_) hi h;have h1:=hJ.send m e f P hj;unfold aP.iL;split
 ·rw[gX];exact h1
 ·rename_i hne;simp only[not_or,Classical.not_not]at hne;split
  ·rw[gX];exact h1
  ·rename_i z hz;have hi2:i<(m.bU i f).S.length:=by
    refine Nat.lt_of_not_le λhle=> ?_;unfold aP.at' at hz;rw[List.getD_eq_getElem?_getD,List.getElem?_eq_none hle]at hz;cases hz
   have hs:=bW hi2;have hz':((m.bU i f).S[i]).nd=some z:=by rw[gL hs]at hz;exact hz
   have h2:=hJ.brk m e P f _ z hj hne.2 hne.1 hs hz';rw[gL hs];refine F_ (φ:=aP.mX i) (λm e f P hj=> ?_) hi2 h2;rw[show(aP.mX i m f).2=[]from rfl,gX];exact hJ.send m e f P hj
structure BQ(I:Nat->AY->Prop)(J:Nat->Nat->AY->nU->Prop)(o:Op):Prop where
 mono:∀k z,I (k+1) z->I k z
 out:∀k i z,J k i z []->I k z
 did:∀k i,Zw (J k i) i
 evn:∀k0 m e a r,I k0 (m,e)->I k0 (m,e++ [⟨a,r,Ot.none⟩])
 link:∀k0 m e (a b:Nat),a<m.S.length->b<m.S.length->o.dU=1->I k0 (m,e)->I k0 (m.link a b o.on,e)
 snd:∀m e (a b:Nat) s z,m.S[a]?=some s->s.nd=some z->b<m.S.length->o.dU=2->o.a=a->o.b=b->o.txt.size<=16->(m.at' b).addr≠z.me->(m.at' b).addr≠0->I 1 (m,e)->I4 (J 0 a) a (m,e) [] {s with nd:=some (z.snd m.now (m.at' b).addr o.txt)} (z.snd m.now (m.at' b).addr o.txt).ot
 tim:∀m e,1<=o.n->o.n<=60000->o.dU=3->I (m.S.length+1) (m,e)->I m.S.length ({m with now:=m.now+o.n},e)
 kJ:∀k0 m e (i:Nat) s z,m.S[i]?=some s->s.nd=some z->o.dU=3->I (k0+1) (m,e)->I4 (J k0 i) i (m,e) [] {s with nd:=some (z.kJ m.now)} (z.kJ m.now).ot
 land:∀k0 m e (k:Nat) f,m.bH[k]?=some f->o.dU=4∨o.dU=5->I k0 (m,e)->I k0 ({m with bH:=m.bH.eraseIdx k},e)
 rcv:∀k0 m e (k:Nat) f s z,m.bH[k]?=some f->m.S[f.2.1]?=some s->s.nd=some z->o.dU=4->I (k0+1) (m,e)->I4 (J k0 f.2.1) f.2.1 ({m with bH:=m.bH.eraseIdx k},e) [] {s with nd:=some (z.rcv m.now (m.at' f.1).addr (aV f.2.2))} (z.rcv m.now (m.at' f.1).addr (aV f.2.2)).ot
 twice:∀k0 m e (k:Nat) f,m.bH[k]?=some f->o.dU=6->I k0 (m,e)->I k0 (m.launch f,e)
 cut:∀k0 m e (k:Nat) f n,m.bH[k]?=some f->o.dU≠1->n<=f.2.2.size->I k0 (m,e)->I k0 ({m with bH:=m.bH.set k (f.1,f.2.1,f.2.2.extract 0 n)},e)
 inj:∀k0 m e (a b:Nat) s z,m.S[a]?=some s->s.nd=some z->b<m.S.length->o.dU=8->I (k0+1) (m,e)->I4 (J k0 a) a (m,e) [] {s with nd:=some (z.rcv m.now (m.at' b).addr (aV o.txt))} (z.rcv m.now (m.at' b).addr (aV o.txt)).ot
 stop:∀k0 m e (a:Nat) s,m.S[a]?=some s->I k0 (m,e)->I k0 (m.put a s.stop,e)
 Z8:∀k0 m e (a:Nat) s n,m.S[a]?=some s->I k0 (m,e)->I k0 (m.put a {s with tears:=true,whole:=max 0 n},e)
 Gi:∀k0 m e (a:Nat) s,m.S[a]?=some s->s.nd=none->I (k0+1) (m,e)->I4 (J k0 a) a (m,e) [] {s with nd:=some (St.new s.addr s.bD m.now)} (St.new s.addr s.bD m.now).ot
theorem uN{I:Nat->AY->Prop}{J:Nat->Nat->AY->nU->Prop}(h:BQ I J o){k0:Nat}{m:aP}{e:List Ev}{i:Nat}{s:eU}{z:St}(hs:m.S[i]?=some s)(hw:I4 (J k0 i) i (m,e) [] {s with nd:=some z} z.ot):I k0 ((m.act i z).1,e++(m.act i z).2):=by
 rw[zN hs];exact h.out k0 i _ (Vl (h.did k0 i) (gm.1 hs).1 hw)
theorem En{I:Nat->AY->Prop}{J:Nat->Nat->AY->nU->Prop}(h:BQ I J o)(ho:o.dU=3)(e:List Ev):∀(l:List Nat) (z:AY),I l.length (z.1,e++z.2)->I 0 ((l.foldl aP.qK z).1,e++(l.foldl aP.qK z).2)
 | [],_,hz=>hz
 |i::l,z,hz=>by
  rw[iH];refine En h ho e l _ ?_;rw[dR]at hz;unfold aP.qK;split
  ·exact h.mono _ _ hz
  ·rename_i s hs;have hi2:i<z.1.S.length:=by
    refine Nat.lt_of_not_le λhle=> ?_;unfold aP.at' at hs;rw[List.getD_eq_getElem?_getD,List.getElem?_eq_none hle]at hs;cases hs
   have hu:=bW hi2;have hs':(z.1.S[i]).nd=some s:=by rw[gL hu]at hs;exact hs
   have h1:=uN h hu (h.kJ _ z.1 (e++z.2) i _ s hu hs' ho hz);dsimp only;rw[<-List.append_assoc];exact h1
theorem BD(h:(m.at' i).nd=none):m.hear i j b=(m,[]):=by
 unfold aP.hear;rw[h]
theorem Bz{s:St}(h:(m.at' i).nd=some s):m.hear i j b=m.act i (s.rcv m.now (m.at' j).addr (aV b)):=by
 unfold aP.hear;rw[h]
theorem x_{I:Nat->AY->Prop}{J:Nat->Nat->AY->nU->Prop}(h:BQ I J o){m:aP}{e:List Ev}(hfl:∀f∈m.bH,f.2.1<m.S.length){n:Nat}(hn:m.S.length+1<=n)(hIn:I n (m,e)):I 0 ((m.step o).1,e++(m.step o).2):=by
 have QA:∀(k j:Nat) (z:AY),I (k+j) z->I k z:=by
  intro k j
  induction j with
  |zero=>exact λz h=>h
  |succ j ih=>exact λz hz=>ih z (h.mono _ _ hz)
 have hI:I 0 (m,e):=QA 0 n _ (by rw[Nat.zero_add];exact hIn);have hI1:I (0+1) (m,e):=QA 1 (n - 1) _ (by rw[show 1+(n - 1)=n by omega];exact hIn);have hIS:I (m.S.length+1) (m,e):=QA _ (n - (m.S.length+1)) _ (by rw[show m.S.length+1+(n - (m.S.length+1))=n by omega];exact hIn);unfold aP.step;split
 ·exact h.evn _ _ _ _ _ hI
 rename_i hmay;have jT:m.may o=true:=by simpa using hmay
 unfold aP.may at jT;split
 ·rename_i h1;rw[aO h1,jr]at jT;obtain⟨i,hi,hil⟩:=jU jT.1;obtain⟨j,hj,hjl⟩:=jU jT.2;rw[hi,hj,iO,iO,gX];exact h.link _ m e i j hil hjl h1 hI
 rename_i h1;rw[aD h1]at jT;split
 ·rename_i h2;rw[aO (.inl h2),jr]at jT;obtain⟨i,hi,hil⟩:=kK jT.1;obtain⟨j,hj,hjl⟩:=jU jT.2;rw[hi,hj,iO,iO];have hs:=bW hil;unfold aP.send;rw[gL hs];split
  ·rw[gX];exact hI
  ·rename_i z hz;split
   ·exact h.evn _ _ _ _ _ hI
   ·rename_i hsz;split
    ·exact h.evn _ _ _ _ _ hI
    ·rename_i hd;simp only[not_or]at hd;exact uN h hs (h.snd m e i j _ z hs hz hjl h2 hi hj (by omega) hd.1 hd.2 hI1)
 rename_i h2;split
 ·rename_i h3;unfold aP.tick;split
  ·rw[gX];exact hI
  ·rename_i hn;simp only[not_or]at hn;refine En h h3 e _ _ ?_;rw[gX,List.length_range];exact h.tim m e (by omega) (by omega) h3 hIS
 rename_i h3;split
 ·rename_i h4;unfold aP.flight;split
  ·rw[gX];exact hI
  ·rename_i hn;simp only[not_or]at hn;dsimp only;have hk:o.a.toNat%m.bH.length<m.bH.length:=Nat.mod_lt _ (by omega);generalize o.a.toNat%m.bH.length=k at hk;obtain⟨f,hf⟩:∃f,m.bH[k]?=some f:=⟨_,bW hk⟩;have hgd:m.bH.getD k (0,0,⟨#[]⟩)=f:=by rw[List.getD_eq_getElem?_getD,hf];rfl
   rw[hgd];have acF:=hfl f (jY hf);split
   ·rename_i h5;have hs:=bW acF;have ha:({m with bH:=m.bH.eraseIdx k}:aP).at' f.2.1=m.S[f.2.1]:=gL (m:={m with bH:=m.bH.eraseIdx k}) hs;cases hz:(m.S[f.2.1]).nd with
    |none=>
     rw[BD (by rw[ha];exact hz),gX];exact h.land _ m e k f hf (.inl h5) hI
    |some z=>
     rw[Bz (by rw[ha];exact hz)];exact uN (m:={m with bH:=m.bH.eraseIdx k}) h hs (h.rcv _ m e k f _ z hf hs hz h5 hI1)
   ·split
    ·rename_i h5 h6;rw[gX];exact h.land _ m e k f hf (.inr h6) hI
    ·split
     ·rename_i h6;rw[gX];exact h.twice _ m e k f hf h6 hI
     ·rw[gX];exact h.cut _ m e k f _ hf h1 (Nat.sub_le _ _) hI
 rename_i h4;split
 ·rename_i h8;rw[aO (.inr h8),jr]at jT;obtain⟨i,hi,hil⟩:=kK jT.1;obtain⟨j,hj,hjl⟩:=jU jT.2;rw[hi,hj,iO,iO];have hs:=bW hil;cases hz:(m.S[i]).nd with
  |none=>
   rw[BD (by rw[gL hs];exact hz),gX];exact hI
  |some z=>
   rw[Bz (by rw[gL hs];exact hz)];exact uN h hs (h.inj _ m e i j _ z hs hz hjl h8 hI1)
 rename_i h8;rw[aD (by simp[h2,h8])]at jT;split
 ·rename_i h9;rw[aO (.inl h9)]at jT;obtain⟨i,hi,hil⟩:=kK jT;rw[hi,iO,gX,gL (bW hil)];exact h.stop _ m e i _ (bW hil) hI
 rename_i h9;split
 ·rename_i h10;rw[aO (.inr h10)]at jT;obtain⟨i,hi,hil⟩:=kK jT;rw[hi,iO,gX,gL (bW hil)];exact h.Z8 _ m e i _ _ (bW hil) hI
 rename_i h10;split
 ·rename_i h11;rw[aD (by simp[h9,h10]),aO h11,jr]at jT;obtain⟨i,hi,hil⟩:=jU jT.1;rw[hi,iO];have hs:=bW hil;unfold aP.Gi;rw[gL hs];have hz:(m.S[i]).nd=none:=by
   have h2:=jT.2;unfold aP.runs at h2;rw[hi,iO,gL hs]at h2;have h3:m.has (i:Int)=true:=by
    unfold aP.has;simp;omega
   rw[h3]at h2;simpa using h2
  exact uN h hs (h.Gi _ m e i _ hs hz hI1)
 ·rw[gX];exact hI
variable{c:sP}{A:List Rt}{m:aP}{n:Nat}{f:Rt->Rt}{s s':St}
def DK(me:Int)(A:List Rt):Prop:=∀y∈A,y.dest≠me∧(y.valid=false->y.bG=[])
theorem BZ{me:Int}(h:DK me A)(hf:∀y,(f y).dest=y.dest∧((y.valid=false->y.bG=[])->(f y).valid=false->(f y).bG=[])):DK me (A.map f):=by
 intro y hy;obtain⟨z,hz,rfl⟩:=dO.1 hy;obtain⟨h1,h2⟩:=h z hz;obtain⟨e1,e2⟩:=hf z;exact⟨by rw[e1];exact h1,e2 h2⟩
theorem sZ{me:Int}{d:Int}(h:DK me A)(hf:∀y,(f y).dest=y.dest∧((y.valid=false->y.bG=[])->(f y).valid=false->(f y).bG=[])):DK me (gD A d f):=by
 refine BZ h λy=> ?_;split
 ·exact hf y
 ·exact⟨rfl,λh=>h⟩
theorem JD{me:Int}(h:DK me A)(d q hp n e:Int):DK me (ig me A d q hp n e).1:=by
 unfold ig;split
 ·exact h
 ·rename_i hd;simp only[not_or]at hd;split
  ·split
   ·exact sZ h λy=>⟨rfl,λ_ h=>by cases h⟩
   ·exact h
  ·split
   ·exact h
   ·intro y hy;unfold vG at hy;rcases fA.1 hy with hy|hy
    ·exact h y (List.mem_of_mem_take hy)
    ·rcases eF.1 hy with rfl|hy
     ·exact⟨hd.1,λh=>by cases h⟩
     ·exact h y (List.mem_of_mem_drop hy)
theorem Ba(fr q:Int)(y:Rt):(cO fr q y).dest=y.dest∧((y.valid=false->y.bG=[])->(cO fr q y).valid=false->(cO fr q y).bG=[]):=by
 refine⟨fG _ _ y,?_⟩;unfold cO;split
 ·exact λ_ _=>rfl
 ·exact λh=>h
theorem Te{me:Int}(h:DK me A)(now:Int):DK me (iM A now):=by
 refine BZ h λy=>⟨lN now y,?_⟩;unfold sF;split
 ·exact λ_ _=>rfl
 ·exact λh=>h
theorem Tc{me now:Int}{A':List Rt}(t:Rx me now c A A')(h:DK me A):DK me A':=by
 cases t with
 |SE=>exact JD h _ _ _ _ _
 |SC=>exact JD h _ _ _ _ _
 |use d e=>
  refine sZ h λy=>⟨nD e y,?_⟩;unfold Ej;split
  ·rename_i hv;exact λ_ h=>by
    dsimp only at h;rw[hv]at h;cases h
  ·exact λh=>h
 |bG d n=>
  refine sZ h λy=>⟨lQ n y,?_⟩;unfold AQ;split
  ·rename_i hv;exact λ_ h=>by
    dsimp only at h;rw[hv.1]at h;cases h
  ·exact λh=>h
 |lose fr p L hc x hx=>exact sZ h λy=>Ba fr x.2 y
 |brk eu=>exact BZ h λy=>Ba eu 0 y
 |grow d _=>exact sZ h λy=>⟨rfl,λh=>h⟩
theorem WS(k:Pr c s s')(h:DK s.me s.A):DK s'.me s'.A:=by
 cases k with
 |yK e=>rw[e.me,e.A];exact h
 |tab t=>exact Tc t h
 |aG _ _ _ _ _=>exact h
 |grw=>exact h
 |mx _ _ _ _=>exact h
 |wr=>exact h
theorem Td(k:fJ c n s s')(h:DK s.me s.A):DK s'.me s'.A:=by
 induction k with
 |nil=>exact h
 |snoc _ k ih=>exact WS k (ih h)
theorem tq{now:Int}(k:fJ c n (s.locked.begin now) s')(h:DK s.me s.A):DK s'.finish.freed.me s'.finish.freed.A:=by
 have h1:DK (s.locked.begin now).me (s.locked.begin now).A:=Te h now;have h2:=Td k h1;have e:=aW s';show DK s'.finish.me s'.finish.A;rw[e.me,e.A];exact h2
structure NK(z:St):Prop where
 JF:lq z
 tb:DK z.me z.A
theorem Dq(h:lq s):lq s.finish.freed:=by
 intro q hq;have e:=(aW s).Q;have hq':q∈s.finish.Q:=hq;rw[e]at hq';exact h q hq'
theorem NK.rcv{z:St}(h:NK z)(now fr:Int)(xs:List Int)(hb:∀x∈xs,0<=x∧x<=255):NK (z.rcv now fr xs)∧NM (z.rcv now fr xs).aI:=by
 have h4:∀q∈z.Q,q.txt.length<=4:=λq hq=>(h.JF q hq).1;obtain⟨n,s',h1,h2⟩:=xH z now fr xs h4;refine⟨⟨Dq (s:=(z.locked.begin now).hear fr xs) λq hq=>h.JF q ((zC (z.locked.begin now) fr xs hb h4).qs q hq),?_⟩,?_⟩
 ·rw[h2];exact tq h1 h.tb
 ·rw[h2];exact uz h1
theorem NK.brk{z:St}(h:NK z)(now eu:Int):NK (z.brk now eu)∧NM (z.brk now eu).aI:=by
 obtain⟨s',h1,h2⟩:=DC z now eu;refine⟨⟨λq hq=> ?_,?_⟩,?_⟩
 ·rw[(Gh z now eu).2.2]at hq;exact h.JF q hq
 ·rw[h2];exact tq h1 h.tb
 ·rw[h2];exact uz h1
theorem Be:∀(D:List Sr) (s:St),(∀q∈D,q.txt.length<=4∧1<=q.ttl∧q.ttl<=8)->lq s->lq (D.foldl St.step s)
 | [],_,_,h=>h
 |q::D,s,hD,h=>by
  rw[iH];exact Be D _ (λz hz=>hD z (kU _ hz)) (EI h (hD q jo))
theorem NK.kJ{z:St}(h:NK z)(now:Int):NK (z.kJ now)∧NM (z.kJ now).aI:=by
 obtain⟨s',h1,h2⟩:=BX z now h.JF;refine⟨⟨Dq (s:=(St.lF z.Q now).foldl St.step (z.locked.begin now)) (Be _ _ (λq hq=>h.JF q (F6 hq)) h.JF),?_⟩,?_⟩
 ·rw[h2];exact tq h1 h.tb
 ·rw[h2];exact uz h1
theorem Lh(h:lq s)(d:Int)(t:ByteArray):lq (s.await d t):=by
 unfold St.await;split
 ·rename_i q hq;have hq4:=h q (iI hq).1;intro z hz;have hz':z∈St.bY s.Q (s.hold q t).2:=hz;rcases eY hz' with rfl|⟨k,_⟩
  ·unfold St.hold;split
   ·rename_i e;dsimp only;rw[bZ,List.length_tail,List.length_singleton];exact⟨by omega,hq4.2⟩
   ·dsimp only;rw[bZ,List.length_singleton];exact⟨by omega,hq4.2⟩
  ·exact h z k
 ·refine tL (λz hz=> ?_) ⟨by simp[St.jy],by show(1:Int)<=1∧(1:Int)<=8;omega⟩;rcases fA.1 hz with hz|hz
  ·exact h z hz
  ·rw[fD]at hz;subst hz;exact⟨by simp[St.jy],by show(1:Int)<=1∧(1:Int)<=8;omega⟩
theorem NK.snd{z:St}(h:NK z)(now d:Int)(t:ByteArray):NK (z.snd now d t)∧NM (z.snd now d t).aI:=by
 obtain⟨n,s',h1,h2⟩:=Cc z now d t;refine⟨⟨Dq (s:=if (bJ (z.locked.begin now).A d (z.locked.begin now).now).2 then(z.locked.begin now).aX d t else(z.locked.begin now).await d t) ?_,?_⟩,?_⟩
 ·split
  ·intro q hq;rw[(iY _ _ _).1]at hq;exact h.JF q hq
  ·exact Lh (s:=z.locked.begin now) h.JF d t
 ·rw[h2];exact tq h1 h.tb
 ·rw[h2];exact uz h1
theorem Po(me:Int)(xs:List Int)(now:Int):NK (St.new me xs now)∧(St.new me xs now).aI=[]:=by
 have e:=aW (St.raw me xs now);rw[St.rU];refine⟨⟨λq hq=> ?_,?_⟩,e.aI⟩
 ·rw[e.Q]at hq;cases hq
 ·rw[e.me,e.A];have e2:(St.raw me xs now).A=vw me ((cmpL (jl xs)).take (cmpL (jl xs)).length):=by rw[List.take_length];rfl
  rw[e2];intro y hy;obtain⟨j,x,_,hj,hp,rfl⟩:=CB _ _ _ y hy;unfold Aq at hp;simp only[jr,bne_iff_ne]at hp;exact⟨hp.2,λ_=>rfl⟩
def Sv(m:aP):Prop:=∀(i:Nat) s z,m.S[i]?=some s->s.nd=some z->NK z
theorem Sv.put(h:Sv m)(i:Nat){s:eU}(hs:∀z,s.nd=some z->NK z):Sv (m.put i s):=by
 intro j u z hj hz;rw[(gG _ _ _).1]at hj;rcases dz hj with⟨_,rfl⟩|⟨_,hj⟩
 ·exact hs z hz
 ·exact h j u z hj hz
theorem Sv.S{m':aP}(h:Sv m)(e:m'.S=m.S):Sv m':=λi s z hs hz=>h i s z (by rw[<-e];exact hs) hz
theorem Eh(s:eU)(o:Ot):(∀z,(s.write o).1.nd=some z->s.nd=some z)∧((s.write o).2=true->(s.write o).1.nd=s.nd)∧(s.write o).1.addr=s.addr∧(s.write o).1.hrs=s.hrs:=by
 unfold eU.write;split
 ·exact⟨λ_ h=>h,λ_=>rfl,rfl,rfl⟩
 ·split
  ·exact⟨λ_ h=>(by cases h),λh=>(by cases h),rfl,rfl⟩
  ·exact⟨λ_ h=>h,λ_=>rfl,rfl,rfl⟩
def FK(m:aP):Prop:=o6 m∧Sv m
def WI(i:Nat)(z:AY)(P:nU):Prop:=FK z.1∧i<z.1.S.length∧NM P
theorem BI{i:Nat}{e:List Ev}{P:nU}{s:eU}{z:St}(h:WI i (m,e) P)(hz:NK z)(hf:NM z.aI):I4 (WI i) i (m,e) P {s with nd:=some z} z.ot:=by
 have hl:∀s:eU,i<(m.put i s).S.length:=λs=>by rw[(gG _ _ _).1,List.length_set];exact h.2.1
 have hnk:Sv (m.put i (eU.write {s with nd:=some z} z.ot).1):=h.1.2.put i λu hu=>by
  have h1:=(Eh {s with nd:=some z} z.ot).1 u hu;cases h1;exact hz
 refine⟨λ_=>⟨⟨h.1.1.put i _,h.1.2.put i λu hu=> ?_⟩,hl _,h.2.2⟩,λ_ _=>⟨⟨h.1.1.put i _,hnk⟩,hl _,λf hf'=> ?_⟩,λ_ _=>⟨⟨h.1.1.put i _,hnk⟩,hl _,h.2.2⟩⟩
 ·cases hu;exact hz
 ·rcases fA.1 hf' with h1|h1
  ·exact hf f h1
  ·exact h.2.2 f h1
theorem YU(i:Nat):Zw (WI i) i:=by
 have hse:∀m e f P,WI i (m,e) (f::P)->WI i (m.bU i f,e) P:=λm e f P h=>by
  have e1:=(g_ m i f).1;exact⟨⟨h.1.1.bU h.2.1 (h.2.2 f jo),h.1.2.S e1⟩,by show i<(m.bU i f).S.length;rw[e1];exact h.2.1,λg hg=>h.2.2 g (kU _ hg)⟩
 refine⟨hse,λm e P f s z h _ _ hs hz=> ?_⟩;have h':=hse m e f P h;obtain⟨h1,h2⟩:=(h'.1.2 i s z hs hz).brk m.now f.1;exact BI h' h1 h2
theorem Tq(b:ByteArray)(n:Nat)(hn:n<=b.size):(b.extract 0 n).size<=b.size:=by
 rw[ByteArray.size_extract];omega
theorem KC(o:Op):BQ (λ_ z=>FK z.1) (λ_=>WI) o:=by
 have hin:∀i m e,i<m.S.length->FK m->WI i (m,e) []:=λi m e hi h=>⟨h,hi,λf hf=>(by cases hf)⟩;have hlt:∀ {m:aP} {i:Nat} {s:eU},m.S[i]?=some s->i<m.S.length:=λh=>(gm.1 h).1;refine⟨λ_ _ h=>h,λ_ i z h=>h.1,λ_=>YU,λ_ m e a r h=>h,?_,?_,λm e _ _ _ h=>h,?_,?_,?_,?_,?_,?_,?_,?_,?_⟩
 ·intro _ m e a b ha hb _ h;show FK (m.link a b o.on);unfold aP.link;split
  ·exact h
  ·have hk:∀(m:aP) (c:Nat) (L:List Bool),Sv m->Sv (m.put c {m.at' c with hrs:=L}):=λm c L hm=>hm.put c λz hz=>by
    by_cases hc:c<m.S.length
    ·have hs:=bW hc;rw[gL hs]at hz;exact hm c _ z hs hz
    ·unfold aP.at' at hz;rw[List.getD_eq_getElem?_getD,List.getElem?_eq_none (by omega)]at hz;cases hz
   exact⟨(h.1.put a _).put b _,hk _ b _ (hk m a _ h.2)⟩
 ·intro m e a b s z hs hz hb _ _ _ _ _ _ h;obtain⟨h1,h2⟩:=(h.2 a s z hs hz).snd m.now (m.at' b).addr o.txt;exact BI (hin a m e (hlt hs) h) h1 h2
 ·intro _ m e i s z hs hz _ h;obtain⟨h1,h2⟩:=(h.2 i s z hs hz).kJ m.now;exact BI (hin i m e (hlt hs) h) h1 h2
 ·intro _ m e k f hf _ h;exact⟨λg hg=>h.1 g (List.mem_of_mem_eraseIdx hg),h.2⟩
 ·intro _ m e k f s z hf hs hz _ h;obtain⟨h1,h2⟩:=(h.2 f.2.1 s z hs hz).rcv m.now (m.at' f.1).addr (aV f.2.2) (uZ _);exact BI (hin f.2.1 {m with bH:=m.bH.eraseIdx k} e (hlt hs) ⟨λg hg=>h.1 g (List.mem_of_mem_eraseIdx hg),h.2⟩) h1 h2
 ·intro _ m e k f hf _ h;obtain⟨h1,h2,h3⟩:=h.1 f (jY hf);exact⟨h.1.launch (i:=f.1) (j:=f.2.1) (b:=f.2.2) h1 h2 h3,h.2⟩
 ·intro _ m e k f n hf _ hn h;obtain⟨h1,h2,h3⟩:=h.1 f (jY hf);refine⟨λg hg=> ?_,h.2⟩;rcases List.mem_or_eq_of_mem_set hg with hg|rfl
  ·exact h.1 g hg
  ·exact⟨h1,h2,dF (Tq _ _ hn) h3⟩
 ·intro _ m e a b s z hs hz hb _ h;obtain⟨h1,h2⟩:=(h.2 a s z hs hz).rcv m.now (m.at' b).addr (aV o.txt) (uZ _);exact BI (hin a m e (hlt hs) h) h1 h2
 ·intro _ m e a s hs h;exact⟨h.1.put a _,h.2.put a λz hz=>by cases hz⟩
 ·intro _ m e a s n hs h;exact⟨h.1.put a _,h.2.put a λz hz=>h.2 a s z hs hz⟩
 ·intro _ m e a s hs _ h;obtain⟨h1,h2⟩:=Po s.addr s.bD m.now;exact BI (hin a m e (hlt hs) h) h1 (by rw[h2];exact λf hf=>by cases hf)
theorem FK.step(h:FK m)(o:Op):FK (m.step o).1:=x_ (KC o) (e:=[]) (λf hf=>(h.1 f hf).2.1) (n:=m.S.length+1) (aA _) h
theorem YT{L:List Int}(hn:L.length<=6)(hU:∀a∈L,bg a)(h0:∀a∈L,a≠0):FK (aP.new L):=by
 refine⟨(J2 hn hU h0).2,λi s z hs hz=> ?_⟩;obtain⟨a,_,rfl⟩:=dO.1 (jY (show(L.map λa=>(⟨a,bA (St.new a [] 0).aY,some (St.new a [] 0),List.replicate 6 false,false,0⟩:eU))[i]?=some s from hs));cases hz;exact(Po a [] 0).1
open Go.RowKit Go.Maps
variable{N:Int}{e:List Ev}{A:List Int}{y:MG}{m:aP}{i k n:Nat}{s s':eU}{W W' w:World}
def Wx(A:List Int)(N:Int)(k:Nat)(z:AY):Prop:=z.1.S.map (·.addr)=A∧z.1.now<=N+(if k<=A.length then 60000 else 0)
theorem CR{S:List eU}(hs:S[i]?=some s)(e:s'.addr=s.addr):(S.set i s').map (·.addr)=S.map (·.addr):=by
 rw[List.map_set];refine List.ext_getElem? λj=> ?_;by_cases hj:j=i
 ·subst hj;have hl:=(gm.1 hs).1;rw[List.getElem?_set_self (by rw[jq];exact hl),lu,hs,e];rfl
 ·rw[List.getElem?_set_ne (λh=>hj h.symm)]
theorem n_{e':List Ev}(h:Wx A N k (m,e)){i:Nat}{s s':eU}(hs:m.S[i]?=some s)(ha:s'.addr=s.addr):Wx A N k (m.put i s',e'):=⟨(CR hs ha).trans h.1,h.2⟩
theorem ve{P:nU}{o:Ot}(h:Wx A N k (m,e))(hs:m.S[i]?=some s)(ha:s'.addr=s.addr):I4 (λz _=>Wx A N k z) i (m,e) P s' o:=by
 have hw:=(Eh s' o).2.2.1;exact⟨λ_=>n_ h hs ha,λ_ _=>n_ h hs (hw.trans ha),λ_ _=>n_ h hs (hw.trans ha)⟩
theorem nE{z:AY}(h:Wx A N (k+1) z):Wx A N k z:=by
 refine⟨h.1,Int.le_trans h.2 ?_⟩;split<;>split<;>omega
theorem Ol(A:List Int)(N:Int)(o:Op):BQ (Wx A N) (λk _ z _=>Wx A N k z) o:=by
 refine⟨λk z h=>nE h,λk i z h=>h,λk i=>⟨λm e f P h=> ?_,λm e P f s z h _ _ hs hz=> ?_⟩,λ_ m e a r h=>h,?_,?_,?_,?_,?_,?_,?_,?_,?_,?_,?_,?_⟩
 ·have e:=g_ m i f;exact⟨by rw[e.1];exact h.1,by show(m.bU i f).now<=_;rw[e.2];exact h.2⟩
 ·have e1:=g_ m i f;refine ve ⟨?_,?_⟩ hs rfl
  ·rw[e1.1];exact h.1
  ·show(m.bU i f).now<=_;rw[e1.2];exact h.2
 ·intro k0 m e a b ha hb _ h;unfold aP.link;split
  ·exact h
  ·have hsa:=bW ha;have hb':b<(m.put a {m.at' a with hrs:=(m.at' a).hrs.set b o.on}).S.length:=by rw[(gG _ _ _).1,List.length_set];exact hb
   have hsb:=bW hb';exact n_ (n_ (e':=e) h hsa (by rw[gL hsa])) hsb (by rw[gL hsb])
 ·intro m e a b s z hs _ _ _ _ _ _ _ _ h;exact ve (nE h) hs rfl
 ·intro m e h1 h2 _ h;have hl:m.S.length=A.length:=by rw[<-h.1,jq]
  refine⟨h.1,?_⟩;have h3:=h.2;rw[aD (by omega)]at h3;rw[aO (by omega)];show m.now+o.n<=_;dsimp only at h3;omega
 ·intro k0 m e i s z hs _ _ h;exact ve (nE h) hs rfl
 ·intro k0 m e k f _ _ h;exact h
 ·intro k0 m e k f s z _ hs _ _ h;have h':=nE h;exact ve (m:={m with bH:=m.bH.eraseIdx k}) ⟨h'.1,h'.2⟩ hs rfl
 ·intro k0 m e k f _ _ h;exact h
 ·intro k0 m e k f n _ _ _ h;exact h
 ·intro k0 m e a b s z hs _ _ _ h;exact ve (nE h) hs rfl
 ·intro k0 m e a s hs h;exact n_ h hs rfl
 ·intro k0 m e a s n hs h;exact n_ h hs rfl
 ·intro k0 m e a s hs _ h;exact ve (nE h) hs rfl
theorem Tv(hfl:∀f∈m.bH,f.2.1<m.S.length)(o:Op):(m.step o).1.S.map (·.addr)=m.S.map (·.addr)∧(m.step o).1.now<=m.now+60000:=by
 have h:=x_ (Ol (m.S.map (·.addr)) m.now o) (e:=[]) hfl (n:=m.S.length+1) (aA _) ⟨rfl,by rw[jq,aD (by omega)];show m.now<=m.now+0;omega⟩;refine⟨h.1,?_⟩;have:=h.2;split at this
 ·exact this
 ·dsimp only at this;omega
def mh(n:Nat):List Int:=(List.range n).map λ(i:Nat)=>10 * (i:Int)+10
theorem pG(n:Nat):(mh n).length=n:=by simp[mh]
theorem kE(h:k<n):(mh n)[k]?=some (10 * (k:Int)+10):=by
 unfold mh;rw[lu,List.getElem?_range h];rfl
theorem Ls(n:Nat):mh (n+1)=mh n++ [10 * (n:Int)+10]:=by
 unfold mh;rw[List.range_succ,List.map_append];rfl
theorem nI(hn:n<=6):∀a∈mh n,bg a∧a≠0:=by
 intro a ha;obtain⟨k,hk⟩:=List.getElem?_of_mem ha;have hl:=(gm.1 hk).1;rw[pG]at hl;rw[kE hl]at hk;cases hk;unfold bg;omega
structure SQ(w:World)(n i:Nat)(y:MG)(m:aP)(W:World):Prop where
 mm:MM y m W
 low:∀k,uU y m k->w.heap.size<=k
 bl:Below w.heap.size w W
 ok:iy (1+1000000 * (i:Int)) i m
 fk:FK m
 nw:m.now<=60000 * (i:Int)
 Y7:m.S.map (·.addr)=mh n
theorem SQ.len(h:SQ w n i y m W):m.S.length=n:=by
 have:=congrArg List.length h.Y7;rw[jq,pG]at this;exact this
theorem SQ.addr(h:SQ w n i y m W){k:Nat}{s:eU}(hs:m.S[k]?=some s):k<n∧s.addr=10 * (k:Int)+10:=by
 have hk:=(gm.1 hs).1;rw[h.len]at hk;have h1:(m.S.map (·.addr))[k]?=some s.addr:=by rw[lu,hs];rfl
 rw[h.Y7,kE hk]at h1;exact⟨hk,(Option.some.inj h1).symm⟩
theorem SQ.later(h:SQ w n i y m W)(hb:Below W.heap.size W W'):SQ w n i y m W':=
 ⟨h.mm.later hb,h.low,h.bl.trans (hb.mono h.bl.size),h.ok,h.fk,h.nw,h.Y7⟩
theorem SQ.asked(h:SQ w n i y m W)(hp:MP y m m W W'):∃y',y'.G=y.G∧SQ w n i y' m W':=by
 obtain⟨y',h1,u⟩:=hp;have hz:=h.bl.size;refine⟨y',u.G,h1,λk hk=> ?_,h.bl.trans (u.fx.BV hz λj hj hf=>by have:=h.low j hf;omega),h.ok,h.fk,h.nw,h.Y7⟩;rcases u.sub k hk with e|e
 ·exact h.low k e
 ·omega
theorem SQ.stepped{m':aP}(h:SQ w n i y m W){y':MG}(h1:MM y' m' W')(u:MU y m y' m' W W')(ok:iy (1+1000000 * ((i+1:Nat):Int)) (i+1) m')(fk:FK m')(nw:m'.now<=60000 * ((i+1:Nat):Int))(Y7:m'.S.map (·.addr)=mh n):SQ w n (i+1) y' m' W':=by
 have hz:=h.bl.size;refine⟨h1,λk hk=> ?_,h.bl.trans (u.fx.BV hz λj hj hf=>by have:=h.low j hf;omega),ok,fk,nw,Y7⟩;rcases u.sub k hk with e|e
 ·exact h.low k e
 ·omega
theorem adq(h:SQ w n i y m W)(hi:i<=4096)(o:Op)(ht:o.dU=8->o.txt.size<=65536)(hfw:∀(i:Nat) s,m.S[i]?=some s->s.nd=none->KY (jl s.bD)):
  Calls Tryz.prog 11 #[.pointer (some ⟨y.G,0,none⟩),Pd o] W λe W'=>∃v L y',e=.returned v∧L.map (·.1)=(m.step o).2∧f_ W.heap.size v L W'∧y'.G=y.G∧MU y m y' (m.step o).1 W W'∧SQ w n (i+1) y' (m.step o).1 W':=by
 have hnw:=h.nw;refine(adt h.mm h.ok (by omega) (by omega) (by omega) h.fk.1 o ht λk hk hkl hz=>Rm h.ok (by omega) hkl (by have hs:=bW hkl;rw[gL hs]at hz ⊢;exact hfw k _ hs hz)).mono ?_;rintro e W' ⟨⟨v,L,rfl,hL,hev,hmp⟩,hok⟩;obtain⟨s1,s2⟩:=Tv (λf hf=>(h.fk.1 f hf).2.1) o;obtain⟨y',h1,u⟩:=hmp;exact⟨v,L,y',rfl,hL,hev,u.G,u,h.stepped h1 u (hok.up (by omega) (aA _)) (h.fk.step o) (by omega) (s1.trans h.Y7)⟩
theorem TM{W:World}{base e size:Nat}{v:Value}{n:Nat}{xs:List Value}(h:W.ownsRow base e size v n xs)(hn:0<n):∃g cap,v=.slice (some ⟨g,0,none⟩) n cap∧n<=cap:=by
 rcases h.2 with⟨_,h0⟩|⟨g,cap,cur,rfl,hb,_,hl,_⟩
 ·omega
 ·exact⟨g,cap,rfl,hl⟩
theorem Ew{k:Nat}(h:k<6):IntKind.u32.wrap (wrap64 (wrap64 (10 * (k:Int))+10))=10 * (k:Int)+10:=by
 simp only[IntKind.wrap,IntKind.signed,IntKind.bits];unfold wrap64;simp;omega
theorem Nl(W:World)(t:Int):∀(j:Nat) (u:Value),[Value.int .u32 t][j]?=some u->(W.alloc (.cells #[.int .u32 t] 34)).cell? ((⟨W.heap.size,0,none⟩:Addr).add j)=some u:=by
 intro j u hj
 match j,hj with
 |0,hj=>
  rw[Addr.add_lit,Nat.zero_add];exact(jJ W _ _ _).trans hj
 |j+1,hj=>simp at hj
theorem TN(n:Nat)(hn:0<n∧n<=6)(w:World):
  Calls Tryz.prog 10 #[.int .i64 n] w λe w'=>∃y:MG,e=.returned (.pointer (some ⟨y.G,0,none⟩))∧SQ w n 0 y (aP.new (mh n)) w':=by
 obtain⟨i2,ki,kz0,kz1,kz2⟩:=info_parts pR;go_enter Tryz.func10,Tryz.ntmps10;go_wp2_with fail;go_loopw [3,4] (λlv i wr=>∃k:Nat,k<=n∧i=.int .i64 k∧wr.ownsRow w.heap.size 34 1 lv k ((mh k).map (Value.int .u32))∧Below w.heap.size w wr) (λ_ i _=>n - (intOf i).toNat)
 case atStart=>exact⟨0,bX _,rfl,⟨rfl,.inl ⟨rfl,rfl⟩⟩,aR _ _⟩
 case round=>
  obtain⟨k,hk,rfl,hr,hb⟩:=hrel;by_cases hlt:k<n
  ·have hki:(k:Int)<(n:Int):=by omega
   have hw:=Ew (k:=k) (by omega);have hwk:wrap64 ((k:Int)+1)=(k:Int)+1:=by unfold wrap64;omega
   have hbU:Below wr.heap.size wr (wr.alloc (.cells #[.int .u32 (10 * (k:Int)+10)] 34)):=bn;have hk1:k+1<=maxLen:=by unfold maxLen;omega
   have hk2:(k+1)* 4<=140737488355328:=by omega
   have hz:=hb.size;have hr0:=hr.alloc (.cells #[.int .u32 (10 * (k:Int)+10)] 34);go_wp2_with(at_builtin;refine wpList_append_own_at _ rfl _ _ 36 rfl w.heap.size 34 i2 (.int .u32 0) 1 4 Tryz.underlying36 ki kz0 kz1 kz2 rfl (by decide) u3 k ((mh k).map (Value.int .u32)) rfl hr0 ⟨wr.heap.size,0,none⟩ 1 1 [.int .u32 (10 * (k:Int)+10)] rfl rfl (Nl wr _) (by simp[Value.oneCell']) hk1 hk2 ?c3 ?_)
   case c3=>simp;omega
   intro v7 w7 gB fP _ hv7;have GQ:=(hb.trans (hbU.mono hz)).grown fP (by simp;omega) (λk e=>(hr0.lt k e).1);have Ea:w7.ownsRow w.heap.size 34 1 v7 (k+1) ((mh (k+1)).map (Value.int .u32)):=by rw[Ls,List.map_append];exact gB
   clear hr hb hr0 fP hv7 hbU gB hw;go_wp2;go_roundw
   case rel=>exact⟨k+1,by omega,by go_num,Ea,GQ⟩
   case measure=>simp[intOf];omega
  ·obtain rfl:k=n:=by omega
   obtain⟨g,cap,rfl,hcap⟩:=TM hr hn.1;have hHN:=hide (abC g k cap (mh k) wr (pG k) hn hcap (λj hj=>by rw[List.getD_eq_getElem?_getD,kE hj];exact(nI hn.2 _ (jY (kE hj))).1) (hr.lt g rfl).2 (λj hj=>(hr.cellAt j (by omega)).trans (by rw[lu,kE hj,List.getD_eq_getElem?_getD,kE hj];rfl)) (λj hj=>by rw[List.getD_eq_getElem?_getD,kE hj];exact(nI hn.2 _ (jY (kE hj))).2) (λi j hij hj=>by rw[List.getD_eq_getElem?_getD,List.getD_eq_getElem?_getD,kE hj,kE (by omega)];show 10 * (i:Int)+10≠10 * (j:Int)+10;omega));have hnew:=J2 (L:=mh k) (by rw[pG];exact hn.2) (λa ha=>(nI hn.2 a ha).1) (λa ha=>(nI hn.2 a ha).2);have MK:=YT (L:=mh k) (by rw[pG];exact hn.2) (λa ha=>(nI hn.2 a ha).1) (λa ha=>(nI hn.2 a ha).2);have hz:=hb.size;have hfin:Hid (∀(y:MG) w',MM y (aP.new (mh k)) w'->Fx (λ_=>False) wr w'->(∀q,uU y (aP.new (mh k)) q->wr.heap.size<=q)->SQ w k 0 y (aP.new (mh k)) w'):=hide λy w' h1 h2 h3=>by
    refine⟨h1,λq hq=>dF hz (h3 q hq),hb.trans (h2.BV hz λ_ _ h=>absurd h id),hnew.1.up (by omega) (aA _),MK,?_,?_⟩
    ·show(0:Int)<=_;omega
    ·show((mh k).map Lg).map (·.addr)=mh k;rw[List.map_map];exact List.map_id _
   clear hnew MK hr hb hcap;go_wp2_with(go_at_call 27;refine hHN.out.mono ?_;rintro e w5 ⟨y,rfl,hm,hf,hge⟩;have hq:=hide (hfin.out y w5 hm hf hge);clear hm hf hge);go_ret;exact⟨y,rfl,hq.out⟩
variable{W:World}
def OpC(L:List Op):List Value:=L.flatMap λo=> [.int .i64 o.dU,.int .i64 o.a,.int .i64 o.b,.int .i64 o.n,.bool o.on,.string o.txt]
theorem Za{ao:Option Addr}{L:List Op}(h:fU W ao (OpC L)){k:Nat}{o:Op}(hk:L[k]?=some o):∃g f,ao=some ⟨g,f,none⟩∧g<W.heap.size∧W.cell? ⟨g,f+k * 6,none⟩=some (.int .i64 o.dU)∧W.cell? ⟨g,f+k * 6+1,none⟩=some (.int .i64 o.a)∧W.cell? ⟨g,f+k * 6+2,none⟩=some (.int .i64 o.b)∧W.cell? ⟨g,f+k * 6+3,none⟩=some (.int .i64 o.n)∧W.cell? ⟨g,f+k * 6+4,none⟩=some (.bool o.on)∧W.cell? ⟨g,f+k * 6+5,none⟩=some (.string o.txt):=by
 have hat:∀i u,i<6->([.int .i64 o.dU,.int .i64 o.a,.int .i64 o.b,.int .i64 o.n,.bool o.on,.string o.txt]:List Value)[i]?=some u->(OpC L)[k * 6+i]?=some u:=λi u hi hu=>(jW (λo:Op=>([.int .i64 o.dU,.int .i64 o.a,.int .i64 o.b,.int .i64 o.n,.bool o.on,.string o.txt]:List Value)) 6 (by decide) (λ_=>rfl) L k i hi hk).trans hu;obtain⟨g,f,e,hl,_⟩:=h (k * 6+0) _ (hat 0 _ (by decide) rfl);refine⟨g,f,e,hl,h.one e (hat 0 _ (by decide) rfl),?_,?_,?_,?_,?_⟩
 ·have:=h.one e (hat 1 _ (by decide) rfl);rw[<-Nat.add_assoc]at this;exact this
 ·have:=h.one e (hat 2 _ (by decide) rfl);rw[<-Nat.add_assoc]at this;exact this
 ·have:=h.one e (hat 3 _ (by decide) rfl);rw[<-Nat.add_assoc]at this;exact this
 ·have:=h.one e (hat 4 _ (by decide) rfl);rw[<-Nat.add_assoc]at this;exact this
 ·have:=h.one e (hat 5 _ (by decide) rfl);rw[<-Nat.add_assoc]at this;exact this
theorem SQ.tab{w:World}{n i:Nat}{y:MG}{m:aP}(h:SQ w n i y m W){k:Nat}(hk:k<n):
  (∀x∈m.tab k,x.bG.length<=4∧(x.valid=false->x.bG=[])∧x.dest≠10 * (k:Int)+10)∧Asc (m.tab k)∧(m.tab k).length<=8∧(∀z,(m.at' k).nd=some z->z.lk=0)∧(m.at' k).bD.length<=2000∧(m.runs k=true->∃c:Nat,(m.at' k).bD.length=13 * c∧0<c∧c<=24):=by
 obtain⟨x,s,b,c,e1,e2,e3,_⟩:=h.mm.get (i:=k) (by rw[h.len];exact hk);have hs:=h.ok.at e2;have hst:=h.mm.st k x s e1 e2;have ha:=(h.addr e2).2;rw[e3];have aaw:m.runs k=s.nd.isSome:=by
  unfold aP.runs aP.has;rw[iO,e3,h.len];simp[hk]
 cases hz:s.nd with
 |none=>
  have ht:m.tab k=[]:=by unfold aP.tab;rw[e3,hz]
  rw[ht,aaw,hz];exact⟨λx hx=>(by cases hx),List.Pairwise.nil,bX _,λz hz=>(by cases hz),hs.jl,λh=>(by cases h)⟩
 |some z=>
  have ht:m.tab k=z.A:=by unfold aP.tab;rw[e3,hz]
  obtain⟨n0,_⟩:=hst.nd z hz;have hn:=hs.nd z hz;have hk':=h.fk.2 k s z e2 hz;rw[ht];refine⟨λx hx=>⟨(hn.ok x hx).Nu,(hk'.tb x hx).2,?_⟩,n0.cr.tb.vQ,hn.len,λu hu=>by cases hu;exact hn.inv.lk,hs.jl,λ_=> ?_⟩
  ·rw[<-ha,<-hn.me];exact(hk'.tb x hx).1
  ·obtain⟨j1,j2⟩:=hs.jn z hz;have:=hn.inv.cnt;exact⟨z.cnt.toNat,by omega,by omega,by omega⟩
theorem aam{c:Int}:∃n:Nat,2<=n∧n<=6∧2+qM c 5=(n:Int)∧wrap64 (2+qM c 5)=(n:Int):=by
 have:=T_ c 5 (by decide);refine⟨(2+qM c 5).toNat,by omega,by omega,by omega,?_⟩;unfold wrap64;omega
open Go.ChangeShapes Go.WideShapes Go.ChangeAt Go.Deep
variable{H:Type}{W:World}
theorem abK:Tryz.prog.cellsOf 28=6:=by kernel_rfl
theorem JM:Tryz.prog.cellsOf 3=1:=by kernel_rfl
theorem aak:Tryz.prog.cellsOf 9=1:=by kernel_rfl
theorem Xg:Tryz.prog.cellsOf 4=1:=by kernel_rfl
structure abx(o:Op):Prop where
 dU:-9223372036854775808<=o.dU∧o.dU<=9223372036854775807
 a:-9223372036854775808<=o.a∧o.a<=9223372036854775807
 b:-9223372036854775808<=o.b∧o.b<=9223372036854775807
 n:-9223372036854775808<=o.n∧o.n<=9223372036854775807
theorem Ud{enc:TypeId×Value->H}(n:Nat)(cs:List Value)(y:DataW H×List MemPlace)(h:DataW.trod enc Tryz.prog W 0 (λ_=>true) true n 28 cs=some y)(hl:cs.length=6):
  ∃o:Op,cs=[.int .i64 o.dU,.int .i64 o.a,.int .i64 o.b,.int .i64 o.n,.bool o.on,.string o.txt]∧abx o:=by
 obtain⟨c0,c1,c2,c3,c4,c5,rfl⟩:∃c0 c1 c2 c3 c4 c5,cs=[c0,c1,c2,c3,c4,c5]:=by
  match cs,hl with
  | [c0,c1,c2,c3,c4,c5],_=>exact⟨c0,c1,c2,c3,c4,c5,rfl⟩
 obtain⟨xs,n,_,_,_,hlen,hget⟩:=DataW.trod_struct Tryz.underlying28 h
 match xs,hlen with
 | [x0,x1,x2,x3,x4,x5],_=>
  have g0:DataW.trod enc Tryz.prog W 0 (λ_=>true) true n 3 (([c0,c1,c2,c3,c4,c5].drop 0).take (Tryz.prog.cellsOf 3))=some x0:=hget 0 _ rfl;rw[JM]at g0;have g1:DataW.trod enc Tryz.prog W 0 (λ_=>true) true n 3 (([c0,c1,c2,c3,c4,c5].drop 1).take (Tryz.prog.cellsOf 3))=some x1:=hget 1 _ rfl;rw[JM]at g1;have g2:DataW.trod enc Tryz.prog W 0 (λ_=>true) true n 3 (([c0,c1,c2,c3,c4,c5].drop 2).take (Tryz.prog.cellsOf 3))=some x2:=hget 2 _ rfl;rw[JM]at g2;have g3:DataW.trod enc Tryz.prog W 0 (λ_=>true) true n 3 (([c0,c1,c2,c3,c4,c5].drop 3).take (Tryz.prog.cellsOf 3))=some x3:=hget 3 _ rfl;rw[JM]at g3;have g4:DataW.trod enc Tryz.prog W 0 (λ_=>true) true n 4 (([c0,c1,c2,c3,c4,c5].drop 4).take (Tryz.prog.cellsOf 4))=some x4:=hget 4 _ rfl;rw[Xg]at g4;have g5:DataW.trod enc Tryz.prog W 0 (λ_=>true) true n 9 (([c0,c1,c2,c3,c4,c5].drop 5).take (Tryz.prog.cellsOf 9))=some x5:=hget 5 _ rfl;rw[aak]at g5;clear hget;obtain⟨a0,e0,_,w0⟩:=DataW.trod_int Tryz.underlying3 g0;obtain⟨a1,e1,_,w1⟩:=DataW.trod_int Tryz.underlying3 g1;obtain⟨a2,e2,_,w2⟩:=DataW.trod_int Tryz.underlying3 g2;obtain⟨a3,e3,_,w3⟩:=DataW.trod_int Tryz.underlying3 g3;obtain⟨a4,e4,_⟩:=DataW.trod_bool Tryz.underlying4 g4;obtain⟨a5,e5,_,_⟩:=DataW.trod_string Tryz.underlying9 g5;simp at e0 e1 e2 e3 e4 e5;subst e0 e1 e2 e3 e4 e5;exact⟨⟨a0,a1,a2,a3,a4,a5⟩,rfl,⟨bounds_i64 w0,bounds_i64 w1,bounds_i64 w2,bounds_i64 w3⟩⟩
theorem Pb{enc:TypeId×Value->H}{fuel:Nat}{c:Value}{x:DataW H×List MemPlace}(h:DataW.trod enc Tryz.prog W 0 (λ_=>true) true fuel 22 [c]=some x):
  ∃ao n cap L,c=.slice ao n cap∧L.length=n∧n<=maxLen∧fU W ao (OpC L)∧∀o∈L,abx o:=
 LZ Tryz.underlying22 abK (by decide) (λo:Op=> [.int .i64 o.dU,.int .i64 o.a,.int .i64 o.b,.int .i64 o.n,.bool o.on,.string o.txt]) _ (λ_=>rfl) Ud h
theorem K6(me:Int)(A:List Rt)(d q h n e:Int):((ig me A d q h n e).1=A)∨(d≠me∧d≠0∧(ig me A d q h n e).2=0∧((∃x,aK A d=some x∧Wp (newR d q h n e) x=true∧(ig me A d q h n e).1=gD A d (Ak q h n e))∨(aK A d=none∧(ig me A d q h n e).1=vG A (newR d q h n e)))):=by
 unfold ig;split
 ·exact .inl rfl
 ·rename_i hd;simp only[not_or]at hd;cases hl:aK A d with
  |some x=>
   dsimp only;split
   ·rename_i hg;exact .inr ⟨hd.1,hd.2,rfl,.inl ⟨x,rfl,hg,rfl⟩⟩
   ·exact .inl rfl
  |none=>
   dsimp only;split
   ·exact .inl rfl
   ·exact .inr ⟨hd.1,hd.2,rfl,.inr ⟨rfl,rfl⟩⟩
abbrev Jd:=List (Bool×Int×Int)
theorem SA{x k:Int}(f:Int->Option Int)(v:Option Int)(h:x≠k):kX f k v x=f x:=aD h
abbrev NwT:=(Int->Option Int)×Jd
theorem JW:∀(A:List Rt) (t:NwT),∀r∈(A.foldl lX t).2,r∈t.2∨∃y∈A,r=(false,y.dest,y.seq)
 | [],_,_,h=> .inl h
 |y::A,t,r,h=>by
  rw[iH]at h;rcases JW A _ r h with h1|⟨z,hz,e⟩
  ·unfold lX at h1;split at h1
   ·rcases fA.1 h1 with h1|h1
    ·exact .inl h1
    ·exact .inr ⟨y,jo,fD.1 h1⟩
   ·exact .inl h1
  ·exact .inr ⟨z,kU _ hz,e⟩
theorem Us(L M:Jd)(n:Nat):∃M':Jd,(∀r∈M',r∈M)∧jl (bA L++(bA M).take n)=(L++M').map norm:=by
 by_cases h:n<13 * M.length
 ·refine⟨M.take (n / 13),λr hr=>List.mem_of_mem_take hr,?_⟩;have h1:=XG (L++M) (13 * L.length+n) (by rw[bZ];omega);have h2:(13 * L.length+n)/ 13=L.length+n / 13:=by omega
  have e1:(bA (L++M)).take (13 * L.length+n)=bA L++(bA M).take n:=by
   rw[jX,<-gU L,List.take_length_add_append]
  have e2:(L++M).take (L.length+n / 13)=L++M.take (n / 13):=List.take_length_add_append _;rw[e1,h2,e2]at h1;exact h1
 ·refine⟨M,λr hr=>hr,?_⟩;rw[l_ (by rw[gU];omega),<-jX];exact rX _
theorem A9{me now:Int}{c:sP}{A A':List Rt}(t:Rx me now c A A'):∀y∈A,∃z∈A',z.dest=y.dest:=by
 have hmap:∀(f:Rt->Rt),(∀y,(f y).dest=y.dest)->∀y∈A,∃z∈A.map f,z.dest=y.dest:=λf hf y hy=>⟨f y,dO.2 ⟨y,hy,rfl⟩,hf y⟩;have hmod:∀(f:Rt->Rt) (d:Int),(∀y,(f y).dest=y.dest)->∀y∈A,∃z∈gD A d f,z.dest=y.dest:=λf d hf=>hmap _ λy=>by
  split
  ·exact hf y
  ·rfl
 have Qj:∀(d q h n e:Int),∀y∈A,∃z∈(ig me A d q h n e).1,z.dest=y.dest:=by
  intro d q h n e;rcases K6 me A d q h n e with h1|⟨_,_,_,⟨x,_,_,h1⟩|⟨_,h1⟩⟩
  ·rw[h1];exact λy hy=>⟨y,hy,rfl⟩
  ·rw[h1];exact hmod _ d λy=>rfl
  ·rw[h1];exact λy hy=>⟨y,uq.2 (.inr hy),rfl⟩
 cases t with
 |SE=>exact Qj _ _ _ _ _
 |SC=>exact Qj _ _ _ _ _
 |use d e=>exact hmod _ d λy=>nD e y
 |bG d n=>exact hmod _ d λy=>lQ n y
 |lose fr p L hc x hx=>exact hmod _ x.1 λy=>fG _ _ y
 |brk eu=>exact hmap _ λy=>fG _ _ y
 |grow d _=>exact hmod _ d λy=>rfl
variable{c:sP}{e:List Ev}{A B:List Rt}{J:AY->nU->Prop}{y:MG}{m:aP}{i n:Nat}{P:nU}{L:Jd}{s s':St}{st:eU}{W W' w:World}
def xR(A:List Rt)(L:Jd):Prop:=∀r∈L,r.1=false->∃y∈A,y.dest=r.2.1
theorem xR.up(h:xR A L)(hs:∀y∈A,∃z∈B,z.dest=y.dest):xR B L:=by
 intro r hr e;obtain⟨y,hy,e1⟩:=h r hr e;obtain⟨z,hz,e2⟩:=hs y hy;exact⟨z,hz,e2.trans e1⟩
theorem xR.app{M:Jd}(h:xR A L)(k:xR A M):xR A (L++M):=λr hr=>(fA.1 hr).elim (h r) (k r)
theorem xR.norm(h:xR A L):xR A (L.map norm):=by
 intro r hr e;obtain⟨x,hx,rfl⟩:=dO.1 hr;obtain⟨o,a,q⟩:=x;cases o
 ·exact h _ hx rfl
 ·cases e
theorem Px(a:Int):∀(L:Jd) (f:Int->Option Int),(L.foldl stepM f a).isSome=true->(f a).isSome=true∨∃r∈L,r.1=false∧r.2.1=a
 | [],_,h=> .inl h
 |r::L,f,h=>by
  rw[iH]at h;rcases Px a L _ h with h1|⟨x,hx,e⟩
  ·unfold stepM at h1;split at h1
   ·exact .inl h1
   ·rename_i h3;by_cases e:a=r.2.1
    ·exact .inr ⟨r,jo,by simpa using h3,e.symm⟩
    ·rw[SA _ _ e]at h1;exact .inl h1
  ·exact .inr ⟨x,kU _ hx,e⟩
theorem xR.few(h:xR A L)(hl:A.length<=8):KY L:=by
 refine⟨A.map (·.dest),by rw[jq];omega,λa ha=> ?_⟩;rcases Px a L (λ_=>none) ha with h1|⟨r,hr,e1,e2⟩
 ·cases h1
 ·obtain⟨y,hy,e⟩:=h r hr e1;exact dO.2 ⟨y,hy,e.trans e2⟩
structure Ka(B:List Rt)(s:St):Prop where
 len:s.A.length<=8
 aY:xR s.A s.aY
 sub:∀y∈B,∃z∈s.A,z.dest=y.dest
theorem yR(h:Ka B s):Ka B s.write:=by
 refine⟨h.len,?_,h.sub⟩;have hn:s.write.aY=s.aY++(bI s.seq s.own s.f s.A).2:=rfl;rw[hn];refine xR.app h.aY λr hr e=> ?_;rcases JW s.A (s.f,pJ s.seq s.own) r hr with hr|⟨y,hy,rfl⟩
 ·have hr':r∈pJ s.seq s.own:=hr;unfold pJ at hr';split at hr'
  ·rw[fD]at hr';subst hr';cases e
  ·cases hr'
 ·exact⟨y,hy,rfl⟩
theorem SX{me now:Int}{A':List Rt}(t:Rx me now c A A')(h:A.length<=8):A'.length<=8:=by
 have hmod:∀d f,(gD A d f).length<=8:=λd f=>by rw[kM];exact h
 have Qj:∀(d q hp n e:Int),(ig me A d q hp n e).1.length<=8:=by
  intro d q hp n e;unfold ig;split
  ·exact h
  ·split
   ·split
    ·exact hmod _ _
    ·exact h
   ·split
    ·exact h
    ·dsimp only;rw[pQ];omega
 cases t with
 |SE=>exact Qj _ _ _ _ _
 |SC=>exact Qj _ _ _ _ _
 |use d e=>exact hmod d _
 |bG d n=>exact hmod d _
 |lose fr p L hc x hx=>exact hmod x.1 _
 |brk eu=>rw[jq];exact h
 |grow d _=>exact hmod d _
theorem XD(k:fJ c n s s')(h:Ka B s):Ka B s':=by
 induction k with
 |nil=>exact h
 |snoc _ k ih=>
  have h:=ih h;cases k with
  |yK e=>exact⟨by rw[e.A];exact h.len,by rw[e.A,e.aY];exact h.aY,by rw[e.A];exact h.sub⟩
  |tab t=>
   refine⟨SX t h.len,xR.up h.aY (A9 t),λy hy=> ?_⟩;obtain⟨z,hz,e⟩:=h.sub y hy;obtain⟨u,hu,e2⟩:=A9 t z hz;exact⟨u,hu,e2.trans e⟩
  |aG _ _ _ _ _=>exact⟨h.len,h.aY,h.sub⟩
  |grw=>exact⟨h.len,h.aY,h.sub⟩
  |mx _ _ _ _=>exact⟨h.len,h.aY,h.sub⟩
  |wr=>exact yR h
theorem Bv(h:Ka B s):Ka B s.finish:=by
 have h1:=yR h;unfold St.finish;split
 ·refine⟨h1.len,λr hr e=> ?_,h1.sub⟩;have hr':r∈s.write.cmp:=hr;rcases fA.1 hr' with hr'|hr'
  ·have e1:r=(true,0,s.write.own):=fD.1 hr';subst e1;cases e
  ·obtain⟨a,ha,rfl⟩:=dO.1 hr';obtain⟨y,hy,rfl⟩:=dO.1 ha;exact⟨y,hy,rfl⟩
 ·exact⟨h1.len,h1.aY,h1.sub⟩
theorem Ur{now:Int}(k:fJ c n (s.locked.begin now) s')(h:s.A.length<=8):Ka s.A s'.finish.freed:=by
 have h0:Ka s.A (s.locked.begin now):=by
  refine yR (s:={s.locked with now:=now,A:=iM s.A now,aY:=[],aI:=[],aT:=[],aM:=[],bq:=false}) ⟨?_,λr hr=>(by cases hr),λy hy=>⟨sF now y,dO.2 ⟨y,hy,rfl⟩,lN now y⟩⟩;show(s.A.map (sF now)).length<=8;rw[jq];exact h
 have h1:=Bv (XD k h0);exact⟨h1.len,h1.aY,h1.sub⟩
theorem XE(me:Int)(xs:List Int)(now:Int):Ka [] (St.new me xs now)∧((St.new me xs now).bq=false->xs=[]):=by
 rw[St.rU];refine⟨Bv ⟨?_,λr hr=>(by cases hr),λy hy=>(by cases hy)⟩,λhr=>Classical.byContradiction λhne=> ?_⟩
 ·have:=CF me (cmpL (jl xs)) (cmpL (jl xs)).length;rw[List.take_length]at this;exact this
 ·have h1:(St.raw me xs now).finish.bq=true:=by
   unfold St.finish;split
   ·rfl
   ·show decide (xs≠ [])=true;simpa using hne
  rw[h1]at hr;cases hr
structure KS(s:eU):Prop where
 off:s.nd=none->KY (jl s.bD)
 on:∀z,s.nd=some z->z.A.length<=8∧(∃L,s.bD=bA L)∧xR z.A (jl s.bD)
theorem KS.few{s:eU}(h:KS s):KY (jl s.bD):=by
 cases hz:s.nd with
 |none=>exact h.off hz
 |some z=>exact(h.on z hz).2.2.few (h.on z hz).1
theorem CU{s:eU}{z:St}(hz:s.nd=some z)(hl:z.A.length<=8)(hf:∃L,s.bD=bA L)(ho:xR z.A (jl s.bD)):KS s:=by
 refine⟨λh=> ?_,λu hu=> ?_⟩
 ·rw[hz]at h;cases h
 ·rw[hz]at hu;cases hu;exact⟨hl,hf,ho⟩
theorem PV{s:eU}(hz:s.nd=none)(h:KY (jl s.bD)):KS s:=⟨λ_=>h,λu hu=>by rw[hz]at hu;cases hu⟩
theorem aar{z:St}(h:Ka B z)(hF:KY (jl st.bD))(hJ:z.bq=false->(∃L,st.bD=bA L)∧xR B (jl st.bD)):KS (eU.write {st with nd:=some z} z.ot).1∧(z.ot.idle=true->KS {st with nd:=some z}):=by
 have hno:z.bq=false->KS {st with nd:=some z}:=λhr=>CU (s:={st with nd:=some z}) rfl h.len (hJ hr).1 ((hJ hr).2.up h.sub);refine⟨?_,λhi=> ?_⟩
 ·by_cases h1:z.ot.aY≠ []∨z.ot.bq=true
  ·rcases Bool.eq_false_or_eq_true st.tears with ht|ht
   ·rw[eU.rf (s:={st with nd:=some z}) h1 ht];refine PV rfl ?_;show KY (jl (if z.bq then st.bD else st.bD++(bA z.aY).take st.whole.toNat));rcases Bool.eq_false_or_eq_true z.bq with hr|hr
    ·rw[hr,aO rfl];exact hF
    ·obtain⟨⟨L,hL⟩,hj⟩:=hJ hr;obtain⟨M,hM1,hM2⟩:=Us L z.aY st.whole.toNat;rw[hL,rX]at hj;rw[hr,aD (by decide),hL,hM2,List.map_append];exact xR.few ((hj.up h.sub).app (xR.norm λr hr'=>h.aY r (hM1 r hr'))) h.len
   ·rw[eU.kI (s:={st with nd:=some z}) h1 ht];show KS {st with nd:=some z,bD:=(if z.bq then []else st.bD)++bA z.aY};rcases Bool.eq_false_or_eq_true z.bq with hr|hr
    ·rw[hr,aO rfl,List.nil_append];refine CU (z:=z) rfl h.len ⟨_,rfl⟩ ?_;show xR z.A (jl (bA z.aY));rw[rX];exact h.aY.norm
    ·obtain⟨⟨L,hL⟩,hj⟩:=hJ hr;rw[hL,rX]at hj;rw[hr,aD (by decide),hL,<-jX];refine CU (z:=z) rfl h.len ⟨_,rfl⟩ ?_;show xR z.A (jl (bA (L++z.aY)));rw[rX,List.map_append];exact(hj.up h.sub).app h.aY.norm
  ·simp only[not_or,Classical.not_not]at h1;have h2:z.ot.bq=false:=by simpa using h1.2
   rw[eU.sU (s:={st with nd:=some z}) h1.1 h2];exact hno h2
 ·rw[CW]at hi;simp only[jr,qE,Bool.not_eq_true']at hi;exact hno hi.1.2
def KM(m:aP):Prop:=∀(i:Nat) s,m.S[i]?=some s->KS s
theorem KM.put(h:KM m)(i:Nat){s:eU}(hs:KS s):KM (m.put i s):=by
 intro j u hj;rw[(gG _ _ _).1]at hj;rcases dz hj with⟨_,rfl⟩|⟨_,hj⟩
 ·exact hs
 ·exact h j u hj
theorem KM.S{m':aP}(h:KM m)(e:m'.S=m.S):KM m':=λi s hs=>h i s (by rw[<-e];exact hs)
theorem PW{z:St}(hm:KM m)(h:I4 J i (m,e) P {st with nd:=some z} z.ot)(k:Ka B z)(hF:KY (jl st.bD))(hJ:z.bq=false->(∃L,st.bD=bA L)∧xR B (jl st.bD)):I4 (λz P=>J z P∧KM z.1) i (m,e) P {st with nd:=some z} z.ot:=by
 obtain⟨a,b⟩:=aar k hF hJ;exact⟨λx=>⟨h.idle x,hm.put i (b x)⟩,λx y=>⟨h.whole x y,hm.put i a⟩,λx y=>⟨h.Z6 x y,hm.put i a⟩⟩
theorem um{u:St}{now:Int}(hm:KM m)(hs:m.S[i]?=some st)(hu:st.nd=some u)(k:fJ c n (u.locked.begin now) s')(h:I4 J i (m,e) P {st with nd:=some s'.finish.freed} s'.finish.freed.ot):I4 (λz P=>J z P∧KM z.1) i (m,e) P {st with nd:=some s'.finish.freed} s'.finish.freed.ot:=by
 have ks:=hm i st hs;exact PW hm h (Ur k (ks.on u hu).1) ks.few λ_=>(ks.on u hu).2
theorem Uq(o:Op):BQ (λ_ z=>FK z.1∧KM z.1) (λ_ i z P=>WI i z P∧KM z.1) o:=by
 have F:=KC o;refine⟨λ_ _ h=>h,λk i z h=>⟨F.out k i z h.1,h.2⟩,λk i=>⟨λm e f P h=>⟨(F.did k i).send m e f P h.1,KM.S h.2 (g_ m i f).1⟩,λm e P f s z h h1 h2 hs hz=> ?_⟩,λk0 m e a r h=>⟨F.evn k0 m e a r h.1,h.2⟩,?_,?_,λm e a b c h=>⟨F.tim m e a b c h.1,h.2⟩,?_,λk0 m e k f hf ho h=>⟨F.land k0 m e k f hf ho h.1,h.2⟩,?_,λk0 m e k f hf ho h=>⟨F.twice k0 m e k f hf ho h.1,h.2⟩,λk0 m e k f n hf ho hn h=>⟨F.cut k0 m e k f n hf ho hn h.1,h.2⟩,?_,?_,?_,?_⟩
 ·have hw:=(F.did k i).brk m e P f s z h.1 h1 h2 hs hz;obtain⟨s',k1,k2⟩:=DC z m.now f.1;rw[k2]at hw ⊢;exact um (KM.S h.2 (g_ m i f).1) hs hz k1 hw
 ·intro k0 m e a b ha hb ho h;refine⟨F.link k0 m e a b ha hb ho h.1,?_⟩;have hm:KM m:=h.2;show KM (m.link a b o.on);unfold aP.link;split
  ·exact hm
  ·have hk:∀(m:aP) (c:Nat) (L:List Bool),KM m->KM (m.put c {m.at' c with hrs:=L}):=by
    intro m c L hm;by_cases hc:c<m.S.length
    ·have hs:=bW hc;rw[gL hs];have k:=hm c _ hs;exact hm.put c ⟨k.off,k.on⟩
    ·intro j u hj;rw[(gG _ _ _).1,List.set_eq_of_length_le (by omega)]at hj;exact hm j u hj
   exact hk _ b _ (hk m a _ hm)
 ·intro m e a b s z hs hz hb ho h1 h2 h3 h4 h5 h;have hw:=F.snd m e a b s z hs hz hb ho h1 h2 h3 h4 h5 h.1;obtain⟨n,s',k1,k2⟩:=Cc z m.now (m.at' b).addr o.txt;rw[k2]at hw ⊢;exact um h.2 hs hz k1 hw
 ·intro k0 m e i s z hs hz ho h;have hw:=F.kJ k0 m e i s z hs hz ho h.1;obtain⟨s',k1,k2⟩:=BX z m.now (h.1.2 i s z hs hz).JF;rw[k2]at hw ⊢;exact um h.2 hs hz k1 hw
 ·intro k0 m e k f s z hf hs hz ho h;have hw:=F.rcv k0 m e k f s z hf hs hz ho h.1;obtain⟨n,s',k1,k2⟩:=xH z m.now (m.at' f.1).addr (aV f.2.2) λq hq=>((h.1.2 _ s z hs hz).JF q hq).1;rw[k2]at hw ⊢;exact um (m:={m with bH:=m.bH.eraseIdx k}) h.2 hs hz k1 hw
 ·intro k0 m e a b s z hs hz hb ho h;have hw:=F.inj k0 m e a b s z hs hz hb ho h.1;obtain⟨n,s',k1,k2⟩:=xH z m.now (m.at' b).addr (aV o.txt) λq hq=>((h.1.2 a s z hs hz).JF q hq).1;rw[k2]at hw ⊢;exact um h.2 hs hz k1 hw
 ·intro k0 m e a s hs h;exact⟨F.stop k0 m e a s hs h.1,KM.put h.2 a (PV rfl (h.2 a s hs).few)⟩
 ·intro k0 m e a s n hs h;have k:=h.2 a s hs;exact⟨F.Z8 k0 m e a s n hs h.1,KM.put h.2 a ⟨k.off,k.on⟩⟩
 ·intro k0 m e a s hs hz h;obtain⟨k1,k2⟩:=XE s.addr s.bD m.now;refine PW h.2 (F.Gi k0 m e a s hs hz h.1) k1 (h.2 a s hs).few λhr=> ?_;rw[k2 hr,show jl []=[]from rX []];exact⟨⟨[],rfl⟩,λr hr=>(by cases hr)⟩
theorem KM.step(h:KM m)(hf:FK m)(o:Op):KM (m.step o).1:=(x_ (Uq o) (e:=[]) (λf hf'=>(hf.1 f hf').2.1) (n:=m.S.length+1) (aA _) ⟨hf,h⟩).2
theorem XC(L:List Int):KM (aP.new L):=by
 intro i s hs;obtain⟨a,_,rfl⟩:=dO.1 (jY (show(L.map λa=>(⟨a,bA (St.new a [] 0).aY,some (St.new a [] 0),List.replicate 6 false,false,0⟩:eU))[i]?=some s from hs));refine CU (z:=St.new a [] 0) rfl (bX _) ⟨_,rfl⟩ ?_;show xR _ (jl (bA (St.new a [] 0).aY));rw[rX,show(St.new a [] 0).aY.map norm=[(true,0,1)]from rfl];intro r hr e;rw[fD]at hr;subst hr;cases e
structure SB(w:World)(n i:Nat)(y:MG)(m:aP)(W:World):Prop extends SQ w n i y m W where
 km:KM m
theorem SB.later(h:SB w n i y m W)(hb:Below W.heap.size W W'):SB w n i y m W':=⟨h.toSQ.later hb,h.km⟩
theorem SB.asked(h:SB w n i y m W)(hp:MP y m m W W'):∃y',y'.G=y.G∧SB w n i y' m W':=by
 obtain⟨y',h1,h2⟩:=h.toSQ.asked hp;exact⟨y',h1,h2,h.km⟩
theorem abv(h:SB w n i y m W)(hi:i<=4096)(o:Op)(ht:o.dU=8->o.txt.size<=65536):
  Calls Tryz.prog 11 #[.pointer (some ⟨y.G,0,none⟩),Pd o] W λe W'=>∃v L y',e=.returned v∧L.map (·.1)=(m.step o).2∧f_ W.heap.size v L W'∧y'.G=y.G∧MU y m y' (m.step o).1 W W'∧SB w n (i+1) y' (m.step o).1 W':=by
 refine(adq h.toSQ hi o ht λi s hs _=>(h.km i s hs).few).mono ?_;rintro e W' ⟨v,L,y',a,b,c,d,f,g⟩;exact⟨v,L,y',a,b,c,d,f,g,h.km.step h.fk o⟩
variable{t:Nat}
theorem Vw{bs g c:Nat}{Lr:List (Rt×Value)}{W:World}{d0:Int}(hls:vV bs (.slice (some ⟨g,0,none⟩) Lr.length c) Lr W)(t1:∀x∈Lr.map (·.1),x.bG.length<=4∧(x.valid=false->x.bG=[])∧x.dest≠d0)(t2:Asc (Lr.map (·.1))){t:Nat}(htn:t<Lr.length):
  ∃(dd:Int) (bv:Bool) (ab:Option Addr) (nb cb:Nat),W.cell? ⟨g,t * 7,none⟩=some (.int .u32 dd)∧W.cell? ⟨g,t * 7+4,none⟩=some (.bool bv)∧W.cell? ⟨g,t * 7+6,none⟩=some (.slice ab nb cb)∧decide (4<(nb:Int))=false∧(bv=false->nb=0)∧(dd==d0)=false∧(0<t->∃d,W.cell? ⟨g,(t - 1)* 7,none⟩=some (.int .u32 d)∧W.cell? ⟨g,((t:Int) - 1).toNat * 7,none⟩=some (.int .u32 d)∧decide (d>=dd)=false):=by
 obtain⟨p,hp⟩:∃p,Lr[t]?=some p:=⟨_,bW htn⟩;obtain⟨x1,x2,x3⟩:=t1 p.1 (dO.2 ⟨p,jY hp,rfl⟩);have k0:=(hls.row.cellAt (t * 7+0) (by omega)).trans (zT hp (by decide));have k4:=(hls.row.cellAt (t * 7+4) (by omega)).trans (zT hp (by decide));have k6:=(hls.row.cellAt (t * 7+6) (by omega)).trans (zT hp (by decide));obtain⟨ab,cb,hpv,_⟩:=ak (hls.bG p (jY hp));obtain⟨x,xv⟩:=p;dsimp only at x1 x2 x3 hpv;subst hpv;refine⟨x.dest,x.valid,ab,x.bG.length,cb,k0,k4,k6,dL (by omega),λh=>by rw[x2 h];rfl,by simpa using x3,?_⟩;intro h0;obtain⟨p',hp'⟩:∃p',Lr[t - 1]?=some p':=⟨_,bW (by omega)⟩;have hc:=(hls.row.cellAt ((t - 1)* 7+0) (by omega)).trans (zT hp' (by decide));refine⟨p'.1.dest,hc,by rw[show((t:Int) - 1).toNat=t - 1 by omega];exact hc,dL ?_⟩;have:=Asc.get t2 (i:=t - 1) (j:=t) (x:=p'.1) (y:=x) (by rw[lu,hp'];rfl) (by rw[lu,hp];rfl) (by omega);omega
theorem Vm(h:0<t):decide (0<(t:Int))=true∧decide (0<t)=true:=⟨eX (by omega),eX h⟩
theorem Q9(h:t=0):decide (0<(t:Int))=false∧decide (0<t)=false:=⟨dL (by omega),dL (by omega)⟩
theorem Pv{l:Nat}(h0:t≠0)(hl:t<l):0<t∧(0:Int)<(t:Int)∧0<=(t:Int) - 1∧(t:Int) - 1<(l:Int):=by omega
theorem P8{jn c0:Nat}(h:jn=13 * c0)(h0:0<c0)(h1:c0<=24):((jn:Int)==0)=false∧(jn:Int).tmod 13=0∧decide (312<(jn:Int))=false:=by
 refine⟨by simp;omega,?_,dL (by omega)⟩;rw[Int.tmod_eq_emod_of_nonneg (by omega)];omega
theorem GD(nodes:Int)(hn0:-9223372036854775808<=nodes∧nodes<=9223372036854775807)(ao:Option Addr)(N c:Nat)(L:List Op)(hN:L.length=N)(w:World)(hL:fU w ao (OpC L)):
  Calls Tryz.prog 6 #[.int .i64 nodes,.slice ao N c] w λe w'=>e=.returned (.bool true)∧Below w.heap.size w w':=by
 obtain⟨n,hn2,ZJ,hpk,hpw⟩:=aam (c:=nodes);have HP:=hide (OX nodes 5 hn0.1 hn0.2 (by decide) (by decide) w);have HR:=hide (TN n ⟨by omega,ZJ⟩ w);go_enter Tryz.func6,Tryz.ntmps6;go_upto_region 2 with(go_at_call 9;refine HP.out.mono ?_;rintro e w2 ⟨rfl,hw2⟩;have hw3:=hw2.symm;subst hw3;clear hw2);clear HP hpk hpw;go_upto_region 3 with(go_at_call 10;refine HR.out.mono ?_;rintro e w3 ⟨y,rfl,hq⟩);replace hq:=hide hq;have hb3:=hq.out.bl;clear HR;by_cases h4:4096<N
 ·have e1:decide (4096<(N:Int))=true:=eX (by omega);clear hq hL;go_wp2;go_ret;exact⟨rfl,hb3⟩
 have e1:decide (4096<(N:Int))=false:=dL (by omega);obtain⟨G,hG⟩:∃G,y.G=G:=⟨_,rfl⟩;rw[hG];have Si:Hid (∃(c:Nat) (y:MG) (m:aP),c<=0∧y.G=G∧SB w n c y m w3):=⟨0,y,_,aA _,hG,hq.out,XC _⟩;clear hq hb3 hG;go_wp2_with fail;go_loopw [7] (λi wr=>∃(k:Nat),k<=N∧i=.int .i64 k∧Hid (∃(c:Nat) (y:MG) (m:aP),c<=k∧y.G=G∧SB w n c y m wr)) (λi _=>N - (intOf i).toNat)
 case atStart=>exact⟨0,bX _,rfl,Si⟩
 case round=>
  clear Si;obtain⟨k,hk,rfl,hq⟩:=hrel;by_cases hlt:k<N
  ·have hki:(k:Int)<(N:Int):=by omega
   obtain⟨o,ho⟩:∃o,L[k]?=some o:=⟨_,bW (by omega)⟩;have hLw:Hid (∀W,Below w.heap.size w W->∃g f,ao=some ⟨g,f,none⟩∧g<W.heap.size∧W.cell? ⟨g,f+k * 6,none⟩=some (.int .i64 o.dU)∧W.cell? ⟨g,f+k * 6+1,none⟩=some (.int .i64 o.a)∧W.cell? ⟨g,f+k * 6+2,none⟩=some (.int .i64 o.b)∧W.cell? ⟨g,f+k * 6+3,none⟩=some (.int .i64 o.n)∧W.cell? ⟨g,f+k * 6+4,none⟩=some (.bool o.on)∧W.cell? ⟨g,f+k * 6+5,none⟩=some (.string o.txt)):=hide λW hb=>Za (hL.below hb) ho;obtain⟨c1,y,m,hck,hG,hs⟩:=hq.out;obtain⟨g,f,rfl,hgl,d0,d1,d2,d3,d4,d5⟩:=hLw.out wr hs.bl;by_cases ht:65536<o.txt.size
   ·have e2:decide (65536<(o.txt.size:Int))=true:=eX (by omega);have hgo:Hid (∃(k':Nat),k'<=N∧(.int .i64 ((k:Int)+1):Value)=.int .i64 k'∧Hid (∃(c:Nat) (y:MG) (m:aP),c<=k'∧y.G=G∧SB w n c y m wr)):=⟨k+1,by omega,by simp,c1,y,m,by omega,hG,hs⟩;have hwk:=hide (Oc (h:=k) (by omega));clear hs hq hLw ho d0 d1 d2 d3 d4;go_wp2;go_roundw
    case rel=>exact hgo.out
    case measure=>exact jP hlt
   ·have e2:decide (65536<(o.txt.size:Int))=false:=dL (by omega);have HD:=hide (abv hs (by omega) o λ_=>by omega);rw[hG]at HD;obtain⟨dU,a,b,num,on,txt⟩:=o;unfold Pd at HD;dsimp only at d0 d1 d2 d3 d4 d5 e2 ht HD;clear hs hq hG;go_upto_if 36 with(fail);go_upto_region 42 with(go_at_call 11;refine HD.out.mono ?_;rintro e w4 ⟨v,Lv,y',rfl,hLv,hev,hG',hmu,hs⟩;clear hmu);have zl:=hs.ok.bH;have HA:=hide (abD hs.mm (by omega));rw[hG']at HA;have hs1:=hide hs;obtain⟨m1,hm1⟩:∃m1,(m.step ⟨dU,a,b,num,on,txt⟩).1=m1:=⟨_,rfl⟩;rw[hm1]at HA zl hs1;clear hs hev hLv hm1 HD hLw ho d0 d1 d2 d3 d4 d5 e2 ht hgl hL;go_upto_region 44 with(go_at_call 17;refine HA.out.mono ?_;rintro e w5 ⟨va,rfl,hra,hb5⟩);obtain⟨aa,ca,rfl,_⟩:=ak hra;have e3:decide (48<(m1.bH.length:Int))=false:=dL (by omega);have hs3:Hid (∃(c:Nat) (y:MG) (m:aP),c<=k+1∧y.G=G∧SB w n c y m w5):=⟨c1+1,y',_,by omega,hG',hs1.out.later hb5⟩;clear hs1 HA hra hb5;go_wp2_with fail;go_simp;go_wp2_with fail;go_loopw [9] (λi wr=>∃(j:Nat),j<=n∧i=.int .i64 j∧Hid (∃(c:Nat) (y:MG) (m:aP),c<=k+1∧y.G=G∧SB w n c y m wr)) (λi _=>n - (intOf i).toNat)
    case atStart=>exact⟨0,bX _,rfl,hs3⟩
    case round=>
     clear hs3;obtain⟨j,hj,rfl,hq⟩:=hrel;by_cases hjn:j<n
     ·have aaR:(j:Int)<(n:Int):=by omega
      obtain⟨c2,y2,m2,hc2,hG2,hs⟩:=hq.out;obtain⟨t1,t2,t3,t4,t5,t6⟩:=hs.tab hjn;have HT:=hide (RU hs.mm j (by rw[hs.len];exact hjn) t4);rw[hG2]at HT;replace t1:=hide t1;replace t2:=hide t2;replace t5:=hide t5;replace t6:=hide t6;have hs1:=hide hs;clear hs hq t4;go_upto_region 55 with(go_at_call 12;refine HT.out.mono ?_;rintro e w6 ⟨vr,Lr,rfl,UU,hls,hmp⟩);obtain⟨y3,hG3,hs⟩:=hs1.out.asked hmp;replace hG3:=hG3.trans hG2;rw[<-UU]at t1 t2 t3;rw[jq]at t3;obtain⟨ar,cr,rfl,_⟩:=ak hls.row;have e4:decide (8<(Lr.length:Int))=false:=dL (by omega);replace hs1:=hide hs;clear hs HT hmp hG2;obtain⟨bs,hbs⟩:∃b,wr.heap.size=b:=⟨_,rfl⟩;rw[hbs]at hls;clear hbs;go_wp2_with fail;go_simp;go_wp2_with fail;go_loopw [11] (λi wr=>∃(t:Nat),t<=Lr.length∧i=.int .i64 t∧vV bs (.slice ar Lr.length cr) Lr wr∧Hid (SB w n c2 y3 m2 wr)) (λi _=>Lr.length - (intOf i).toNat)
      case atStart=>exact⟨0,bX _,rfl,hls,hs1⟩
      case round=>
       clear hls hs1;obtain⟨t,htl,rfl,hls,hs1⟩:=hrel;by_cases htn:t<Lr.length
       ·have hti:(t:Int)<(Lr.length:Int):=by omega
        have ht8:t<1000:=by omega
        have Wi:j<6:=by omega
        obtain⟨gr',cr',he,_⟩:=bS hls.row (by omega);cases he;obtain⟨dd,bv,ab,nb,cb,k0,k4,k6,h4',hb0,hdn,hpr⟩:=Vw hls t1.out t2.out htn;have hgo:Hid (∀q W,wr.drewN q=W->∃(t':Nat),t'<=Lr.length∧(.int .i64 ((t:Int)+1):Value)=.int .i64 t'∧vV bs (.slice (some ⟨gr',0,none⟩) Lr.length cr) Lr W∧Hid (SB w n c2 y3 m2 W)):=hide λq W hW=>hW▸⟨t+1,by omega,by simp,hls.later (below_drewN (aR _ _) q),hide (hs1.out.later (below_drewN (aR _ _) q))⟩;have hw:=Ew Wi;clear hls hs1 t1 t2 t5 t6 hn0 hN hn2 ZJ h4 e1 hk hlt hki hck hG' zl e3 hj hjn aaR hc2 t3 UU hG3 e4 Wi;by_cases ht0:t=0
        ·obtain⟨z1,z2⟩:=Q9 ht0;clear hpr ht0;cases bv with
         |true=>
          clear hb0;go_wp2_with fail;go_simp;go_wp2_with fail;go_quiet (fail);generalize hg:World.drewN _ _=W3;have Iq:=hide (hgo.out _ _ hg);clear hg hgo k0 k4 k6 hw;go_wp2;go_roundw
          case rel=>exact Iq.out
          case measure=>exact jP htn
         |false=>
          obtain rfl:=hb0 rfl;go_wp2_with fail;go_simp;go_wp2_with fail;go_quiet (fail);generalize hg:World.drewN _ _=W3;have Iq:=hide (hgo.out _ _ hg);clear hg hgo k0 k4 k6 hw;go_wp2;go_roundw
          case rel=>exact Iq.out
          case measure=>exact jP htn
        ·obtain⟨htp,adI,hi0,hi1⟩:=Pv ht0 htn;obtain⟨d,kd,kd',hdd⟩:=hpr htp;obtain⟨z1,z2⟩:=Vm htp;clear hpr ht0;cases bv with
         |true=>
          clear hb0;go_wp2_with fail;go_simp;go_wp2_with fail;go_quiet (fail);generalize hg:World.drewN _ _=W3;have Iq:=hide (hgo.out _ _ hg);clear hg hgo k0 k4 k6 hw kd kd';go_wp2;go_roundw
          case rel=>exact Iq.out
          case measure=>exact jP htn
         |false=>
          obtain rfl:=hb0 rfl;go_wp2_with fail;go_simp;go_wp2_with fail;go_quiet (fail);generalize hg:World.drewN _ _=W3;have Iq:=hide (hgo.out _ _ hg);clear hg hgo k0 k4 k6 hw kd kd';go_wp2;go_roundw
          case rel=>exact Iq.out
          case measure=>exact jP htn
       ·obtain rfl:t=Lr.length:=by omega
        have HRu:=hide (Jk hs1.out.mm (j:Int));have HJ:=hide (NH hs1.out.mm j (by rw[hs1.out.len];exact hjn) (by have:=t5.out;omega));rw[hG3]at HRu HJ;obtain⟨rr,hrr⟩:∃rr,m2.runs (j:Int)=rr:=⟨_,rfl⟩;obtain⟨jn,aaS⟩:∃jn,(m2.at' j).bD.length=jn:=⟨_,rfl⟩;have hfin:Hid (∀W,Below wr.heap.size wr W->∃(j':Nat),j'<=n∧(.int .i64 ((j:Int)+1):Value)=.int .i64 j'∧Hid (∃(c:Nat) (y:MG) (m:aP),c<=k+1∧y.G=G∧SB w n c y m W)):=hide λW hW=>⟨j+1,by omega,by simp,c2,y3,m2,hc2,hG3,hs1.out.later hW⟩;rw[hrr]at HRu t6;rw[aaS]at HJ t6;clear hls hs1 t1 t2 t5 htl htn;have hwj:=hide (Oc (h:=j) (by omega));clear hn0 hN hn2 ZJ h4 e1 hk hlt hki hck hG' zl e3 hj aaR hc2 t3 UU hG3 e4 hrr aaS;cases rr with
        |false=>
         clear t6;go_wp2_with fail;go_simp;go_wp2_with(first|(go_at_call 13;refine HRu.out.mono ?_;rintro e w7 ⟨rfl,hw7⟩;have hw8:=hw7.symm;subst hw8;clear hw7)|(go_at_call 18;refine HJ.out.mono ?_;rintro e w9 ⟨vj,rfl,hrj,hbj⟩;have hfn:=hide (hfin.out w9 hbj);obtain⟨aj,cj,rfl,_⟩:=ak hrj;clear hrj hbj));go_roundw
         case rel=>rw[hwj.out];exact hfn.out
         case measure=>rw[hwj.out];exact jP hjn
        |true=>
         obtain⟨c0,hjc,hc0,hc24⟩:=t6.out rfl;obtain⟨b1,b2,b3⟩:=P8 hjc hc0 hc24;clear t6 hjc hc0 hc24;go_wp2_with fail;go_simp;go_wp2_with(first|(go_at_call 13;refine HRu.out.mono ?_;rintro e w7 ⟨rfl,hw7⟩;have hw8:=hw7.symm;subst hw8;clear hw7)|(go_at_call 18;refine HJ.out.mono ?_;rintro e w9 ⟨vj,rfl,hrj,hbj⟩;have hfn:=hide (hfin.out w9 hbj);obtain⟨aj,cj,rfl,_⟩:=ak hrj;clear hrj hbj));go_roundw
         case rel=>rw[hwj.out];exact hfn.out
         case measure=>rw[hwj.out];exact jP hjn
     ·obtain rfl:j=n:=by omega
      have hgo:Hid (∃(k':Nat),k'<=N∧(.int .i64 ((k:Int)+1):Value)=.int .i64 k'∧Hid (∃(c:Nat) (y:MG) (m:aP),c<=k'∧y.G=G∧SB w j c y m wr)):=⟨k+1,by omega,by simp,hq.out⟩;have hwk:=hide (Oc (h:=k) (by omega));clear hq hj;clear hn0 hN hn2 ZJ h4 e1 hk hki hck hG' zl e3;go_wp2;go_roundw
      case rel=>rw[hwk.out];exact hgo.out
      case measure=>rw[hwk.out];exact jP hlt
  ·obtain rfl:k=N:=by omega
   obtain⟨c,y,m,_,_,hs⟩:=hq.out;have hfin:=hs.bl;clear hs hq hL;go_wp2;go_ret;exact⟨rfl,hfin⟩
end Go.Proofs.YtakaadcpaeiccabGreat
