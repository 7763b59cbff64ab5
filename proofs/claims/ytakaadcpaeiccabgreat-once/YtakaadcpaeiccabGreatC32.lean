import Derived.Test.YtakaadcpaeiccabGreatC31
import Derived.ChangeMaps5
import Derived.Lib.SmallJoins
set_option maxHeartbeats 4000000
set_option maxRecDepth 100000
namespace Go.Proofs.YtakaadcpaeiccabGreat
variable{b:ByteArray}{m:aP}{φ:aP->Int×ByteArray->aP×List Ev}{i j:Nat}{o:Op}
abbrev kQ:=List (Int×ByteArray)
abbrev zZ:=aP×List Ev
structure N8(J:zZ->kQ->Prop)(i:Nat)(z:zZ)(P:kQ)(s:bG)(o:Ot):Prop where
 idle:o.idle=true->J (z.1.put i s,z.2) P
 whole:o.idle=false->(s.write o).2=true->J (z.1.put i (s.write o).1,z.2++ [⟨i,0,o⟩]) (o.aI++P)
 aez:o.idle=false->(s.write o).2=false->J (z.1.put i (s.write o).1,z.2++ [⟨i,0,Ot.none⟩]) P
structure VT(J:zZ->kQ->Prop)(i:Nat):Prop where
 send:∀m e f P,J (m,e) (f::P)->J (m.bK i f,e) P
 brk:∀m e P f s z,J (m,e) (f::P)->f.1≠0->m.heard i f.1=[]->(m.bK i f).S[i]?=some s->s.nd=some z->N8 J i (m.bK i f,e) P {s with nd:=some (z.brk m.now f.1)} (z.brk m.now f.1).ot
theorem Jr(φ:aP->Int×ByteArray->aP×List Ev)(a:List Ev):∀(L:kQ) (m:aP) (b:List Ev),L.foldl (uH φ) (m,a++b)=((L.foldl (uH φ) (m,b)).1,a++(L.foldl (uH φ) (m,b)).2)
 | [],_,_=>rfl
 |f::L,m,b=>by
  rw[fP,fP];unfold uH;dsimp only;rw[List.append_assoc];exact Jr φ a L _ _
theorem ZX{J:zZ->kQ->Prop}(hφ:∀m e f P,J (m,e) (f::P)->J ((φ m f).1,e++(φ m f).2) P):∀(L:kQ) (z:zZ) (P:kQ),J z (L++P)->J (L.foldl (uH φ) z) P
 | [],_,_,h=>h
 |f::L,z,P,h=>by
  rw[fP];exact ZX hφ L _ P (hφ z.1 z.2 f (L++P) h)
theorem Xr(m:aP)(i:Nat)(s s':bG):(m.put i s).put i s'=m.put i s':=by
 unfold aP.put;dsimp only;rw[List.set_set]
theorem ack(hi:i<m.S.length)(s:bG):(m.put i s).at' i=s:=dX (by rw[(gQ _ _ _).1,List.getElem?_set_self hi])
theorem Jq{J:zZ->kQ->Prop}(hφ:∀m e f P,J (m,e) (f::P)->J ((φ m f).1,e++(φ m f).2) P){m:aP}{e:List Ev}{P:kQ}{s:bG}{o:Ot}(hi:i<m.S.length)(h:N8 J i (m,e) P s o):J (((m.put i s).jG φ i o).1,e++((m.put i s).jG φ i o).2) P:=by
 unfold aP.jG;rw[ack hi,Xr];split
 ·rename_i hd;rw[gU];exact h.idle hd
 ·rename_i hd;have hd':o.idle=false:=by simpa using hd
  split
  ·rename_i hw;have h1:=ZX hφ o.aI _ P (h.whole hd' hw);rw[Jr]at h1;exact h1
  ·rename_i hw;exact h.aez hd' (by simpa using hw)
theorem YV{J:zZ->kQ->Prop}(hJ:VT J i){m:aP}{e:List Ev}{P:kQ}{s:bG}{o:Ot}(hi:i<m.S.length)(h:N8 J i (m,e) P s o):J (((m.put i s).did i o).1,e++((m.put i s).did i o).2) P:=by
 refine Jq (φ:=aP.jg i) (λm e f P hj=> ?_) hi h;have h1:=hJ.send m e f P hj;unfold aP.jg;split
 ·rw[gU];exact h1
 ·rename_i hne;simp only[not_or,Classical.not_not]at hne;split
  ·rw[gU];exact h1
  ·rename_i z hz;have hi2:i<(m.bK i f).S.length:=by
    refine Nat.lt_of_not_le λhle=> ?_;unfold aP.at' at hz;rw[List.getD_eq_getElem?_getD,List.getElem?_eq_none hle]at hz;cases hz
   have hs:=cK hi2;have hz':((m.bK i f).S[i]).nd=some z:=by rw[dX hs]at hz;exact hz
   have h2:=hJ.brk m e P f _ z hj hne.2 hne.1 hs hz';rw[dX hs];refine Jq (φ:=aP.nU i) (λm e f P hj=> ?_) hi2 h2;rw[show(aP.nU i m f).2=[]from rfl,gU];exact hJ.send m e f P hj
structure Cb(I:Nat->zZ->Prop)(J:Nat->Nat->zZ->kQ->Prop)(o:Op):Prop where
 mono:∀k z,I (k+1) z->I k z
 out:∀k i z,J k i z []->I k z
 did:∀k i,VT (J k i) i
 evn:∀k0 m e a r,I k0 (m,e)->I k0 (m,e++ [⟨a,r,Ot.none⟩])
 link:∀k0 m e (a b:Nat),a<m.S.length->b<m.S.length->o.dK=1->I k0 (m,e)->I k0 (m.link a b o.on,e)
 snd:∀m e (a b:Nat) s z,m.S[a]?=some s->s.nd=some z->b<m.S.length->o.dK=2->o.a=a->o.b=b->o.txt.size<=16->(m.at' b).addr≠z.me->(m.at' b).addr≠0->I 1 (m,e)->N8 (J 0 a) a (m,e) [] {s with nd:=some (z.snd m.now (m.at' b).addr o.txt)} (z.snd m.now (m.at' b).addr o.txt).ot
 tim:∀m e,1<=o.n->o.n<=60000->o.dK=3->I (m.S.length+1) (m,e)->I m.S.length ({m with now:=m.now+o.n},e)
 jY:∀k0 m e (i:Nat) s z,m.S[i]?=some s->s.nd=some z->o.dK=3->I (k0+1) (m,e)->N8 (J k0 i) i (m,e) [] {s with nd:=some (z.jY m.now)} (z.jY m.now).ot
 land:∀k0 m e (k:Nat) f,m.bD[k]?=some f->o.dK=4∨o.dK=5->I k0 (m,e)->I k0 ({m with bD:=m.bD.eraseIdx k},e)
 rcv:∀k0 m e (k:Nat) f s z,m.bD[k]?=some f->m.S[f.2.1]?=some s->s.nd=some z->o.dK=4->I (k0+1) (m,e)->N8 (J k0 f.2.1) f.2.1 ({m with bD:=m.bD.eraseIdx k},e) [] {s with nd:=some (z.rcv m.now (m.at' f.1).addr (ak f.2.2))} (z.rcv m.now (m.at' f.1).addr (ak f.2.2)).ot
 twice:∀k0 m e (k:Nat) f,m.bD[k]?=some f->o.dK=6->I k0 (m,e)->I k0 (m.launch f,e)
 cut:∀k0 m e (k:Nat) f n,m.bD[k]?=some f->o.dK≠1->n<=f.2.2.size->I k0 (m,e)->I k0 ({m with bD:=m.bD.set k (f.1,f.2.1,f.2.2.extract 0 n)},e)
 inj:∀k0 m e (a b:Nat) s z,m.S[a]?=some s->s.nd=some z->b<m.S.length->o.dK=8->I (k0+1) (m,e)->N8 (J k0 a) a (m,e) [] {s with nd:=some (z.rcv m.now (m.at' b).addr (ak o.txt))} (z.rcv m.now (m.at' b).addr (ak o.txt)).ot
 stop:∀k0 m e (a:Nat) s,m.S[a]?=some s->I k0 (m,e)->I k0 (m.put a s.stop,e)
 aeA:∀k0 m e (a:Nat) s n,m.S[a]?=some s->I k0 (m,e)->I k0 (m.put a {s with tears:=true,whole:=max 0 n},e)
 Lh:∀k0 m e (a:Nat) s,m.S[a]?=some s->s.nd=none->I (k0+1) (m,e)->N8 (J k0 a) a (m,e) [] {s with nd:=some (St.new s.addr s.aZ m.now)} (St.new s.addr s.aZ m.now).ot
theorem wD{I:Nat->zZ->Prop}{J:Nat->Nat->zZ->kQ->Prop}(h:Cb I J o){k0:Nat}{m:aP}{e:List Ev}{i:Nat}{s:bG}{z:St}(hs:m.S[i]?=some s)(hw:N8 (J k0 i) i (m,e) [] {s with nd:=some z} z.ot):I k0 ((m.act i z).1,e++(m.act i z).2):=by
 rw[BV hs];exact h.out k0 i _ (YV (h.did k0 i) (fu.1 hs).1 hw)
theorem GA{I:Nat->zZ->Prop}{J:Nat->Nat->zZ->kQ->Prop}(h:Cb I J o)(ho:o.dK=3)(e:List Ev):∀(l:List Nat) (z:zZ),I l.length (z.1,e++z.2)->I 0 ((l.foldl aP.sP z).1,e++(l.foldl aP.sP z).2)
 | [],_,hz=>hz
 |i::l,z,hz=>by
  rw[fP];refine GA h ho e l _ ?_;rw[dY]at hz;unfold aP.sP;split
  ·exact h.mono _ _ hz
  ·rename_i s hs;have hi2:i<z.1.S.length:=by
    refine Nat.lt_of_not_le λhle=> ?_;unfold aP.at' at hs;rw[List.getD_eq_getElem?_getD,List.getElem?_eq_none hle]at hs;cases hs
   have hu:=cK hi2;have hs':(z.1.S[i]).nd=some s:=by rw[dX hu]at hs;exact hs
   have h1:=wD h hu (h.jY _ z.1 (e++z.2) i _ s hu hs' ho hz);dsimp only;rw[<-List.append_assoc];exact h1
theorem DZ(h:(m.at' i).nd=none):m.hear i j b=(m,[]):=by
 unfold aP.hear;rw[h]
theorem DY{s:St}(h:(m.at' i).nd=some s):m.hear i j b=m.act i (s.rcv m.now (m.at' j).addr (ak b)):=by
 unfold aP.hear;rw[h]
theorem vg{I:Nat->zZ->Prop}{J:Nat->Nat->zZ->kQ->Prop}(h:Cb I J o){m:aP}{e:List Ev}(hfl:∀f∈m.bD,f.2.1<m.S.length){n:Nat}(hn:m.S.length+1<=n)(hIn:I n (m,e)):I 0 ((m.step o).1,e++(m.step o).2):=by
 have Uo:∀(k j:Nat) (z:zZ),I (k+j) z->I k z:=by
  intro k j
  induction j with
  |zero=>exact λz h=>h
  |succ j ih=>exact λz hz=>ih z (h.mono _ _ hz)
 have hI:I 0 (m,e):=Uo 0 n _ (by rw[Nat.zero_add];exact hIn);have hI1:I (0+1) (m,e):=Uo 1 (n - 1) _ (by rw[show 1+(n - 1)=n by omega];exact hIn);have hIS:I (m.S.length+1) (m,e):=Uo _ (n - (m.S.length+1)) _ (by rw[show m.S.length+1+(n - (m.S.length+1))=n by omega];exact hIn);unfold aP.step;split
 ·exact h.evn _ _ _ _ _ hI
 rename_i hmay;have kI:m.may o=true:=by simpa using hmay
 unfold aP.may at kI;split
 ·rename_i h1;rw[aM h1,eF]at kI;obtain⟨i,hi,hil⟩:=kJ kI.1;obtain⟨j,hj,hjl⟩:=kJ kI.2;rw[hi,hj,jm,jm,gU];exact h.link _ m e i j hil hjl h1 hI
 rename_i h1;rw[aH h1]at kI;split
 ·rename_i h2;rw[aM (.inl h2),eF]at kI;obtain⟨i,hi,hil⟩:=lI kI.1;obtain⟨j,hj,hjl⟩:=kJ kI.2;rw[hi,hj,jm,jm];have hs:=cK hil;unfold aP.send;rw[dX hs];split
  ·rw[gU];exact hI
  ·rename_i z hz;split
   ·exact h.evn _ _ _ _ _ hI
   ·rename_i hsz;split
    ·exact h.evn _ _ _ _ _ hI
    ·rename_i hd;simp only[not_or]at hd;exact wD h hs (h.snd m e i j _ z hs hz hjl h2 hi hj (by omega) hd.1 hd.2 hI1)
 rename_i h2;split
 ·rename_i h3;unfold aP.tick;split
  ·rw[gU];exact hI
  ·rename_i hn;simp only[not_or]at hn;refine GA h h3 e _ _ ?_;rw[gU,List.length_range];exact h.tim m e (by omega) (by omega) h3 hIS
 rename_i h3;split
 ·rename_i h4;unfold aP.flight;split
  ·rw[gU];exact hI
  ·rename_i hn;simp only[not_or]at hn;dsimp only;have hk:o.a.toNat%m.bD.length<m.bD.length:=Nat.mod_lt _ (by omega);generalize o.a.toNat%m.bD.length=k at hk;obtain⟨f,hf⟩:∃f,m.bD[k]?=some f:=⟨_,cK hk⟩;have hgd:m.bD.getD k (0,0,⟨#[]⟩)=f:=by rw[List.getD_eq_getElem?_getD,hf];rfl
   rw[hgd];have afr:=hfl f (gI hf);split
   ·rename_i h5;have hs:=cK afr;have ha:({m with bD:=m.bD.eraseIdx k}:aP).at' f.2.1=m.S[f.2.1]:=dX (m:={m with bD:=m.bD.eraseIdx k}) hs;cases hz:(m.S[f.2.1]).nd with
    |none=>
     rw[DZ (by rw[ha];exact hz),gU];exact h.land _ m e k f hf (.inl h5) hI
    |some z=>
     rw[DY (by rw[ha];exact hz)];exact wD (m:={m with bD:=m.bD.eraseIdx k}) h hs (h.rcv _ m e k f _ z hf hs hz h5 hI1)
   ·split
    ·rename_i h5 h6;rw[gU];exact h.land _ m e k f hf (.inr h6) hI
    ·split
     ·rename_i h6;rw[gU];exact h.twice _ m e k f hf h6 hI
     ·rw[gU];exact h.cut _ m e k f _ hf h1 (Nat.sub_le _ _) hI
 rename_i h4;split
 ·rename_i h8;rw[aM (.inr h8),eF]at kI;obtain⟨i,hi,hil⟩:=lI kI.1;obtain⟨j,hj,hjl⟩:=kJ kI.2;rw[hi,hj,jm,jm];have hs:=cK hil;cases hz:(m.S[i]).nd with
  |none=>
   rw[DZ (by rw[dX hs];exact hz),gU];exact hI
  |some z=>
   rw[DY (by rw[dX hs];exact hz)];exact wD h hs (h.inj _ m e i j _ z hs hz hjl h8 hI1)
 rename_i h8;rw[aH (by simp[h2,h8])]at kI;split
 ·rename_i h9;rw[aM (.inl h9)]at kI;obtain⟨i,hi,hil⟩:=lI kI;rw[hi,jm,gU,dX (cK hil)];exact h.stop _ m e i _ (cK hil) hI
 rename_i h9;split
 ·rename_i h10;rw[aM (.inr h10)]at kI;obtain⟨i,hi,hil⟩:=lI kI;rw[hi,jm,gU,dX (cK hil)];exact h.aeA _ m e i _ _ (cK hil) hI
 rename_i h10;split
 ·rename_i h11;rw[aH (by simp[h9,h10]),aM h11,eF]at kI;obtain⟨i,hi,hil⟩:=kJ kI.1;rw[hi,jm];have hs:=cK hil;unfold aP.Lh;rw[dX hs];have hz:(m.S[i]).nd=none:=by
   have h2:=kI.2;unfold aP.runs at h2;rw[hi,jm,dX hs]at h2;have h3:m.has (i:Int)=true:=by
    unfold aP.has;simp;omega
   rw[h3]at h2;simpa using h2
  exact wD h hs (h.Lh _ m e i _ hs hz hI1)
 ·rw[gU];exact hI
variable{c:sN}{A:List Rt}{m:aP}{n:Nat}{f:Rt->Rt}{s s':St}
def F8(me:Int)(A:List Rt):Prop:=∀y∈A,y.dest≠me∧(y.valid=false->y.bN=[])
theorem En{me:Int}(h:F8 me A)(hf:∀y,(f y).dest=y.dest∧((y.valid=false->y.bN=[])->(f y).valid=false->(f y).bN=[])):F8 me (A.map f):=by
 intro y hy;obtain⟨z,hz,rfl⟩:=dh.1 hy;obtain⟨h1,h2⟩:=h z hz;obtain⟨e1,e2⟩:=hf z;exact⟨by rw[e1];exact h1,e2 h2⟩
theorem uW{me:Int}{d:Int}(h:F8 me A)(hf:∀y,(f y).dest=y.dest∧((y.valid=false->y.bN=[])->(f y).valid=false->(f y).bN=[])):F8 me (gV A d f):=by
 refine En h λy=> ?_;split
 ·exact hf y
 ·exact⟨rfl,λh=>h⟩
theorem Mk{me:Int}(h:F8 me A)(d q hp n e:Int):F8 me (iP me A d q hp n e).1:=by
 unfold iP;split
 ·exact h
 ·rename_i hd;simp only[not_or]at hd;split
  ·split
   ·exact uW h λy=>⟨rfl,λ_ h=>by cases h⟩
   ·exact h
  ·split
   ·exact h
   ·intro y hy;unfold uy at hy;rcases dG.1 hy with hy|hy
    ·exact h y (List.mem_of_mem_take hy)
    ·rcases eD.1 hy with rfl|hy
     ·exact⟨hd.1,λh=>by cases h⟩
     ·exact h y (List.mem_of_mem_drop hy)
theorem Dm(fr q:Int)(y:Rt):(bQ fr q y).dest=y.dest∧((y.valid=false->y.bN=[])->(bQ fr q y).valid=false->(bQ fr q y).bN=[]):=by
 refine⟨eU _ _ y,?_⟩;unfold bQ;split
 ·exact λ_ _=>rfl
 ·exact λh=>h
theorem WM{me:Int}(h:F8 me A)(now:Int):F8 me (iW A now):=by
 refine En h λy=>⟨h_ now y,?_⟩;unfold n_;split
 ·exact λ_ _=>rfl
 ·exact λh=>h
theorem WK{me now:Int}{A':List Rt}(t:Vo me now c A A')(h:F8 me A):F8 me A':=by
 cases t with
 |Wq=>exact Mk h _ _ _ _ _
 |Wp=>exact Mk h _ _ _ _ _
 |use d e=>
  refine uW h λy=>⟨mq e y,?_⟩;unfold sI;split
  ·rename_i hv;exact λ_ h=>by
    dsimp only at h;rw[hv]at h;cases h
  ·exact λh=>h
 |bN d n=>
  refine uW h λy=>⟨lg n y,?_⟩;unfold qF;split
  ·rename_i hv;exact λ_ h=>by
    dsimp only at h;rw[hv.1]at h;cases h
  ·exact λh=>h
 |lose fr p L hc x hx=>exact uW h λy=>Dm fr x.2 y
 |brk d_=>exact En h λy=>Dm d_ 0 y
 |grow d _=>exact uW h λy=>⟨rfl,λh=>h⟩
theorem aam(k:Pr c s s')(h:F8 s.me s.A):F8 s'.me s'.A:=by
 cases k with
 |zw e=>rw[e.me,e.A];exact h
 |tab t=>exact WK t h
 |aJ _ _ _ _ _=>exact h
 |grw=>exact h
 |mx _ _ _ _=>exact h
 |wr=>exact h
theorem WL(k:fU c n s s')(h:F8 s.me s.A):F8 s'.me s'.A:=by
 induction k with
 |nil=>exact h
 |snoc _ k ih=>exact aam k (ih h)
theorem uX{now:Int}(k:fU c n (s.locked.begin now) s')(h:F8 s.me s.A):F8 s'.finish.freed.me s'.finish.freed.A:=by
 have h1:F8 (s.locked.begin now).me (s.locked.begin now).A:=WM h now;have h2:=WL k h1;have e:=aO s';show F8 s'.finish.me s'.finish.A;rw[e.me,e.A];exact h2
structure NK(z:St):Prop where
 Ke:l8 z
 tb:F8 z.me z.A
theorem FQ(h:l8 s):l8 s.finish.freed:=by
 intro q hq;have e:=(aO s).Q;have hq':q∈s.finish.Q:=hq;rw[e]at hq';exact h q hq'
theorem NK.rcv{z:St}(h:NK z)(now fr:Int)(xs:List Int)(hb:∀x∈xs,0<=x∧x<=255):NK (z.rcv now fr xs)∧QW (z.rcv now fr xs).aI:=by
 have h4:∀q∈z.Q,q.txt.length<=4:=λq hq=>(h.Ke q hq).1;obtain⟨n,s',h1,h2⟩:=ED z now fr xs h4;refine⟨⟨FQ (s:=(z.locked.begin now).hear fr xs) λq hq=>h.Ke q ((BJ (z.locked.begin now) fr xs hb h4).qs q hq),?_⟩,?_⟩
 ·rw[h2];exact uX h1 h.tb
 ·rw[h2];exact vT h1
theorem NK.brk{z:St}(h:NK z)(now d_:Int):NK (z.brk now d_)∧QW (z.brk now d_).aI:=by
 obtain⟨s',h1,h2⟩:=F4 z now d_;refine⟨⟨λq hq=> ?_,?_⟩,?_⟩
 ·rw[(wm z now d_).2.2]at hq;exact h.Ke q hq
 ·rw[h2];exact uX h1 h.tb
 ·rw[h2];exact vT h1
theorem Du:∀(D:List Sr) (s:St),(∀q∈D,q.txt.length<=4∧1<=q.ttl∧q.ttl<=8)->l8 s->l8 (D.foldl St.step s)
 | [],_,_,h=>h
 |q::D,s,hD,h=>by
  rw[fP];exact Du D _ (λz hz=>hD z (iJ _ hz)) (G_ h (hD q gm))
theorem NK.jY{z:St}(h:NK z)(now:Int):NK (z.jY now)∧QW (z.jY now).aI:=by
 obtain⟨s',h1,h2⟩:=zM z now h.Ke;refine⟨⟨FQ (s:=(St.j_ z.Q now).foldl St.step (z.locked.begin now)) (Du _ _ (λq hq=>h.Ke q (BM hq)) h.Ke),?_⟩,?_⟩
 ·rw[h2];exact uX h1 h.tb
 ·rw[h2];exact vT h1
theorem OE(h:l8 s)(d:Int)(t:ByteArray):l8 (s.await d t):=by
 unfold St.await;split
 ·rename_i q hq;have hq4:=h q (gZ hq).1;intro z hz;have hz':z∈St.bR s.Q (s.hold q t).2:=hz;rcases fB hz' with rfl|⟨k,_⟩
  ·unfold St.hold;split
   ·rename_i e;dsimp only;rw[dx,List.length_tail,List.length_singleton];exact⟨by omega,hq4.2⟩
   ·dsimp only;rw[dx,List.length_singleton];exact⟨by omega,hq4.2⟩
  ·exact h z k
 ·refine vB (λz hz=> ?_) ⟨by simp[St.ic],by show(1:Int)<=1∧(1:Int)<=8;omega⟩;rcases dG.1 hz with hz|hz
  ·exact h z hz
  ·rw[dO]at hz;subst hz;exact⟨by simp[St.ic],by show(1:Int)<=1∧(1:Int)<=8;omega⟩
theorem NK.snd{z:St}(h:NK z)(now d:Int)(t:ByteArray):NK (z.snd now d t)∧QW (z.snd now d t).aI:=by
 obtain⟨n,s',h1,h2⟩:=Es z now d t;refine⟨⟨FQ (s:=if (bH (z.locked.begin now).A d (z.locked.begin now).now).2 then(z.locked.begin now).aN d t else(z.locked.begin now).await d t) ?_,?_⟩,?_⟩
 ·split
  ·intro q hq;rw[(fq _ _ _).1]at hq;exact h.Ke q hq
  ·exact OE (s:=z.locked.begin now) h.Ke d t
 ·rw[h2];exact uX h1 h.tb
 ·rw[h2];exact vT h1
theorem EY(me:Int)(xs:List Int)(now:Int):NK (St.new me xs now)∧(St.new me xs now).aI=[]:=by
 have e:=aO (St.raw me xs now);rw[St.uq];refine⟨⟨λq hq=> ?_,?_⟩,e.aI⟩
 ·rw[e.Q]at hq;cases hq
 ·rw[e.me,e.A];have e2:(St.raw me xs now).A=um me ((cmpL (jl xs)).take (cmpL (jl xs)).length):=by rw[List.take_length];rfl
  rw[e2];intro y hy;obtain⟨j,x,_,hj,hp,rfl⟩:=zO _ _ _ y hy;unfold Cw at hp;simp only[eF,bne_iff_ne]at hp;exact⟨hp.2,λ_=>rfl⟩
def Rj(m:aP):Prop:=∀(i:Nat) s z,m.S[i]?=some s->s.nd=some z->NK z
theorem Rj.put(h:Rj m)(i:Nat){s:bG}(hs:∀z,s.nd=some z->NK z):Rj (m.put i s):=by
 intro j u z hj hz;rw[(gQ _ _ _).1]at hj;rcases cO hj with⟨_,rfl⟩|⟨_,hj⟩
 ·exact hs z hz
 ·exact h j u z hj hz
theorem Rj.S{m':aP}(h:Rj m)(e:m'.S=m.S):Rj m':=λi s z hs hz=>h i s z (by rw[<-e];exact hs) hz
theorem uS(s:bG)(o:Ot):(∀z,(s.write o).1.nd=some z->s.nd=some z)∧((s.write o).2=true->(s.write o).1.nd=s.nd)∧(s.write o).1.addr=s.addr∧(s.write o).1.hrs=s.hrs:=by
 unfold bG.write;split
 ·exact⟨λ_ h=>h,λ_=>rfl,rfl,rfl⟩
 ·split
  ·exact⟨λ_ h=>(by cases h),λh=>(by cases h),rfl,rfl⟩
  ·exact⟨λ_ h=>h,λ_=>rfl,rfl,rfl⟩
def FK(m:aP):Prop:=qH m∧Rj m
def FKJ(i:Nat)(z:zZ)(P:kQ):Prop:=FK z.1∧i<z.1.S.length∧QW P
theorem D9{i:Nat}{e:List Ev}{P:kQ}{s:bG}{z:St}(h:FKJ i (m,e) P)(hz:NK z)(hf:QW z.aI):N8 (FKJ i) i (m,e) P {s with nd:=some z} z.ot:=by
 have hl:∀s:bG,i<(m.put i s).S.length:=λs=>by rw[(gQ _ _ _).1,List.length_set];exact h.2.1
 have hnk:Rj (m.put i (bG.write {s with nd:=some z} z.ot).1):=h.1.2.put i λu hu=>by
  have h1:=(uS {s with nd:=some z} z.ot).1 u hu;cases h1;exact hz
 refine⟨λ_=>⟨⟨h.1.1.put i _,h.1.2.put i λu hu=> ?_⟩,hl _,h.2.2⟩,λ_ _=>⟨⟨h.1.1.put i _,hnk⟩,hl _,λf hf'=> ?_⟩,λ_ _=>⟨⟨h.1.1.put i _,hnk⟩,hl _,h.2.2⟩⟩
 ·cases hu;exact hz
 ·rcases dG.1 hf' with h1|h1
  ·exact hf f h1
  ·exact h.2.2 f h1
theorem ab3(i:Nat):VT (FKJ i) i:=by
 have hse:∀m e f P,FKJ i (m,e) (f::P)->FKJ i (m.bK i f,e) P:=λm e f P h=>by
  have e1:=(iQ m i f).1;exact⟨⟨h.1.1.bK h.2.1 (h.2.2 f gm),h.1.2.S e1⟩,by show i<(m.bK i f).S.length;rw[e1];exact h.2.1,λg hg=>h.2.2 g (iJ _ hg)⟩
 refine⟨hse,λm e P f s z h _ _ hs hz=> ?_⟩;have h':=hse m e f P h;obtain⟨h1,h2⟩:=(h'.1.2 i s z hs hz).brk m.now f.1;exact D9 h' h1 h2
theorem WV(b:ByteArray)(n:Nat)(hn:n<=b.size):(b.extract 0 n).size<=b.size:=by
 rw[ByteArray.size_extract];omega
theorem YM(o:Op):Cb (λ_ z=>FK z.1) (λ_=>FKJ) o:=by
 have hin:∀i m e,i<m.S.length->FK m->FKJ i (m,e) []:=λi m e hi h=>⟨h,hi,λf hf=>(by cases hf)⟩;have hlt:∀ {m:aP} {i:Nat} {s:bG},m.S[i]?=some s->i<m.S.length:=λh=>(fu.1 h).1;refine⟨λ_ _ h=>h,λ_ i z h=>h.1,λ_=>ab3,λ_ m e a r h=>h,?_,?_,λm e _ _ _ h=>h,?_,?_,?_,?_,?_,?_,?_,?_,?_⟩
 ·intro _ m e a b ha hb _ h;show FK (m.link a b o.on);unfold aP.link;split
  ·exact h
  ·have hk:∀(m:aP) (c:Nat) (L:List Bool),Rj m->Rj (m.put c {m.at' c with hrs:=L}):=λm c L hm=>hm.put c λz hz=>by
    by_cases hc:c<m.S.length
    ·have hs:=cK hc;rw[dX hs]at hz;exact hm c _ z hs hz
    ·unfold aP.at' at hz;rw[List.getD_eq_getElem?_getD,List.getElem?_eq_none (by omega)]at hz;cases hz
   exact⟨(h.1.put a _).put b _,hk _ b _ (hk m a _ h.2)⟩
 ·intro m e a b s z hs hz hb _ _ _ _ _ _ h;obtain⟨h1,h2⟩:=(h.2 a s z hs hz).snd m.now (m.at' b).addr o.txt;exact D9 (hin a m e (hlt hs) h) h1 h2
 ·intro _ m e i s z hs hz _ h;obtain⟨h1,h2⟩:=(h.2 i s z hs hz).jY m.now;exact D9 (hin i m e (hlt hs) h) h1 h2
 ·intro _ m e k f hf _ h;exact⟨λg hg=>h.1 g (List.mem_of_mem_eraseIdx hg),h.2⟩
 ·intro _ m e k f s z hf hs hz _ h;obtain⟨h1,h2⟩:=(h.2 f.2.1 s z hs hz).rcv m.now (m.at' f.1).addr (ak f.2.2) (mD _);exact D9 (hin f.2.1 {m with bD:=m.bD.eraseIdx k} e (hlt hs) ⟨λg hg=>h.1 g (List.mem_of_mem_eraseIdx hg),h.2⟩) h1 h2
 ·intro _ m e k f hf _ h;obtain⟨h1,h2,h3⟩:=h.1 f (gI hf);exact⟨h.1.launch (i:=f.1) (j:=f.2.1) (b:=f.2.2) h1 h2 h3,h.2⟩
 ·intro _ m e k f n hf _ hn h;obtain⟨h1,h2,h3⟩:=h.1 f (gI hf);refine⟨λg hg=> ?_,h.2⟩;rcases List.mem_or_eq_of_mem_set hg with hg|rfl
  ·exact h.1 g hg
  ·exact⟨h1,h2,dH (WV _ _ hn) h3⟩
 ·intro _ m e a b s z hs hz hb _ h;obtain⟨h1,h2⟩:=(h.2 a s z hs hz).rcv m.now (m.at' b).addr (ak o.txt) (mD _);exact D9 (hin a m e (hlt hs) h) h1 h2
 ·intro _ m e a s hs h;exact⟨h.1.put a _,h.2.put a λz hz=>by cases hz⟩
 ·intro _ m e a s n hs h;exact⟨h.1.put a _,h.2.put a λz hz=>h.2 a s z hs hz⟩
 ·intro _ m e a s hs _ h;obtain⟨h1,h2⟩:=EY s.addr s.aZ m.now;exact D9 (hin a m e (hlt hs) h) h1 (by rw[h2];exact λf hf=>by cases hf)
theorem FK.step(h:FK m)(o:Op):FK (m.step o).1:=vg (YM o) (e:=[]) (λf hf=>(h.1 f hf).2.1) (n:=m.S.length+1) (aB _) h
theorem UI{L:List Int}(hn:L.length<=6)(hU:∀a∈L,a_ a)(h0:∀a∈L,a≠0):FK (aP.new L):=by
 refine⟨(M9 hn hU h0).2,λi s z hs hz=> ?_⟩;obtain⟨a,_,rfl⟩:=dh.1 (gI (show(L.map λa=>(⟨a,bB (St.new a [] 0).bg,some (St.new a [] 0),List.replicate 6 false,false,0⟩:bG))[i]?=some s from hs));cases hz;exact(EY a [] 0).1
open Go.RowKit Go.Maps
variable{N:Int}{e:List Ev}{A:List Int}{y:MG}{m:aP}{i k n:Nat}{s s':bG}{W W' w:World}
def Z9(A:List Int)(N:Int)(k:Nat)(z:zZ):Prop:=z.1.S.map (·.addr)=A∧z.1.now<=N+(if k<=A.length then 60000 else 0)
theorem Fe{S:List bG}(hs:S[i]?=some s)(e:s'.addr=s.addr):(S.set i s').map (·.addr)=S.map (·.addr):=by
 rw[List.map_set];refine List.ext_getElem? λj=> ?_;by_cases hj:j=i
 ·subst hj;have hl:=(fu.1 hs).1;rw[List.getElem?_set_self (by rw[iL];exact hl),jQ,hs,e];rfl
 ·rw[List.getElem?_set_ne (λh=>hj h.symm)]
theorem o9{e':List Ev}(h:Z9 A N k (m,e)){i:Nat}{s s':bG}(hs:m.S[i]?=some s)(ha:s'.addr=s.addr):Z9 A N k (m.put i s',e'):=⟨(Fe hs ha).trans h.1,h.2⟩
theorem xg{P:kQ}{o:Ot}(h:Z9 A N k (m,e))(hs:m.S[i]?=some s)(ha:s'.addr=s.addr):N8 (λz _=>Z9 A N k z) i (m,e) P s' o:=by
 have hw:=(uS s' o).2.2.1;exact⟨λ_=>o9 h hs ha,λ_ _=>o9 h hs (hw.trans ha),λ_ _=>o9 h hs (hw.trans ha)⟩
theorem ol{z:zZ}(h:Z9 A N (k+1) z):Z9 A N k z:=by
 refine⟨h.1,Int.le_trans h.2 ?_⟩;split<;>split<;>omega
theorem RA(A:List Int)(N:Int)(o:Op):Cb (Z9 A N) (λk _ z _=>Z9 A N k z) o:=by
 refine⟨λk z h=>ol h,λk i z h=>h,λk i=>⟨λm e f P h=> ?_,λm e P f s z h _ _ hs hz=> ?_⟩,λ_ m e a r h=>h,?_,?_,?_,?_,?_,?_,?_,?_,?_,?_,?_,?_⟩
 ·have e:=iQ m i f;exact⟨by rw[e.1];exact h.1,by show(m.bK i f).now<=_;rw[e.2];exact h.2⟩
 ·have e1:=iQ m i f;refine xg ⟨?_,?_⟩ hs rfl
  ·rw[e1.1];exact h.1
  ·show(m.bK i f).now<=_;rw[e1.2];exact h.2
 ·intro k0 m e a b ha hb _ h;unfold aP.link;split
  ·exact h
  ·have hsa:=cK ha;have hb':b<(m.put a {m.at' a with hrs:=(m.at' a).hrs.set b o.on}).S.length:=by rw[(gQ _ _ _).1,List.length_set];exact hb
   have hsb:=cK hb';exact o9 (o9 (e':=e) h hsa (by rw[dX hsa])) hsb (by rw[dX hsb])
 ·intro m e a b s z hs _ _ _ _ _ _ _ _ h;exact xg (ol h) hs rfl
 ·intro m e h1 h2 _ h;have hl:m.S.length=A.length:=by rw[<-h.1,iL]
  refine⟨h.1,?_⟩;have h3:=h.2;rw[aH (by omega)]at h3;rw[aM (by omega)];show m.now+o.n<=_;dsimp only at h3;omega
 ·intro k0 m e i s z hs _ _ h;exact xg (ol h) hs rfl
 ·intro k0 m e k f _ _ h;exact h
 ·intro k0 m e k f s z _ hs _ _ h;have h':=ol h;exact xg (m:={m with bD:=m.bD.eraseIdx k}) ⟨h'.1,h'.2⟩ hs rfl
 ·intro k0 m e k f _ _ h;exact h
 ·intro k0 m e k f n _ _ _ h;exact h
 ·intro k0 m e a b s z hs _ _ _ h;exact xg (ol h) hs rfl
 ·intro k0 m e a s hs h;exact o9 h hs rfl
 ·intro k0 m e a s n hs h;exact o9 h hs rfl
 ·intro k0 m e a s hs _ h;exact xg (ol h) hs rfl
theorem WX(hfl:∀f∈m.bD,f.2.1<m.S.length)(o:Op):(m.step o).1.S.map (·.addr)=m.S.map (·.addr)∧(m.step o).1.now<=m.now+60000:=by
 have h:=vg (RA (m.S.map (·.addr)) m.now o) (e:=[]) hfl (n:=m.S.length+1) (aB _) ⟨rfl,by rw[iL,aH (by omega)];show m.now<=m.now+0;omega⟩;refine⟨h.1,?_⟩;have:=h.2;split at this
 ·exact this
 ·dsimp only at this;omega
def iU(n:Nat):List Int:=(List.range n).map λ(i:Nat)=>10 * (i:Int)+10
theorem lK(n:Nat):(iU n).length=n:=by simp[iU]
theorem kC(h:k<n):(iU n)[k]?=some (10 * (k:Int)+10):=by
 unfold iU;rw[jQ,List.getElem?_range h];rfl
theorem OP(n:Nat):iU (n+1)=iU n++ [10 * (n:Int)+10]:=by
 unfold iU;rw[List.range_succ,List.map_append];rfl
theorem lJ(hn:n<=6):∀a∈iU n,a_ a∧a≠0:=by
 intro a ha;obtain⟨k,hk⟩:=List.getElem?_of_mem ha;have hl:=(fu.1 hk).1;rw[lK]at hl;rw[kC hl]at hk;cases hk;unfold a_;omega
theorem Aw(n:Nat):(iU n).Nodup:=by
 unfold iU;refine List.Pairwise.map _ (λa b (h:a<b)=> ?_) (List.pairwise_lt_range);omega
structure SQ(w:World)(n i:Nat)(y:MG)(m:aP)(W:World):Prop where
 mm:MM y m W
 low:∀k,uP y m k->w.heap.size<=k
 bl:Below w.heap.size w W
 ok:iX (1+1000000 * (i:Int)) i m
 fk:FK m
 nw:m.now<=60000 * (i:Int)
 za:m.S.map (·.addr)=iU n
theorem SQ.later(h:SQ w n i y m W)(hb:Below W.heap.size W W'):SQ w n i y m W':=
 ⟨h.mm.later hb,h.low,h.bl.trans (hb.mono h.bl.size),h.ok,h.fk,h.nw,h.za⟩
theorem SQ.stepped{m':aP}(h:SQ w n i y m W){y':MG}(h1:MM y' m' W')(u:MU y m y' m' W W')(ok:iX (1+1000000 * ((i+1:Nat):Int)) (i+1) m')(fk:FK m')(nw:m'.now<=60000 * ((i+1:Nat):Int))(za:m'.S.map (·.addr)=iU n):SQ w n (i+1) y' m' W':=by
 have hz:=h.bl.size;refine⟨h1,λk hk=> ?_,h.bl.trans (u.fx.Mh hz λj hj hf=>by have:=h.low j hf;omega),ok,fk,nw,za⟩;rcases u.sub k hk with e|e
 ·exact h.low k e
 ·omega
theorem agb(h:SQ w n i y m W)(hi:i<=4096)(o:Op)(ht:o.dK=8->o.txt.size<=65536)(hfw:∀(i:Nat) s,m.S[i]?=some s->s.nd=none->Zq (jl s.aZ)):
  Calls Tryz.prog 11 #[.pointer (some ⟨y.G,0,none⟩),VZ o] W λe W'=>∃v L y',e=.returned v∧L.map (·.1)=(m.step o).2∧gP W.heap.size v L W'∧y'.G=y.G∧MU y m y' (m.step o).1 W W'∧SQ w n (i+1) y' (m.step o).1 W':=by
 have hnw:=h.nw;refine(agd h.mm h.ok (by omega) (by omega) (by omega) h.fk.1 o ht λk hk hkl hz=>Vb h.ok (by omega) hkl (by have hs:=cK hkl;rw[dX hs]at hz ⊢;exact hfw k _ hs hz)).mono ?_;rintro e W' ⟨⟨v,L,rfl,hL,hev,hmp⟩,hok⟩;obtain⟨s1,s2⟩:=WX (λf hf=>(h.fk.1 f hf).2.1) o;obtain⟨y',h1,u⟩:=hmp;exact⟨v,L,y',rfl,hL,hev,u.G,u,h.stepped h1 u (hok.up (by omega) (aB _)) (h.fk.step o) (by omega) (s1.trans h.za)⟩
theorem Xl{W:World}{base e size:Nat}{v:Value}{n:Nat}{xs:List Value}(h:W.ownsRow base e size v n xs)(hn:0<n):∃g cap,v=.slice (some ⟨g,0,none⟩) n cap∧n<=cap:=by
 rcases h.2 with⟨_,h0⟩|⟨g,cap,cur,rfl,hb,_,hl,_⟩
 ·omega
 ·exact⟨g,cap,rfl,hl⟩
theorem GV{k:Nat}(h:k<6):IntKind.u32.wrap (wrap64 (wrap64 (10 * (k:Int))+10))=10 * (k:Int)+10:=by
 simp only[IntKind.wrap,IntKind.signed,IntKind.bits];unfold wrap64;simp;omega
theorem Qx(W:World)(t:Int):∀(j:Nat) (u:Value),[Value.int .u32 t][j]?=some u->(W.alloc (.cells #[.int .u32 t] 34)).cell? ((⟨W.heap.size,0,none⟩:Addr).add j)=some u:=by
 intro j u hj
 match j,hj with
 |0,hj=>
  rw[Addr.add_lit,Nat.zero_add];exact(jP W _ _ _).trans hj
 |j+1,hj=>simp at hj
theorem Xm(n:Nat)(hn:0<n∧n<=6)(w:World):
  Calls Tryz.prog 10 #[.int .i64 n] w λe w'=>∃y:MG,e=.returned (.pointer (some ⟨y.G,0,none⟩))∧SQ w n 0 y (aP.new (iU n)) w':=by
 obtain⟨i2,ki,kz0,kz1,kz2⟩:=info_parts rf;go_enter Tryz.func10,Tryz.ntmps10;go_wp2_with fail;go_loopw [3,4] (λlv i wr=>∃k:Nat,k<=n∧i=.int .i64 k∧wr.ownsRow w.heap.size 34 1 lv k ((iU k).map (Value.int .u32))∧Below w.heap.size w wr) (λ_ i _=>n - (intOf i).toNat)
 case atStart=>exact⟨0,b_ _,rfl,⟨rfl,.inl ⟨rfl,rfl⟩⟩,aU _ _⟩
 case round=>
  obtain⟨k,hk,rfl,hr,hb⟩:=hrel;by_cases hlt:k<n
  ·have hki:(k:Int)<(n:Int):=by omega
   have hw:=GV (k:=k) (by omega);have hwk:wrap64 ((k:Int)+1)=(k:Int)+1:=by unfold wrap64;omega
   have hbU:Below wr.heap.size wr (wr.alloc (.cells #[.int .u32 (10 * (k:Int)+10)] 34)):=bC;have hk1:k+1<=maxLen:=by unfold maxLen;omega
   have hk2:(k+1)* 4<=140737488355328:=by omega
   have hz:=hb.size;have hr0:=hr.alloc (.cells #[.int .u32 (10 * (k:Int)+10)] 34);go_wp2_with(at_builtin;refine wpList_append_own_at _ rfl _ _ 36 rfl w.heap.size 34 i2 (.int .u32 0) 1 4 Tryz.underlying36 ki kz0 kz1 kz2 rfl (by decide) u3 k ((iU k).map (Value.int .u32)) rfl hr0 ⟨wr.heap.size,0,none⟩ 1 1 [.int .u32 (10 * (k:Int)+10)] rfl rfl (Qx wr _) (by simp[Value.oneCell']) hk1 hk2 ?c3 ?_)
   case c3=>simp;omega
   intro v7 w7 iy gW _ hv7;have JV:=(hb.trans (hbU.mono hz)).grown gW (by simp;omega) (λk e=>(hr0.lt k e).1);have Gq:w7.ownsRow w.heap.size 34 1 v7 (k+1) ((iU (k+1)).map (Value.int .u32)):=by rw[OP,List.map_append];exact iy
   clear hr hb hr0 gW hv7 hbU iy hw;go_wp2;go_roundw
   case rel=>exact⟨k+1,by omega,by go_num,Gq,JV⟩
   case measure=>simp[intOf];omega
  ·obtain rfl:k=n:=by omega
   obtain⟨g,cap,rfl,hcap⟩:=Xl hr hn.1;have hHN:=hide (aeu g k cap (iU k) wr (lK k) hn hcap (λj hj=>by rw[List.getD_eq_getElem?_getD,kC hj];exact(lJ hn.2 _ (gI (kC hj))).1) (hr.lt g rfl).2 (λj hj=>(hr.cellAt j (by omega)).trans (by rw[jQ,kC hj,List.getD_eq_getElem?_getD,kC hj];rfl)) (λj hj=>by rw[List.getD_eq_getElem?_getD,kC hj];exact(lJ hn.2 _ (gI (kC hj))).2) (λi j hij hj=>by rw[List.getD_eq_getElem?_getD,List.getD_eq_getElem?_getD,kC hj,kC (by omega)];show 10 * (i:Int)+10≠10 * (j:Int)+10;omega));have hnew:=M9 (L:=iU k) (by rw[lK];exact hn.2) (λa ha=>(lJ hn.2 a ha).1) (λa ha=>(lJ hn.2 a ha).2);have PW:=UI (L:=iU k) (by rw[lK];exact hn.2) (λa ha=>(lJ hn.2 a ha).1) (λa ha=>(lJ hn.2 a ha).2);have hz:=hb.size;have hfin:Hid (∀(y:MG) w',MM y (aP.new (iU k)) w'->Fx (λ_=>False) wr w'->(∀q,uP y (aP.new (iU k)) q->wr.heap.size<=q)->SQ w k 0 y (aP.new (iU k)) w'):=hide λy w' h1 h2 h3=>by
    refine⟨h1,λq hq=>dH hz (h3 q hq),hb.trans (h2.Mh hz λ_ _ h=>absurd h id),hnew.1.up (by omega) (aB _),PW,?_,?_⟩
    ·show(0:Int)<=_;omega
    ·show((iU k).map Dt).map (·.addr)=iU k;rw[List.map_map];exact List.map_id _
   clear hnew PW hr hb hcap;go_wp2_with(go_at_call 27;refine hHN.out.mono ?_;rintro e w5 ⟨y,rfl,hm,hf,hge⟩;have hq:=hide (hfin.out y w5 hm hf hge);clear hm hf hge);go_ret;exact⟨y,rfl,hq.out⟩
def OpC(L:List Op):List Value:=L.flatMap λo=> [.int .i64 o.dK,.int .i64 o.a,.int .i64 o.b,.int .i64 o.n,.bool o.on,.string o.txt]
theorem Vr{W:World}{ao:Option Addr}{L:List Op}(h:gN W ao (OpC L)){k:Nat}{o:Op}(hk:L[k]?=some o):∃g f,ao=some ⟨g,f,none⟩∧g<W.heap.size∧W.cell? ⟨g,f+k * 6,none⟩=some (.int .i64 o.dK)∧W.cell? ⟨g,f+k * 6+1,none⟩=some (.int .i64 o.a)∧W.cell? ⟨g,f+k * 6+2,none⟩=some (.int .i64 o.b)∧W.cell? ⟨g,f+k * 6+3,none⟩=some (.int .i64 o.n)∧W.cell? ⟨g,f+k * 6+4,none⟩=some (.bool o.on)∧W.cell? ⟨g,f+k * 6+5,none⟩=some (.string o.txt):=by
 have hat:∀i u,i<6->([.int .i64 o.dK,.int .i64 o.a,.int .i64 o.b,.int .i64 o.n,.bool o.on,.string o.txt]:List Value)[i]?=some u->(OpC L)[k * 6+i]?=some u:=λi u hi hu=>(jh (λo:Op=>([.int .i64 o.dK,.int .i64 o.a,.int .i64 o.b,.int .i64 o.n,.bool o.on,.string o.txt]:List Value)) 6 (by decide) (λ_=>rfl) L k i hi hk).trans hu;obtain⟨g,f,e,hl,_⟩:=h (k * 6+0) _ (hat 0 _ (by decide) rfl);refine⟨g,f,e,hl,h.one e (hat 0 _ (by decide) rfl),?_,?_,?_,?_,?_⟩
 ·have:=h.one e (hat 1 _ (by decide) rfl);rw[<-Nat.add_assoc]at this;exact this
 ·have:=h.one e (hat 2 _ (by decide) rfl);rw[<-Nat.add_assoc]at this;exact this
 ·have:=h.one e (hat 3 _ (by decide) rfl);rw[<-Nat.add_assoc]at this;exact this
 ·have:=h.one e (hat 4 _ (by decide) rfl);rw[<-Nat.add_assoc]at this;exact this
 ·have:=h.one e (hat 5 _ (by decide) rfl);rw[<-Nat.add_assoc]at this;exact this
theorem ac8{c:Int}:∃n:Nat,2<=n∧n<=6∧2+sS c 5=(n:Int)∧wrap64 (2+sS c 5)=(n:Int):=by
 have:=Xy c 5 (by decide);refine⟨(2+sS c 5).toNat,by omega,by omega,by omega,?_⟩;unfold wrap64;omega
open Go.ChangeShapes Go.WideShapes Go.ChangeAt Go.Deep
variable{H:Type}{W:World}
theorem aeD:Tryz.prog.cellsOf 28=6:=by kernel_rfl
theorem MJ:Tryz.prog.cellsOf 3=1:=by kernel_rfl
theorem ac5:Tryz.prog.cellsOf 9=1:=by kernel_rfl
theorem aaB:Tryz.prog.cellsOf 4=1:=by kernel_rfl
structure aen(o:Op):Prop where
 dK:-9223372036854775808<=o.dK∧o.dK<=9223372036854775807
 a:-9223372036854775808<=o.a∧o.a<=9223372036854775807
 b:-9223372036854775808<=o.b∧o.b<=9223372036854775807
 n:-9223372036854775808<=o.n∧o.n<=9223372036854775807
theorem XC{enc:TypeId×Value->H}(n:Nat)(cs:List Value)(y:DataW H×List MemPlace)(h:DataW.trod enc Tryz.prog W 0 (λ_=>true) true n 28 cs=some y)(hl:cs.length=6):
  ∃o:Op,cs=[.int .i64 o.dK,.int .i64 o.a,.int .i64 o.b,.int .i64 o.n,.bool o.on,.string o.txt]∧aen o:=by
 obtain⟨c0,c1,c2,c3,c4,c5,rfl⟩:∃c0 c1 c2 c3 c4 c5,cs=[c0,c1,c2,c3,c4,c5]:=by
  match cs,hl with
  | [c0,c1,c2,c3,c4,c5],_=>exact⟨c0,c1,c2,c3,c4,c5,rfl⟩
 obtain⟨xs,n,_,_,_,hlen,hget⟩:=DataW.trod_struct Tryz.underlying28 h
 match xs,hlen with
 | [x0,x1,x2,x3,x4,x5],_=>
  have g0:DataW.trod enc Tryz.prog W 0 (λ_=>true) true n 3 (([c0,c1,c2,c3,c4,c5].drop 0).take (Tryz.prog.cellsOf 3))=some x0:=hget 0 _ rfl;rw[MJ]at g0;have g1:DataW.trod enc Tryz.prog W 0 (λ_=>true) true n 3 (([c0,c1,c2,c3,c4,c5].drop 1).take (Tryz.prog.cellsOf 3))=some x1:=hget 1 _ rfl;rw[MJ]at g1;have g2:DataW.trod enc Tryz.prog W 0 (λ_=>true) true n 3 (([c0,c1,c2,c3,c4,c5].drop 2).take (Tryz.prog.cellsOf 3))=some x2:=hget 2 _ rfl;rw[MJ]at g2;have g3:DataW.trod enc Tryz.prog W 0 (λ_=>true) true n 3 (([c0,c1,c2,c3,c4,c5].drop 3).take (Tryz.prog.cellsOf 3))=some x3:=hget 3 _ rfl;rw[MJ]at g3;have g4:DataW.trod enc Tryz.prog W 0 (λ_=>true) true n 4 (([c0,c1,c2,c3,c4,c5].drop 4).take (Tryz.prog.cellsOf 4))=some x4:=hget 4 _ rfl;rw[aaB]at g4;have g5:DataW.trod enc Tryz.prog W 0 (λ_=>true) true n 9 (([c0,c1,c2,c3,c4,c5].drop 5).take (Tryz.prog.cellsOf 9))=some x5:=hget 5 _ rfl;rw[ac5]at g5;clear hget;obtain⟨a0,e0,_,w0⟩:=DataW.trod_int Tryz.underlying3 g0;obtain⟨a1,e1,_,w1⟩:=DataW.trod_int Tryz.underlying3 g1;obtain⟨a2,e2,_,w2⟩:=DataW.trod_int Tryz.underlying3 g2;obtain⟨a3,e3,_,w3⟩:=DataW.trod_int Tryz.underlying3 g3;obtain⟨a4,e4,_⟩:=DataW.trod_bool Tryz.underlying4 g4;obtain⟨a5,e5,_,_⟩:=DataW.trod_string Tryz.underlying9 g5;simp at e0 e1 e2 e3 e4 e5;subst e0 e1 e2 e3 e4 e5;exact⟨⟨a0,a1,a2,a3,a4,a5⟩,rfl,⟨bounds_i64 w0,bounds_i64 w1,bounds_i64 w2,bounds_i64 w3⟩⟩
theorem SA{enc:TypeId×Value->H}{fuel:Nat}{c:Value}{x:DataW H×List MemPlace}(h:DataW.trod enc Tryz.prog W 0 (λ_=>true) true fuel 22 [c]=some x):
  ∃ao n cap L,c=.slice ao n cap∧L.length=n∧n<=maxLen∧gN W ao (OpC L)∧∀o∈L,aen o:=
 O9 Tryz.underlying22 aeD (by decide) (λo:Op=> [.int .i64 o.dK,.int .i64 o.a,.int .i64 o.b,.int .i64 o.n,.bool o.on,.string o.txt]) _ (λ_=>rfl) XC h
variable{G G' d h h' q q':Int}{r:Int×Int}{i k:Nat}{s s':bG}{p p':bG->Bool}
def vr(s:bG)(d:Int):Option (Int×Int):=
 match s.nd with
 |some z=>(aK z.A d).map λy=>(rk y,y.hops)
 |none=>(mG (jl s.aZ) d).map λq=>(q,0)
def qD(r:Int×Int)(q h:Int):Bool:=decide (q<r.1)||(decide (r.1=q)&&decide (r.2<=h))
def wO(s:bG)(d q h:Int):Bool:=
 match vr s d with
 |some r=>qD r q h
 |none=>false
def cP(d q h:Int)(s:bG):Bool:=decide (s.addr=d)||wO s d q h
def cnt(S:List bG)(d q h:Int):Nat:=S.countP (cP d q h)
structure l5(s s':bG):Prop where
 addr:s'.addr=s.addr
 ge:∀d q h,d≠s.addr->wO s d q h=true->wO s' d q h=true
theorem l5.refl(s:bG):l5 s s:=⟨rfl,λ_ _ _ _ h=>h⟩
theorem l5.trans{a b c:bG}(p:l5 a b)(q:l5 b c):l5 a c:=⟨q.addr.trans p.addr,λd x h hd e=>q.ge d x h (by rw[p.addr];exact hd) (p.ge d x h hd e)⟩
theorem abW(e:qD r q h=true)(hle:q'<q∨(q'=q∧h<=h')):qD r q' h'=true:=by
 unfold qD at *;simp only[Bool.or_eq_true,eF,iM]at *;omega
theorem mW(q h:Int):qD (q,h) q h=true:=by simp[qD]
theorem D7(e:qD r q h=true)(f:qD (q,h) q' h'=true):qD r q' h'=true:=by
 unfold qD at *;simp only[Bool.or_eq_true,eF,iM]at *;omega
theorem aaf(e:wO s d q h=true)(hle:q'<q∨(q'=q∧h<=h')):wO s d q' h'=true:=by
 unfold wO at *;split
 ·rename_i r hr;rw[hr]at e;exact abW e hle
 ·rename_i hr;rw[hr]at e;exact e
theorem Z7(e:cP d q h s=true)(hle:q'<q∨(q'=q∧h<=h')):cP d q' h' s=true:=by
 unfold cP at *;rw[Bool.or_eq_true]at *;exact e.imp_right λe=>aaf e hle
theorem aeh(l:l5 s s')(e:cP d q h s=true):cP d q h s'=true:=by
 unfold cP at *;rw[l.addr];by_cases hd:s.addr=d
 ·simp[hd]
 ·rw[Bool.or_eq_true]at *;rcases e with e|e
  ·exact .inl e
  ·exact .inr (l.ge d q h (λh=>hd h.symm) e)
theorem tH:∀(S:List bG) (i:Nat) (s':bG),(∀t,p t=true->p' t=true)->(∀s,S[i]?=some s->p s=true->p' s'=true)->S.countP p<=(S.set i s').countP p'
 | [],_,_,_,_=>b_ _
 |t::S,0,s',hp,hs=>by
  rw[List.set_cons_zero,List.countP_cons,List.countP_cons];have h1:S.countP p<=S.countP p':=List.countP_mono_left λt _ h=>hp t h;have h2:=hs t rfl;cases e:p t
  ·simp only[Bool.false_eq_true,if_false];omega
  ·rw[aM rfl,aM (h2 e)];omega
 |t::S,i+1,s',hp,hs=>by
  rw[List.set_cons_succ,List.countP_cons,List.countP_cons];have h1:=tH S i s' hp (λs h=>hs s h);cases e:p t
  ·simp only[Bool.false_eq_true,if_false];omega
  ·rw[aM rfl,aM (hp t e)];omega
theorem qj:∀(S:List bG) (i:Nat) (s s':bG),(∀t,p t=true->p' t=true)->S[i]?=some s->p s=false->p' s'=true->S.countP p+1<=(S.set i s').countP p'
 | [],_,_,_,_,h,_,_=>by cases h
 |t::S,0,s,s',hp,h,h1,h2=>by
  cases h;rw[List.set_cons_zero,List.countP_cons,List.countP_cons,h1,aM h2];have h1:S.countP p<=S.countP p':=List.countP_mono_left λt _ h=>hp t h;simp only[Bool.false_eq_true,if_false];omega
 |t::S,i+1,s,s',hp,h,h1,h2=>by
  rw[List.set_cons_succ,List.countP_cons,List.countP_cons];have h3:=qj S i s s' hp h h1 h2;cases e:p t
  ·simp only[Bool.false_eq_true,if_false];omega
  ·rw[aM rfl,aM (hp t e)];omega
theorem FZ{S:List bG}(hs:S[i]?=some s)(l:l5 s s')(d q h:Int):cnt S d q h<=cnt (S.set i s') d q h:=
 tH S i s' (λ_ h=>h) λt ht h=>by
  rw[hs]at ht;cases ht;exact aeh l h
theorem U2{S:List bG}(hs:S[i]?=some s){d q h h':Int}(hle:h<=h')(h1:cP d q h s=false)(h2:cP d q h' s'=true):cnt S d q h+1<=cnt (S.set i s') d q h':=
 qj S i s s' (λt h=>Z7 h (.inr ⟨rfl,hle⟩)) hs h1 h2
theorem U1(S:List bG)(d q:Int){h h':Int}(hle:h<=h'):cnt S d q h<=cnt S d q h':=List.countP_mono_left λ_ _ e=>Z7 e (.inr ⟨rfl,hle⟩)
theorem La(S:List bG)(d q h:Int):cnt S d q h<=S.length:=List.countP_le_length
theorem NU{S:List bG}(q h:Int)(hd:∃s∈S,s.addr=d):1<=cnt S d q h:=by
 obtain⟨s,hs,e⟩:=hd;exact List.countP_pos_iff.2 ⟨s,hs,by simp[cP,e]⟩
structure zk(G:Int)(S:List bG)(i:Nat)(y:Rt):Prop where
 dest:∃s∈S,s.addr=y.dest
 hp:0<=y.hops
 sq:0<=y.seq∧y.seq<=G
 nx:y.valid=true->∃j s,j≠i∧S[j]?=some s∧s.addr=y.next∧(y.dest=y.next∨wO s y.dest y.seq (y.hops - 1)=true)
 hc:y.valid=true->y.hops+8<=8 * (cnt S y.dest y.seq y.hops:Int)
structure FrQ(G:Int)(S:List bG)(j:Nat)(p:aD)(L:List (Int×Int)):Prop where
 k1:p.kind=1->(∃s∈S,s.addr=p.aJ)∧0<=p.hops∧(0<=p.dw∧p.dw<=G)∧(0<=p.aX∧p.aX<=G)∧p.hops+p.ttl<=8 * (cnt S p.aJ p.dw p.hops:Int)∧∃s,S[j]?=some s∧(s.addr=p.aJ∨wO s p.aJ p.dw p.hops=true)
 k2:p.kind=2->(∃s∈S,s.addr=p.dest)∧0<=p.hops∧(0<=p.aX∧p.aX<=G)∧p.hops+p.ttl<=8 * (cnt S p.dest p.aX p.hops:Int)∧∃s,S[j]?=some s∧(s.addr=p.dest∨wO s p.dest p.aX p.hops=true)
 k3:p.kind=3->∀x∈L,0<=x.2∧x.2<=G
theorem gJ{S:List bG}(hs:S[i]?=some s)(e:s'.addr=s.addr){d:Int}(h:∃t∈S,t.addr=d):∃t∈S.set i s',t.addr=d:=by
 obtain⟨t,ht,hd⟩:=h;obtain⟨k,hk⟩:=List.getElem?_of_mem ht;by_cases hki:k=i
 ·subst hki;rw[hs]at hk;cases hk;exact⟨s',gI (List.getElem?_set_self (fu.1 hs).1),e.trans hd⟩
 ·exact⟨t,gI ((List.getElem?_set_ne (λe=>hki e.symm)).trans hk),hd⟩
theorem mV{S:List bG}(hs:S[i]?=some s)(l:l5 s s'){j:Nat}{t:bG}(h:S[j]?=some t):∃t',(S.set i s')[j]?=some t'∧l5 t t':=by
 by_cases hji:j=i
 ·subst hji;rw[hs]at h;cases h;exact⟨s',List.getElem?_set_self (fu.1 hs).1,l⟩
 ·exact⟨t,(List.getElem?_set_ne (λe=>hji e.symm)).trans h,l5.refl t⟩
theorem Zy{t t':bG}(l:l5 t t'){d q h:Int}(hd:d≠t.addr∨t.addr=d)(e:t.addr=d∨wO t d q h=true):t'.addr=d∨wO t' d q h=true:=by
 rcases hd with hd|hd
 ·rcases e with e|e
  ·exact absurd e.symm hd
  ·exact .inr (l.ge d q h hd e)
 ·exact .inl (l.addr.trans hd)
theorem zk.set{S:List bG}{y:Rt}(h:zk G S k y)(hG:G<=G')(hs:S[i]?=some s)(l:l5 s s'):zk G' (S.set i s') k y:=by
 refine⟨gJ hs l.addr h.dest,h.hp,⟨h.sq.1,Int.le_trans h.sq.2 hG⟩,λhv=> ?_,λhv=> ?_⟩
 ·obtain⟨j,t,hj,ht,ha,hb⟩:=h.nx hv;obtain⟨t',ht',lt⟩:=mV hs l ht;refine⟨j,t',hj,ht',lt.addr.trans ha,?_⟩;by_cases hd:y.dest=y.next
  ·exact .inl hd
  ·refine .inr (lt.ge _ _ _ (by rw[ha];exact hd) ?_);rcases hb with hb|hb
   ·exact absurd hb hd
   ·exact hb
 ·have h1:=h.hc hv;have h2:=FZ hs l y.dest y.seq y.hops;omega
theorem FrQ.set{S:List bG}{p:aD}{L:List (Int×Int)}(h:FrQ G S k p L)(hG:G<=G')(hs:S[i]?=some s)(l:l5 s s'):FrQ G' (S.set i s') k p L:=by
 refine⟨λhk=> ?_,λhk=> ?_,λhk x hx=> ?_⟩
 ·obtain⟨h1,h2,h3,h4,h5,t,ht,h6⟩:=h.k1 hk;obtain⟨t',ht',lt⟩:=mV hs l ht;have:=FZ hs l p.aJ p.dw p.hops;exact⟨gJ hs l.addr h1,h2,⟨h3.1,by omega⟩,⟨h4.1,by omega⟩,by omega,t',ht',Zy lt (by by_cases e:t.addr=p.aJ;exact .inr e;exact .inl λh=>e h.symm) h6⟩
 ·obtain⟨h1,h2,h3,h5,t,ht,h6⟩:=h.k2 hk;obtain⟨t',ht',lt⟩:=mV hs l ht;have:=FZ hs l p.dest p.aX p.hops;exact⟨gJ hs l.addr h1,h2,⟨h3.1,by omega⟩,by omega,t',ht',Zy lt (by by_cases e:t.addr=p.dest;exact .inr e;exact .inl λh=>e h.symm) h6⟩
 ·have:=h.k3 hk x hx;omega
variable{b:ByteArray}{G:Int}{L:List (Int×Int)}{j k:Nat}{p:aD}
def g8(x:Int):Int:=((x.toNat%256:Nat):Int)
theorem abY(x:Int):0<=g8 x∧g8 x<=255:=by unfold g8;omega
theorem tC{x:Int}(h:0<=x∧x<=255):g8 x=x:=by unfold g8;omega
theorem aao(xs:List Int):ak (strOfNums xs)=xs.map g8:=by
 simp only[ak,strOfNums_data,List.map_map];refine List.map_congr_left λx _=> ?_;simp only[Function.comp_apply];rw[UInt8.toNat_ofNat'];rfl
def w8(n:Int):Int:=n4 (g8 (n / 16777216)) (g8 (n / 65536%256)) (g8 (n / 256%256)) (g8 (n%256))
theorem Ve(n:Int):(b4 n).map g8=b4 (w8 n):=by
 unfold w8;rw[aei (abY _) (abY _) (abY _)];rfl
theorem Ma{n:Int}(h:a_ n):w8 n=n:=by
 unfold a_ at h;unfold w8;rw[tC (by omega),tC (by omega),tC (by omega),tC (by omega)];exact ZB
theorem jJ:w8 0=0:=by decide
def wP(p:aD):aD:={p with id:=w8 p.id,dest:=w8 p.dest,aX:=w8 p.aX,aJ:=w8 p.aJ,dw:=w8 p.dw,life:=w8 p.life}
def wL(L:List (Int×Int)):List (Int×Int):=L.map λx=>(w8 x.1,w8 x.2)
theorem Wo(p:aD):(wP p).nums=p.nums.map λx=>(x.1,w8 x.2):=by
 unfold aD.nums;show(if p.kind=1 then _ else if p.kind=2 then _ else if p.kind=9 then _ else _)=_;split
 ·rfl
 ·split
  ·rfl
  ·split<;>rfl
theorem XR{xs:List Int}(h:∀x∈xs,0<=x∧x<=255):xs.map g8=xs:=by
 conv=>rhs;rw[<-List.map_id xs]
 exact List.map_congr_left λx hx=>tC (h x hx)
theorem UG(hg:p.eZ=true):0<=p.cnt∧p.cnt<=255:=by
 obtain⟨_,_,_,h0,h1,hp,hk⟩:=eY hg;unfold aD.cnt;split
 ·rcases hk with h|h|h|h<;>omega
 ·split<;>omega
theorem ab6(hg:p.eZ=true)(L:List (Int×Int)):(zF p L).map g8=zF (wP p) (wL L):=by
 have hc:=UG hg;obtain⟨_,t0,t1,_,_,_,hk⟩:=eY hg;have hf:0<=nQ p∧nQ p<=255:=by unfold nQ;split<;>omega
 have h1:(p.head).map g8=(wP p).head:=by
  have e:p.head.map g8=[g8 p.ttl,g8 p.kind,g8 (nQ p),g8 0,g8 p.cnt]:=rfl;rw[e,tC (by omega),tC (by rcases hk with h|h|h|h<;>omega),tC hf,tC (by omega),tC hc];rfl
 have h2:(p.kN p.nums.length).map g8=(wP p).kN (wP p).nums.length:=by
  unfold aD.kN;rw[jD (aB _),jD (aB _),Wo,List.map_flatMap,List.flatMap_map]
  congr 1
  funext x
  exact Ve x.2
 have h3:(iw L L.length).map g8=iw (wL L) (wL L).length:=by
  unfold iw;rw[jD (aB _),jD (aB _),List.map_flatMap];unfold wL;rw[List.flatMap_map]
  congr 1
  funext x
  rw[List.map_append,Ve,Ve]
 have h4:(ak p.pay).map g8=ak (wP p).pay:=XR (mD p.pay);unfold zF;rw[List.map_append,List.map_append,List.map_append,h1,h2,h3,h4]
theorem YE(hg:p.eZ=true):(wP p).eZ=true:=by
 obtain⟨_,_,_,_,_,_,hk⟩:=eY hg;obtain⟨ttl,kind,hops,unk,id,dest,aX,aJ,dw,life,la,ln,lc,pay⟩:=p;unfold aD.eZ at hg ⊢;simp only[eF]at hg ⊢;obtain⟨⟨⟨h1,h2⟩,h3⟩,h4⟩:=hg;refine⟨⟨⟨h1,h2⟩,?_⟩,?_⟩
 ·unfold wP;dsimp only at h3 ⊢;cases unk
  ·rfl
  ·have hd:aX=0:=by simpa using h3
   subst hd;rfl
 ·dsimp only at hk;rcases hk with rfl|rfl|rfl|⟨rfl,_,_⟩
  ·simp[aD.lS,aD.kM,wP]at h4 ⊢;obtain⟨a,b,c⟩:=h4;exact⟨by rw[a];exact jJ,b,c⟩
  ·simp[aD.lS,aD.kM,wP]at h4 ⊢;obtain⟨a,b,c⟩:=h4;exact⟨by rw[a];exact jJ,by rw[b];exact jJ,c⟩
  ·simp[aD.lS,aD.kM,wP]at h4 ⊢;obtain⟨a,b,c,d⟩:=h4;exact⟨by rw[a];exact jJ,by rw[b];exact jJ,by rw[c];exact jJ,d⟩
  ·simp[aD.lS,aD.kM,wP]at h4 ⊢;obtain⟨a,b,c,d,e,f,g⟩:=h4;exact⟨by rw[a];exact jJ,by rw[b];exact jJ,by rw[c];exact jJ,by rw[d];exact jJ,by rw[e];exact jJ,by rw[f];exact jJ,g⟩
theorem IK{x0 x1 x2 x3 x4:Int}{r:List Int}(hl:r.length<=dR x1 x4)(h:qB ((x0::x1::x2::x3::x4::r).take k)=true):(x0::x1::x2::x3::x4::r).take k=x0::x1::x2::x3::x4::r∧r.length=dR x1 x4:=by
 match k,h with
 |0,h=>cases h
 |1,h=>cases h
 |2,h=>cases h
 |3,h=>cases h
 |4,h=>cases h
 |k+5,h=>
  simp only[List.take_succ_cons]at h ⊢;have h1:(r.take k).length=dR x1 x4:=by
   refine Classical.byContradiction λhn=> ?_;rw[fG hn]at h;cases h
  rw[List.length_take]at h1;exact⟨by rw[jD (by omega)],by omega⟩
def pI(xs:List Int):aD:=iY (xs.getD 0 0) (xs.getD 1 0) (xs.getD 2 0) (xs.getD 4 0) (xs.drop 5)
def ZF(xs:List Int):List (Int×Int):=m_ (xs.getD 1 0) (xs.getD 4 0) (xs.drop 5)
theorem abf(fr:Int)(xs:List Int):Nt fr xs=some (fr,pI xs,ZF xs):=rfl
theorem FN(hz:L=[]∨L.length=p.ln){k:Nat}(h:qB ((ak (strOfNums (jU p L))).take k)=true):
  p.eZ=true∧L.length=p.ln∧pI ((ak (strOfNums (jU p L))).take k)={wP p with la:=none,lc:=0}∧ZF ((ak (strOfNums (jU p L))).take k)=wL L:=by
 rw[aao]at h ⊢;unfold jU at h ⊢;cases hg:p.eZ with
 |false=>
  rw[hg]at h;simp only[Bool.false_eq_true,if_false,List.map_nil,List.take_nil]at h;cases h
 |true=>
  rw[hg]at h;rw[aM rfl,ab6 hg]at h ⊢;have hgw:=YE hg;obtain⟨hl,_,_,_,_,hp,hk⟩:=eY hg;have hln:=(pU hl).1;have hkk:(wP p).kind=p.kind:=rfl;have hlen:L.length=p.ln:=by
   rcases hz with rfl|hz
   ·rcases hk with hk|hk|hk|hk
    ·rw[hln];simp[aD.dz,hk]
    ·rw[hln];simp[aD.dz,hk]
    ·rw[hln];simp[aD.dz,hk]
    ·exfalso;rw[D_]at h;have h0:(qO (wP p) (wL [])).length=0:=by
      unfold qO;have h1:(wP p).kN (wP p).nums.length=[]:=by
       unfold aD.kN aD.nums;rw[hkk,hk.1];rfl
      have h2:ak (wP p).pay=[]:=by
       have h3:=(pU hl).2.2.2;show ak p.pay=[];rw[h3];unfold aD.dz;rw[hk.1];rfl
      rw[h1,h2];rfl
     have h1:=(IK (by rw[h0];exact b_ _) h).2;rw[h0]at h1;have h2:=SX (wP p) hgw;omega
   ·exact hz
  have hlw:(wL L).length=(wP p).ln:=by
   unfold wL;rw[iL];exact hlen
  obtain⟨d1,d2,d3⟩:=YW (wP p) hgw (wL L) hlw;refine⟨rfl,hlen,?_⟩;rw[D_]at h ⊢;have e:=(IK (Nat.le_of_eq d1) h).1;rw[e];exact⟨d2,d3⟩
def zL(G:Int)(S:List bG)(j:Nat)(b:ByteArray):Prop:=∀k,qB ((ak b).take k)=true->FrQ G S j (pI ((ak b).take k)) (ZF ((ak b).take k))
theorem YI{S:List bG}(h:FrQ G S j p L)(hU:∀s∈S,a_ s.addr)(hG:G<=4294967295)(hz:L=[]∨L.length=p.ln):zL G S j (strOfNums (jU p L)):=by
 intro k hk;obtain⟨_,_,e1,e2⟩:=FN hz hk;rw[e1,e2];have hu:∀ {d:Int},(∃s∈S,s.addr=d)->w8 d=d:=λ⟨s,hs,e⟩=>Ma (e▸hU s hs);have hn:∀ {n:Int},0<=n∧n<=G->w8 n=n:=λh=>Ma ⟨h.1,by omega⟩;refine⟨λhk=> ?_,λhk=> ?_,λhk x hx=> ?_⟩
 ·obtain⟨a1,a2,a3,a4,a5,a6⟩:=h.k1 hk;show(∃s∈S,s.addr=w8 p.aJ)∧0<=p.hops∧(0<=w8 p.dw∧w8 p.dw<=G)∧(0<=w8 p.aX∧w8 p.aX<=G)∧p.hops+p.ttl<=8 * (cnt S (w8 p.aJ) (w8 p.dw) p.hops:Int)∧∃s,S[j]?=some s∧(s.addr=w8 p.aJ∨wO s (w8 p.aJ) (w8 p.dw) p.hops=true);rw[hu a1,hn a3,hn a4];exact h.k1 hk
 ·obtain⟨a1,a2,a3,a5,a6⟩:=h.k2 hk;show(∃s∈S,s.addr=w8 p.dest)∧0<=p.hops∧(0<=w8 p.aX∧w8 p.aX<=G)∧p.hops+p.ttl<=8 * (cnt S (w8 p.dest) (w8 p.aX) p.hops:Int)∧∃s,S[j]?=some s∧(s.addr=w8 p.dest∨wO s (w8 p.dest) (w8 p.aX) p.hops=true);rw[hu a1,hn a3];exact h.k2 hk
 ·obtain⟨y,hy,rfl⟩:=dh.1 hx;have h3:=h.k3 hk y hy;dsimp only;rw[hn h3];exact h3
theorem A7(b:ByteArray)(n:Nat):ak (b.extract 0 n)=(ak b).take n:=by
 unfold ak;rw[ByteArray.data_extract,Array.toList_extract,List.map_take];simp
theorem zL.cut{S:List bG}(h:zL G S j b)(n:Nat):zL G S j (b.extract 0 n):=by
 intro k hk;rw[A7,List.take_take]at hk ⊢;exact h _ hk
theorem zL.whole{S:List bG}(h:zL G S j b)(hF:qB (ak b)=true):FrQ G S j (pI (ak b)) (ZF (ak b)):=by
 have h1:=h (ak b).length;rw[List.take_length]at h1;exact h1 hF
theorem zL.set{G':Int}{S:List bG}{i:Nat}{s s':bG}(h:zL G S k b)(hG:G<=G')(hs:S[i]?=some s)(l:l5 s s'):zL G' (S.set i s') k b:=λn hn=>(h n hn).set hG hs l
end Go.Proofs.YtakaadcpaeiccabGreat
