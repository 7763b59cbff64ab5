import Derived.Test.YtakaadcpaeiccabGreatC62
namespace Go.Proofs.YtakaadcpaeiccabGreat
abbrev lN:=List(Int×ByteArray)
abbrev AR:=aK×List Ev
structure Pd(J:AR→lN→Prop)(i:Nat)(z:AR)(P:lN)(s:bi)(o:Ot):Prop where
 idle:o.idle=true→J(z.1.put i s,z.2)P
 whole:o.idle=false→(s.write o).2=true→J(z.1.put i(s.write o).1,z.2++ [⟨i,0,o⟩])(o.aH++P)
 adU:o.idle=false→(s.write o).2=false→J(z.1.put i(s.write o).1,z.2++ [⟨i,0,Ot.none⟩])P
structure Yi(J:AR→lN→Prop)(i:Nat):Prop where
 send:∀m e f P,J(m,e)(f::P)→J(m.bR i f,e)P
 brk:∀m e P f s z,J(m,e)(f::P)→f.1≠0→m.heard i f.1=[]→(m.bR i f).S[i]?=some s→s.nd=some z→Pd J i(m.bR i f,e)P {s with nd:=some(z.brk m.now f.1)}(z.brk m.now f.1).ot
theorem GU(φ:aK→Int×ByteArray→aK×List Ev)(a:List Ev):∀(L:lN)(m:aK)(b:List Ev),L.foldl(tL φ)(m,a++b)=((L.foldl(tL φ)(m,b)).1,a++(L.foldl(tL φ)(m,b)).2)
 | [],_,_=>rfl
 |f::L,m,b=>by
  rw [List.foldl_cons,List.foldl_cons];unfold tL;dsimp only;rw [List.append_assoc];exact GU φ a L _ _
theorem YU {J:AR→lN→Prop} {φ:aK→Int×ByteArray→aK×List Ev}(hφ:∀m e f P,J(m,e)(f::P)→J((φ m f).1,e++(φ m f).2)P):∀(L:lN)(z:AR)(P:lN),J z(L++P)→J(L.foldl(tL φ)z)P
 | [],_,_,h=>h
 |f::L,z,P,h=>by
  rw [List.foldl_cons];exact YU hφ L _ P(hφ z.1 z.2 f(L++P)h)
theorem V7(m:aK)(i:Nat)(s s':bi):(m.put i s).put i s'=m.put i s':=by
 unfold aK.put;dsimp only;rw [List.VO]
theorem abm {m:aK} {i:Nat}(hi:i<m.S.length)(s:bi):(m.put i s).at' i=s:=eB(by rw [(gK _ _ _).1,List.getElem?_set_self hi])
theorem GR {J:AR→lN→Prop} {i:Nat} {φ:aK→Int×ByteArray→aK×List Ev}(hφ:∀m e f P,J(m,e)(f::P)→J((φ m f).1,e++(φ m f).2)P) {m:aK} {e:List Ev} {P:lN} {s:bi} {o:Ot}(hi:i<m.S.length)(h:Pd J i(m,e)P s o):J(((m.put i s).iZ φ i o).1,e++((m.put i s).iZ φ i o).2)P:=by
 unfold aK.iZ;rw [abm hi,V7];split
 ·rename_i hd;rw [List.append_nil];exact h.idle hd
 ·rename_i hd;have hd':o.idle=false:=by simpa using hd
  split
  ·rename_i hw;have h1:=YU hφ o.aH _ P(h.whole hd' hw);rw [GU]at h1;exact h1
  ·rename_i hw;exact h.adU hd'(by simpa using hw)
theorem XN {J:AR→lN→Prop} {i:Nat}(hJ:Yi J i) {m:aK} {e:List Ev} {P:lN} {s:bi} {o:Ot}(hi:i<m.S.length)(h:Pd J i(m,e)P s o):J(((m.put i s).did i o).1,e++((m.put i s).did i o).2)P:=by
 refine GR(φ:=aK.iO i)(fun m e f P hj=> ?_)hi h;have h1:=hJ.send m e f P hj;unfold aK.iO;split
 ·rw [List.append_nil];exact h1
 ·rename_i hne;simp only [not_or,Classical.not_not]at hne;split
  ·rw [List.append_nil];exact h1
  ·rename_i z hz;have hi2:i<(m.bR i f).S.length:=by
    refine Nat.lt_of_not_le fun hle=> ?_;unfold aK.at' at hz;rw [List.getD_eq_getElem?_getD,List.getElem?_eq_none hle]at hz;cases hz
   have hs:=List.getElem?_eq_getElem hi2;have hz':((m.bR i f).S[i]).nd=some z:=by rw [eB hs]at hz;exact hz
   have h2:=hJ.brk m e P f _ z hj hne.2 hne.1 hs hz';rw [eB hs];refine GR(φ:=aK.m_ i)(fun m e f P hj=> ?_)hi2 h2;rw [show(aK.m_ i m f).2=[]from rfl,List.append_nil];exact hJ.send m e f P hj
structure Cs(I:Nat→AR→Prop)(J:Nat→Nat→AR→lN→Prop)(o:Op):Prop where
 mono:∀k z,I(k+1)z→I k z
 out:∀k i z,J k i z []→I k z
 did:∀k i,Yi(J k i)i
 evn:∀k0 m e a r,I k0(m,e)→I k0(m,e++ [⟨a,r,Ot.none⟩])
 link:∀k0 m e(a b:Nat),a<m.S.length→b<m.S.length→o.dS=1→I k0(m,e)→I k0(m.link a b o.on,e)
 snd:∀m e(a b:Nat)s z,m.S[a]?=some s→s.nd=some z→b<m.S.length→o.dS=2→o.a=a→o.b=b→o.txt.size≤16→(m.at' b).addr≠z.me→(m.at' b).addr≠0→I 1(m,e)→Pd(J 0 a)a(m,e) [] {s with nd:=some(z.snd m.now(m.at' b).addr o.txt)}(z.snd m.now(m.at' b).addr o.txt).ot
 tim:∀m e,1≤o.n→o.n≤60000→o.dS=3→I(m.S.length+1)(m,e)→I m.S.length({m with now:=m.now+o.n},e)
 j6:∀k0 m e(i:Nat)s z,m.S[i]?=some s→s.nd=some z→o.dS=3→I(k0+1)(m,e)→Pd(J k0 i)i(m,e) [] {s with nd:=some(z.j6 m.now)}(z.j6 m.now).ot
 ab9:∀k0 m e(k:Nat)f,m.bG[k]?=some f→o.dS=4∨o.dS=5→I k0(m,e)→I k0({m with bG:=m.bG.eraseIdx k},e)
 rcv:∀k0 m e(k:Nat)f s z,m.bG[k]?=some f→m.S[f.2.1]?=some s→s.nd=some z→o.dS=4→I(k0+1)(m,e)→Pd(J k0 f.2.1)f.2.1({m with bG:=m.bG.eraseIdx k},e) [] {s with nd:=some(z.rcv m.now(m.at' f.1).addr(aF f.2.2))}(z.rcv m.now(m.at' f.1).addr(aF f.2.2)).ot
 twice:∀k0 m e(k:Nat)f,m.bG[k]?=some f→o.dS=6→I k0(m,e)→I k0(m.eG f,e)
 cut:∀k0 m e(k:Nat)f n,m.bG[k]?=some f→o.dS≠1→n≤f.2.2.size→I k0(m,e)→I k0({m with bG:=m.bG.set k(f.1,f.2.1,f.2.2.extract 0 n)},e)
 inj:∀k0 m e(a b:Nat)s z,m.S[a]?=some s→s.nd=some z→b<m.S.length→o.dS=8→I(k0+1)(m,e)→Pd(J k0 a)a(m,e) [] {s with nd:=some(z.rcv m.now(m.at' b).addr(aF o.txt))}(z.rcv m.now(m.at' b).addr(aF o.txt)).ot
 stop:∀k0 m e(a:Nat)s,m.S[a]?=some s→I k0(m,e)→I k0(m.put a s.stop,e)
 adV:∀k0 m e(a:Nat)s n,m.S[a]?=some s→I k0(m,e)→I k0(m.put a {s with tears:=true,whole:=max 0 n},e)
 JK:∀k0 m e(a:Nat)s,m.S[a]?=some s→s.nd=none→I(k0+1)(m,e)→Pd(J k0 a)a(m,e) [] {s with nd:=some(St.new s.addr s.aY m.now)}(St.new s.addr s.aY m.now).ot
theorem vg {I:Nat→AR→Prop} {J:Nat→Nat→AR→lN→Prop} {o:Op}(h:Cs I J o) {k0:Nat} {m:aK} {e:List Ev} {i:Nat} {s:bi} {z:St}(hs:m.S[i]?=some s)(hw:Pd(J k0 i)i(m,e) [] {s with nd:=some z}z.ot):I k0((m.act i z).1,e++(m.act i z).2):=by
 rw [Ad hs];exact h.out k0 i _(XN(h.did k0 i)(List.getElem?_eq_some_iff.1 hs).1 hw)
theorem EO {I:Nat→AR→Prop} {J:Nat→Nat→AR→lN→Prop} {o:Op}(h:Cs I J o)(ho:o.dS=3)(e:List Ev):∀(l:List Nat)(z:AR),I l.length(z.1,e++z.2)→I 0((l.foldl aK.rP z).1,e++(l.foldl aK.rP z).2)
 | [],_,hz=>hz
 |i::l,z,hz=>by
  rw [List.foldl_cons];refine EO h ho e l _ ?_;rw [List.length_cons]at hz;unfold aK.rP;split
  ·exact h.mono _ _ hz
  ·rename_i s hs;have hi2:i<z.1.S.length:=by
    refine Nat.lt_of_not_le fun hle=> ?_;unfold aK.at' at hs;rw [List.getD_eq_getElem?_getD,List.getElem?_eq_none hle]at hs;cases hs
   have hu:=List.getElem?_eq_getElem hi2;have hs':(z.1.S[i]).nd=some s:=by rw [eB hu]at hs;exact hs
   have h1:=vg h hu(h.j6 _ z.1(e++z.2)i _ s hu hs' ho hz);dsimp only;rw [←List.append_assoc];exact h1
theorem Cb {m:aK} {i j:Nat} {b:ByteArray}(h:(m.at' i).nd=none):m.hear i j b=(m,[]):=by
 unfold aK.hear;rw [h]
theorem Ca {m:aK} {i j:Nat} {b:ByteArray} {s:St}(h:(m.at' i).nd=some s):m.hear i j b=m.act i(s.rcv m.now(m.at' j).addr(aF b)):=by
 unfold aK.hear;rw [h]
theorem yE {I:Nat→AR→Prop} {J:Nat→Nat→AR→lN→Prop} {o:Op}(h:Cs I J o) {m:aK} {e:List Ev}(hfl:∀f∈m.bG,f.2.1<m.S.length) {n:Nat}(hn:m.S.length+1≤n)(hIn:I n(m,e)):I 0((m.step o).1,e++(m.step o).2):=by
 have SK:∀(k j:Nat)(z:AR),I(k+j)z→I k z:=by
  intro k j
  induction j with
  |zero=>exact fun z h=>h
  |succ j ih=>exact fun z hz=>ih z(h.mono _ _ hz)
 have hI:I 0(m,e):=SK 0 n _(by rw [Nat.zero_add];exact hIn);have hI1:I(0+1)(m,e):=SK 1(n - 1)_(by rw [show 1+(n - 1)=n by omega];exact hIn);have hIS:I(m.S.length+1)(m,e):=SK _(n - (m.S.length+1))_(by rw [show m.S.length+1+(n - (m.S.length+1))=n by omega];exact hIn);unfold aK.step;split
 ·exact h.evn _ _ _ _ _ hI
 rename_i l_;have jQ:m.may o=true:=by simpa using l_
 unfold aK.may at jQ;split
 ·rename_i h1;rw [if_pos h1,Bool.and_eq_true]at jQ;obtain⟨i,hi,hil⟩:=jR jQ.1;obtain⟨j,hj,hjl⟩:=jR jQ.2;rw [hi,hj,Int.toNat_natCast,Int.toNat_natCast,List.append_nil];exact h.link _ m e i j hil hjl h1 hI
 rename_i h1;rw [if_neg h1]at jQ;split
 ·rename_i h2;rw [if_pos(.inl h2),Bool.and_eq_true]at jQ;obtain⟨i,hi,hil⟩:=kR jQ.1;obtain⟨j,hj,hjl⟩:=jR jQ.2;rw [hi,hj,Int.toNat_natCast,Int.toNat_natCast];have hs:=List.getElem?_eq_getElem hil;unfold aK.send;rw [eB hs];split
  ·rw [List.append_nil];exact hI
  ·rename_i z hz;split
   ·exact h.evn _ _ _ _ _ hI
   ·rename_i hsz;split
    ·exact h.evn _ _ _ _ _ hI
    ·rename_i hd;simp only [not_or]at hd;exact vg h hs(h.snd m e i j _ z hs hz hjl h2 hi hj(by omega)hd.1 hd.2 hI1)
 rename_i h2;split
 ·rename_i h3;unfold aK.tick;split
  ·rw [List.append_nil];exact hI
  ·rename_i hn;simp only [not_or]at hn;refine EO h h3 e _ _ ?_;rw [List.append_nil,List.Dv];exact h.tim m e(by omega)(by omega)h3 hIS
 rename_i h3;split
 ·rename_i h4;unfold aK.flight;split
  ·rw [List.append_nil];exact hI
  ·rename_i hn;simp only [not_or]at hn;dsimp only;have hk:o.a.toNat%m.bG.length<m.bG.length:=Nat.mod_lt _(by omega);generalize o.a.toNat%m.bG.length=k at hk;obtain⟨f,hf⟩:∃f,m.bG[k]?=some f:=⟨_,List.getElem?_eq_getElem hk⟩;have hgd:m.bG.getD k(0,0,⟨#[]⟩)=f:=by rw [List.getD_eq_getElem?_getD,hf];rfl
   rw [hgd];have aeO:=hfl f(List.mem_of_getElem? hf);split
   ·rename_i h5;have hs:=List.getElem?_eq_getElem aeO;have ha:({m with bG:=m.bG.eraseIdx k}:aK).at' f.2.1=m.S[f.2.1]:=eB(m:={m with bG:=m.bG.eraseIdx k})hs;cases hz:(m.S[f.2.1]).nd with
    |none=>
     rw [Cb(by rw [ha];exact hz),List.append_nil];exact h.ab9 _ m e k f hf(.inl h5)hI
    |some z=>
     rw [Ca(by rw [ha];exact hz)];exact vg(m:={m with bG:=m.bG.eraseIdx k})h hs(h.rcv _ m e k f _ z hf hs hz h5 hI1)
   ·split
    ·rename_i h5 h6;rw [List.append_nil];exact h.ab9 _ m e k f hf(.inr h6)hI
    ·split
     ·rename_i h6;rw [List.append_nil];exact h.twice _ m e k f hf h6 hI
     ·rw [List.append_nil];exact h.cut _ m e k f _ hf h1(Nat.adW _ _)hI
 rename_i h4;split
 ·rename_i h8;rw [if_pos(.inr h8),Bool.and_eq_true]at jQ;obtain⟨i,hi,hil⟩:=kR jQ.1;obtain⟨j,hj,hjl⟩:=jR jQ.2;rw [hi,hj,Int.toNat_natCast,Int.toNat_natCast];have hs:=List.getElem?_eq_getElem hil;cases hz:(m.S[i]).nd with
  |none=>
   rw [Cb(by rw [eB hs];exact hz),List.append_nil];exact hI
  |some z=>
   rw [Ca(by rw [eB hs];exact hz)];exact vg h hs(h.inj _ m e i j _ z hs hz hjl h8 hI1)
 rename_i h8;rw [if_neg(by simp [h2,h8])]at jQ;split
 ·rename_i h9;rw [if_pos(.inl h9)]at jQ;obtain⟨i,hi,hil⟩:=kR jQ;rw [hi,Int.toNat_natCast,List.append_nil,eB(List.getElem?_eq_getElem hil)];exact h.stop _ m e i _(List.getElem?_eq_getElem hil)hI
 rename_i h9;split
 ·rename_i h10;rw [if_pos(.inr h10)]at jQ;obtain⟨i,hi,hil⟩:=kR jQ;rw [hi,Int.toNat_natCast,List.append_nil,eB(List.getElem?_eq_getElem hil)];exact h.adV _ m e i _ _(List.getElem?_eq_getElem hil)hI
 rename_i h10;split
 ·rename_i h11;rw [if_neg(by simp [h9,h10]),if_pos h11,Bool.and_eq_true]at jQ;obtain⟨i,hi,hil⟩:=jR jQ.1;rw [hi,Int.toNat_natCast];have hs:=List.getElem?_eq_getElem hil;unfold aK.JK;rw [eB hs];have hz:(m.S[i]).nd=none:=by
   have h2:=jQ.2;unfold aK.runs at h2;rw [hi,Int.toNat_natCast,eB hs]at h2;have h3:m.has(i:Int)=true:=by
    unfold aK.has;simp;omega
   rw [h3]at h2;simpa using h2
  exact vg h hs(h.JK _ m e i _ hs hz hI1)
 ·rw [List.append_nil];exact hI
def El(me:Int)(A:List Rt):Prop:=∀y∈A,y.dest≠me∧(y.valid=false→y.bB=[])
theorem Cz {me:Int} {A:List Rt} {f:Rt→Rt}(h:El me A)(hf:∀y,(f y).dest=y.dest∧((y.valid=false→y.bB=[])→(f y).valid=false→(f y).bB=[])):El me(A.map f):=by
 intro y hy;obtain⟨z,hz,rfl⟩:=List.mem_map.1 hy;obtain⟨h1,h2⟩:=h z hz;obtain⟨e1,e2⟩:=hf z;exact⟨by rw [e1];exact h1,e2 h2⟩
theorem uf {me:Int} {A:List Rt} {f:Rt→Rt} {d:Int}(h:El me A)(hf:∀y,(f y).dest=y.dest∧((y.valid=false→y.bB=[])→(f y).valid=false→(f y).bB=[])):El me(gI A d f):=by
 refine Cz h fun y=> ?_;split
 ·exact hf y
 ·exact⟨rfl,fun h=>h⟩
theorem Kt {me:Int} {A:List Rt}(h:El me A)(d q hp n e:Int):El me(iD me A d q hp n e).1:=by
 unfold iD;split
 ·exact h
 ·rename_i hd;simp only [not_or]at hd;split
  ·split
   ·exact uf h fun y=>⟨rfl,fun _ h=>by cases h⟩
   ·exact h
  ·split
   ·exact h
   ·intro y hy;unfold tF at hy;rcases List.mem_append.1 hy with hy|hy
    ·exact h y(List.mem_of_mem_take hy)
    ·rcases List.mem_cons.1 hy with rfl|hy
     ·exact⟨hd.1,fun h=>by cases h⟩
     ·exact h y(List.mem_of_mem_drop hy)
theorem Bt(fr q:Int)(y:Rt):(bY fr q y).dest=y.dest∧((y.valid=false→y.bB=[])→(bY fr q y).valid=false→(bY fr q y).bB=[]):=by
 refine⟨dZ _ _ y,?_⟩;unfold bY;split
 ·exact fun _ _=>rfl
 ·exact fun h=>h
theorem Vt {me:Int} {A:List Rt}(h:El me A)(now:Int):El me(iG A now):=by
 refine Cz h fun y=>⟨gF now y,?_⟩;unfold og;split
 ·exact fun _ _=>rfl
 ·exact fun h=>h
theorem Vr {me now:Int} {c:mh} {A A':List Rt}(t:Uh me now c A A')(h:El me A):El me A':=by
 cases t with
 |Ve=>exact Kt h _ _ _ _ _
 |Vd=>exact Kt h _ _ _ _ _
 |use d e=>
  refine uf h fun y=>⟨lQ e y,?_⟩;unfold sI;split
  ·rename_i hv;exact fun _ h=>by
    dsimp only at h;rw [hv]at h;cases h
  ·exact fun h=>h
 |bB d n=>
  refine uf h fun y=>⟨kG n y,?_⟩;unfold qU;split
  ·rename_i hv;exact fun _ h=>by
    dsimp only at h;rw [hv.1]at h;cases h
  ·exact fun h=>h
 |mi fr p L hc x hx=>exact uf h fun y=>Bt fr x.2 y
 |brk dX=>exact Cz h fun y=>Bt dX 0 y
 |grow d _=>exact uf h fun y=>⟨rfl,fun h=>h⟩
theorem Zj {c:mh} {s s':St}(k:Pr c s s')(h:El s.me s.A):El s'.me s'.A:=by
 cases k with
 |xK e=>rw [e.me,e.A];exact h
 |tab t=>exact Vr t h
 |aI _ _ _ _ _=>exact h
 |grw=>exact h
 |mx _ _ _ _=>exact h
 |wr=>exact h
theorem Vs {c:mh} {n:Nat} {s s':St}(k:fC c n s s')(h:El s.me s.A):El s'.me s'.A:=by
 induction k with
 |nil=>exact h
 |snoc _ k ih=>exact Zj k(ih h)
theorem ug {c:mh} {n:Nat} {s s':St} {now:Int}(k:fC c n(s.aQ.begin now)s')(h:El s.me s.A):El s'.finish.freed.me s'.finish.freed.A:=by
 have h1:El(s.aQ.begin now).me(s.aQ.begin now).A:=Vt h now;have h2:=Vs k h1;have e:=aO s';show El s'.finish.me s'.finish.A;rw [e.me,e.A];exact h2
structure NK(z:St):Prop where
 MZ:lD z
 tb:El z.me z.A
theorem D7 {s:St}(h:lD s):lD s.finish.freed:=by
 intro q hq;have e:=(aO s).Q;have hq':q∈s.finish.Q:=hq;rw [e]at hq';exact h q hq'
theorem NK.rcv {z:St}(h:NK z)(now fr:Int)(xs:List Int)(hb:∀x∈xs,0≤x∧x≤255):NK(z.rcv now fr xs)∧Pv(z.rcv now fr xs).aH:=by
 have h4:∀q∈z.Q,q.txt.length≤4:=fun q hq=>(h.MZ q hq).1;obtain⟨n,s',h1,h2⟩:=KJ z now fr xs h4;refine⟨⟨D7(s:=(z.aQ.begin now).hear fr xs)fun q hq=>h.MZ q((zT(z.aQ.begin now)fr xs hb h4).qs q hq),?_⟩,?_⟩
 ·rw [h2];exact ug h1 h.tb
 ·rw [h2];exact uS h1
theorem NK.brk {z:St}(h:NK z)(now dX:Int):NK(z.brk now dX)∧Pv(z.brk now dX).aH:=by
 obtain⟨s',h1,h2⟩:=Eg z now dX;refine⟨⟨fun q hq=> ?_,?_⟩,?_⟩
 ·rw [(z_ z now dX).2.2]at hq;exact h.MZ q hq
 ·rw [h2];exact ug h1 h.tb
 ·rw [h2];exact uS h1
theorem BC:∀(D:List Sr)(s:St),(∀q∈D,q.txt.length≤4∧1≤q.aS∧q.aS≤8)→lD s→lD(D.foldl St.step s)
 | [],_,_,h=>h
 |q::D,s,hD,h=>by
  rw [List.foldl_cons];exact BC D _(fun z hz=>hD z(List.mem_cons_of_mem _ hz))(Ff h(hD q List.mem_cons_self))
theorem NK.j6 {z:St}(h:NK z)(now:Int):NK(z.j6 now)∧Pv(z.j6 now).aH:=by
 obtain⟨s',h1,h2⟩:=Cy z now h.MZ;refine⟨⟨D7(s:=(St.j3 z.Q now).foldl St.step(z.aQ.begin now))(BC _ _(fun q hq=>h.MZ q(GM hq))h.MZ),?_⟩,?_⟩
 ·rw [h2];exact ug h1 h.tb
 ·rw [h2];exact uS h1
theorem MX {s:St}(h:lD s)(d:Int)(t:ByteArray):lD(s.gG d t):=by
 unfold St.gG;split
 ·rename_i q hq;have hq4:=h q(iL hq).1;intro z hz;have hz':z∈St.di s.Q(s.hold q t).2:=hz;rcases eZ hz' with rfl|⟨k,_⟩
  ·unfold St.hold;split
   ·rename_i e;dsimp only;rw [List.length_append,List.mP,List.length_singleton];exact⟨by omega,hq4.2⟩
   ·dsimp only;rw [List.length_append,List.length_singleton];exact⟨by omega,hq4.2⟩
  ·exact h z k
 ·refine uy(fun z hz=> ?_)⟨by simp [St.iA],by show(1:Int)≤1∧(1:Int)≤8;omega⟩;rcases List.mem_append.1 hz with hz|hz
  ·exact h z hz
  ·rw [List.mem_singleton]at hz;subst hz;exact⟨by simp [St.iA],by show(1:Int)≤1∧(1:Int)≤8;omega⟩
theorem NK.snd {z:St}(h:NK z)(now d:Int)(t:ByteArray):NK(z.snd now d t)∧Pv(z.snd now d t).aH:=by
 obtain⟨n,s',h1,h2⟩:=KC z now d t;refine⟨⟨D7(s:=if(bF(z.aQ.begin now).A d(z.aQ.begin now).now).2 then(z.aQ.begin now).aX d t else(z.aQ.begin now).gG d t) ?_,?_⟩,?_⟩
 ·split
  ·intro q hq;rw [(fQ _ _ _).1]at hq;exact h.MZ q hq
  ·exact MX(s:=z.aQ.begin now)h.MZ d t
 ·rw [h2];exact ug h1 h.tb
 ·rw [h2];exact uS h1
theorem I8(me:Int)(xs:List Int)(now:Int):NK(St.new me xs now)∧(St.new me xs now).aH=[]:=by
 have e:=aO(St.raw me xs now);rw [St.tC];refine⟨⟨fun q hq=> ?_,?_⟩,e.aH⟩
 ·rw [e.Q]at hq;cases hq
 ·rw [e.me,e.A];have e2:(St.raw me xs now).A=tY me((cmpL(jl xs)).take(cmpL(jl xs)).length):=by rw [List.take_length];rfl
  rw [e2];intro y hy;obtain⟨j,x,_,hj,hp,rfl⟩:=Dj _ _ _ y hy;unfold AC at hp;simp only [Bool.and_eq_true,bne_iff_ne]at hp;exact⟨hp.2,fun _=>rfl⟩
def Uy(m:aK):Prop:=∀(i:Nat)s z,m.S[i]?=some s→s.nd=some z→NK z
theorem Uy.put {m:aK}(h:Uy m)(i:Nat) {s:bi}(hs:∀z,s.nd=some z→NK z):Uy(m.put i s):=by
 intro j u z hj hz;rw [(gK _ _ _).1]at hj;rcases cZ hj with⟨_,rfl⟩|⟨_,hj⟩
 ·exact hs z hz
 ·exact h j u z hj hz
theorem Uy.S {m m':aK}(h:Uy m)(e:m'.S=m.S):Uy m':=fun i s z hs hz=>h i s z(by rw [←e];exact hs)hz
theorem EK(s:bi)(o:Ot):(∀z,(s.write o).1.nd=some z→s.nd=some z)∧((s.write o).2=true→(s.write o).1.nd=s.nd)∧(s.write o).1.addr=s.addr∧(s.write o).1.hrs=s.hrs:=by
 unfold bi.write;split
 ·exact⟨fun _ h=>h,fun _=>rfl,rfl,rfl⟩
 ·split
  ·exact⟨fun _ h=>(by cases h),fun h=>(by cases h),rfl,rfl⟩
  ·exact⟨fun _ h=>h,fun _=>rfl,rfl,rfl⟩
def FK(m:aK):Prop:=qa m∧Uy m
def FKJ(i:Nat)(z:AR)(P:lN):Prop:=FK z.1∧i<z.1.S.length∧Pv P
theorem Ch {i:Nat} {m:aK} {e:List Ev} {P:lN} {s:bi} {z:St}(h:FKJ i(m,e)P)(hz:NK z)(hf:Pv z.aH):Pd(FKJ i)i(m,e)P {s with nd:=some z}z.ot:=by
 have hl:∀s:bi,i<(m.put i s).S.length:=fun s=>by rw [(gK _ _ _).1,List.length_set];exact h.2.1
 have hnk:Uy(m.put i(bi.write {s with nd:=some z}z.ot).1):=h.1.2.put i fun u hu=>by
  have h1:=(EK {s with nd:=some z}z.ot).1 u hu;cases h1;exact hz
 refine⟨fun _=>⟨⟨h.1.1.put i _,h.1.2.put i fun u hu=> ?_⟩,hl _,h.2.2⟩,fun _ _=>⟨⟨h.1.1.put i _,hnk⟩,hl _,fun f hf'=> ?_⟩,fun _ _=>⟨⟨h.1.1.put i _,hnk⟩,hl _,h.2.2⟩⟩
 ·cases hu;exact hz
 ·rcases List.mem_append.1 hf' with h1|h1
  ·exact hf f h1
  ·exact h.2.2 f h1
theorem aa4(i:Nat):Yi(FKJ i)i:=by
 have hse:∀m e f P,FKJ i(m,e)(f::P)→FKJ i(m.bR i f,e)P:=fun m e f P h=>by
  have e1:=(iM m i f).1;exact⟨⟨h.1.1.bR h.2.1(h.2.2 f List.mem_cons_self),h.1.2.S e1⟩,by show i<(m.bR i f).S.length;rw [e1];exact h.2.1,fun g hg=>h.2.2 g(List.mem_cons_of_mem _ hg)⟩
 refine⟨hse,fun m e P f s z h _ _ hs hz=> ?_⟩;have h':=hse m e f P h;obtain⟨h1,h2⟩:=(h'.1.2 i s z hs hz).brk m.now f.1;exact Ch h' h1 h2
theorem VE(b:ByteArray)(n:Nat)(hn:n≤b.size):(b.extract 0 n).size≤b.size:=by
 rw [ByteArray.size_extract];omega
theorem XD(o:Op):Cs(fun _ z=>FK z.1)(fun _=>FKJ)o:=by
 have hin:∀i m e,i<m.S.length→FK m→FKJ i(m,e) []:=fun i m e hi h=>⟨h,hi,fun f hf=>(by cases hf)⟩;have hlt:∀ {m:aK} {i:Nat} {s:bi},m.S[i]?=some s→i<m.S.length:=fun h=>(List.getElem?_eq_some_iff.1 h).1;refine⟨fun _ _ h=>h,fun _ i z h=>h.1,fun _=>aa4,fun _ m e a r h=>h,?_,?_,fun m e _ _ _ h=>h,?_,?_,?_,?_,?_,?_,?_,?_,?_⟩
 ·intro _ m e a b ha hb _ h;show FK(m.link a b o.on);unfold aK.link;split
  ·exact h
  ·have hk:∀(m:aK)(c:Nat)(L:List Bool),Uy m→Uy(m.put c {m.at' c with hrs:=L}):=fun m c L hm=>hm.put c fun z hz=>by
    by_cases hc:c<m.S.length
    ·have hs:=List.getElem?_eq_getElem hc;rw [eB hs]at hz;exact hm c _ z hs hz
    ·unfold aK.at' at hz;rw [List.getD_eq_getElem?_getD,List.getElem?_eq_none(by omega)]at hz;cases hz
   exact⟨(h.1.put a _).put b _,hk _ b _(hk m a _ h.2)⟩
 ·intro m e a b s z hs hz hb _ _ _ _ _ _ h;obtain⟨h1,h2⟩:=(h.2 a s z hs hz).snd m.now(m.at' b).addr o.txt;exact Ch(hin a m e(hlt hs)h)h1 h2
 ·intro _ m e i s z hs hz _ h;obtain⟨h1,h2⟩:=(h.2 i s z hs hz).j6 m.now;exact Ch(hin i m e(hlt hs)h)h1 h2
 ·intro _ m e k f hf _ h;exact⟨fun g hg=>h.1 g(List.iR hg),h.2⟩
 ·intro _ m e k f s z hf hs hz _ h;obtain⟨h1,h2⟩:=(h.2 f.2.1 s z hs hz).rcv m.now(m.at' f.1).addr(aF f.2.2)(nM _);exact Ch(hin f.2.1 {m with bG:=m.bG.eraseIdx k}e(hlt hs)⟨fun g hg=>h.1 g(List.iR hg),h.2⟩)h1 h2
 ·intro _ m e k f hf _ h;obtain⟨h1,h2,h3⟩:=h.1 f(List.mem_of_getElem? hf);exact⟨h.1.eG(i:=f.1)(j:=f.2.1)(b:=f.2.2)h1 h2 h3,h.2⟩
 ·intro _ m e k f n hf _ hn h;obtain⟨h1,h2,h3⟩:=h.1 f(List.mem_of_getElem? hf);refine⟨fun g hg=> ?_,h.2⟩;rcases List.mem_or_eq_of_mem_set hg with hg|rfl
  ·exact h.1 g hg
  ·exact⟨h1,h2,Nat.le_trans(VE _ _ hn)h3⟩
 ·intro _ m e a b s z hs hz hb _ h;obtain⟨h1,h2⟩:=(h.2 a s z hs hz).rcv m.now(m.at' b).addr(aF o.txt)(nM _);exact Ch(hin a m e(hlt hs)h)h1 h2
 ·intro _ m e a s hs h;exact⟨h.1.put a _,h.2.put a fun z hz=>by cases hz⟩
 ·intro _ m e a s n hs h;exact⟨h.1.put a _,h.2.put a fun z hz=>h.2 a s z hs hz⟩
 ·intro _ m e a s hs _ h;obtain⟨h1,h2⟩:=I8 s.addr s.aY m.now;exact Ch(hin a m e(hlt hs)h)h1(by rw [h2];exact fun f hf=>by cases hf)
theorem FK.step {m:aK}(h:FK m)(o:Op):FK(m.step o).1:=yE(XD o)(e:=[])(fun f hf=>(h.1 f hf).2.1)(n:=m.S.length+1)(Nat.le_refl _)h
theorem Tt {L:List Int}(hn:L.length≤6)(hU:∀a∈L,bg a)(h0:∀a∈L,a≠0):FK(aK.new L):=by
 refine⟨(La hn hU h0).2,fun i s z hs hz=> ?_⟩;obtain⟨a,_,rfl⟩:=List.mem_map.1(List.mem_of_getElem?(show(L.map fun a=>(⟨a,bn(St.new a []0).a_,some(St.new a []0),List.replicate 6 false,false,0⟩:bi))[i]?=some s from hs));cases hz;exact(I8 a []0).1
open Go.RowKit Go.Maps
def Y3(A:List Int)(N:Int)(k:Nat)(z:AR):Prop:=z.1.S.map(·.addr)=A∧z.1.now≤N+(if k≤A.length then 60000 else 0)
theorem Du {S:List bi} {i:Nat} {s s':bi}(hs:S[i]?=some s)(e:s'.addr=s.addr):(S.set i s').map(·.addr)=S.map(·.addr):=by
 rw [List.map_set];refine List.ext_getElem? fun j=> ?_;by_cases hj:j=i
 ·subst hj;have hl:=(List.getElem?_eq_some_iff.1 hs).1;rw [List.getElem?_set_self(by rw [List.length_map];exact hl),List.getElem?_map,hs,e];rfl
 ·rw [List.getElem?_set_ne(fun h=>hj h.symm)]
theorem oJ {A:List Int} {N:Int} {k:Nat} {m:aK} {e e':List Ev}(h:Y3 A N k(m,e)) {i:Nat} {s s':bi}(hs:m.S[i]?=some s)(ha:s'.addr=s.addr):Y3 A N k(m.put i s',e'):=⟨(Du hs ha).trans h.1,h.2⟩
theorem vK {A:List Int} {N:Int} {k i:Nat} {m:aK} {e:List Ev} {P:lN} {s s':bi} {o:Ot}(h:Y3 A N k(m,e))(hs:m.S[i]?=some s)(ha:s'.addr=s.addr):Pd(fun z _=>Y3 A N k z)i(m,e)P s' o:=by
 have hw:=(EK s' o).2.2.1;exact⟨fun _=>oJ h hs ha,fun _ _=>oJ h hs(hw.trans ha),fun _ _=>oJ h hs(hw.trans ha)⟩
theorem nN {A:List Int} {N:Int} {k:Nat} {z:AR}(h:Y3 A N(k+1)z):Y3 A N k z:=by
 refine⟨h.1,Int.le_trans h.2 ?_⟩;split<;>split<;>omega
theorem Ql(A:List Int)(N:Int)(o:Op):Cs(Y3 A N)(fun k _ z _=>Y3 A N k z)o:=by
 refine⟨fun k z h=>nN h,fun k i z h=>h,fun k i=>⟨fun m e f P h=> ?_,fun m e P f s z h _ _ hs hz=> ?_⟩,fun _ m e a r h=>h,?_,?_,?_,?_,?_,?_,?_,?_,?_,?_,?_,?_⟩
 ·have e:=iM m i f;exact⟨by rw [e.1];exact h.1,by show(m.bR i f).now≤_;rw [e.2];exact h.2⟩
 ·have e1:=iM m i f;refine vK⟨?_,?_⟩hs rfl
  ·rw [e1.1];exact h.1
  ·show(m.bR i f).now≤_;rw [e1.2];exact h.2
 ·intro k0 m e a b ha hb _ h;unfold aK.link;split
  ·exact h
  ·have hsa:=List.getElem?_eq_getElem ha;have hb':b<(m.put a {m.at' a with hrs:=(m.at' a).hrs.set b o.on}).S.length:=by rw [(gK _ _ _).1,List.length_set];exact hb
   have hsb:=List.getElem?_eq_getElem hb';exact oJ(oJ(e':=e)h hsa(by rw [eB hsa]))hsb(by rw [eB hsb])
 ·intro m e a b s z hs _ _ _ _ _ _ _ _ h;exact vK(nN h)hs rfl
 ·intro m e h1 h2 _ h;have hl:m.S.length=A.length:=by rw [←h.1,List.length_map]
  refine⟨h.1,?_⟩;have h3:=h.2;rw [if_neg(by omega)]at h3;rw [if_pos(by omega)];show m.now+o.n≤_;dsimp only at h3;omega
 ·intro k0 m e i s z hs _ _ h;exact vK(nN h)hs rfl
 ·intro k0 m e k f _ _ h;exact h
 ·intro k0 m e k f s z _ hs _ _ h;have h':=nN h;exact vK(m:={m with bG:=m.bG.eraseIdx k})⟨h'.1,h'.2⟩hs rfl
 ·intro k0 m e k f _ _ h;exact h
 ·intro k0 m e k f n _ _ _ h;exact h
 ·intro k0 m e a b s z hs _ _ _ h;exact vK(nN h)hs rfl
 ·intro k0 m e a s hs h;exact oJ h hs rfl
 ·intro k0 m e a s n hs h;exact oJ h hs rfl
 ·intro k0 m e a s hs _ h;exact vK(nN h)hs rfl
theorem VG {m:aK}(hfl:∀f∈m.bG,f.2.1<m.S.length)(o:Op):(m.step o).1.S.map(·.addr)=m.S.map(·.addr)∧(m.step o).1.now≤m.now+60000:=by
 have h:=yE(Ql(m.S.map(·.addr))m.now o)(e:=[])hfl(n:=m.S.length+1)(Nat.le_refl _)⟨rfl,by rw [List.length_map,if_neg(by omega)];show m.now≤m.now+0;omega⟩;refine⟨h.1,?_⟩;have:=h.2;split at this
 ·exact this
 ·dsimp only at this;omega
def ku(n:Nat):List Int:=(List.range n).map fun(i:Nat)=>10 * (i:Int)+10
theorem l6(n:Nat):(ku n).length=n:=by simp [ku]
theorem jL {n k:Nat}(h:k<n):(ku n)[k]?=some(10 * (k:Int)+10):=by
 unfold ku;rw [List.getElem?_map,List.getElem?_range h];rfl
theorem M8(n:Nat):ku(n+1)=ku n++ [10 * (n:Int)+10]:=by
 unfold ku;rw [List.range_succ,List.map_append];rfl
theorem kS {n:Nat}(hn:n≤6):∀a∈ku n,bg a∧a≠0:=by
 intro a ha;obtain⟨k,hk⟩:=List.getElem?_of_mem ha;have hl:=(List.getElem?_eq_some_iff.1 hk).1;rw [l6]at hl;rw [jL hl]at hk;cases hk;unfold bg;omega
theorem II(n:Nat):(ku n).Nodup:=by
 unfold ku;refine List.Pairwise.map _(fun a b(h:a<b)=> ?_)(List.KO);omega
structure SQ(w:World)(n i:Nat)(y:MG)(m:aK)(W:World):Prop where
 mm:MM y m W
 low:∀k,oz y m k→w.heap.size≤k
 bl:Below w.heap.size w W
 ok:iC(1+1000000 * (i:Int))i m
 fk:FK m
 nw:m.now≤60000 * (i:Int)
 Ik:m.S.map(·.addr)=ku n
theorem SQ.len {w:World} {n i:Nat} {y:MG} {m:aK} {W:World}(h:SQ w n i y m W):m.S.length=n:=by
 have:=congrArg List.length h.Ik;rw [List.length_map,l6]at this;exact this
theorem SQ.addr {w:World} {n i:Nat} {y:MG} {m:aK} {W:World}(h:SQ w n i y m W) {k:Nat} {s:bi}(hs:m.S[k]?=some s):k<n∧s.addr=10 * (k:Int)+10:=by
 have hk:=(List.getElem?_eq_some_iff.1 hs).1;rw [h.len]at hk;have h1:(m.S.map(·.addr))[k]?=some s.addr:=by rw [List.getElem?_map,hs];rfl
 rw [h.Ik,jL hk]at h1;exact⟨hk,(Option.some.inj h1).symm⟩
theorem SQ.later {w:World} {n i:Nat} {y:MG} {m:aK} {W W':World}(h:SQ w n i y m W)(hb:Below W.heap.size W W'):SQ w n i y m W':=
 ⟨h.mm.later hb,h.low,h.bl.trans(hb.mono h.bl.size),h.ok,h.fk,h.nw,h.Ik⟩
theorem SQ.stepped {w:World} {n i:Nat} {y:MG} {m m':aK} {W W':World}(h:SQ w n i y m W) {y':MG}(h1:MM y' m' W')(u:MU y m y' m' W W')(ok:iC(1+1000000 * ((i+1:Nat):Int))(i+1)m')(fk:FK m')(nw:m'.now≤60000 * ((i+1:Nat):Int))(Ik:m'.S.map(·.addr)=ku n):SQ w n(i+1)y' m' W':=by
 have hz:=h.bl.size;refine⟨h1,fun k hk=> ?_,h.bl.trans(u.fx.Cx hz fun j hj hf=>by have:=h.low j hf;omega),ok,fk,nw,Ik⟩;rcases u.sub k hk with e|e
 ·exact h.low k e
 ·omega
theorem afu {w:World} {n i:Nat} {y:MG} {m:aK} {W:World}(h:SQ w n i y m W)(hi:i≤4096)(o:Op)(ht:o.dS=8→o.txt.size≤65536)(hfw:∀(i:Nat)s,m.S[i]?=some s→s.nd=none→Yh(jl s.aY)):
  Calls Tryz.prog 11 #[.pointer(some⟨y.G,0,none⟩),UR o]W fun e W'=>∃v L y',e=.returned v∧L.map(·.1)=(m.step o).2∧gH W.heap.size v L W'∧y'.G=y.G∧MU y m y'(m.step o).1 W W'∧SQ w n(i+1)y'(m.step o).1 W':=by
 have hnw:=h.nw;refine(afw h.mm h.ok(by omega)(by omega)(by omega)h.fk.1 o ht fun k hk hkl hz=>TZ h.ok(by omega)hkl(by have hs:=List.getElem?_eq_getElem hkl;rw [eB hs]at hz ⊢;exact hfw k _ hs hz)).mono ?_;rintro e W'⟨⟨v,L,rfl,hL,hev,hmp⟩,hok⟩;obtain⟨s1,s2⟩:=VG(fun f hf=>(h.fk.1 f hf).2.1)o;obtain⟨y',h1,u⟩:=hmp;exact⟨v,L,y',rfl,hL,hev,u.G,u,h.stepped h1 u(hok.up(by omega)(Nat.le_refl _))(h.fk.step o)(by omega)(s1.trans h.Ik)⟩
end Go.Proofs.YtakaadcpaeiccabGreat
