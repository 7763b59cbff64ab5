import Derived.Test.YtakaadcpaeiccabGreatC17
import Derived.Maps.RangeWalk
set_option maxHeartbeats 8000000
set_option maxRecDepth 100000
namespace Go.Proofs.YtakaadcpaeiccabGreat
open Go.RowKit Go.Maps
variable{B N:Nat}{s:St}
def Ze(d:Int)(s:St)(TL:List Hp.Tm)(s2:St)(dW:List Hp.Tm):Prop:=(dW=TL∧s2.Q=s.Q)∨∃q,St.j6 s.Q d=some q∧F6 q.id TL dW∧s2.Q=s.Q.filter λz=>!decide (z.dest=d)
def Z_(N B:Nat)(g:bI)(s s2:St)(TL:List Hp.Tm)(d:Int)(w w':World):Prop:=∃dW,lV N B g s s2 dW w w'∧Ze d s TL s2 dW
theorem GR(s:St)(d:Int):(s.sendAll d).aQ=s.aQ:=by
 have h1:∀(t:ByteArray) (s:St),(s.aN d t).aQ=s.aQ:=by
  intro t s;unfold St.aN;split<;>rfl
 have h2:∀(l:List ByteArray) (s:St),(l.foldl (λs t=>s.aN d t) s).aQ=s.aQ:=by
  intro l
  induction l with
  |nil=>intro s;rfl
  |cons t l ih=>intro s;exact(ih _).trans (h1 t s)
 unfold St.sendAll;cases St.j6 s.Q d with
 |none=>rfl
 |some q=>
  dsimp only;split
  ·exact h2 _ _
  ·rfl
theorem SwP.rp{g:bI}{TL:List Hp.Tm}{d:Int}{a b:World}(h:SwP N B g s (s.sendAll d) TL (St.j6 s.Q d) (bH s.A d s.now).2 a b):∃dW,Gv N B g s (s.sendAll d) dW (λz=>z=d) a b∧Ze d s TL (s.sendAll d) dW:=by
 obtain⟨dW,⟨g1,n1,u1,t1,y1⟩,h2,h3⟩:=h;refine⟨dW,⟨g1,n1,u1,t1,λz hz=>y1.out z ?_⟩,?_⟩
 ·rintro⟨_,q,hq,rfl⟩;exact hz (gZ hq).2
 unfold Ze St.sendAll;cases hs:St.j6 s.Q d with
 |none=>exact .inl ⟨h3 (.inl hs),rfl⟩
 |some q=>
  cases hf:(bH s.A d s.now).2 with
  |false=>exact .inl ⟨h3 (.inr hf),by simp⟩
  |true=>exact .inr ⟨q,rfl,h2 q hs hf,by simp⟩
theorem Wt{a c:Int}(h:0<=a∧a<=4611686018427387904)(hc:0<=c∧c<=8589934592):IntKind.u64.wrap (a+IntKind.u64.wrap c)=a+c:=by
 simp only[IntKind.wrap,IntKind.signed,IntKind.bits];simp;omega
theorem JJ{g:bI}{TL:List Hp.Tm}{w:World}(n:Nd N B g s TL w)(fr:Int)(PV:a_ fr)(p:aD)(hq:p.Hd)(hL:fI w p [])(hme:a_ s.me)(fK:0<=s.now∧s.now<=4611686018427387904)(hfl:s.aI.length<=990000)(hdl:s.aQ.length<=990000)(htl:TL.length<=1000000):
  Calls Tryz.prog 131 #[.pointer (some ⟨N,0,none⟩),.pointer (some ⟨B,0,none⟩),.int .u32 fr,p.val] w λe w'=>e=.returned (.tuple #[])∧Z_ N B g s (s.dN fr p) TL p.dest w w':=by
 have hp:=hq.wf;obtain⟨hid,hde,hds,hfr,hfs,hli⟩:=hp.num;have hb0:Below w.heap.size w (w.alloc p.box):=bC;have gX:=PB.new p w;have n0:=n.later hb0;obtain⟨s2,dB⟩:∃s2,s.dN fr p=s2:=⟨_,rfl⟩;rw[dB];have hs2:=hide dB;clear dB;dsimp only[aD.box]at hb0 n0;unfold PB at gX;dsimp only[aD.box]at gX;go_enter Tryz.func131,Tryz.ntmps131;go_upto_region 1 with(fail);generalize World.alloc _ _=W1 at hb0 gX n0 ⊢;have kK:=n.new (k:=w.heap.size) (aB _);generalize lZ:w.heap.size=C at gX kK ⊢;replace lZ:=hide lZ;have hS:HC N B g.x.T C s.me s.seq s.cZ s.now p W1.drew:=HC.xX n0 gX;have hP1:PB p C W1.drew:=PB.below gX (aU _ _).drew;have n1:=n0.drew;have hb1:=hb0.drew;have hs3:=hs2.out;unfold St.dN at hs3;clear hs2 gX n0;by_cases hd1:p.dest=s.me
 ·have hbe:(p.dest==s.me)=true:=by simpa using hd1
  rw[aM hd1]at hs3;clear hd1;have HX:=hide (jA n1 1 (by omega));rw[hs3]at HX;have hQ:Hid (s2.Q=s.Q):=by show _=_;rw[<-hs3];rfl
  clear hs3 hP1 n1;go_region_held3 (HC N B g.x.T C s.me s.seq s.cZ s.now p) (first|with_reducible exact hS|with_reducible assumption) (fail)
  rename_i iV;clear iV hS;go_wp2_with fail;refine aT HX.out ?_;rintro e w9 ⟨rfl,hN⟩;have hfin:Hid (Z_ N B g s s2 TL p.dest w w9):=⟨TL,hN.pre hb1,.inl ⟨rfl,hQ.out⟩⟩;clear hN HX;go_wp2;go_returns;exact⟨rfl,hfin.out⟩
 ·have hbe:(p.dest==s.me)=false:=by simpa using hd1
  rw[aH hd1]at hs3;clear hd1;obtain⟨u,hu⟩:∃u,iP s.me s.A p.dest p.aX (St.far p.hops) fr (s.now+p.life)=u:=⟨_,rfl⟩;have HU:Hid (∀t,t=s.now+p.life->Calls Tryz.prog 161 #[.pointer (some ⟨g.x.T,0,none⟩),.int .u32 p.dest,.int .u32 p.aX,.int .i64 (St.far p.hops),.int .u32 fr,.int .u64 t] W1.drew.drew λr w'=>r=.returned (.int .i64 u.2)∧lV N B g s {s with A:=u.1} TL W1.drew.drew w'):=by
   rintro _ rfl;have:=JG n1.drew p.dest p.aX (St.far p.hops) fr (s.now+p.life) hde hds (by have:=hq.hops;unfold oW St.far;omega) PV (by unfold a_ at hli;unfold BZ;omega);rw[hu]at this;exact this
  rw[hu]at hs3;obtain⟨A2,E2⟩:=u;dsimp only at hs3 HU;clear hu;replace hs3:=hide hs3;have hl0:0<=p.life∧p.life<=8589934592:=by unfold a_ at hli;omega
  have hS2:HC N B g.x.T C s.me s.seq s.cZ s.now p W1.drew.drew:=HC.xX n1 hP1;have hP2:PB p C W1.drew.drew:=PB.below hP1 (aU _ _).drew;clear hP1 n1;go_region_held3 (HC N B g.x.T C s.me s.seq s.cZ s.now p) (first|with_reducible exact hS|with_reducible assumption) (fail)
  rename_i iV;clear iV hS;go_wp2_with fail;go_region_held3 (HC N B g.x.T C s.me s.seq s.cZ s.now p) (first|with_reducible exact hS2|with_reducible assumption) (first
   |(go_at_call 162;refine(vV p.hops hq.hops _).mono ?_;rintro e w3f ⟨rfl,rfl⟩)
   |(go_at_call 161;refine(HU.out _ (by first|rfl|exact Wt fK hl0)).mono ?_;rintro e w4 ⟨rfl,hN⟩;obtain⟨g4,n4,u4,t4⟩:=hN;obtain⟨l9,rF⟩:=u4.kF hP2 kK;have hk4:HC N B g.x.T C s.me s.seq s.cZ s.now p w4:=HC.next n4 l9 t4.out rfl rfl rfl rfl))
  rename_i iV;clear iV hS2 hk4;have qf:=(Up.below (B:=B) (F:=Ft N g s) (hb1.drew)).trans u4;obtain⟨s1,hs1⟩:∃z,({s with A:=A2}:St)=z:=⟨_,rfl⟩;have h1:Hid (s1.me=s.me∧s1.now=s.now∧s1.Q=s.Q∧s1.aI=s.aI∧s1.aQ=s.aQ∧s1.seq=s.seq∧s1.cZ=s.cZ):=by
   show _∧_;rw[<-hs1];exact⟨rfl,rfl,rfl,rfl,rfl,rfl,rfl⟩
  have hs4:Hid ((if E2=4 then s1.drop 2 else if p.aJ=s1.me then(if E2=3 then(s1.sendAll p.dest).drop 7 else s1.sendAll p.dest)else if p.ttl=1 then s1.drop 4 else s1.iD fr p)=s2):=by
   rw[<-hs1];exact hs3
  replace hs3:=hs4;clear hs4;rw[hs1]at n4 qf rF;clear hs1 u4 HU hP2 kK;have adN:Hid (s1.aI.length<=990000):=by show _<=_;rw[h1.out.2.2.2.1];exact hfl
  have Yg:Hid (s1.aQ.length<=990000):=by show _<=_;rw[h1.out.2.2.2.2.1];exact hdl
  by_cases h4:E2=4
  ·subst h4;replace hs3:Hid (s1.drop 2=s2):=hs3;have HX:=hide (jA n4 2 (by have:=Yg.out;omega));rw[hs3.out]at HX;have hQ:Hid (s2.Q=s.Q):=by show _=_;rw[<-hs3.out];exact h1.out.2.2.1
   clear hs3 l9 n4;go_wp2_with fail;refine aT HX.out ?_;rintro e w9 ⟨rfl,g9,n9,u9,t9⟩;have hfin:Hid (Z_ N B g s s2 TL p.dest w w9):=⟨TL,⟨g9,n9,qf.trans u9,t9.out.trans t4.out⟩,.inl ⟨rfl,hQ.out⟩⟩;clear n9 u9 t9 HX;go_wp2;go_returns;exact⟨rfl,hfin.out⟩
  ·have b4:(E2==4)=false:=by simpa using h4
   replace hs3:=hide ((aH h4).symm.trans hs3.out);clear h4;have hS4:HC N B g4.x.T C s1.me s1.seq s1.cZ s1.now p w4.drew:=HC.xX n4 l9;have xP:PB p C w4.drew:=PB.below l9 (aU _ _).drew;have n5:=n4.drew;have zl:=qf.trans (.below (aU _ _).drew:Up B (Ft N g4 s1) (Ft N g4 s1) w4 w4.drew);clear n4 l9 qf;go_wp2_with fail;by_cases hf:p.aJ=s1.me
   ·have bf:(p.aJ==s1.me)=true:=by simpa using hf
    replace hs3:=hide ((aM hf).symm.trans hs3.out);clear hf;obtain⟨sW,hsW⟩:∃z,s1.sendAll p.dest=z:=⟨_,rfl⟩;have hdW:Hid (sW.aQ.length<=990000):=by show _<=_;rw[<-hsW,GR];exact Yg.out
    have HW:Hid (Calls Tryz.prog 78 #[.pointer (some ⟨N,0,none⟩),.pointer (some ⟨B,0,none⟩),.int .u32 p.dest] w4.drew λe w'=>(∃b,e=.returned (.bool b))∧∃dW,lV N B g4 s1 sW dW w4.drew w'∧Ze p.dest s TL sW dW):=by
     refine(tK n5 p.dest hde (by rw[h1.out.1];exact hme) (by rw[h1.out.2.1];exact fK) (by have:=adN.out;omega) htl).mono ?_;rintro e w' ⟨rfl,h⟩;obtain⟨dW,a1,a2⟩:=h.rp;replace a1:=a1.toP;rw[hsW]at a1 a2;exact⟨⟨_,rfl⟩,dW,a1,by unfold Ze at a2 ⊢;rw[h1.out.2.2.1]at a2;exact a2⟩
    rw[hsW]at hs3;clear hsW n5;go_region_held3 (HC N B g4.x.T C s1.me s1.seq s1.cZ s1.now p) (first|with_reducible exact hS4|with_reducible assumption) (fail)
    rename_i iV;clear iV hS4;obtain⟨_,_,_,_,_,p5,_⟩:=PB.cell xP;go_wp2_with fail;refine HW.out.mono ?_;rintro e w9 ⟨⟨b,rfl⟩,dW,⟨g9,n9,u9,t9⟩,htm⟩;replace htm:=hide htm;have wT:=zl.trans u9;have t9':Hid (g9.x.T=g.x.T):=t9.out.trans t4.out;clear u9 t9 HW p5 xP zl;by_cases h3:E2=3
    ·have b3:(E2==3)=true:=by simpa using h3
     replace hs3:=hide ((aM h3).symm.trans hs3.out);clear h3;have HX:=hide (jA n9 7 (by have:=hdW.out;omega));rw[hs3.out]at HX;have aeY:Hid (Ze p.dest s TL s2 dW):=by
      show Ze p.dest s TL s2 dW;rw[<-hs3.out];exact htm.out
     clear n9 hs3;go_wp2_with fail;refine aT HX.out ?_;rintro e w10 ⟨rfl,g10,n10,u10,t10⟩;have hfin:Hid (Z_ N B g s s2 TL p.dest w w10):=⟨dW,⟨g10,n10,wT.trans u10,t10.out.trans t9'.out⟩,aeY.out⟩;clear n10 u10 t10 HX;go_wp2;go_returns;exact⟨rfl,hfin.out⟩
    ·have b3:(E2==3)=false:=by simpa using h3
     replace hs3:=hide ((aH h3).symm.trans hs3.out);clear h3;have hfin:Hid (Z_ N B g s s2 TL p.dest w w9):=by
      show Z_ N B g s s2 TL p.dest w w9;rw[<-hs3.out];exact⟨dW,⟨g9,n9,wT,t9'⟩,htm.out⟩
     clear n9 hs3;go_wp2;go_returns;exact⟨rfl,hfin.out⟩
   ·have bf:(p.aJ==s1.me)=false:=by simpa using hf
    replace hs3:=hide ((aH hf).symm.trans hs3.out);clear hf;go_region_held3 (HC N B g4.x.T C s1.me s1.seq s1.cZ s1.now p) (first|with_reducible exact hS4|with_reducible assumption) (fail)
    rename_i iV;clear iV hS4;obtain⟨p0,p1,p2,p3,p4,p5,p6,p7,p8,p9,jK,jE⟩:=PB.cell xP;by_cases ht:p.ttl=1
    ·have bt:(p.ttl==1)=true:=by simpa using ht
     replace hs3:=hide ((aM ht).symm.trans hs3.out);clear ht;have HX:=hide (jA n5 4 (by have:=Yg.out;omega));rw[hs3.out]at HX;have hQ:Hid (s2.Q=s.Q):=by show _=_;rw[<-hs3.out];exact h1.out.2.2.1
     clear hs3 xP n5;go_wp2_with fail;refine aT HX.out ?_;rintro e w9 ⟨rfl,g9,n9,u9,t9⟩;have hfin:Hid (Z_ N B g s s2 TL p.dest w w9):=⟨TL,⟨g9,n9,zl.trans u9,t9.out.trans t4.out⟩,.inl ⟨rfl,hQ.out⟩⟩;clear n9 u9 t9 HX;go_wp2;go_returns;exact⟨rfl,hfin.out⟩
    ·have bt:(p.ttl==1)=false:=by simpa using ht
     replace hs3:=hide ((aH ht).symm.trans hs3.out);clear ht;have HX:=hide (QN n5 fr PV p hq hL.nil (by rw[h1.out.2.1];exact fK) (by have:=adN.out;omega) (by have:=Yg.out;omega));rw[hs3.out]at HX;dsimp only[aD.val]at HX;have hQ:Hid (s2.Q=s.Q):=by
      show _=_;rw[<-hs3.out];unfold St.iD;split<;>exact h1.out.2.2.1
     clear hs3 xP n5;go_wp2_with fail;refine aT HX.out ?_;rintro e w9 ⟨rfl,g9,n9,u9,t9⟩;have hfin:Hid (Z_ N B g s s2 TL p.dest w w9):=⟨TL,⟨g9,n9,zl.trans u9,t9.out.trans t4.out⟩,.inl ⟨rfl,hQ.out⟩⟩;clear n9 u9 t9 HX;go_wp2;go_returns;exact⟨rfl,hfin.out⟩
open Go.WideElems
variable{q:Int}{f:Int->Option Int}{A:List Rt}{B N:Nat}{s:St}{W w:World}
structure St.Dom(s:St):Prop where
 mb:MB s.f
 on:∀d,(s.f d).isSome=true->∃y∈s.A,y.dest=d
 own:a_ s.own
theorem SV{own:Int}(h:MB f)(hA:∀y∈A,y.Ok):MB (bJ q own f A).1:=by
 have hg:∀(B:List Rt) (st:(Int->Option Int)×List (Bool×Int×Int)),(∀y∈B,y.Ok)->MB st.1->MB (B.foldl jF st).1:=by
  intro B
  induction B with
  |nil=>intro st _ h;exact h
  |cons y B ih=>
   intro st hB h;rw[fP];refine ih _ (λz hz=>hB z (iJ _ hz)) ?_;unfold jF;split
   ·intro d v hd;dsimp only[ku]at hd;split at hd
    ·rename_i e;have hy:=hB y gm;cases hd;exact⟨e▸hy.dest,hy.seq⟩
    ·exact h d v hd
   ·exact h
 exact hg A _ hA h
theorem Pj{own:Int}:∀y∈A,((bJ q own f A).1 y.dest).isSome=true:=by
 have hk:∀(B:List Rt) (st:(Int->Option Int)×List (Bool×Int×Int)) (d:Int),(st.1 d).isSome=true->((B.foldl jF st).1 d).isSome=true:=by
  intro B
  induction B with
  |nil=>intro st d h;exact h
  |cons y B ih=>
   intro st d h;rw[fP];refine ih _ d ?_;unfold jF;split
   ·dsimp only[ku];split
    ·rfl
    ·exact h
   ·exact h
 have hg:∀(B:List Rt) (st:(Int->Option Int)×List (Bool×Int×Int)),∀y∈B,((B.foldl jF st).1 y.dest).isSome=true:=by
  intro B
  induction B with
  |nil=>intro st y hy;cases hy
  |cons z B ih=>
   intro st y hy;rw[fP];rcases eD.1 hy with rfl|hy
   ·refine hk B _ _ ?_;unfold jF;split
    ·simp[ku]
    ·rename_i hn;simp only[sU,Bool.or_eq_true,not_or]at hn;have h1:=hn.1;cases hq:st.1 y.dest with
     |none=>rw[hq]at h1;simp at h1
     |some _=>rfl
   ·exact ih _ y hy
 exact hg A _
theorem XP{own:Int}(hq:a_ q)(ho:a_ own):a_ (E9 q own):=by
 unfold E9;split<;>assumption
theorem rY{own:Int}(h:∀d,(f d).isSome=true->∃y∈A,y.dest=d):∀d,((bJ q own f A).1 d).isSome=true->∃y∈A,y.dest=d:=by
 have hg:∀(B:List Rt) (st:(Int->Option Int)×List (Bool×Int×Int)),(∀y∈B,y∈A)->(∀d,(st.1 d).isSome=true->∃y∈A,y.dest=d)->∀d,((B.foldl jF st).1 d).isSome=true->∃y∈A,y.dest=d:=by
  intro B
  induction B with
  |nil=>intro st _ h;exact h
  |cons y B ih=>
   intro st hB h;rw[fP];refine ih _ (λz hz=>hB z (iJ _ hz)) ?_;unfold jF;split
   ·intro d hd;dsimp only[ku]at hd;split at hd
    ·rename_i e;exact⟨y,hB y gm,e.symm⟩
    ·exact h d hd
   ·exact h
 exact hg A _ (λ_ h=>h) h
theorem Eb(h:s.Dom)(hA:∀y∈s.A,y.Ok)(hq:a_ s.seq):s.write.Dom:=⟨SV h.mb hA,rY h.on,XP hq h.own⟩
theorem Gb.size_le{x:mX}{M:Nat}{ff:Int->Option Nat}{gg:Int->Value}{sz:Nat}(n:Gb N x M ff gg A f sz W)(h:∀d,(f d).isSome=true->∃y∈A,y.dest=d):sz<=8:=by
 refine dH (n.mo.size_le (A.map (·.dest)) λd _ hd=> ?_) (by rw[iL];exact n.tb.len);obtain⟨y,hy,rfl⟩:=h d hd;exact dh.2 ⟨y,hy,rfl⟩
theorem Nd.core{g:bI}{s':St}{TL:List Hp.Tm}{W':World}(n:Nd N B g s TL W){x':mX}{UL:Int->Option Nat}{xR:Int->Value}{sz':Nat}{a':qy}
  (h:Gb N x' g.M UL xR s'.A s'.f sz' W') (ha:jI B (B+1) a' s'.bg s'.aI s'.aR s'.aQ W')
  (hf:Fx (λk=>zK N g.x g.M g.ff g.gg s.A k∨jC B g.a k) W W') (hin:∀k,zK N x' g.M UL xR s'.A k->zK N g.x g.M g.ff g.gg s.A k)
  (hx:x'.Mo=g.x.Mo∧x'.Ms=g.x.Ms∧x'.qK=g.x.qK∧x'.Tm=g.x.Tm∧x'.pc=g.x.pc) (he:NdE x' s')
  (hs:s'.mem=s.mem∧s'.tn=s.tn∧s'.Q=s.Q∧s'.tl=s.tl∧s'.pc=s.pc) (hz:sz'<=1000000) (h1:a'.now=s'.now) (h2:a'.bn=s'.bn):
  Nd N B {g with x:=x',ff:=UL,gg:=xR,sz:=sz',a:=a'} s' TL W'∧Up B (Ft N g s) (Ft N {g with x:=x',ff:=UL,gg:=xR,sz:=sz',a:=a'} s') W W':=by
 obtain⟨x1,x2,x3,x4,x5⟩:=hx;obtain⟨t1,t2,t3,t4,t5⟩:=hs;have hrs:=n.nn.rs.kept (W':=W') λk hk=>hf.block k (n.nn.rs.lt hk) λh=>h.elim (λh=>n.nn.apart hk h) λh=>n.ac.KD n.nn (.inr hk) h;have hR:∀k,kg x' g.h g.u g.Mt g.tv s' k->kg g.x g.h g.u g.Mt g.tv s k:=by
  intro k hk;unfold kg at hk ⊢;rw[x2,x3,x4,x5,t3]at hk;exact hk
 refine⟨⟨⟨h,he,⟨?_,?_,?_,hrs.hpo,hrs.pm,?_⟩,?_,hz⟩,ha,h1,h2⟩,.of hf (λk o hk ho=>hk.elim (λh=> .inl (.inl h)) λh=> .inr ⟨n.ac.kinds h ho,n.ac.ge h⟩) λk hk=> .inl (hk.imp (hin k) (hR k))⟩
 ·dsimp only;rw[x2,t1,t2];exact hrs.sn
 ·dsimp only;rw[x3,t3];exact hrs.sr
 ·dsimp only;rw[x4,t4];exact hrs.tm
 ·dsimp only;rw[x5,t5];exact hrs.pc
 ·dsimp only;rw[x1,x2,x3];exact n.nn.qY
theorem Zk{g:bI}{TL:List Hp.Tm}(n:Nd N B g s TL w)(hd:s.Dom)(hc:0<=s.cnt∧s.cnt<=1000000)(hw:s.bg.length<=90000):
  Calls Tryz.prog 71 #[.pointer (some ⟨N,0,none⟩),.pointer (some ⟨B,0,none⟩)] w λe w'=>e=.returned (.tuple #[])∧lV N B g s s.write TL w w':=by
 obtain⟨e1,e2,e3,e4,e5,e6,e7,e8,e9⟩:=n.nn.eq;refine(wM N B (B+1) g.x g.a g.M g.ff g.gg s.A s.f g.sz s.bg s.aI s.aR s.aQ w n.nn.cr n.ac n.base (by rw[e8];exact hc) n.nn.JS hw).mono ?_;rintro e w' ⟨v7,sz',rfl,h1,_,h3,h4⟩;have hn:bJ g.x.seq g.x.own s.f s.A=bJ s.seq s.own s.f s.A:=by rw[e2,e7]
 rw[hn]at h1 h3;have hz:sz'<=8:=h1.size_le (rY hd.on);obtain⟨p,q⟩:=n.core (s':=s.write) h1 h3 (h4.mono λk h=>by
  rcases h with rfl|rfl|h
  ·exact .inl (.inl rfl)
  ·exact .inl (.inr (.inl rfl))
  ·exact .inr h) (λk hk=>hk) ⟨rfl,rfl,rfl,rfl,rfl⟩ ⟨e1,e2,e3,e4,e5,e6,by dsimp only;rw[e2,e7];rfl,by dsimp only;rw[e8];rfl,e9⟩ ⟨rfl,rfl,rfl,rfl,rfl⟩ (by omega) n.now n.bn
 exact⟨rfl,_,p,q,rfl⟩
theorem zX{g:bI}{TL:List Hp.Tm}(n:Nn N g s TL w)(now:Int)(hd:s.Dom)(hc:0<=s.cnt∧s.cnt<=1000000):
  Calls Tryz.prog 51 #[.pointer (some ⟨N,0,none⟩),.int .u64 now] w λe w'=>∃g',e=.returned (.pointer (some ⟨w.heap.size,0,none⟩))∧Nd N w.heap.size g' (s.begin now) TL w'∧Up w.heap.size (Ft N g s) (Ft N g' (s.begin now)) w w'∧Fx (Ft N g s) w w'∧g'.x.T=g.x.T:=by
 obtain⟨e1,e2,e3,e4,e5,e6,e7,e8,e9⟩:=n.eq;refine(QF N g.x now w n.cr (by rw[e8];exact hc) n.JS).mono ?_;rintro e w' ⟨xR,v7,sz',rfl,h1,_,h3,h4,h5⟩;have hn:bJ g.x.seq g.x.own s.f (iW s.A now)=bJ s.seq s.own s.f (iW s.A now):=by rw[e2,e7]
 rw[hn]at h1 h3;have hdom:∀d,((bJ s.seq s.own s.f (iW s.A now)).1 d).isSome=true->∃y∈iW s.A now,y.dest=d:=rY λd hd'=>by
  obtain⟨y,hy,rfl⟩:=hd.on d hd';exact⟨n_ now y,dh.2 ⟨y,hy,rfl⟩,h_ now y⟩
 have hz:sz'<=8:=h1.size_le hdom;have hrs:=n.rs.kept (W':=w') λk hk=>h5.block k (n.rs.lt hk) λh=>n.apart hk h;have hF:∀k,Ft N {g with x:={g.x with own:=E9 g.x.seq g.x.own,cnt:=g.x.cnt+(bJ s.seq s.own s.f (iW s.A now)).2.length},gg:=xR,sz:=sz',a:={Gt now with nT:=v7}} (s.begin now) k->Ft N g s k:=λk hk=>hk.imp (h4 k) λh=>h;refine⟨{g with x:={g.x with own:=E9 g.x.seq g.x.own,cnt:=g.x.cnt+(bJ s.seq s.own s.f (iW s.A now)).2.length},gg:=xR,sz:=sz',a:={Gt now with nT:=v7}},rfl,⟨⟨h1,⟨e1,e2,e3,e4,e5,e6,by dsimp only;rw[e2,e7];rfl,by dsimp only;rw[e8];rfl,e9⟩,⟨hrs.sn,hrs.sr,hrs.tm,hrs.hpo,hrs.pm,hrs.pc⟩,n.qY,by dsimp only;omega⟩,?_,rfl,rfl⟩,.of h5 (λk o hk _=> .inl (.inl hk)) λk hk=> .inl (hF k hk),h5.mono λk h=> .inl h,rfl⟩;have e10:(s.begin now).bg=(bJ s.seq s.own s.f (iW s.A now)).2:=List.nil_append _;rw[e10];exact h3
def KG(left:Lit->Bool)(f:Int->Option Int):Int->Option Int:=λk=>if left (.int .u32 k)then none else f k
theorem Pp{left:Lit->Bool}{x c:Int}(hl:left (.int .u32 x)=true){f:Int->Option Int}(hf:f x=some c)(h0:0<=c){L:List (Bool×Int×Int)}(hL:mG L=KG left f):mG (L++ [(false,x,c)])=KG (λz=>left z&&!z.sameKey (.int .u32 x)) f:=by
 rw[Ik,hL]
 funext k
 unfold stepM ku KG;simp only[Bool.false_eq_true,if_false];by_cases e:k=x
 ·subst e;simp[hl,hf,Lit.sameKey];omega
 ·simp[e,Lit.sameKey]
theorem XA{L:List (Bool×Int×Int)}(x c:Int):qI (L++ [(false,x,c)])=qI L:=by rw[AV];rfl
theorem Jv(N:Nat)(x:mX)(f:Int->Option Int)(sz:Nat)(w:World)(hN:iI N x w)(hm:MapU w x.Mo f sz)(hmb:MB f)(hown:a_ x.own)(hsz:sz<=40000)(adL:∃l:List Int,l.length<=12∧∀a,(f a).isSome=true->a∈l):
  Calls Tryz.prog 72 #[.pointer (some ⟨N,10,none⟩)] w λe w'=>∃v' out,e=.returned v'∧iT f (some x.own) out∧w'.ownsRow w.heap.size 82 3 v' out.length (RC out)∧iI N {x with cnt:=out.length} w'∧MapU w' x.Mo f sz∧Fx (λk=>k=N) w w':=by
 obtain⟨i0,hi,hz0,hz1,hz2⟩:=info_parts rq;have hNM:=Nb hN hm;have hfw:=hide adL;clear adL;have hMU:=hide hm;obtain⟨D,h1,h2,h3⟩:=hm;have h3':=(show Hid _ from h3);have adX:Hid (KG (has D) f=λ_=>none):=by
  show _=_
  funext k
  unfold KG;cases hk:f k with
  |none=>simp
  |some c=>
   rw[(h3 k (hmb k c hk).1).1,hk];rfl
 clear h3;obtain⟨n0,n2,n3,n4,n5,n6,n7,n8,n9,n10⟩:=hN.cell;have jM:Below w.heap.size w (w.alloc (aY true 0 x.own)):=bC;have hr0:(w.alloc (aY true 0 x.own)).ownsRow w.heap.size 82 3 (.slice (some ⟨w.heap.size,0,none⟩) 1 1) 1 (RC [(true,0,x.own)]):=
  ⟨rfl,.inr ⟨w.heap.size,1,_,rfl,aB _,bS w _,aB _,by decide,rfl,rfl⟩⟩
 have hN1:=hN.later jM;have Uy:Hid (MapU (w.alloc (aY true 0 x.own)) x.Mo f sz):=hMU.out.block (jM.block _ hMU.out.lt);have ho1:(w.alloc (aY true 0 x.own)).ownsMap Tryz.prog 34 (plainElem Tryz.prog 34) x.Mo sz D:=by
  obtain⟨es,clock,hb,Ft,hs,hD⟩:=h1;exact⟨es,clock,(jM.block _ (iC.1 hb).1).trans hb,Ft,hs,hD⟩
 have hs1:w.heap.size<=(w.alloc (aY true 0 x.own)).heap.size:=jM.size;dsimp only[aY]at jM hr0 hN1 ho1 Uy hs1;clear hMU;go_enter Tryz.func72,Tryz.ntmps72;go_upto_region 2 with(fail);generalize World.alloc _ _=W1 at jM hr0 hN1 ho1 Uy hs1 ⊢;clear n0 n2 n3 n4 n5 n6 n7 n8 n9 n10;obtain⟨n0,n2,n3,n4,n5,n6,n7,n8,n9,n10⟩:=hN1.cell;go_wp2_with(at_range;refine wpList_range_own _ rfl _ 115 rfl 34 34 gy Tryz.underlying115 _ x.Mo sz _ rfl ho1 ?_;intro w0 hrg0 hg0 hs0);have hb0:Below W1.heap.size W1 w0:=⟨hg0.os,hg0.tape,hg0.output,hg0.size,λk hk=>hg0.block k hk (by simp)⟩;have hNa:=hN1.later hb0;have hra:=aL hr0 hb0;have V_:Hid (MapU w0 x.Mo f sz):=Uy.out.block (hb0.block _ Uy.out.lt);have hBa:=jM.trans (hb0.mono hs1);have hza:=hb0.size;clear hN1 hr0 Uy n0 n2 n3 n4 n5 n6 n7 n8 n9 n10 h1 ho1 hb0 hg0 jM;go_frame;go_loopw [3] (λlv wr=>∃(left:Lit->Bool) (cnt:Nat) (L:List (Bool×Int×Int)),wr.ranges Tryz.prog 34 (plainElem Tryz.prog 34) x.Mo W1.heap.size sz D left cnt∧wr.ownsRow w.heap.size 82 3 lv L.length (RC L)∧Hid (mG L=KG left f)∧Hid (qI L=some x.own)∧qx L∧L.length+cnt<=sz+1∧iI N x wr∧Hid (MapU wr x.Mo f sz)∧Below w.heap.size w wr∧W1.heap.size<=wr.heap.size)
  (λ_ wr=>wr.rangeLeft x.Mo W1.heap.size)
 case atStart=>
  refine⟨_,_,[(true,0,x.own)],hrg0,hra,?_,?_,?_,?_,hNa,V_,hBa,hza⟩
  ·rw[adX.out];rfl
  ·show some (max 0 x.own)=_;have:=hown.1;rw[Int.max_eq_right this]
  ·intro z hz;simp only[dO]at hz;subst hz;unfold a_ at hown;dsimp only;omega
  ·have:=h2;simp only[List.length_singleton];omega
 case round=>
  clear hrg0 hra V_ hNa hBa hza hs0;obtain⟨left,cnt,L,hrg,hro,hmp,how,hbd,hlc,hNr,Yp,hbr,hzr⟩:=hrel;have hNl:=hNr.lt;go_wp2_with(at_next;refine wpList_next_ranges_ii _ rfl _ rfl 34 34 .u32 .u32 gy Tryz.underlying34 Tryz.underlying34 x.Mo W1.heap.size sz _ _ _ rfl hrg ?_ ?_)
  ·intro hc0 hl0;have hmf:Hid (mG L=f):=by
    show _=_;rw[hmp.out]
    funext k
    unfold KG;simp[hl0]
   clear hmp hl0;obtain⟨ao,c,hv,hH⟩:=ay hro;subst hv;have HC:Hid (Calls Tryz.prog 69 #[.slice ao L.length c] wr (aex L wr)):=vO ao L.length c L rfl (by omega) hbd (by show ∃l:List Int,_;rw[hmf.out];exact hfw.out) wr hH;have hown':=hide how;go_wp2_with fail;refine aT HC.out ?_;rintro e w5 ⟨v5,out,rfl,hcmp,hlen,hrow,hb5⟩;rw[hmf.out,how.out]at hcmp;have V8:=hNr.later hb5;have nZ:Hid (MapU w5 x.Mo f sz):=Yp.out.block (hb5.block _ Yp.out.lt);have adW:=hbr.trans (hb5.mono (dH hs1 hzr));have nO:w5.ownsRow w.heap.size 82 3 v5 out.length (RC out):=ownsRow_base_a hrow (dH hs1 hzr);obtain⟨a5,c5,hv5,_⟩:=ay hrow;subst hv5;have hcmp:=hide hcmp;clear HC hH hro hrg hNr Yp hbr hb5 hlc hbd;obtain⟨n0,n2,n3,n4,n5,n6,n7,n8,n9,n10⟩:=V8.cell;have f12:=V8.free 12;have hset:=V8.RJ (out.length:Int);have hgN:w5.grownBy (w5.setCell ⟨N,12,none⟩ (.int .i64 (out.length:Int))) (some N):=ah (aC _ (some N)) 12 _;have uz:=nO.kept hgN (.inr (aA nO V8 (λc e=>by cases e)));have hM6:Hid (MapU (w5.setCell ⟨N,12,none⟩ (.int .i64 (out.length:Int))) x.Mo f sz):=nZ.out.block (hgN.block _ nZ.out.lt (λe=>hNM (Option.some.inj e).symm));have hfx:Fx (λk=>k=N) w (w5.setCell ⟨N,12,none⟩ (.int .i64 (out.length:Int))):=aV (Fx.below adW) hgN (λi _ e=>by cases e;rfl);go_wp2_with fail;generalize World.setCell _ _ _=w6 at hset uz hM6 hfx ⊢;clear V8 nZ nO hrow adW hgN n0 n2 n3 n4 n5 n6 n7 n8 n9 n10 f12;go_wp2;go_returns;exact⟨_,out,rfl,hcmp.out,uz,hset,hM6.out,hfx⟩
  ·intro y c w1 cnt1 hwx hwc hlx hat hrg1 hlt hg1 T9 hen;have hb:=bounds_u32 hwx;have hyu:a_ y:=⟨hb.1,by have:=hb.2;omega⟩;have hc:=bounds_u32 hwc;have hcu:a_ c:=⟨hc.1,by have:=hc.2;omega⟩;have hf:f y=some c:=by
    have h3x:=h3'.out y hyu;have hsome:=h3x.1;rw[has_true_of_atKey hat]at hsome;obtain⟨z,hz⟩:=Option.isSome_iff_exists.1 hsome.symm;have h4:=h3x.2;rw[hat,hz]at h4;simp at h4;rw[hz,h4]
   have afe:=hide (Pp hlx hf hcu.1 hmp.out);have how':=hide ((XA y c).trans how.out);have afC:qx (L++ [(false,y,c)]):=λz hz=>by
    rcases dG.1 hz with h|h
    ·exact hbd z h
    ·rw[dO]at h;subst h;unfold a_ at hyu hcu;dsimp only;omega
   obtain⟨es,clock,since,seen,c0,hbm,_,_,_,hbi,_⟩:=id hrg;have abe:=hro.kept hg1 (.inr (aA hro hbi (λc e=>by cases e)));have agN:=hN.lt;have hN1:=hNr.kept hg1 (λe=>by have:=Option.some.inj e;omega);have hM1:Hid (MapU w1 x.Mo f sz):=Yp.out.block (hg1.block _ Yp.out.lt (λe=>hrg.ne (Option.some.inj e).symm));have hb1:Below w.heap.size w w1:=⟨hg1.os.trans hbr.os,hg1.tape.trans hbr.tape,hg1.output.trans hbr.output,dH hbr.size hg1.size,λk hk=>(hg1.block k (fO hk hbr.size) (λe=>by have:=Option.some.inj e;omega)).trans (hbr.block k hk)⟩;have hme:=(show Hid (cnt1<wr.rangeLeft x.Mo W1.heap.size)from by show _<_;rw[hrg.left_eq];exact hlt);have agn:W1.heap.size<=w1.heap.size:=by have:=hg1.size;omega
   have hln:L.length<=40001:=by omega
   have afj:L.length+1+cnt1<=sz+1:=by omega
   have jM:Below w1.heap.size w1 (w1.alloc (aY false y c)):=bC;have hcr:=kY w1 false y c;have hkw:KeepsWalks w1 (w1.alloc (aY false y c)):=KeepsWalks.alloc _ _;have hM2:Hid (MapU (w1.alloc (aY false y c)) x.Mo f sz):=hM1.out.block (jM.block _ hM1.out.lt);have Gs:=hN1.later jM;have PD:=aL abe jM;have hb2:=hb1.trans (jM.mono hb1.size);have hs2:w.heap.size<=w1.heap.size:=hb1.size;dsimp only[aY]at jM hcr hkw hM2 Gs PD hb2;clear hmp how hbd hro hNr Yp hbr hzr hrg hg1 T9 hlt hlc hat hf hbm hbi hlx hwx hwc hM1 hN1 hb1 hb hc;go_wp2_with(at_builtin;refine wpList_append_own_at _ rfl _ _ 79 rfl w.heap.size 82 i0 (.agg #[.bool false,.int .u32 0,.int .u32 0]) 3 12 Tryz.underlying79 hi hz0 hz1 hz2 rfl (by decide) u3 L.length (RC L) rfl (abe.alloc _) ⟨w1.heap.size,0,none⟩ 1 1 (RC [(false,y,c)]) rfl rfl hcr (nJ false y c) (by unfold maxLen;omega) (by omega) ?c3 ?_)
   case c3=>simp;omega
   intro v4 W4 DX hg4 _ _;have IX:=hrg1.of_walks (hkw.trans (KeepsWalks.of_grownBy hg4 (λj o e ho=>by
    obtain⟨cc,hcc⟩:=aS PD e;rw[hcc]at ho;cases ho;rfl)))
   have CB:=Gs.kept hg4 (aA PD Gs (λc e=>by cases e));have CW:Hid (MapU W4 x.Mo f sz):=hM2.out.kept hg4 (Ne.symm (EB PD hM2.out));have hb4:Below w.heap.size w W4:=⟨hg4.os.trans hb2.os,hg4.tape.trans hb2.tape,hg4.output.trans hb2.output,dH hb2.size hg4.size,λk hk=>(hg4.block k (fO hk hb2.size) (λe=>by have:=(PD.lt k e.symm).1;omega)).trans (hb2.block k hk)⟩;have hz4:W1.heap.size<=W4.heap.size:=by
    have:=hg4.size;have:=jM.size;omega
   have hfin:Hid (W4.ownsRow w.heap.size 82 3 v4 (L++ [(false,y,c)]).length (RC (L++ [(false,y,c)]))∧(L++ [(false,y,c)]).length+cnt1<=sz+1):=by
    show _∧_;rw[dx,lD];exact⟨DX,by simpa using afj⟩
   clear hrg1 abe PD hg4 hkw jM hcr Gs hM2 hb2 DX;go_wp2;go_roundw
   case rel=>exact⟨_,cnt1,_,IX,hfin.out.1,afe,how',afC,hfin.out.2,CB,CW,hb4,hz4⟩
   case measure=>rw[IX.left_eq];exact hme.out
variable{i j:Nat}{a b:St}
structure Eff(j:Nat)(s s':St):Prop where
 me:s'.me=s.me
 now:s'.now=s.now
 f:s'.f=s.f
 own:s'.own=s.own
 cnt:s'.cnt=s.cnt
 bg:s'.bg=s.bg
 bn:s'.bn=s.bn
 lk:s'.lk=s.lk
 tl:s'.tl=s.tl
 pc:s'.pc=s.pc
 dm:s'.dm=s.dm
 sub:∀y∈s.A,∃z∈s'.A,z.dest=y.dest
 seq:a_ s.seq->a_ s'.seq
 mem:(∀e∈s.mem,e.dL<=s.now+1280)->∀e∈s'.mem,e.dL<=s'.now+1280
 tn:s'.tn<=s.tn+j
 aI:s'.aI.length<=s.aI.length+j
 aQ:s'.aQ.length<=s.aQ.length+j
 aR:s'.aR.length<=s.aR.length+j
 qs:∀z∈s'.Q,z∈s.Q
theorem Eff.refl(s:St):Eff 0 s s:=⟨rfl,rfl,rfl,rfl,rfl,rfl,rfl,rfl,rfl,rfl,rfl,λy h=>⟨y,h,rfl⟩,id,id,by omega,aB _,aB _,aB _,λ_ h=>h⟩
theorem Eff.trans{c:St}(p:Eff i a b)(q:Eff j b c):Eff (i+j) a c:=
 ⟨q.me.trans p.me,q.now.trans p.now,q.f.trans p.f,q.own.trans p.own,q.cnt.trans p.cnt,q.bg.trans p.bg,q.bn.trans p.bn,q.lk.trans p.lk,q.tl.trans p.tl,q.pc.trans p.pc,q.dm.trans p.dm,λy hy=>by
  obtain⟨z,hz,e⟩:=p.sub y hy;obtain⟨u,hu,e'⟩:=q.sub z hz;exact⟨u,hu,e'.trans e⟩,λh=>q.seq (p.seq h),λh=>q.mem (p.mem h),by have:=p.tn;have:=q.tn;omega,by have:=p.aI;have:=q.aI;omega,by have:=p.aQ;have:=q.aQ;omega,by have:=p.aR;have:=q.aR;omega,λz h=>p.qs z (q.qs z h)⟩
theorem Eff.mono(p:Eff i a b)(h:i<=j):Eff j a b:=
 ⟨p.me,p.now,p.f,p.own,p.cnt,p.bg,p.bn,p.lk,p.tl,p.pc,p.dm,p.sub,p.seq,p.mem,by have:=p.tn;omega,by have:=p.aI;omega,by have:=p.aQ;omega,by have:=p.aR;omega,p.qs⟩
theorem gB(s:St)(r:Int):Eff 1 s (s.drop r):=⟨rfl,rfl,rfl,rfl,rfl,rfl,rfl,rfl,rfl,rfl,rfl,λy h=>⟨y,h,rfl⟩,id,id,by show s.tn<=_;omega,by show s.aI.length<=_;omega,by show(s.aQ++ [r]).length<=_;simp,by show s.aR.length<=_;omega,λ_ h=>h⟩
theorem rM(s:St)(t:Int)(p:aD)(L:List (Int×Int)):Eff 1 s (s.send t p L):=⟨rfl,rfl,rfl,rfl,rfl,rfl,rfl,rfl,rfl,rfl,rfl,λy h=>⟨y,h,rfl⟩,id,id,by show s.tn<=_;omega,by show(s.aI++ [_]).length<=_;simp,by show s.aQ.length<=_;omega,by show s.aR.length<=_;omega,λ_ h=>h⟩
theorem XU(t:Int)(L:List (Int×Int)):(Pw t L).length<=1:=by
 unfold Pw;split<;>simp
theorem rP(s:St)(t:Int)(L:List (Int×Int)):Eff 1 s (s.lose t L):=⟨rfl,rfl,rfl,rfl,rfl,rfl,rfl,rfl,rfl,rfl,rfl,λy h=>⟨y,h,rfl⟩,id,id,by show s.tn<=_;omega,by show(s.aI++Pw t L).length<=_;have:=XU t L;simp;omega,by show s.aQ.length<=_;omega,by show s.aR.length<=_;omega,λ_ h=>h⟩
theorem qi(s:St){A:List Rt}(h:∀y∈s.A,∃z∈A,z.dest=y.dest):Eff 0 s {s with A:=A}:=⟨rfl,rfl,rfl,rfl,rfl,rfl,rfl,rfl,rfl,rfl,rfl,h,id,id,by show s.tn<=_;omega,aB _,aB _,aB _,λ_ h=>h⟩
theorem qQ(A:List Rt)(d:Int)(f:Rt->Rt)(hf:∀y,(f y).dest=y.dest):∀y∈A,∃z∈gV A d f,z.dest=y.dest:=by
 intro y hy;refine⟨if y.dest=d then f y else y,dh.2 ⟨y,hy,rfl⟩,?_⟩;split
 ·exact hf y
 ·rfl
theorem qP(A:List Rt)(d e:Int):∀y∈A,∃z∈iO A d e,z.dest=y.dest:=qQ A d _ (mq e)
theorem qR(A:List Rt)(d n:Int):∀y∈A,∃z∈kZ A d n,z.dest=y.dest:=qQ A d _ (lg n)
theorem Oy(A:List Rt)(fr d q:Int):∀y∈A,∃z∈gT A fr d q,z.dest=y.dest:=qQ A d _ (eU fr q)
theorem uZ(me:Int)(A:List Rt)(d q h n e:Int):∀y∈A,∃z∈(iP me A d q h n e).1,z.dest=y.dest:=by
 unfold iP;split
 ·exact λy hy=>⟨y,hy,rfl⟩
 ·split
  ·split
   ·exact qQ A d _ λy=>rfl
   ·exact λy hy=>⟨y,hy,rfl⟩
  ·split
   ·exact λy hy=>⟨y,hy,rfl⟩
   ·intro y hy;refine⟨y,?_,rfl⟩;unfold uy;rw[<-List.take_append_drop (pos A (newR d q h n e).dest) A]at hy;rcases dG.1 hy with h|h
    ·exact dG.2 (.inl h)
    ·exact dG.2 (.inr (iJ _ h))
theorem mr{A B C:List Rt}(h:∀y∈A,∃z∈B,z.dest=y.dest)(k:∀y∈B,∃z∈C,z.dest=y.dest):∀y∈A,∃z∈C,z.dest=y.dest:=λy hy=>by
 obtain⟨z,hz,e⟩:=h y hy;obtain⟨u,hu,e'⟩:=k z hz;exact⟨u,hu,e'.trans e⟩
theorem aed(s:St)(Q:List Sr)(hQ:∀z∈Q,z∈s.Q):Eff 0 s {s with Q:=Q}:=⟨rfl,rfl,rfl,rfl,rfl,rfl,rfl,rfl,rfl,rfl,rfl,λy h=>⟨y,h,rfl⟩,id,id,by show s.tn<=_;omega,aB _,aB _,aB _,hQ⟩
theorem UQ(s:St)(l:Int):Eff 0 s {s with eG:=l}:=⟨rfl,rfl,rfl,rfl,rfl,rfl,rfl,rfl,rfl,rfl,rfl,λy h=>⟨y,h,rfl⟩,id,id,by show s.tn<=_;omega,aB _,aB _,aB _,λ_ h=>h⟩
theorem YR(s:St)(l:Int):Eff 0 s {s with cZ:=l}:=⟨rfl,rfl,rfl,rfl,rfl,rfl,rfl,rfl,rfl,rfl,rfl,λy h=>⟨y,h,rfl⟩,id,id,by show s.tn<=_;omega,aB _,aB _,aB _,λ_ h=>h⟩
theorem YS(s:St){q:Int}(h:a_ s.seq->a_ q):Eff 0 s {s with seq:=q}:=⟨rfl,rfl,rfl,rfl,rfl,rfl,rfl,rfl,rfl,rfl,rfl,λy h=>⟨y,h,rfl⟩,h,id,by show s.tn<=_;omega,aB _,aB _,aB _,λ_ h=>h⟩
theorem YT(s:St)(x:Int×ByteArray):Eff 1 s {s with aR:=s.aR++ [x]}:=⟨rfl,rfl,rfl,rfl,rfl,rfl,rfl,rfl,rfl,rfl,rfl,λy h=>⟨y,h,rfl⟩,id,id,by show s.tn<=_;omega,by show s.aI.length<=_;omega,by show s.aQ.length<=_;omega,by show(s.aR++ [x]).length<=_;simp,λ_ h=>h⟩
theorem Io{E:List Mm}{q:Int×Int}{dL jc:Int}{e:Mm}(h:e∈dP E q dL jc):e∈E∨e.dL=dL:=by
 have h1:e∈eB E q dL jc:=by
  unfold dP at h;split at h
  ·exact List.mem_of_mem_tail h
  ·exact h
 unfold eB at h1;rcases dG.1 h1 with h|h
 ·exact .inl (List.mem_filter.1 h).1
 ·rw[dO]at h;subst h;exact .inr rfl
theorem UO(s:St)(q:Int×Int)(jc:Int):Eff 1 s {s with mem:=dP s.mem q (s.now+1280) jc,tn:=s.tn+1}:=⟨rfl,rfl,rfl,rfl,rfl,rfl,rfl,rfl,rfl,rfl,rfl,λy h=>⟨y,h,rfl⟩,id,λh e he=>by
 rcases Io he with h1|h1
 ·exact h e h1
 ·show e.dL<=s.now+1280;omega,by show s.tn+1<=s.tn+((1:Nat):Int);omega,by show s.aI.length<=_;omega,by show s.aQ.length<=_;omega,by show s.aR.length<=_;omega,λ_ h=>h⟩
theorem BL(s:St)(p:aD):Eff 1 s (s.answer p):=by
 unfold St.answer;split
 ·exact rM _ _ _ _
 ·exact gB _ _
theorem BK(s:St)(p:aD)(hp:a_ p.aX):Eff 1 s (s.iG p):=
 (YS s (q:=max s.seq p.aX) λh=>by unfold a_ at *;omega).trans (j:=1) (BL _ _)
theorem zH(s:St)(p:aD)(r:Rt):Eff 1 s (s.gK p r):=by
 refine(qi s (A:=kZ (if (bH s.A p.aJ s.now).2 then kZ s.A p.dest (bH s.A p.aJ s.now).1.next else s.A) p.aJ r.next) ?_).trans (j:=1) (BL _ _);split
 ·exact mr (qR _ _ _) (qR _ _ _)
 ·exact qR _ _ _
theorem Ea(s:St)(p:aD)(hp:a_ p.aX):Eff 1 s (s.asked p):=by
 unfold St.asked;split
 ·exact BK s p hp
 ·split
  ·exact zH s p _
  ·split
   ·exact gB _ _
   ·exact rM _ _ _ _
theorem Qp(s:St)(fr:Int)(p:aD)(hp:a_ p.aX):Eff 1 s (s.learn fr p):=by
 unfold St.learn;split
 ·exact(qi s (uZ _ _ _ _ _ _ _)).trans (j:=1) (gB _ _)
 ·split
  ·exact(qi s (mr (uZ _ _ _ _ _ _ _) (qP _ _ _))).trans (j:=1) (Ea _ p hp)
  ·exact(qi s (uZ _ _ _ _ _ _ _)).trans (j:=1) (Ea _ p hp)
theorem zG(s:St)(fr:Int)(p:aD)(hp:a_ p.aX):Eff 2 s (s.bV fr p):=by
 unfold St.bV;split
 ·exact(gB _ _).mono (by omega)
 ·exact(UO s _ _).trans (j:=1) (Qp _ fr p hp)
theorem vX(s:St)(d:Int)(t:ByteArray):Eff 1 s (s.aN d t):=by
 unfold St.aN;split
 ·have h1:Eff 0 s {s with eG:=(s.eG+1)%4294967296,A:=iO s.A d (s.now+3000)}:=(UQ s ((s.eG+1)%4294967296)).trans (j:=0) (qi {s with eG:=(s.eG+1)%4294967296} (A:=iO s.A d (s.now+3000)) (qP _ _ _));exact h1.trans (j:=1) (rM {s with eG:=(s.eG+1)%4294967296,A:=iO s.A d (s.now+3000)} _ _ _)
 ·exact(Eff.refl s).mono (by omega)
theorem Qo(s:St)(d:Int)(L:List ByteArray):Eff L.length s (L.foldl (λs t=>s.aN d t) s):=by
 induction L generalizing s with
 |nil=>exact Eff.refl s
 |cons t L ih=>
  rw[fP];exact((vX s d t).trans (ih _)).mono (by simp;omega)
theorem WI(s:St)(d:Int)(L:List ByteArray):(L.foldl (λs t=>s.aN d t) s).Q=s.Q:=by
 induction L generalizing s with
 |nil=>rfl
 |cons t L ih=>
  rw[fP,ih];unfold St.aN;split<;>rfl
theorem nR(s:St)(d:Int)(h:∀q∈s.Q,q.txt.length<=4):Eff 4 s (s.sendAll d):=by
 unfold St.sendAll;split
 ·exact(Eff.refl s).mono (by omega)
 ·rename_i q hq;split
  ·have h1:=h q (gZ hq).1;have h2:=((Qo s d q.txt).trans (j:=0) (aed _ (s.Q.filter λz=>!decide (z.dest=d)) λz hz=>by rw[WI];exact(List.mem_filter.1 hz).1)).mono (j:=4) (by omega);exact h2
  ·exact(Eff.refl s).mono (by omega)
theorem Jk(s:St)(fr:Int)(p:aD):Eff 1 s (s.iD fr p):=by
 unfold St.iD;split
 ·exact(qi s (mr (mr (qR _ _ _) (qR _ _ _)) (qP _ _ _))).trans (j:=1) (rM _ _ _ _)
 ·exact gB _ _
theorem CY(s:St)(fr:Int)(p:aD)(h:∀q∈s.Q,q.txt.length<=4):Eff 5 s (s.dN fr p):=by
 unfold St.dN;split
 ·exact(gB _ _).mono (by omega)
 ·have h1:=qi s (uZ s.me s.A p.dest p.aX (St.far p.hops) fr (s.now+p.life));dsimp only;split
  ·exact(h1.trans (j:=1) (gB _ _)).mono (by omega)
  ·split
   ·split
    ·exact(h1.trans (j:=4) (nR {s with A:=(iP s.me s.A p.dest p.aX (St.far p.hops) fr (s.now+p.life)).1} p.dest h)).trans (j:=1) (gB _ _)
    ·exact(h1.trans (j:=4) (nR {s with A:=(iP s.me s.A p.dest p.aX (St.far p.hops) fr (s.now+p.life)).1} p.dest h)).mono (by omega)
   ·split
    ·exact(h1.trans (j:=1) (gB _ _)).mono (by omega)
    ·exact(h1.trans (j:=1) (Jk _ _ _)).mono (by omega)
theorem WU(fr:Int)(L:List (Int×Int))(z:List Rt×Bool×List (Int×Int)):∀y∈z.1,∃u∈(L.foldl (St.Ff fr) z).1,u.dest=y.dest:=by
 induction L generalizing z with
 |nil=>exact λy hy=>⟨y,hy,rfl⟩
 |cons l L ih=>
  rw[fP];refine mr ?_ (ih _);unfold St.Ff;split
  ·exact Oy _ _ _ _
  ·exact λy hy=>⟨y,hy,rfl⟩
theorem FU(s:St)(fr:Int)(L:List (Int×Int)):Eff 2 s (s.fC fr L):=by
 unfold St.fC;dsimp only;have h1:=qi s (WU fr L (s.A,false,[]));split
 ·exact(h1.trans (j:=1) (rP _ _ _)).mono (by omega)
 ·exact(h1.trans (j:=2) ((gB _ _).trans (j:=1) (rP _ _ _))).mono (by omega)
theorem yU(s:St)(t d:Int):Eff 1 s (s.kE t d):=rP s t _
theorem FV(s:St)(fr:Int)(p:aD):Eff 2 s (s.dU fr p):=by
 unfold St.dU;split
 ·exact(YT s _).mono (by omega)
 ·split
  ·exact(gB _ _).mono (by omega)
  ·split
   ·have h1:=(qi s (A:=iO (iO s.A p.dest (s.now+3000)) p.aJ (s.now+3000)) (mr (qP _ _ _) (qP _ _ _))).trans (j:=1) (rM {s with A:=iO (iO s.A p.dest (s.now+3000)) p.aJ (s.now+3000)} (bH s.A p.dest s.now).1.next {p with ttl:=p.ttl - 1} []);exact h1.mono (by omega)
   ·have h1:=(gB s 3).trans (j:=0) (qi (s.drop 3) (A:=gV s.A p.dest St.oM) (qQ _ _ _ λ_=>rfl));exact h1.trans (j:=1) (yU _ _ _)
theorem BI(s:St)(fr:Int)(p:aD):Eff 2 s (s.dA fr p):=by
 unfold St.dA;split
 ·exact(((gB s 8).trans (j:=1) (yU _ _ _)).trans (j:=0) (YR _ _)).mono (by omega)
 ·exact(gB _ _).mono (by omega)
theorem Jl(s:St)(fr:Int)(p:aD)(L:List (Int×Int))(hp:a_ p.aX)(h:∀q∈s.Q,q.txt.length<=4):Eff 5 s (s.gF fr p L):=by
 unfold St.gF;split
 ·exact(BI s fr p).mono (by omega)
 ·split
  ·exact(zG s fr p hp).mono (by omega)
  ·split
   ·exact CY s fr p h
   ·split
    ·exact(FU s fr L).mono (by omega)
    ·exact(FV s fr p).mono (by omega)
end Go.Proofs.YtakaadcpaeiccabGreat
