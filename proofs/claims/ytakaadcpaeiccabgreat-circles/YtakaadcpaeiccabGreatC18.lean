import Derived.Test.YtakaadcpaeiccabGreatC17
import Derived.Maps.RangeWalk
set_option maxHeartbeats 8000000
set_option maxRecDepth 100000
namespace Go.Proofs.YtakaadcpaeiccabGreat
open Go.RowKit Go.Maps
variable{B N:Nat}{s:St}
def YS(d:Int)(s:St)(TL:List Hp.Tm)(s2:St)(dR:List Hp.Tm):Prop:=(dR=TL∧s2.Q=s.Q)∨∃q,St.j_ s.Q d=some q∧Fh q.id TL dR∧s2.Q=s.Q.filter λz=>!decide (z.dest=d)
def ZL(N B:Nat)(g:bI)(s s2:St)(TL:List Hp.Tm)(d:Int)(w w':World):Prop:=∃dR,l5 N B g s s2 dR w w'∧YS d s TL s2 dR
theorem F9(s:St)(d:Int):(s.sendAll d).aT=s.aT:=by
 have h1:∀(t:ByteArray) (s:St),(s.bg d t).aT=s.aT:=by
  intro t s;unfold St.bg;split<;>rfl
 have h2:∀(l:List ByteArray) (s:St),(l.foldl (λs t=>s.bg d t) s).aT=s.aT:=by
  intro l
  induction l with
  |nil=>intro s;rfl
  |cons t l ih=>intro s;exact(ih _).trans (h1 t s)
 unfold St.sendAll;cases St.j_ s.Q d with
 |none=>rfl
 |some q=>
  dsimp only;split
  ·exact h2 _ _
  ·rfl
theorem SwP.rp{g:bI}{TL:List Hp.Tm}{d:Int}{a b:World}(h:SwP N B g s (s.sendAll d) TL (St.j_ s.Q d) (bN s.A d s.now).2 a b):∃dR,FR N B g s (s.sendAll d) dR (λz=>z=d) a b∧YS d s TL (s.sendAll d) dR:=by
 obtain⟨dR,⟨g1,n1,u1,t1,y1⟩,h2,h3⟩:=h;refine⟨dR,⟨g1,n1,u1,t1,λz hz=>y1.out z ?_⟩,?_⟩
 ·rintro⟨_,q,hq,rfl⟩;exact hz (jh hq).2
 unfold YS St.sendAll;cases hs:St.j_ s.Q d with
 |none=>exact .inl ⟨h3 (.inl hs),rfl⟩
 |some q=>
  cases hf:(bN s.A d s.now).2 with
  |false=>exact .inl ⟨h3 (.inr hf),by simp⟩
  |true=>exact .inr ⟨q,rfl,h2 q hs hf,by simp⟩
theorem VZ{a c:Int}(h:0<=a∧a<=4611686018427387904)(hc:0<=c∧c<=8589934592):IntKind.u64.wrap (a+IntKind.u64.wrap c)=a+c:=by
 simp only[IntKind.wrap,IntKind.signed,IntKind.bits];simp;omega
theorem I5{g:bI}{TL:List Hp.Tm}{w:World}(n:Nd N B g s TL w)(fr:Int)(O7:bB fr)(p:aF)(hq:p.Hd)(hL:fH w p [])(hme:bB s.me)(fK:0<=s.now∧s.now<=4611686018427387904)(hfl:s.aL.length<=990000)(hdl:s.aT.length<=990000)(htl:TL.length<=1000000):
  Calls Tryz.prog 131 #[.pointer (some ⟨N,0,none⟩),.pointer (some ⟨B,0,none⟩),.int .u32 fr,p.val] w λe w'=>e=.returned (.tuple #[])∧ZL N B g s (s.fE fr p) TL p.dest w w':=by
 have hp:=hq.wf;obtain⟨hid,hde,hds,hfr,hfs,hli⟩:=hp.num;have hb0:Below w.heap.size w (w.alloc p.box):=bq;have gQ:=PB.new p w;have n0:=n.later hb0;obtain⟨s2,dD⟩:∃s2,s.fE fr p=s2:=⟨_,rfl⟩;rw[dD];have hs2:=hide dD;clear dD;dsimp only[aF.box]at hb0 n0;unfold PB at gQ;dsimp only[aF.box]at gQ;go_enter Tryz.func131,Tryz.ntmps131;go_upto_region 1 with(fail);generalize World.alloc _ _=W1 at hb0 gQ n0 ⊢;have kL:=n.new (k:=w.heap.size) (aD _);generalize l8:w.heap.size=C at gQ kL ⊢;replace l8:=hide l8;have hS:HC N B g.x.T C s.me s.seq s.cO s.now p W1.drew:=HC.xu n0 gQ;have hP1:PB p C W1.drew:=PB.below gQ (aV _ _).drew;have n1:=n0.drew;have hb1:=hb0.drew;have hs3:=hs2.out;unfold St.fE at hs3;clear hs2 gQ n0;by_cases hd1:p.dest=s.me
 ·have hbe:(p.dest==s.me)=true:=by simpa using hd1
  rw[aQ hd1]at hs3;clear hd1;have HX:=hide (jC n1 1 (by omega));rw[hs3]at HX;have hQ:Hid (s2.Q=s.Q):=by show _=_;rw[<-hs3];rfl
  clear hs3 hP1 n1;go_region_held3 (HC N B g.x.T C s.me s.seq s.cO s.now p) (first|with_reducible exact hS|with_reducible assumption) (fail)
  rename_i iR;clear iR hS;go_wp2_with fail;refine aU HX.out ?_;rintro e w9 ⟨rfl,hN⟩;have hfin:Hid (ZL N B g s s2 TL p.dest w w9):=⟨TL,hN.pre hb1,.inl ⟨rfl,hQ.out⟩⟩;clear hN HX;go_wp2;go_returns;exact⟨rfl,hfin.out⟩
 ·have hbe:(p.dest==s.me)=false:=by simpa using hd1
  rw[aM hd1]at hs3;clear hd1;obtain⟨u,hu⟩:∃u,iW s.me s.A p.dest p.a_ (St.far p.hops) fr (s.now+p.life)=u:=⟨_,rfl⟩;have HU:Hid (∀t,t=s.now+p.life->Calls Tryz.prog 161 #[.pointer (some ⟨g.x.T,0,none⟩),.int .u32 p.dest,.int .u32 p.a_,.int .i64 (St.far p.hops),.int .u32 fr,.int .u64 t] W1.drew.drew λr w'=>r=.returned (.int .i64 u.2)∧l5 N B g s {s with A:=u.1} TL W1.drew.drew w'):=by
   rintro _ rfl;have:=IZ n1.drew p.dest p.a_ (St.far p.hops) fr (s.now+p.life) hde hds (by have:=hq.hops;unfold o5 St.far;omega) O7 (by unfold bB at hli;unfold Bg;omega);rw[hu]at this;exact this
  rw[hu]at hs3;obtain⟨A2,E2⟩:=u;dsimp only at hs3 HU;clear hu;replace hs3:=hide hs3;have hl0:0<=p.life∧p.life<=8589934592:=by unfold bB at hli;omega
  have hS2:HC N B g.x.T C s.me s.seq s.cO s.now p W1.drew.drew:=HC.xu n1 hP1;have hP2:PB p C W1.drew.drew:=PB.below hP1 (aV _ _).drew;clear hP1 n1;go_region_held3 (HC N B g.x.T C s.me s.seq s.cO s.now p) (first|with_reducible exact hS|with_reducible assumption) (fail)
  rename_i iR;clear iR hS;go_wp2_with fail;go_region_held3 (HC N B g.x.T C s.me s.seq s.cO s.now p) (first|with_reducible exact hS2|with_reducible assumption) (first
   |(go_at_call 162;refine(vM p.hops hq.hops _).mono ?_;rintro e w3f ⟨rfl,rfl⟩)
   |(go_at_call 161;refine(HU.out _ (by first|rfl|exact VZ fK hl0)).mono ?_;rintro e w4 ⟨rfl,hN⟩;obtain⟨g4,n4,u4,t4⟩:=hN;obtain⟨mh,rz⟩:=u4.kG hP2 kL;have hk4:HC N B g.x.T C s.me s.seq s.cO s.now p w4:=HC.next n4 mh t4.out rfl rfl rfl rfl))
  rename_i iR;clear iR hS2 hk4;have qf:=(Up.below (B:=B) (F:=Ft N g s) (hb1.drew)).trans u4;obtain⟨s1,hs1⟩:∃z,({s with A:=A2}:St)=z:=⟨_,rfl⟩;have h1:Hid (s1.me=s.me∧s1.now=s.now∧s1.Q=s.Q∧s1.aL=s.aL∧s1.aT=s.aT∧s1.seq=s.seq∧s1.cO=s.cO):=by
   show _∧_;rw[<-hs1];exact⟨rfl,rfl,rfl,rfl,rfl,rfl,rfl⟩
  have hs4:Hid ((if E2=4 then s1.drop 2 else if p.aK=s1.me then(if E2=3 then(s1.sendAll p.dest).drop 7 else s1.sendAll p.dest)else if p.ttl=1 then s1.drop 4 else s1.iM fr p)=s2):=by
   rw[<-hs1];exact hs3
  replace hs3:=hs4;clear hs4;rw[hs1]at n4 qf rz;clear hs1 u4 HU hP2 kL;have ady:Hid (s1.aL.length<=990000):=by show _<=_;rw[h1.out.2.2.2.1];exact hfl
  have XT:Hid (s1.aT.length<=990000):=by show _<=_;rw[h1.out.2.2.2.2.1];exact hdl
  by_cases h4:E2=4
  ·subst h4;replace hs3:Hid (s1.drop 2=s2):=hs3;have HX:=hide (jC n4 2 (by have:=XT.out;omega));rw[hs3.out]at HX;have hQ:Hid (s2.Q=s.Q):=by show _=_;rw[<-hs3.out];exact h1.out.2.2.1
   clear hs3 mh n4;go_wp2_with fail;refine aU HX.out ?_;rintro e w9 ⟨rfl,g9,n9,u9,t9⟩;have hfin:Hid (ZL N B g s s2 TL p.dest w w9):=⟨TL,⟨g9,n9,qf.trans u9,t9.out.trans t4.out⟩,.inl ⟨rfl,hQ.out⟩⟩;clear n9 u9 t9 HX;go_wp2;go_returns;exact⟨rfl,hfin.out⟩
  ·have b4:(E2==4)=false:=by simpa using h4
   replace hs3:=hide ((aM h4).symm.trans hs3.out);clear h4;have hS4:HC N B g4.x.T C s1.me s1.seq s1.cO s1.now p w4.drew:=HC.xu n4 mh;have wV:PB p C w4.drew:=PB.below mh (aV _ _).drew;have n5:=n4.drew;have yD:=qf.trans (.below (aV _ _).drew:Up B (Ft N g4 s1) (Ft N g4 s1) w4 w4.drew);clear n4 mh qf;go_wp2_with fail;by_cases hf:p.aK=s1.me
   ·have bf:(p.aK==s1.me)=true:=by simpa using hf
    replace hs3:=hide ((aQ hf).symm.trans hs3.out);clear hf;obtain⟨sW,hsW⟩:∃z,s1.sendAll p.dest=z:=⟨_,rfl⟩;have hdW:Hid (sW.aT.length<=990000):=by show _<=_;rw[<-hsW,F9];exact XT.out
    have HW:Hid (Calls Tryz.prog 78 #[.pointer (some ⟨N,0,none⟩),.pointer (some ⟨B,0,none⟩),.int .u32 p.dest] w4.drew λe w'=>(∃b,e=.returned (.bool b))∧∃dR,l5 N B g4 s1 sW dR w4.drew w'∧YS p.dest s TL sW dR):=by
     refine(tq n5 p.dest hde (by rw[h1.out.1];exact hme) (by rw[h1.out.2.1];exact fK) (by have:=ady.out;omega) htl).mono ?_;rintro e w' ⟨rfl,h⟩;obtain⟨dR,a1,a2⟩:=h.rp;replace a1:=a1.toP;rw[hsW]at a1 a2;exact⟨⟨_,rfl⟩,dR,a1,by unfold YS at a2 ⊢;rw[h1.out.2.2.1]at a2;exact a2⟩
    rw[hsW]at hs3;clear hsW n5;go_region_held3 (HC N B g4.x.T C s1.me s1.seq s1.cO s1.now p) (first|with_reducible exact hS4|with_reducible assumption) (fail)
    rename_i iR;clear iR hS4;obtain⟨_,_,_,_,_,p5,_⟩:=PB.cell wV;go_wp2_with fail;refine HW.out.mono ?_;rintro e w9 ⟨⟨b,rfl⟩,dR,⟨g9,n9,u9,t9⟩,htm⟩;replace htm:=hide htm;have wz:=yD.trans u9;have t9':Hid (g9.x.T=g.x.T):=t9.out.trans t4.out;clear u9 t9 HW p5 wV yD;by_cases h3:E2=3
    ·have b3:(E2==3)=true:=by simpa using h3
     replace hs3:=hide ((aQ h3).symm.trans hs3.out);clear h3;have HX:=hide (jC n9 7 (by have:=hdW.out;omega));rw[hs3.out]at HX;have aeT:Hid (YS p.dest s TL s2 dR):=by
      show YS p.dest s TL s2 dR;rw[<-hs3.out];exact htm.out
     clear n9 hs3;go_wp2_with fail;refine aU HX.out ?_;rintro e VU ⟨rfl,g10,n10,u10,t10⟩;have hfin:Hid (ZL N B g s s2 TL p.dest w VU):=⟨dR,⟨g10,n10,wz.trans u10,t10.out.trans t9'.out⟩,aeT.out⟩;clear n10 u10 t10 HX;go_wp2;go_returns;exact⟨rfl,hfin.out⟩
    ·have b3:(E2==3)=false:=by simpa using h3
     replace hs3:=hide ((aM h3).symm.trans hs3.out);clear h3;have hfin:Hid (ZL N B g s s2 TL p.dest w w9):=by
      show ZL N B g s s2 TL p.dest w w9;rw[<-hs3.out];exact⟨dR,⟨g9,n9,wz,t9'⟩,htm.out⟩
     clear n9 hs3;go_wp2;go_returns;exact⟨rfl,hfin.out⟩
   ·have bf:(p.aK==s1.me)=false:=by simpa using hf
    replace hs3:=hide ((aM hf).symm.trans hs3.out);clear hf;go_region_held3 (HC N B g4.x.T C s1.me s1.seq s1.cO s1.now p) (first|with_reducible exact hS4|with_reducible assumption) (fail)
    rename_i iR;clear iR hS4;obtain⟨p0,p1,p2,p3,p4,p5,p6,p7,p8,p9,jL,jF⟩:=PB.cell wV;by_cases ht:p.ttl=1
    ·have bt:(p.ttl==1)=true:=by simpa using ht
     replace hs3:=hide ((aQ ht).symm.trans hs3.out);clear ht;have HX:=hide (jC n5 4 (by have:=XT.out;omega));rw[hs3.out]at HX;have hQ:Hid (s2.Q=s.Q):=by show _=_;rw[<-hs3.out];exact h1.out.2.2.1
     clear hs3 wV n5;go_wp2_with fail;refine aU HX.out ?_;rintro e w9 ⟨rfl,g9,n9,u9,t9⟩;have hfin:Hid (ZL N B g s s2 TL p.dest w w9):=⟨TL,⟨g9,n9,yD.trans u9,t9.out.trans t4.out⟩,.inl ⟨rfl,hQ.out⟩⟩;clear n9 u9 t9 HX;go_wp2;go_returns;exact⟨rfl,hfin.out⟩
    ·have bt:(p.ttl==1)=false:=by simpa using ht
     replace hs3:=hide ((aM ht).symm.trans hs3.out);clear ht;have HX:=hide (Qd n5 fr O7 p hq hL.nil (by rw[h1.out.2.1];exact fK) (by have:=ady.out;omega) (by have:=XT.out;omega));rw[hs3.out]at HX;dsimp only[aF.val]at HX;have hQ:Hid (s2.Q=s.Q):=by
      show _=_;rw[<-hs3.out];unfold St.iM;split<;>exact h1.out.2.2.1
     clear hs3 wV n5;go_wp2_with fail;refine aU HX.out ?_;rintro e w9 ⟨rfl,g9,n9,u9,t9⟩;have hfin:Hid (ZL N B g s s2 TL p.dest w w9):=⟨TL,⟨g9,n9,yD.trans u9,t9.out.trans t4.out⟩,.inl ⟨rfl,hQ.out⟩⟩;clear n9 u9 t9 HX;go_wp2;go_returns;exact⟨rfl,hfin.out⟩
open Go.WideElems
variable{q:Int}{f:Int->Option Int}{A:List Rt}{B N:Nat}{s:St}{W w:World}
structure St.Dom(s:St):Prop where
 mb:MB s.f
 on:∀d,(s.f d).isSome=true->∃y∈s.A,y.dest=d
 own:bB s.own
theorem R9{own:Int}(h:MB f)(hA:∀y∈A,y.Ok):MB (bL q own f A).1:=by
 have hg:∀(B:List Rt) (st:(Int->Option Int)×List (Bool×Int×Int)),(∀y∈B,y.Ok)->MB st.1->MB (B.foldl jG st).1:=by
  intro B
  induction B with
  |nil=>intro st _ h;exact h
  |cons y B ih=>
   intro st hB h;rw[gH];refine ih _ (λz hz=>hB z (jR _ hz)) ?_;unfold jG;split
   ·intro d v hd;dsimp only[kC]at hd;split at hd
    ·rename_i e;have hy:=hB y iJ;cases hd;exact⟨e▸hy.dest,hy.seq⟩
    ·exact h d v hd
   ·exact h
 exact hg A _ hA h
theorem OH{own:Int}:∀y∈A,((bL q own f A).1 y.dest).isSome=true:=by
 have hk:∀(B:List Rt) (st:(Int->Option Int)×List (Bool×Int×Int)) (d:Int),(st.1 d).isSome=true->((B.foldl jG st).1 d).isSome=true:=by
  intro B
  induction B with
  |nil=>intro st d h;exact h
  |cons y B ih=>
   intro st d h;rw[gH];refine ih _ d ?_;unfold jG;split
   ·dsimp only[kC];split
    ·rfl
    ·exact h
   ·exact h
 have hg:∀(B:List Rt) (st:(Int->Option Int)×List (Bool×Int×Int)),∀y∈B,((B.foldl jG st).1 y.dest).isSome=true:=by
  intro B
  induction B with
  |nil=>intro st y hy;cases hy
  |cons z B ih=>
   intro st y hy;rw[gH];rcases fe.1 hy with rfl|hy
   ·refine hk B _ _ ?_;unfold jG;split
    ·simp[kC]
    ·rename_i hn;simp only[sK,Bool.or_eq_true,not_or]at hn;have h1:=hn.1;cases hq:st.1 y.dest with
     |none=>rw[hq]at h1;simp at h1
     |some _=>rfl
   ·exact ih _ y hy
 exact hg A _
theorem Xu{own:Int}(hq:bB q)(ho:bB own):bB (Er q own):=by
 unfold Er;split<;>assumption
theorem rT{own:Int}(h:∀d,(f d).isSome=true->∃y∈A,y.dest=d):∀d,((bL q own f A).1 d).isSome=true->∃y∈A,y.dest=d:=by
 have hg:∀(B:List Rt) (st:(Int->Option Int)×List (Bool×Int×Int)),(∀y∈B,y∈A)->(∀d,(st.1 d).isSome=true->∃y∈A,y.dest=d)->∀d,((B.foldl jG st).1 d).isSome=true->∃y∈A,y.dest=d:=by
  intro B
  induction B with
  |nil=>intro st _ h;exact h
  |cons y B ih=>
   intro st hB h;rw[gH];refine ih _ (λz hz=>hB z (jR _ hz)) ?_;unfold jG;split
   ·intro d hd;dsimp only[kC]at hd;split at hd
    ·rename_i e;exact⟨y,hB y iJ,e.symm⟩
    ·exact h d hd
   ·exact h
 exact hg A _ (λ_ h=>h) h
theorem Dq(h:s.Dom)(hA:∀y∈s.A,y.Ok)(hq:bB s.seq):s.write.Dom:=⟨R9 h.mb hA,rT h.on,Xu hq h.own⟩
theorem Fu.size_le{x:ng}{M:Nat}{ff:Int->Option Nat}{gg:Int->Value}{sz:Nat}(n:Fu N x M ff gg A f sz W)(h:∀d,(f d).isSome=true->∃y∈A,y.dest=d):sz<=8:=by
 refine dH (n.mo.size_le (A.map (·.dest)) λd _ hd=> ?_) (by rw[iK];exact n.tb.len);obtain⟨y,hy,rfl⟩:=h d hd;exact di.2 ⟨y,hy,rfl⟩
theorem Nd.core{g:bI}{s':St}{TL:List Hp.Tm}{W':World}(n:Nd N B g s TL W){x':ng}{Ur:Int->Option Nat}{wY:Int->Value}{sz':Nat}{a':qy}
  (h:Fu N x' g.M Ur wY s'.A s'.f sz' W') (ha:jJ B (B+1) a' s'.bA s'.aL s'.aY s'.aT W')
  (hf:Fx (λk=>yU N g.x g.M g.ff g.gg s.A k∨jE B g.a k) W W') (hin:∀k,yU N x' g.M Ur wY s'.A k->yU N g.x g.M g.ff g.gg s.A k)
  (hx:x'.Mo=g.x.Mo∧x'.Ms=g.x.Ms∧x'.qH=g.x.qH∧x'.Tm=g.x.Tm∧x'.pc=g.x.pc) (he:NdE x' s')
  (hs:s'.mem=s.mem∧s'.tn=s.tn∧s'.Q=s.Q∧s'.tl=s.tl∧s'.pc=s.pc) (hz:sz'<=1000000) (h1:a'.now=s'.now) (h2:a'.bC=s'.bC):
  Nd N B {g with x:=x',ff:=Ur,gg:=wY,sz:=sz',a:=a'} s' TL W'∧Up B (Ft N g s) (Ft N {g with x:=x',ff:=Ur,gg:=wY,sz:=sz',a:=a'} s') W W':=by
 obtain⟨x1,x2,x3,x4,x5⟩:=hx;obtain⟨t1,t2,t3,t4,t5⟩:=hs;have hrs:=n.nn.rs.kept (W':=W') λk hk=>hf.block k (n.nn.rs.lt hk) λh=>h.elim (λh=>n.nn.apart hk h) λh=>n.ac.JV n.nn (.inr hk) h;have hR:∀k,kg x' g.h g.u g.Mt g.tv s' k->kg g.x g.h g.u g.Mt g.tv s k:=by
  intro k hk;unfold kg at hk ⊢;rw[x2,x3,x4,x5,t3]at hk;exact hk
 refine⟨⟨⟨h,he,⟨?_,?_,?_,hrs.hpo,hrs.pm,?_⟩,?_,hz⟩,ha,h1,h2⟩,.of hf (λk o hk ho=>hk.elim (λh=> .inl (.inl h)) λh=> .inr ⟨n.ac.kinds h ho,n.ac.ge h⟩) λk hk=> .inl (hk.imp (hin k) (hR k))⟩
 ·dsimp only;rw[x2,t1,t2];exact hrs.sn
 ·dsimp only;rw[x3,t3];exact hrs.sr
 ·dsimp only;rw[x4,t4];exact hrs.tm
 ·dsimp only;rw[x5,t5];exact hrs.pc
 ·dsimp only;rw[x1,x2,x3];exact n.nn.qR
theorem YW{g:bI}{TL:List Hp.Tm}(n:Nd N B g s TL w)(hd:s.Dom)(hc:0<=s.cnt∧s.cnt<=1000000)(hw:s.bA.length<=90000):
  Calls Tryz.prog 71 #[.pointer (some ⟨N,0,none⟩),.pointer (some ⟨B,0,none⟩)] w λe w'=>e=.returned (.tuple #[])∧l5 N B g s s.write TL w w':=by
 obtain⟨e1,e2,e3,e4,e5,e6,e7,e8,e9⟩:=n.nn.eq;refine(wm N B (B+1) g.x g.a g.M g.ff g.gg s.A s.f g.sz s.bA s.aL s.aY s.aT w n.nn.cr n.ac n.base (by rw[e8];exact hc) n.nn.Jg hw).mono ?_;rintro e w' ⟨v7,sz',rfl,h1,_,h3,h4⟩;have hn:bL g.x.seq g.x.own s.f s.A=bL s.seq s.own s.f s.A:=by rw[e2,e7]
 rw[hn]at h1 h3;have hz:sz'<=8:=h1.size_le (rT hd.on);obtain⟨p,q⟩:=n.core (s':=s.write) h1 h3 (h4.mono λk h=>by
  rcases h with rfl|rfl|h
  ·exact .inl (.inl rfl)
  ·exact .inl (.inr (.inl rfl))
  ·exact .inr h) (λk hk=>hk) ⟨rfl,rfl,rfl,rfl,rfl⟩ ⟨e1,e2,e3,e4,e5,e6,by dsimp only;rw[e2,e7];rfl,by dsimp only;rw[e8];rfl,e9⟩ ⟨rfl,rfl,rfl,rfl,rfl⟩ (by omega) n.now n.bC
 exact⟨rfl,_,p,q,rfl⟩
theorem zm{g:bI}{TL:List Hp.Tm}(n:Nn N g s TL w)(now:Int)(hd:s.Dom)(hc:0<=s.cnt∧s.cnt<=1000000):
  Calls Tryz.prog 51 #[.pointer (some ⟨N,0,none⟩),.int .u64 now] w λe w'=>∃g',e=.returned (.pointer (some ⟨w.heap.size,0,none⟩))∧Nd N w.heap.size g' (s.begin now) TL w'∧Up w.heap.size (Ft N g s) (Ft N g' (s.begin now)) w w'∧Fx (Ft N g s) w w'∧g'.x.T=g.x.T:=by
 obtain⟨e1,e2,e3,e4,e5,e6,e7,e8,e9⟩:=n.eq;refine(PY N g.x now w n.cr (by rw[e8];exact hc) n.Jg).mono ?_;rintro e w' ⟨wY,v7,sz',rfl,h1,_,h3,h4,h5⟩;have hn:bL g.x.seq g.x.own s.f (iZ s.A now)=bL s.seq s.own s.f (iZ s.A now):=by rw[e2,e7]
 rw[hn]at h1 h3;have hdom:∀d,((bL s.seq s.own s.f (iZ s.A now)).1 d).isSome=true->∃y∈iZ s.A now,y.dest=d:=rT λd hd'=>by
  obtain⟨y,hy,rfl⟩:=hd.on d hd';exact⟨oP now y,di.2 ⟨y,hy,rfl⟩,gX now y⟩
 have hz:sz'<=8:=h1.size_le hdom;have hrs:=n.rs.kept (W':=w') λk hk=>h5.block k (n.rs.lt hk) λh=>n.apart hk h;have hF:∀k,Ft N {g with x:={g.x with own:=Er g.x.seq g.x.own,cnt:=g.x.cnt+(bL s.seq s.own s.f (iZ s.A now)).2.length},gg:=wY,sz:=sz',a:={FP now with nW:=v7}} (s.begin now) k->Ft N g s k:=λk hk=>hk.imp (h4 k) λh=>h;refine⟨{g with x:={g.x with own:=Er g.x.seq g.x.own,cnt:=g.x.cnt+(bL s.seq s.own s.f (iZ s.A now)).2.length},gg:=wY,sz:=sz',a:={FP now with nW:=v7}},rfl,⟨⟨h1,⟨e1,e2,e3,e4,e5,e6,by dsimp only;rw[e2,e7];rfl,by dsimp only;rw[e8];rfl,e9⟩,⟨hrs.sn,hrs.sr,hrs.tm,hrs.hpo,hrs.pm,hrs.pc⟩,n.qR,by dsimp only;omega⟩,?_,rfl,rfl⟩,.of h5 (λk o hk _=> .inl (.inl hk)) λk hk=> .inl (hF k hk),h5.mono λk h=> .inl h,rfl⟩;have e10:(s.begin now).bA=(bL s.seq s.own s.f (iZ s.A now)).2:=List.nil_append _;rw[e10];exact h3
def JZ(left:Lit->Bool)(f:Int->Option Int):Int->Option Int:=λk=>if left (.int .u32 k)then none else f k
theorem OM{left:Lit->Bool}{x c:Int}(hl:left (.int .u32 x)=true){f:Int->Option Int}(hf:f x=some c)(h0:0<=c){L:List (Bool×Int×Int)}(hL:mI L=JZ left f):mI (L++ [(false,x,c)])=JZ (λz=>left z&&!z.sameKey (.int .u32 x)) f:=by
 rw[GN,hL]
 funext k
 unfold stepM kC JZ;simp only[Bool.false_eq_true,if_false];by_cases e:k=x
 ·subst e;simp[hl,hf,Lit.sameKey];omega
 ·simp[e,Lit.sameKey]
theorem Xg{L:List (Bool×Int×Int)}(x c:Int):qF (L++ [(false,x,c)])=qF L:=by rw[Ab];rfl
theorem IJ(N:Nat)(x:ng)(f:Int->Option Int)(sz:Nat)(w:World)(hN:iH N x w)(hm:MapU w x.Mo f sz)(hmb:MB f)(hown:bB x.own)(hsz:sz<=40000)(adw:∃l:List Int,l.length<=12∧∀a,(f a).isSome=true->a∈l):
  Calls Tryz.prog 72 #[.pointer (some ⟨N,10,none⟩)] w λe w'=>∃v' out,e=.returned v'∧iO f (some x.own) out∧w'.ownsRow w.heap.size 82 3 v' out.length (RC out)∧iH N {x with cnt:=out.length} w'∧MapU w' x.Mo f sz∧Fx (λk=>k=N) w w':=by
 obtain⟨i0,hi,hz0,hz1,hz2⟩:=info_parts qX;have hNM:=Mx hN hm;have hfw:=hide adw;clear adw;have hMU:=hide hm;obtain⟨D,h1,h2,h3⟩:=hm;have h3':=(show Hid _ from h3);have adI:Hid (JZ (has D) f=λ_=>none):=by
  show _=_
  funext k
  unfold JZ;cases hk:f k with
  |none=>simp
  |some c=>
   rw[(h3 k (hmb k c hk).1).1,hk];rfl
 clear h3;obtain⟨n0,n2,n3,n4,n5,n6,n7,n8,n9,n10⟩:=hN.cell;have jO:Below w.heap.size w (w.alloc (aZ true 0 x.own)):=bq;have hr0:(w.alloc (aZ true 0 x.own)).ownsRow w.heap.size 82 3 (.slice (some ⟨w.heap.size,0,none⟩) 1 1) 1 (RC [(true,0,x.own)]):=
  ⟨rfl,.inr ⟨w.heap.size,1,_,rfl,aD _,bS w _,aD _,by decide,rfl,rfl⟩⟩
 have hN1:=hN.later jO;have Uf:Hid (MapU (w.alloc (aZ true 0 x.own)) x.Mo f sz):=hMU.out.block (jO.block _ hMU.out.lt);have ho1:(w.alloc (aZ true 0 x.own)).ownsMap Tryz.prog 34 (plainElem Tryz.prog 34) x.Mo sz D:=by
  obtain⟨es,clock,hb,Ft,hs,hD⟩:=h1;exact⟨es,clock,(jO.block _ (gZ.1 hb).1).trans hb,Ft,hs,hD⟩
 have hs1:w.heap.size<=(w.alloc (aZ true 0 x.own)).heap.size:=jO.size;dsimp only[aZ]at jO hr0 hN1 ho1 Uf hs1;clear hMU;go_enter Tryz.func72,Tryz.ntmps72;go_upto_region 2 with(fail);generalize World.alloc _ _=W1 at jO hr0 hN1 ho1 Uf hs1 ⊢;clear n0 n2 n3 n4 n5 n6 n7 n8 n9 n10;obtain⟨n0,n2,n3,n4,n5,n6,n7,n8,n9,n10⟩:=hN1.cell;go_wp2_with(at_range;refine wpList_range_own _ rfl _ 115 rfl 34 34 gu Tryz.underlying115 _ x.Mo sz _ rfl ho1 ?_;intro w0 hrg0 hg0 hs0);have hb0:Below W1.heap.size W1 w0:=⟨hg0.os,hg0.tape,hg0.output,hg0.size,λk hk=>hg0.block k hk (by simp)⟩;have hNa:=hN1.later hb0;have hra:=aO hr0 hb0;have VK:Hid (MapU w0 x.Mo f sz):=Uf.out.block (hb0.block _ Uf.out.lt);have hBa:=jO.trans (hb0.mono hs1);have hza:=hb0.size;clear hN1 hr0 Uf n0 n2 n3 n4 n5 n6 n7 n8 n9 n10 h1 ho1 hb0 hg0 jO;go_frame;go_loopw [3] (λlv wr=>∃(left:Lit->Bool) (cnt:Nat) (L:List (Bool×Int×Int)),wr.ranges Tryz.prog 34 (plainElem Tryz.prog 34) x.Mo W1.heap.size sz D left cnt∧wr.ownsRow w.heap.size 82 3 lv L.length (RC L)∧Hid (mI L=JZ left f)∧Hid (qF L=some x.own)∧qx L∧L.length+cnt<=sz+1∧iH N x wr∧Hid (MapU wr x.Mo f sz)∧Below w.heap.size w wr∧W1.heap.size<=wr.heap.size)
  (λ_ wr=>wr.rangeLeft x.Mo W1.heap.size)
 case atStart=>
  refine⟨_,_,[(true,0,x.own)],hrg0,hra,?_,?_,?_,?_,hNa,VK,hBa,hza⟩
  ·rw[adI.out];rfl
  ·show some (max 0 x.own)=_;have:=hown.1;rw[Int.max_eq_right this]
  ·intro z hz;simp only[eZ]at hz;subst hz;unfold bB at hown;dsimp only;omega
  ·have:=h2;simp only[List.length_singleton];omega
 case round=>
  clear hrg0 hra VK hNa hBa hza hs0;obtain⟨left,cnt,L,hrg,hro,hmp,how,hbd,hlc,hNr,X4,hbr,hzr⟩:=hrel;have hNl:=hNr.lt;go_wp2_with(at_next;refine wpList_next_ranges_ii _ rfl _ rfl 34 34 .u32 .u32 gu Tryz.underlying34 Tryz.underlying34 x.Mo W1.heap.size sz _ _ _ rfl hrg ?_ ?_)
  ·intro hc0 hl0;have hmf:Hid (mI L=f):=by
    show _=_;rw[hmp.out]
    funext k
    unfold JZ;simp[hl0]
   clear hmp hl0;obtain⟨ao,c,hv,hH⟩:=ak hro;subst hv;have HC:Hid (Calls Tryz.prog 69 #[.slice ao L.length c] wr (aev L wr)):=vD ao L.length c L rfl (by omega) hbd (by show ∃l:List Int,_;rw[hmf.out];exact hfw.out) wr hH;have hown':=hide how;go_wp2_with fail;refine aU HC.out ?_;rintro e w5 ⟨v5,out,rfl,hcmp,hlen,hrow,hb5⟩;rw[hmf.out,how.out]at hcmp;have VI:=hNr.later hb5;have og:Hid (MapU w5 x.Mo f sz):=X4.out.block (hb5.block _ X4.out.lt);have adH:=hbr.trans (hb5.mono (dH hs1 hzr));have nG:w5.ownsRow w.heap.size 82 3 v5 out.length (RC out):=ownsRow_base_a hrow (dH hs1 hzr);obtain⟨a5,c5,hv5,_⟩:=ak hrow;subst hv5;have hcmp:=hide hcmp;clear HC hH hro hrg hNr X4 hbr hb5 hlc hbd;obtain⟨n0,n2,n3,n4,n5,n6,n7,n8,n9,n10⟩:=VI.cell;have f12:=VI.free 12;have hset:=VI.Q_ (out.length:Int);have hgN:w5.grownBy (w5.setCell ⟨N,12,none⟩ (.int .i64 (out.length:Int))) (some N):=ah (aC _ (some N)) 12 _;have sM:=nG.kept hgN (.inr (aB nG VI (λc e=>by cases e)));have hM6:Hid (MapU (w5.setCell ⟨N,12,none⟩ (.int .i64 (out.length:Int))) x.Mo f sz):=og.out.block (hgN.block _ og.out.lt (λe=>hNM (Option.some.inj e).symm));have hfx:Fx (λk=>k=N) w (w5.setCell ⟨N,12,none⟩ (.int .i64 (out.length:Int))):=aW (Fx.below adH) hgN (λi _ e=>by cases e;rfl);go_wp2_with fail;generalize World.setCell _ _ _=w6 at hset sM hM6 hfx ⊢;clear VI og nG hrow adH hgN n0 n2 n3 n4 n5 n6 n7 n8 n9 n10 f12;go_wp2;go_returns;exact⟨_,out,rfl,hcmp.out,sM,hset,hM6.out,hfx⟩
  ·intro y c w1 cnt1 hwx hwc hlx hat hrg1 hlt hg1 Tt hen;have hb:=bounds_u32 hwx;have hyu:bB y:=⟨hb.1,by have:=hb.2;omega⟩;have hc:=bounds_u32 hwc;have hcu:bB c:=⟨hc.1,by have:=hc.2;omega⟩;have hf:f y=some c:=by
    have h3x:=h3'.out y hyu;have hsome:=h3x.1;rw[has_true_of_atKey hat]at hsome;obtain⟨z,hz⟩:=Option.isSome_iff_exists.1 hsome.symm;have h4:=h3x.2;rw[hat,hz]at h4;simp at h4;rw[hz,h4]
   have ae8:=hide (OM hlx hf hcu.1 hmp.out);have how':=hide ((Xg y c).trans how.out);have afu:qx (L++ [(false,y,c)]):=λz hz=>by
    rcases eu.1 hz with h|h
    ·exact hbd z h
    ·rw[eZ]at h;subst h;unfold bB at hyu hcu;dsimp only;omega
   obtain⟨es,clock,since,seen,c0,M5,_,_,_,hbi,_⟩:=id hrg;have aaS:=hro.kept hg1 (.inr (aB hro hbi (λc e=>by cases e)));have agB:=hN.lt;have hN1:=hNr.kept hg1 (λe=>by have:=Option.some.inj e;omega);have hM1:Hid (MapU w1 x.Mo f sz):=X4.out.block (hg1.block _ X4.out.lt (λe=>hrg.ne (Option.some.inj e).symm));have hb1:Below w.heap.size w w1:=⟨hg1.os.trans hbr.os,hg1.tape.trans hbr.tape,hg1.output.trans hbr.output,dH hbr.size hg1.size,λk hk=>(hg1.block k (fZ hk hbr.size) (λe=>by have:=Option.some.inj e;omega)).trans (hbr.block k hk)⟩;have hme:=(show Hid (cnt1<wr.rangeLeft x.Mo W1.heap.size)from by show _<_;rw[hrg.left_eq];exact hlt);have agd:W1.heap.size<=w1.heap.size:=by have:=hg1.size;omega
   have hln:L.length<=40001:=by omega
   have afe:L.length+1+cnt1<=sz+1:=by omega
   have jO:Below w1.heap.size w1 (w1.alloc (aZ false y c)):=bq;have hcr:=lq w1 false y c;have hkw:KeepsWalks w1 (w1.alloc (aZ false y c)):=KeepsWalks.alloc _ _;have hM2:Hid (MapU (w1.alloc (aZ false y c)) x.Mo f sz):=hM1.out.block (jO.block _ hM1.out.lt);have FO:=hN1.later jO;have OY:=aO aaS jO;have hb2:=hb1.trans (jO.mono hb1.size);have hs2:w.heap.size<=w1.heap.size:=hb1.size;dsimp only[aZ]at jO hcr hkw hM2 FO OY hb2;clear hmp how hbd hro hNr X4 hbr hzr hrg hg1 Tt hlt hlc hat hf M5 hbi hlx hwx hwc hM1 hN1 hb1 hb hc;go_wp2_with(at_builtin;refine wpList_append_own_at _ rfl _ _ 79 rfl w.heap.size 82 i0 (.agg #[.bool false,.int .u32 0,.int .u32 0]) 3 12 Tryz.underlying79 hi hz0 hz1 hz2 rfl (by decide) u3 L.length (RC L) rfl (aaS.alloc _) ⟨w1.heap.size,0,none⟩ 1 1 (RC [(false,y,c)]) rfl rfl hcr (nO false y c) (by unfold maxLen;omega) (by omega) ?c3 ?_)
   case c3=>simp;omega
   intro v4 W4 Dc hg4 _ _;have HZ:=hrg1.of_walks (hkw.trans (KeepsWalks.of_grownBy hg4 (λj o e ho=>by
    obtain⟨cc,hcc⟩:=aR OY e;rw[hcc]at ho;cases ho;rfl)))
   have BP:=FO.kept hg4 (aB OY FO (λc e=>by cases e));have Ce:Hid (MapU W4 x.Mo f sz):=hM2.out.kept hg4 (Ne.symm (D5 OY hM2.out));have hb4:Below w.heap.size w W4:=⟨hg4.os.trans hb2.os,hg4.tape.trans hb2.tape,hg4.output.trans hb2.output,dH hb2.size hg4.size,λk hk=>(hg4.block k (fZ hk hb2.size) (λe=>by have:=(OY.lt k e.symm).1;omega)).trans (hb2.block k hk)⟩;have hz4:W1.heap.size<=W4.heap.size:=by
    have:=hg4.size;have:=jO.size;omega
   have hfin:Hid (W4.ownsRow w.heap.size 82 3 v4 (L++ [(false,y,c)]).length (RC (L++ [(false,y,c)]))∧(L++ [(false,y,c)]).length+cnt1<=sz+1):=by
    show _∧_;rw[dw,lG];exact⟨Dc,by simpa using afe⟩
   clear hrg1 aaS OY hg4 hkw jO hcr FO hM2 hb2 Dc;go_wp2;go_roundw
   case rel=>exact⟨_,cnt1,_,HZ,hfin.out.1,ae8,how',afu,hfin.out.2,BP,Ce,hb4,hz4⟩
   case measure=>rw[HZ.left_eq];exact hme.out
variable{i j:Nat}{a b:St}
structure Eff(j:Nat)(s s':St):Prop where
 me:s'.me=s.me
 now:s'.now=s.now
 f:s'.f=s.f
 own:s'.own=s.own
 cnt:s'.cnt=s.cnt
 bA:s'.bA=s.bA
 bC:s'.bC=s.bC
 lk:s'.lk=s.lk
 tl:s'.tl=s.tl
 pc:s'.pc=s.pc
 dB:s'.dB=s.dB
 sub:∀y∈s.A,∃z∈s'.A,z.dest=y.dest
 seq:bB s.seq->bB s'.seq
 mem:(∀e∈s.mem,e.dK<=s.now+1280)->∀e∈s'.mem,e.dK<=s'.now+1280
 tn:s'.tn<=s.tn+j
 aL:s'.aL.length<=s.aL.length+j
 aT:s'.aT.length<=s.aT.length+j
 aY:s'.aY.length<=s.aY.length+j
 qs:∀z∈s'.Q,z∈s.Q
theorem Eff.refl(s:St):Eff 0 s s:=⟨rfl,rfl,rfl,rfl,rfl,rfl,rfl,rfl,rfl,rfl,rfl,λy h=>⟨y,h,rfl⟩,id,id,by omega,aD _,aD _,aD _,λ_ h=>h⟩
theorem Eff.trans{c:St}(p:Eff i a b)(q:Eff j b c):Eff (i+j) a c:=
 ⟨q.me.trans p.me,q.now.trans p.now,q.f.trans p.f,q.own.trans p.own,q.cnt.trans p.cnt,q.bA.trans p.bA,q.bC.trans p.bC,q.lk.trans p.lk,q.tl.trans p.tl,q.pc.trans p.pc,q.dB.trans p.dB,λy hy=>by
  obtain⟨z,hz,e⟩:=p.sub y hy;obtain⟨u,hu,e'⟩:=q.sub z hz;exact⟨u,hu,e'.trans e⟩,λh=>q.seq (p.seq h),λh=>q.mem (p.mem h),by have:=p.tn;have:=q.tn;omega,by have:=p.aL;have:=q.aL;omega,by have:=p.aT;have:=q.aT;omega,by have:=p.aY;have:=q.aY;omega,λz h=>p.qs z (q.qs z h)⟩
theorem Eff.mono(p:Eff i a b)(h:i<=j):Eff j a b:=
 ⟨p.me,p.now,p.f,p.own,p.cnt,p.bA,p.bC,p.lk,p.tl,p.pc,p.dB,p.sub,p.seq,p.mem,by have:=p.tn;omega,by have:=p.aL;omega,by have:=p.aT;omega,by have:=p.aY;omega,p.qs⟩
theorem gy(s:St)(r:Int):Eff 1 s (s.drop r):=⟨rfl,rfl,rfl,rfl,rfl,rfl,rfl,rfl,rfl,rfl,rfl,λy h=>⟨y,h,rfl⟩,id,id,by show s.tn<=_;omega,by show s.aL.length<=_;omega,by show(s.aT++ [r]).length<=_;simp,by show s.aY.length<=_;omega,λ_ h=>h⟩
theorem rF(s:St)(t:Int)(p:aF)(L:List (Int×Int)):Eff 1 s (s.send t p L):=⟨rfl,rfl,rfl,rfl,rfl,rfl,rfl,rfl,rfl,rfl,rfl,λy h=>⟨y,h,rfl⟩,id,id,by show s.tn<=_;omega,by show(s.aL++ [_]).length<=_;simp,by show s.aT.length<=_;omega,by show s.aY.length<=_;omega,λ_ h=>h⟩
theorem Xy(t:Int)(L:List (Int×Int)):(Qr t L).length<=1:=by
 unfold Qr;split<;>simp
theorem rG(s:St)(t:Int)(L:List (Int×Int)):Eff 1 s (s.lose t L):=⟨rfl,rfl,rfl,rfl,rfl,rfl,rfl,rfl,rfl,rfl,rfl,λy h=>⟨y,h,rfl⟩,id,id,by show s.tn<=_;omega,by show(s.aL++Qr t L).length<=_;have:=Xy t L;simp;omega,by show s.aT.length<=_;omega,by show s.aY.length<=_;omega,λ_ h=>h⟩
theorem qj(s:St){A:List Rt}(h:∀y∈s.A,∃z∈A,z.dest=y.dest):Eff 0 s {s with A:=A}:=⟨rfl,rfl,rfl,rfl,rfl,rfl,rfl,rfl,rfl,rfl,rfl,h,id,id,by show s.tn<=_;omega,aD _,aD _,aD _,λ_ h=>h⟩
theorem qM(A:List Rt)(d:Int)(f:Rt->Rt)(hf:∀y,(f y).dest=y.dest):∀y∈A,∃z∈g_ A d f,z.dest=y.dest:=by
 intro y hy;refine⟨if y.dest=d then f y else y,di.2 ⟨y,hy,rfl⟩,?_⟩;split
 ·exact hf y
 ·rfl
theorem qL(A:List Rt)(d e:Int):∀y∈A,∃z∈iP A d e,z.dest=y.dest:=qM A d _ (mE e)
theorem qN(A:List Rt)(d n:Int):∀y∈A,∃z∈lX A d n,z.dest=y.dest:=qM A d _ (lu n)
theorem NP(A:List Rt)(fr d q:Int):∀y∈A,∃z∈gN A fr d q,z.dest=y.dest:=qM A d _ (eG fr q)
theorem uQ(me:Int)(A:List Rt)(d q h n e:Int):∀y∈A,∃z∈(iW me A d q h n e).1,z.dest=y.dest:=by
 unfold iW;split
 ·exact λy hy=>⟨y,hy,rfl⟩
 ·split
  ·split
   ·exact qM A d _ λy=>rfl
   ·exact λy hy=>⟨y,hy,rfl⟩
  ·split
   ·exact λy hy=>⟨y,hy,rfl⟩
   ·intro y hy;refine⟨y,?_,rfl⟩;unfold ul;rw[<-List.take_append_drop (pos A (newR d q h n e).dest) A]at hy;rcases eu.1 hy with h|h
    ·exact eu.2 (.inl h)
    ·exact eu.2 (.inr (jR _ h))
theorem mF{A B C:List Rt}(h:∀y∈A,∃z∈B,z.dest=y.dest)(k:∀y∈B,∃z∈C,z.dest=y.dest):∀y∈A,∃z∈C,z.dest=y.dest:=λy hy=>by
 obtain⟨z,hz,e⟩:=h y hy;obtain⟨u,hu,e'⟩:=k z hz;exact⟨u,hu,e'.trans e⟩
theorem aeb(s:St)(Q:List Sr)(hQ:∀z∈Q,z∈s.Q):Eff 0 s {s with Q:=Q}:=⟨rfl,rfl,rfl,rfl,rfl,rfl,rfl,rfl,rfl,rfl,rfl,λy h=>⟨y,h,rfl⟩,id,id,by show s.tn<=_;omega,aD _,aD _,aD _,hQ⟩
theorem Uv(s:St)(l:Int):Eff 0 s {s with fq:=l}:=⟨rfl,rfl,rfl,rfl,rfl,rfl,rfl,rfl,rfl,rfl,rfl,λy h=>⟨y,h,rfl⟩,id,id,by show s.tn<=_;omega,aD _,aD _,aD _,λ_ h=>h⟩
theorem Yv(s:St)(l:Int):Eff 0 s {s with cO:=l}:=⟨rfl,rfl,rfl,rfl,rfl,rfl,rfl,rfl,rfl,rfl,rfl,λy h=>⟨y,h,rfl⟩,id,id,by show s.tn<=_;omega,aD _,aD _,aD _,λ_ h=>h⟩
theorem Yw(s:St){q:Int}(h:bB s.seq->bB q):Eff 0 s {s with seq:=q}:=⟨rfl,rfl,rfl,rfl,rfl,rfl,rfl,rfl,rfl,rfl,rfl,λy h=>⟨y,h,rfl⟩,h,id,by show s.tn<=_;omega,aD _,aD _,aD _,λ_ h=>h⟩
theorem Yx(s:St)(x:Int×ByteArray):Eff 1 s {s with aY:=s.aY++ [x]}:=⟨rfl,rfl,rfl,rfl,rfl,rfl,rfl,rfl,rfl,rfl,rfl,λy h=>⟨y,h,rfl⟩,id,id,by show s.tn<=_;omega,by show s.aL.length<=_;omega,by show s.aT.length<=_;omega,by show(s.aY++ [x]).length<=_;simp,λ_ h=>h⟩
theorem GU{E:List Mm}{q:Int×Int}{dK jd:Int}{e:Mm}(h:e∈dW E q dK jd):e∈E∨e.dK=dK:=by
 have h1:e∈dY E q dK jd:=by
  unfold dW at h;split at h
  ·exact List.mem_of_mem_tail h
  ·exact h
 unfold dY at h1;rcases eu.1 h1 with h|h
 ·exact .inl (List.mem_filter.1 h).1
 ·rw[eZ]at h;subst h;exact .inr rfl
theorem Uu(s:St)(q:Int×Int)(jd:Int):Eff 1 s {s with mem:=dW s.mem q (s.now+1280) jd,tn:=s.tn+1}:=⟨rfl,rfl,rfl,rfl,rfl,rfl,rfl,rfl,rfl,rfl,rfl,λy h=>⟨y,h,rfl⟩,id,λh e he=>by
 rcases GU he with h1|h1
 ·exact h e h1
 ·show e.dK<=s.now+1280;omega,by show s.tn+1<=s.tn+((1:Nat):Int);omega,by show s.aL.length<=_;omega,by show s.aT.length<=_;omega,by show s.aY.length<=_;omega,λ_ h=>h⟩
theorem AY(s:St)(p:aF):Eff 1 s (s.answer p):=by
 unfold St.answer;split
 ·exact rF _ _ _ _
 ·exact gy _ _
theorem AX(s:St)(p:aF)(hp:bB p.a_):Eff 1 s (s.ja p):=
 (Yw s (q:=max s.seq p.a_) λh=>by unfold bB at *;omega).trans (j:=1) (AY _ _)
theorem yR(s:St)(p:aF)(r:Rt):Eff 1 s (s.iC p r):=by
 refine(qj s (A:=lX (if (bN s.A p.aK s.now).2 then lX s.A p.dest (bN s.A p.aK s.now).1.next else s.A) p.aK r.next) ?_).trans (j:=1) (AY _ _);split
 ·exact mF (qN _ _ _) (qN _ _ _)
 ·exact qN _ _ _
theorem Dp(s:St)(p:aF)(hp:bB p.a_):Eff 1 s (s.asked p):=by
 unfold St.asked;split
 ·exact AX s p hp
 ·split
  ·exact yR s p _
  ·split
   ·exact gy _ _
   ·exact rF _ _ _ _
theorem Pz(s:St)(fr:Int)(p:aF)(hp:bB p.a_):Eff 1 s (s.learn fr p):=by
 unfold St.learn;split
 ·exact(qj s (uQ _ _ _ _ _ _ _)).trans (j:=1) (gy _ _)
 ·split
  ·exact(qj s (mF (uQ _ _ _ _ _ _ _) (qL _ _ _))).trans (j:=1) (Dp _ p hp)
  ·exact(qj s (uQ _ _ _ _ _ _ _)).trans (j:=1) (Dp _ p hp)
theorem yQ(s:St)(fr:Int)(p:aF)(hp:bB p.a_):Eff 2 s (s.dJ fr p):=by
 unfold St.dJ;split
 ·exact(gy _ _).mono (by omega)
 ·exact(Uu s _ _).trans (j:=1) (Pz _ fr p hp)
theorem vO(s:St)(d:Int)(t:ByteArray):Eff 1 s (s.bg d t):=by
 unfold St.bg;split
 ·have h1:Eff 0 s {s with fq:=(s.fq+1)%4294967296,A:=iP s.A d (s.now+3000)}:=(Uv s ((s.fq+1)%4294967296)).trans (j:=0) (qj {s with fq:=(s.fq+1)%4294967296} (A:=iP s.A d (s.now+3000)) (qL _ _ _));exact h1.trans (j:=1) (rF {s with fq:=(s.fq+1)%4294967296,A:=iP s.A d (s.now+3000)} _ _ _)
 ·exact(Eff.refl s).mono (by omega)
theorem Py(s:St)(d:Int)(L:List ByteArray):Eff L.length s (L.foldl (λs t=>s.bg d t) s):=by
 induction L generalizing s with
 |nil=>exact Eff.refl s
 |cons t L ih=>
  rw[gH];exact((vO s d t).trans (ih _)).mono (by simp;omega)
theorem Wd(s:St)(d:Int)(L:List ByteArray):(L.foldl (λs t=>s.bg d t) s).Q=s.Q:=by
 induction L generalizing s with
 |nil=>rfl
 |cons t L ih=>
  rw[gH,ih];unfold St.bg;split<;>rfl
theorem nU(s:St)(d:Int)(h:∀q∈s.Q,q.txt.length<=4):Eff 4 s (s.sendAll d):=by
 unfold St.sendAll;split
 ·exact(Eff.refl s).mono (by omega)
 ·rename_i q hq;split
  ·have h1:=h q (jh hq).1;have h2:=((Py s d q.txt).trans (j:=0) (aeb _ (s.Q.filter λz=>!decide (z.dest=d)) λz hz=>by rw[Wd];exact(List.mem_filter.1 hz).1)).mono (j:=4) (by omega);exact h2
  ·exact(Eff.refl s).mono (by omega)
theorem Iu(s:St)(fr:Int)(p:aF):Eff 1 s (s.iM fr p):=by
 unfold St.iM;split
 ·exact(qj s (mF (mF (qN _ _ _) (qN _ _ _)) (qL _ _ _))).trans (j:=1) (rF _ _ _ _)
 ·exact gy _ _
theorem Cg(s:St)(fr:Int)(p:aF)(h:∀q∈s.Q,q.txt.length<=4):Eff 5 s (s.fE fr p):=by
 unfold St.fE;split
 ·exact(gy _ _).mono (by omega)
 ·have h1:=qj s (uQ s.me s.A p.dest p.a_ (St.far p.hops) fr (s.now+p.life));dsimp only;split
  ·exact(h1.trans (j:=1) (gy _ _)).mono (by omega)
  ·split
   ·split
    ·exact(h1.trans (j:=4) (nU {s with A:=(iW s.me s.A p.dest p.a_ (St.far p.hops) fr (s.now+p.life)).1} p.dest h)).trans (j:=1) (gy _ _)
    ·exact(h1.trans (j:=4) (nU {s with A:=(iW s.me s.A p.dest p.a_ (St.far p.hops) fr (s.now+p.life)).1} p.dest h)).mono (by omega)
   ·split
    ·exact(h1.trans (j:=1) (gy _ _)).mono (by omega)
    ·exact(h1.trans (j:=1) (Iu _ _ _)).mono (by omega)
theorem Wt(fr:Int)(L:List (Int×Int))(z:List Rt×Bool×List (Int×Int)):∀y∈z.1,∃u∈(L.foldl (St.GX fr) z).1,u.dest=y.dest:=by
 induction L generalizing z with
 |nil=>exact λy hy=>⟨y,hy,rfl⟩
 |cons l L ih=>
  rw[gH];refine mF ?_ (ih _);unfold St.GX;split
  ·exact NP _ _ _ _
  ·exact λy hy=>⟨y,hy,rfl⟩
theorem E5(s:St)(fr:Int)(L:List (Int×Int)):Eff 2 s (s.gW fr L):=by
 unfold St.gW;dsimp only;have h1:=qj s (Wt fr L (s.A,false,[]));split
 ·exact(h1.trans (j:=1) (rG _ _ _)).mono (by omega)
 ·exact(h1.trans (j:=2) ((gy _ _).trans (j:=1) (rG _ _ _))).mono (by omega)
theorem yt(s:St)(t d:Int):Eff 1 s (s.lI t d):=rG s t _
theorem E8(s:St)(fr:Int)(p:aF):Eff 2 s (s.fO fr p):=by
 unfold St.fO;split
 ·exact(Yx s _).mono (by omega)
 ·split
  ·exact(gy _ _).mono (by omega)
  ·split
   ·have h1:=(qj s (A:=iP (iP s.A p.dest (s.now+3000)) p.aK (s.now+3000)) (mF (qL _ _ _) (qL _ _ _))).trans (j:=1) (rF {s with A:=iP (iP s.A p.dest (s.now+3000)) p.aK (s.now+3000)} (bN s.A p.dest s.now).1.next {p with ttl:=p.ttl - 1} []);exact h1.mono (by omega)
   ·have h1:=(gy s 3).trans (j:=0) (qj (s.drop 3) (A:=g_ s.A p.dest St.qi) (qM _ _ _ λ_=>rfl));exact h1.trans (j:=1) (yt _ _ _)
theorem AU(s:St)(fr:Int)(p:aF):Eff 2 s (s.eP fr p):=by
 unfold St.eP;split
 ·exact(((gy s 8).trans (j:=1) (yt _ _ _)).trans (j:=0) (Yv _ _)).mono (by omega)
 ·exact(gy _ _).mono (by omega)
theorem Iw(s:St)(fr:Int)(p:aF)(L:List (Int×Int))(hp:bB p.a_)(h:∀q∈s.Q,q.txt.length<=4):Eff 5 s (s.gT fr p L):=by
 unfold St.gT;split
 ·exact(AU s fr p).mono (by omega)
 ·split
  ·exact(yQ s fr p hp).mono (by omega)
  ·split
   ·exact Cg s fr p h
   ·split
    ·exact(E5 s fr L).mono (by omega)
    ·exact(E8 s fr p).mono (by omega)
end Go.Proofs.YtakaadcpaeiccabGreat
