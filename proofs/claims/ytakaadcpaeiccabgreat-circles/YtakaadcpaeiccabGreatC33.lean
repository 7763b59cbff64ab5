import Derived.Test.YtakaadcpaeiccabGreatC32
import Derived.Maps.RangeWalk
set_option maxHeartbeats 8000000
set_option maxRecDepth 100000
namespace Go.Proofs.YtakaadcpaeiccabGreat
open Go.RowKit Go.Maps
def X8(d:Int)(s:St)(TL:List Hp.Tm)(s2:St)(dO:List Hp.Tm):Prop:=(dO=TL∧s2.Q=s.Q)∨∃q,St.jD s.Q d=some q∧Ej q.id TL dO∧s2.Q=s.Q.filter fun z=>!decide(z.dest=d)
def Y4(N B:Nat)(g:bA)(s s2:St)(TL:List Hp.Tm)(d:Int)(w w':World):Prop:=∃dO,lg N B g s s2 dO w w'∧X8 d s TL s2 dO
theorem EX(s:St)(d:Int):(s.bP d).aN=s.aN:=by
 have h1:∀(t:ByteArray)(s:St),(s.aX d t).aN=s.aN:=by
  intro t s;unfold St.aX;split<;>rfl
 have h2:∀(l:List ByteArray)(s:St),(l.foldl(fun s t=>s.aX d t)s).aN=s.aN:=by
  intro l
  induction l with
  |nil=>intro s;rfl
  |cons t l ih=>intro s;exact(ih _).trans(h1 t s)
 unfold St.bP;cases St.jD s.Q d with
 |none=>rfl
 |some q=>
  dsimp only;split
  ·exact h2 _ _
  ·rfl
theorem SwP.rp {N B:Nat} {g:bA} {s:St} {TL:List Hp.Tm} {d:Int} {a b:World}(h:SwP N B g s(s.bP d)TL(St.jD s.Q d)(bF s.A d s.now).2 a b):∃dO,EI N B g s(s.bP d)dO(fun z=>z=d)a b∧X8 d s TL(s.bP d)dO:=by
 obtain⟨dO,⟨g1,n1,u1,t1,y1⟩,h2,h3⟩:=h;refine⟨dO,⟨g1,n1,u1,t1,fun z hz=>y1.out z ?_⟩,?_⟩
 ·rintro⟨_,q,hq,rfl⟩;exact hz(iL hq).2
 unfold X8 St.bP;cases hs:St.jD s.Q d with
 |none=>exact .inl⟨h3(.inl hs),rfl⟩
 |some q=>
  cases hf:(bF s.A d s.now).2 with
  |false=>exact .inl⟨h3(.inr hf),by simp⟩
  |true=>exact .inr⟨q,rfl,h2 q hs hf,by simp⟩
theorem Vg {a c:Int}(h:0≤a∧a≤4611686018427387904)(hc:0≤c∧c≤8589934592):IntKind.u64.wrap(a+IntKind.u64.wrap c)=a+c:=by
 simp only [IntKind.wrap,IntKind.signed,IntKind.bits];simp;omega
theorem Hm {N B:Nat} {g:bA} {s:St} {TL:List Hp.Tm} {w:World}(n:Nd N B g s TL w)(fr:Int)(Om:bg fr)(p:ah)(hq:p.Hd)(hL:eY w p [])(hme:bg s.me)(fq:0≤s.now∧s.now≤4611686018427387904)(hfl:s.aH.length≤990000)(hdl:s.aN.length≤990000)(htl:TL.length≤1000000):
  Calls Tryz.prog 131 #[.pointer(some⟨N,0,none⟩),.pointer(some⟨B,0,none⟩),.int .u32 fr,p.val]w fun e w'=>e=.returned(.tuple #[])∧Y4 N B g s(s.eT fr p)TL p.dest w w':=by
 have hp:=hq.wf;obtain⟨hid,hde,hds,hfr,hfs,hli⟩:=hp.num;have hb0:Below w.heap.size w(w.alloc p.box):=(Below.refl _ _).alloc(Nat.le_refl _)_;have gp:=PB.new p w;have n0:=n.later hb0;obtain⟨s2,dA⟩:∃s2,s.eT fr p=s2:=⟨_,rfl⟩;rw [dA];have hs2:=hide dA;clear dA;dsimp only [ah.box]at hb0 n0;unfold PB at gp;dsimp only [ah.box]at gp;go_enter Tryz.func131,Tryz.ntmps131
 go_upto_region 1 with(fail)
 generalize World.alloc _ _=W1 at hb0 gp n0 ⊢;have jS:=n.new(k:=w.heap.size)(Nat.le_refl _);generalize lm:w.heap.size=C at gp jS ⊢;replace lm:=hide lm;have hS:HC N B g.x.T C s.me s.seq s.bZ s.now p W1.drew:=HC.wu n0 gp;have hP1:PB p C W1.drew:=PB.below gp(Below.refl _ _).drew;have n1:=n0.drew;have hb1:=hb0.drew;have hs3:=hs2.out;unfold St.eT at hs3;clear hs2 gp n0;by_cases hd1:p.dest=s.me
 ·have hbe:(p.dest==s.me)=true:=by simpa using hd1
  rw [if_pos hd1]at hs3;clear hd1;have HX:=hide(iU n1 1(by omega));rw [hs3]at HX;have hQ:Hid(s2.Q=s.Q):=by show _=_;rw [←hs3];rfl
  clear hs3 hP1 n1;go_region_held3(HC N B g.x.T C s.me s.seq s.bZ s.now p)(first|with_reducible exact hS|with_reducible assumption)(fail)
  rename_i iB;clear iB hS;go_wp2_with fail
  refine Calls.mono HX.out ?_;rintro e w9⟨rfl,hN⟩;have hfin:Hid(Y4 N B g s s2 TL p.dest w w9):=⟨TL,hN.pre hb1,.inl⟨rfl,hQ.out⟩⟩;clear hN HX;go_wp2
  go_returns
  exact⟨rfl,hfin.out⟩
 ·have hbe:(p.dest==s.me)=false:=by simpa using hd1
  rw [if_neg hd1]at hs3;clear hd1;obtain⟨u,hu⟩:∃u,iD s.me s.A p.dest p.aW(St.far p.hops)fr(s.now+p.life)=u:=⟨_,rfl⟩;have HU:Hid(∀t,t=s.now+p.life→Calls Tryz.prog 161 #[.pointer(some⟨g.x.T,0,none⟩),.int .u32 p.dest,.int .u32 p.aW,.int .i64(St.far p.hops),.int .u32 fr,.int .u64 t]W1.drew.drew fun r w'=>r=.returned(.int .i64 u.2)∧lg N B g s {s with A:=u.1}TL W1.drew.drew w'):=by
   rintro _ rfl;have:=Hg n1.drew p.dest p.aW(St.far p.hops)fr(s.now+p.life)hde hds(by have:=hq.hops;unfold oC St.far;omega)Om(by unfold bg at hli;unfold Af;omega);rw [hu]at this;exact this
  rw [hu]at hs3;obtain⟨A2,E2⟩:=u;dsimp only at hs3 HU;clear hu;replace hs3:=hide hs3;have hl0:0≤p.life∧p.life≤8589934592:=by unfold bg at hli;omega
  have hS2:HC N B g.x.T C s.me s.seq s.bZ s.now p W1.drew.drew:=HC.wu n1 hP1;have hP2:PB p C W1.drew.drew:=PB.below hP1(Below.refl _ _).drew;clear hP1 n1;go_region_held3(HC N B g.x.T C s.me s.seq s.bZ s.now p)(first|with_reducible exact hS|with_reducible assumption)(fail)
  rename_i iB;clear iB hS;go_wp2_with fail
  go_region_held3(HC N B g.x.T C s.me s.seq s.bZ s.now p)(first|with_reducible exact hS2|with_reducible assumption)(first
   |(go_at_call 162;refine(uU p.hops hq.hops _).mono ?_;rintro e w3f⟨rfl,rfl⟩)
   |(go_at_call 161;refine(HU.out _(by first|rfl|exact Vg fq hl0)).mono ?_;rintro e w4⟨rfl,hN⟩;obtain⟨g4,n4,u4,t4⟩:=hN;obtain⟨lH,qK⟩:=u4.jN hP2 jS;have hk4:HC N B g.x.T C s.me s.seq s.bZ s.now p w4:=HC.next n4 lH t4.out rfl rfl rfl rfl))
  rename_i iB;clear iB hS2 hk4;have pI:=(Up.below(B:=B)(F:=Ft N g s)(hb1.drew)).trans u4;obtain⟨s1,hs1⟩:∃z,({s with A:=A2}:St)=z:=⟨_,rfl⟩;have h1:Hid(s1.me=s.me∧s1.now=s.now∧s1.Q=s.Q∧s1.aH=s.aH∧s1.aN=s.aN∧s1.seq=s.seq∧s1.bZ=s.bZ):=by
   show _∧_;rw [←hs1];exact⟨rfl,rfl,rfl,rfl,rfl,rfl,rfl⟩
  have hs4:Hid((if E2=4 then s1.drop 2 else if p.aI=s1.me then(if E2=3 then(s1.bP p.dest).drop 7 else s1.bP p.dest)else if p.aS=1 then s1.drop 4 else s1.il fr p)=s2):=by
   rw [←hs1];exact hs3
  replace hs3:=hs4;clear hs4;rw [hs1]at n4 pI qK;clear hs1 u4 HU hP2 jS;have acN:Hid(s1.aH.length≤990000):=by show _≤_;rw [h1.out.2.2.2.1];exact hfl
  have W_:Hid(s1.aN.length≤990000):=by show _≤_;rw [h1.out.2.2.2.2.1];exact hdl
  by_cases h4:E2=4
  ·subst h4;replace hs3:Hid(s1.drop 2=s2):=hs3;have HX:=hide(iU n4 2(by have:=W_.out;omega));rw [hs3.out]at HX;have hQ:Hid(s2.Q=s.Q):=by show _=_;rw [←hs3.out];exact h1.out.2.2.1
   clear hs3 lH n4;go_wp2_with fail
   refine Calls.mono HX.out ?_;rintro e w9⟨rfl,g9,n9,u9,t9⟩;have hfin:Hid(Y4 N B g s s2 TL p.dest w w9):=⟨TL,⟨g9,n9,pI.trans u9,t9.out.trans t4.out⟩,.inl⟨rfl,hQ.out⟩⟩;clear n9 u9 t9 HX;go_wp2
   go_returns
   exact⟨rfl,hfin.out⟩
  ·have b4:(E2==4)=false:=by simpa using h4
   replace hs3:=hide((if_neg h4).symm.trans hs3.out);clear h4;have hS4:HC N B g4.x.T C s1.me s1.seq s1.bZ s1.now p w4.drew:=HC.wu n4 lH;have vW:PB p C w4.drew:=PB.below lH(Below.refl _ _).drew;have n5:=n4.drew;have xE:=pI.trans(.below(Below.refl _ _).drew:Up B(Ft N g4 s1)(Ft N g4 s1)w4 w4.drew);clear n4 lH pI;go_wp2_with fail
   by_cases hf:p.aI=s1.me
   ·have bf:(p.aI==s1.me)=true:=by simpa using hf
    replace hs3:=hide((if_pos hf).symm.trans hs3.out);clear hf;obtain⟨sW,hsW⟩:∃z,s1.bP p.dest=z:=⟨_,rfl⟩;have hdW:Hid(sW.aN.length≤990000):=by show _≤_;rw [←hsW,EX];exact W_.out
    have HW:Hid(Calls Tryz.prog 78 #[.pointer(some⟨N,0,none⟩),.pointer(some⟨B,0,none⟩),.int .u32 p.dest]w4.drew fun e w'=>(∃b,e=.returned(.bool b))∧∃dO,lg N B g4 s1 sW dO w4.drew w'∧X8 p.dest s TL sW dO):=by
     refine(su n5 p.dest hde(by rw [h1.out.1];exact hme)(by rw [h1.out.2.1];exact fq)(by have:=acN.out;omega)htl).mono ?_;rintro e w'⟨rfl,h⟩;obtain⟨dO,a1,a2⟩:=h.rp;replace a1:=a1.toP;rw [hsW]at a1 a2;exact⟨⟨_,rfl⟩,dO,a1,by unfold X8 at a2 ⊢;rw [h1.out.2.2.1]at a2;exact a2⟩
    rw [hsW]at hs3;clear hsW n5;go_region_held3(HC N B g4.x.T C s1.me s1.seq s1.bZ s1.now p)(first|with_reducible exact hS4|with_reducible assumption)(fail)
    rename_i iB;clear iB hS4;obtain⟨_,_,_,_,_,p5,_⟩:=PB.cell vW;go_wp2_with fail
    refine HW.out.mono ?_;rintro e w9⟨⟨b,rfl⟩,dO,⟨g9,n9,u9,t9⟩,htm⟩;replace htm:=hide htm;have vG:=xE.trans u9;have t9':Hid(g9.x.T=g.x.T):=t9.out.trans t4.out;clear u9 t9 HW p5 vW xE;by_cases h3:E2=3
    ·have b3:(E2==3)=true:=by simpa using h3
     replace hs3:=hide((if_pos h3).symm.trans hs3.out);clear h3;have HX:=hide(iU n9 7(by have:=hdW.out;omega));rw [hs3.out]at HX;have aej:Hid(X8 p.dest s TL s2 dO):=by
      show X8 p.dest s TL s2 dO;rw [←hs3.out];exact htm.out
     clear n9 hs3;go_wp2_with fail
     refine Calls.mono HX.out ?_;rintro e Ki⟨rfl,g10,n10,u10,t10⟩;have hfin:Hid(Y4 N B g s s2 TL p.dest w Ki):=⟨dO,⟨g10,n10,vG.trans u10,t10.out.trans t9'.out⟩,aej.out⟩;clear n10 u10 t10 HX;go_wp2
     go_returns
     exact⟨rfl,hfin.out⟩
    ·have b3:(E2==3)=false:=by simpa using h3
     replace hs3:=hide((if_neg h3).symm.trans hs3.out);clear h3;have hfin:Hid(Y4 N B g s s2 TL p.dest w w9):=by
      show Y4 N B g s s2 TL p.dest w w9;rw [←hs3.out];exact⟨dO,⟨g9,n9,vG,t9'⟩,htm.out⟩
     clear n9 hs3;go_wp2
     go_returns
     exact⟨rfl,hfin.out⟩
   ·have bf:(p.aI==s1.me)=false:=by simpa using hf
    replace hs3:=hide((if_neg hf).symm.trans hs3.out);clear hf;go_region_held3(HC N B g4.x.T C s1.me s1.seq s1.bZ s1.now p)(first|with_reducible exact hS4|with_reducible assumption)(fail)
    rename_i iB;clear iB hS4;obtain⟨p0,p1,p2,p3,p4,p5,p6,p7,p8,p9,je,iX⟩:=PB.cell vW;by_cases ht:p.aS=1
    ·have bt:(p.aS==1)=true:=by simpa using ht
     replace hs3:=hide((if_pos ht).symm.trans hs3.out);clear ht;have HX:=hide(iU n5 4(by have:=W_.out;omega));rw [hs3.out]at HX;have hQ:Hid(s2.Q=s.Q):=by show _=_;rw [←hs3.out];exact h1.out.2.2.1
     clear hs3 vW n5;go_wp2_with fail
     refine Calls.mono HX.out ?_;rintro e w9⟨rfl,g9,n9,u9,t9⟩;have hfin:Hid(Y4 N B g s s2 TL p.dest w w9):=⟨TL,⟨g9,n9,xE.trans u9,t9.out.trans t4.out⟩,.inl⟨rfl,hQ.out⟩⟩;clear n9 u9 t9 HX;go_wp2
     go_returns
     exact⟨rfl,hfin.out⟩
    ·have bt:(p.aS==1)=false:=by simpa using ht
     replace hs3:=hide((if_neg ht).symm.trans hs3.out);clear ht;have HX:=hide(Pm n5 fr Om p hq hL.nil(by rw [h1.out.2.1];exact fq)(by have:=acN.out;omega)(by have:=W_.out;omega));rw [hs3.out]at HX;dsimp only [ah.val]at HX;have hQ:Hid(s2.Q=s.Q):=by
      show _=_;rw [←hs3.out];unfold St.il;split<;>exact h1.out.2.2.1
     clear hs3 vW n5;go_wp2_with fail
     refine Calls.mono HX.out ?_;rintro e w9⟨rfl,g9,n9,u9,t9⟩;have hfin:Hid(Y4 N B g s s2 TL p.dest w w9):=⟨TL,⟨g9,n9,xE.trans u9,t9.out.trans t4.out⟩,.inl⟨rfl,hQ.out⟩⟩;clear n9 u9 t9 HX;go_wp2
     go_returns
     exact⟨rfl,hfin.out⟩
open Go.WideElems
structure St.PX(s:St):Prop where
 mb:MB s.f
 on:∀d,(s.f d).isSome=true→∃y∈s.A,y.dest=d
 own:bg s.own
theorem Rh {q own:Int} {f:Int→Option Int} {A:List Rt}(h:MB f)(hA:∀y∈A,y.Ok):MB(bE q own f A).1:=by
 have hg:∀(B:List Rt)(st:(Int→Option Int)×List(Bool×Int×Int)),(∀y∈B,y.Ok)→MB st.1→MB(B.foldl iY st).1:=by
  intro B
  induction B with
  |nil=>intro st _ h;exact h
  |cons y B ih=>
   intro st hB h;rw [List.foldl_cons];refine ih _(fun z hz=>hB z(List.mem_cons_of_mem _ hz)) ?_;unfold iY;split
   ·intro d v hd;dsimp only [jJ]at hd;split at hd
    ·rename_i e;have hy:=hB y List.mem_cons_self;cases hd;exact⟨e▸hy.dest,hy.seq⟩
    ·exact h d v hd
   ·exact h
 exact hg A _ hA h
theorem NR {q own:Int} {f:Int→Option Int} {A:List Rt}:∀y∈A,((bE q own f A).1 y.dest).isSome=true:=by
 have hk:∀(B:List Rt)(st:(Int→Option Int)×List(Bool×Int×Int))(d:Int),(st.1 d).isSome=true→((B.foldl iY st).1 d).isSome=true:=by
  intro B
  induction B with
  |nil=>intro st d h;exact h
  |cons y B ih=>
   intro st d h;rw [List.foldl_cons];refine ih _ d ?_;unfold iY;split
   ·dsimp only [jJ];split
    ·rfl
    ·exact h
   ·exact h
 have hg:∀(B:List Rt)(st:(Int→Option Int)×List(Bool×Int×Int)),∀y∈B,((B.foldl iY st).1 y.dest).isSome=true:=by
  intro B
  induction B with
  |nil=>intro st y hy;cases hy
  |cons z B ih=>
   intro st y hy;rw [List.foldl_cons];rcases List.mem_cons.1 hy with rfl|hy
   ·refine hk B _ _ ?_;unfold iY;split
    ·simp [jJ]
    ·rename_i hn;simp only [rT,Bool.or_eq_true,not_or]at hn;have h1:=hn.1;cases hq:st.1 y.dest with
     |none=>rw [hq]at h1;simp at h1
     |some _=>rfl
   ·exact ih _ y hy
 exact hg A _
theorem Wz {q own:Int}(hq:bg q)(ho:bg own):bg(Dp q own):=by
 unfold Dp;split<;>assumption
theorem ry {q own:Int} {f:Int→Option Int} {A:List Rt}(h:∀d,(f d).isSome=true→∃y∈A,y.dest=d):∀d,((bE q own f A).1 d).isSome=true→∃y∈A,y.dest=d:=by
 have hg:∀(B:List Rt)(st:(Int→Option Int)×List(Bool×Int×Int)),(∀y∈B,y∈A)→(∀d,(st.1 d).isSome=true→∃y∈A,y.dest=d)→∀d,((B.foldl iY st).1 d).isSome=true→∃y∈A,y.dest=d:=by
  intro B
  induction B with
  |nil=>intro st _ h;exact h
  |cons y B ih=>
   intro st hB h;rw [List.foldl_cons];refine ih _(fun z hz=>hB z(List.mem_cons_of_mem _ hz)) ?_;unfold iY;split
   ·intro d hd;dsimp only [jJ]at hd;split at hd
    ·rename_i e;exact⟨y,hB y List.mem_cons_self,e.symm⟩
    ·exact h d hd
   ·exact h
 exact hg A _(fun _ h=>h)h
theorem Ck {s:St}(h:s.PX)(hA:∀y∈s.A,y.Ok)(hq:bg s.seq):s.write.PX:=⟨Rh h.mb hA,ry h.on,Wz hq h.own⟩
theorem Ep.size_le {N:Nat} {x:lF} {M:Nat} {ff:Int→Option Nat} {gg:Int→Value} {A:List Rt} {f:Int→Option Int} {sz:Nat} {W:World}(n:Ep N x M ff gg A f sz W)(h:∀d,(f d).isSome=true→∃y∈A,y.dest=d):sz≤8:=by
 refine Nat.le_trans(n.mo.size_le(A.map(·.dest))fun d _ hd=> ?_)(by rw [List.length_map];exact n.tb.len);obtain⟨y,hy,rfl⟩:=h d hd;exact List.mem_map.2⟨y,hy,rfl⟩
theorem Nd.core {N B:Nat} {g:bA} {s s':St} {TL:List Hp.Tm} {W W':World}(n:Nd N B g s TL W) {x':lF} {Tw:Int→Option Nat} {vY:Int→Value} {qZ:Nat} {a':nK}
  (h:Ep N x' g.M Tw vY s'.A s'.f qZ W')(ha:jc B(B+1)a' s'.a_ s'.aH s'.aR s'.aN W')
  (hf:Fx(fun k=>xZ N g.x g.M g.ff g.gg s.A k∨iW B g.a k)W W')(hin:∀k,xZ N x' g.M Tw vY s'.A k→xZ N g.x g.M g.ff g.gg s.A k)
  (hx:x'.Mo=g.x.Mo∧x'.Ms=g.x.Ms∧x'.qf=g.x.qf∧x'.Tm=g.x.Tm∧x'.pc=g.x.pc)(he:NdE x' s')
  (hs:s'.mem=s.mem∧s'.tn=s.tn∧s'.Q=s.Q∧s'.tl=s.tl∧s'.pc=s.pc)(hz:qZ≤1000000)(h1:a'.now=s'.now)(h2:a'.aZ=s'.aZ):
  Nd N B {g with x:=x',ff:=Tw,gg:=vY,sz:=qZ,a:=a'}s' TL W'∧Up B(Ft N g s)(Ft N {g with x:=x',ff:=Tw,gg:=vY,sz:=qZ,a:=a'}s')W W':=by
 obtain⟨x1,x2,x3,x4,x5⟩:=hx;obtain⟨t1,t2,t3,t4,t5⟩:=hs;have hrs:=n.nn.rs.kept(W':=W')fun k hk=>hf.block k(n.nn.rs.lt hk)fun h=>h.elim(fun h=>n.nn.apart hk h)fun h=>n.ac.I7 n.nn(.inr hk)h;have hR:∀k,jF x' g.h g.u g.Mt g.tv s' k→jF g.x g.h g.u g.Mt g.tv s k:=by
  intro k hk;unfold jF at hk ⊢;rw [x2,x3,x4,x5,t3]at hk;exact hk
 refine⟨⟨⟨h,he,⟨?_,?_,?_,hrs.hpo,hrs.pm,?_⟩,?_,hz⟩,ha,h1,h2⟩,.of hf(fun k o hk ho=>hk.elim(fun h=> .inl(.inl h))fun h=> .inr⟨n.ac.kinds h ho,n.ac.ge h⟩)fun k hk=> .inl(hk.imp(hin k)(hR k))⟩
 ·dsimp only;rw [x2,t1,t2];exact hrs.sn
 ·dsimp only;rw [x3,t3];exact hrs.sr
 ·dsimp only;rw [x4,t4];exact hrs.tm
 ·dsimp only;rw [x5,t5];exact hrs.pc
 ·dsimp only;rw [x1,x2,x3];exact n.nn.qA
theorem Yb {N B:Nat} {g:bA} {s:St} {TL:List Hp.Tm} {w:World}(n:Nd N B g s TL w)(hd:s.PX)(hc:0≤s.cnt∧s.cnt≤1000000)(hw:s.a_.length≤90000):
  Calls Tryz.prog 71 #[.pointer(some⟨N,0,none⟩),.pointer(some⟨B,0,none⟩)]w fun e w'=>e=.returned(.tuple #[])∧lg N B g s s.write TL w w':=by
 obtain⟨e1,e2,e3,e4,e5,e6,e7,e8,e9⟩:=n.nn.eq;refine(vD N B(B+1)g.x g.a g.M g.ff g.gg s.A s.f g.sz s.a_ s.aH s.aR s.aN w n.nn.cr n.ac n.base(by rw [e8];exact hc)n.nn.H_ hw).mono ?_;rintro e w'⟨v7,qZ,rfl,h1,_,h3,h4⟩;have hn:bE g.x.seq g.x.own s.f s.A=bE s.seq s.own s.f s.A:=by rw [e2,e7]
 rw [hn]at h1 h3;have hz:qZ≤8:=h1.size_le(ry hd.on);obtain⟨p,q⟩:=n.core(s':=s.write)h1 h3(h4.mono fun k h=>by
  rcases h with rfl|rfl|h
  ·exact .inl(.inl rfl)
  ·exact .inl(.inr(.inl rfl))
  ·exact .inr h)(fun k hk=>hk)⟨rfl,rfl,rfl,rfl,rfl⟩⟨e1,e2,e3,e4,e5,e6,by dsimp only;rw [e2,e7];rfl,by dsimp only;rw [e8];rfl,e9⟩⟨rfl,rfl,rfl,rfl,rfl⟩(by omega)n.now n.aZ
 exact⟨rfl,_,p,q,rfl⟩
theorem yn {N:Nat} {g:bA} {s:St} {TL:List Hp.Tm} {w:World}(n:Nn N g s TL w)(now:Int)(hd:s.PX)(hc:0≤s.cnt∧s.cnt≤1000000):
  Calls Tryz.prog 51 #[.pointer(some⟨N,0,none⟩),.int .u64 now]w fun e w'=>∃g',e=.returned(.pointer(some⟨w.heap.size,0,none⟩))∧Nd N w.heap.size g'(s.begin now)TL w'∧Up w.heap.size(Ft N g s)(Ft N g'(s.begin now))w w'∧Fx(Ft N g s)w w'∧g'.x.T=g.x.T:=by
 obtain⟨e1,e2,e3,e4,e5,e6,e7,e8,e9⟩:=n.eq;refine(O9 N g.x now w n.cr(by rw [e8];exact hc)n.H_).mono ?_;rintro e w'⟨vY,v7,qZ,rfl,h1,_,h3,h4,h5⟩;have hn:bE g.x.seq g.x.own s.f(iG s.A now)=bE s.seq s.own s.f(iG s.A now):=by rw [e2,e7]
 rw [hn]at h1 h3;have hdom:∀d,((bE s.seq s.own s.f(iG s.A now)).1 d).isSome=true→∃y∈iG s.A now,y.dest=d:=ry fun d hd'=>by
  obtain⟨y,hy,rfl⟩:=hd.on d hd';exact⟨og now y,List.mem_map.2⟨y,hy,rfl⟩,gF now y⟩
 have hz:qZ≤8:=h1.size_le hdom;have hrs:=n.rs.kept(W':=w')fun k hk=>h5.block k(n.rs.lt hk)fun h=>n.apart hk h;have hF:∀k,Ft N {g with x:={g.x with own:=Dp g.x.seq g.x.own,cnt:=g.x.cnt+(bE s.seq s.own s.f(iG s.A now)).2.length},gg:=vY,sz:=qZ,a:={EG now with mZ:=v7}}(s.begin now)k→Ft N g s k:=fun k hk=>hk.imp(h4 k)fun h=>h;refine⟨{g with x:={g.x with own:=Dp g.x.seq g.x.own,cnt:=g.x.cnt+(bE s.seq s.own s.f(iG s.A now)).2.length},gg:=vY,sz:=qZ,a:={EG now with mZ:=v7}},rfl,⟨⟨h1,⟨e1,e2,e3,e4,e5,e6,by dsimp only;rw [e2,e7];rfl,by dsimp only;rw [e8];rfl,e9⟩,⟨hrs.sn,hrs.sr,hrs.tm,hrs.hpo,hrs.pm,hrs.pc⟩,n.qA,by dsimp only;omega⟩,?_,rfl,rfl⟩,.of h5(fun k o hk _=> .inl(.inl hk))fun k hk=> .inl(hF k hk),h5.mono fun k h=> .inl h,rfl⟩;have e10:(s.begin now).a_=(bE s.seq s.own s.f(iG s.A now)).2:=List.nil_append _;rw [e10];exact h3
def Ja(left:Lit→Bool)(f:Int→Option Int):Int→Option Int:=fun k=>if left(.int .u32 k)then none else f k
theorem NV {left:Lit→Bool} {x c:Int}(hl:left(.int .u32 x)=true) {f:Int→Option Int}(hf:f x=some c)(h0:0≤c) {L:List(Bool×Int×Int)}(hL:lU L=Ja left f):lU(L++ [(false,x,c)])=Ja(fun z=>left z&&!z.sameKey(.int .u32 x))f:=by
 rw [FN,hL]
 funext k
 unfold gJ jJ Ja;simp only [Bool.false_eq_true,if_false];by_cases e:k=x
 ·subst e;simp [hl,hf,Lit.sameKey];omega
 ·simp [e,Lit.sameKey]
theorem Wl {L:List(Bool×Int×Int)}(x c:Int):qb(L++ [(false,x,c)])=qb L:=by rw [zg];rfl
theorem GZ(N:Nat)(x:lF)(f:Int→Option Int)(sz:Nat)(w:World)(hN:ib N x w)(hm:MapU w x.Mo f sz)(hmb:MB f)(hown:bg x.own)(hsz:sz≤40000)(acL:∃l:List Int,l.length≤12∧∀a,(f a).isSome=true→a∈l):
  Calls Tryz.prog 72 #[.pointer(some⟨N,10,none⟩)]w fun e w'=>∃v' out,e=.returned v'∧iw f(some x.own)out∧w'.ownsRow w.heap.size 82 3 v' out.length(RC out)∧ib N {x with cnt:=out.length}w'∧MapU w' x.Mo f sz∧Fx(fun k=>k=N)w w':=by
 obtain⟨i0,hi,hz0,hz1,hz2⟩:=info_parts qE;have hNM:=Lf hN hm;have hfw:=hide acL;clear acL;have hMU:=hide hm;obtain⟨D,h1,h2,h3⟩:=hm;have h3':=(show Hid _ from h3);have acX:Hid(Ja(has D)f=fun _=>none):=by
  show _=_
  funext k
  unfold Ja;cases hk:f k with
  |none=>simp
  |some c=>
   rw [(h3 k(hmb k c hk).1).1,hk];rfl
 clear h3;obtain⟨n0,n2,n3,n4,n5,n6,n7,n8,n9,n10⟩:=hN.cell;have jk:Below w.heap.size w(w.alloc(aV true 0 x.own)):=(Below.refl _ _).alloc(Nat.le_refl _)_;have hr0:(w.alloc(aV true 0 x.own)).ownsRow w.heap.size 82 3(.slice(some⟨w.heap.size,0,none⟩)1 1)1(RC [(true,0,x.own)]):=
  ⟨rfl,.inr⟨w.heap.size,1,_,rfl,Nat.le_refl _,heap_alloc_new w _,Nat.le_refl _,by decide,rfl,rfl⟩⟩
 have hN1:=hN.later jk;have Tf:Hid(MapU(w.alloc(aV true 0 x.own))x.Mo f sz):=hMU.out.block(jk.block _ hMU.out.lt);have ho1:(w.alloc(aV true 0 x.own)).ownsMap Tryz.prog 34(plainElem Tryz.prog 34)x.Mo sz D:=by
  obtain⟨es,clock,hb,Ft,hs,hD⟩:=h1;exact⟨es,clock,(jk.block _(Array.getElem?_eq_some_iff.1 hb).1).trans hb,Ft,hs,hD⟩
 have hs1:w.heap.size≤(w.alloc(aV true 0 x.own)).heap.size:=jk.size;dsimp only [aV]at jk hr0 hN1 ho1 Tf hs1;clear hMU;go_enter Tryz.func72,Tryz.ntmps72
 go_upto_region 2 with(fail)
 generalize World.alloc _ _=W1 at jk hr0 hN1 ho1 Tf hs1 ⊢;clear n0 n2 n3 n4 n5 n6 n7 n8 n9 n10;obtain⟨n0,n2,n3,n4,n5,n6,n7,n8,n9,n10⟩:=hN1.cell;go_wp2_with(at_range;refine wpList_range_own _ rfl _ 115 rfl 34 34 fF Tryz.underlying115 _ x.Mo sz _ rfl ho1 ?_;intro w0 hrg0 hg0 hs0)
 have hb0:Below W1.heap.size W1 w0:=⟨hg0.os,hg0.tape,hg0.output,hg0.size,fun k hk=>hg0.block k hk(by simp)⟩;have hNa:=hN1.later hb0;have hra:=aM hr0 hb0;have U2:Hid(MapU w0 x.Mo f sz):=Tf.out.block(hb0.block _ Tf.out.lt);have hBa:=jk.trans(hb0.mono hs1);have hza:=hb0.size;clear hN1 hr0 Tf n0 n2 n3 n4 n5 n6 n7 n8 n9 n10 h1 ho1 hb0 hg0 jk
 go_frame
 go_loopw [3](fun lv wr=>∃(left:Lit→Bool)(cnt:Nat)(L:List(Bool×Int×Int)),wr.ranges Tryz.prog 34(plainElem Tryz.prog 34)x.Mo W1.heap.size sz D left cnt∧wr.ownsRow w.heap.size 82 3 lv L.length(RC L)∧Hid(lU L=Ja left f)∧Hid(qb L=some x.own)∧pW L∧L.length+cnt≤sz+1∧ib N x wr∧Hid(MapU wr x.Mo f sz)∧Below w.heap.size w wr∧W1.heap.size≤wr.heap.size)
  (fun _ wr=>wr.rangeLeft x.Mo W1.heap.size)
 case atStart=>
  refine⟨_,_,[(true,0,x.own)],hrg0,hra,?_,?_,?_,?_,hNa,U2,hBa,hza⟩
  ·rw [acX.out];rfl
  ·show some(max 0 x.own)=_;have:=hown.1;rw [Int.max_eq_right this]
  ·intro z hz;simp only [List.mem_singleton]at hz;subst hz;unfold bg at hown;dsimp only;omega
  ·have:=h2;simp only [List.length_singleton];omega
 case round=>
  clear hrg0 hra U2 hNa hBa hza hs0;obtain⟨left,cnt,L,hrg,hro,hmp,how,hbd,hlc,hNr,Xh,hbr,hzr⟩:=hrel;have hNl:=hNr.lt;go_wp2_with(at_next;refine wpList_next_ranges_ii _ rfl _ rfl 34 34 .u32 .u32 fF Tryz.underlying34 Tryz.underlying34 x.Mo W1.heap.size sz _ _ _ rfl hrg ?_ ?_)
  ·intro hc0 hl0;have hmf:Hid(lU L=f):=by
    show _=_;rw [hmp.out]
    funext k
    unfold Ja;simp [hl0]
   clear hmp hl0;obtain⟨ao,c,hv,hH⟩:=ak hro;subst hv;have HC:Hid(Calls Tryz.prog 69 #[.slice ao L.length c]wr(adQ L wr)):=uJ ao L.length c L rfl(by omega)hbd(by show ∃l:List Int,_;rw [hmf.out];exact hfw.out)wr hH;have hown':=hide how;go_wp2_with fail
   refine Calls.mono HC.out ?_;rintro e w5⟨v5,out,rfl,hcmp,hlen,hrow,hb5⟩;rw [hmf.out,how.out]at hcmp;have U0:=hNr.later hb5;have nE:Hid(MapU w5 x.Mo f sz):=Xh.out.block(hb5.block _ Xh.out.lt);have acW:=hbr.trans(hb5.mono(Nat.le_trans hs1 hzr));have iq:w5.ownsRow w.heap.size 82 3 v5 out.length(RC out):=ownsRow_base_a hrow(Nat.le_trans hs1 hzr);obtain⟨a5,c5,hv5,_⟩:=ak hrow;subst hv5;have hcmp:=hide hcmp;clear HC hH hro hrg hNr Xh hbr hb5 hlc hbd;obtain⟨n0,n2,n3,n4,n5,n6,n7,n8,n9,n10⟩:=U0.cell;have f12:=U0.free 12;have hset:=U0.Qs(out.length:Int);have hgN:w5.grownBy(w5.setCell⟨N,12,none⟩(.int .i64(out.length:Int)))(some N):=aa(aC _(some N))12 _;have lw:=iq.kept hgN(.inr(aA iq U0(fun c e=>by cases e)));have hM6:Hid(MapU(w5.setCell⟨N,12,none⟩(.int .i64(out.length:Int)))x.Mo f sz):=nE.out.block(hgN.block _ nE.out.lt(fun e=>hNM(Option.some.inj e).symm));have hfx:Fx(fun k=>k=N)w(w5.setCell⟨N,12,none⟩(.int .i64(out.length:Int))):=aT(Fx.below acW)hgN(fun i _ e=>by cases e;rfl);go_wp2_with fail
   generalize World.setCell _ _ _=w6 at hset lw hM6 hfx ⊢;clear U0 nE iq hrow acW hgN n0 n2 n3 n4 n5 n6 n7 n8 n9 n10 f12;go_wp2
   go_returns
   exact⟨_,out,rfl,hcmp.out,lw,hset,hM6.out,hfx⟩
  ·intro y c w1 cnt1 hwx hwc hlx hat hrg1 hlt hg1 Sa hen;have hb:=bounds_u32 hwx;have hyu:bg y:=⟨hb.1,by have:=hb.2;omega⟩;have hc:=bounds_u32 hwc;have hcu:bg c:=⟨hc.1,by have:=hc.2;omega⟩;have hf:f y=some c:=by
    have h3x:=h3'.out y hyu;have hsome:=h3x.1;rw [has_true_of_atKey hat]at hsome;obtain⟨z,hz⟩:=Option.isSome_iff_exists.1 hsome.symm;have h4:=h3x.2;rw [hat,hz]at h4;simp at h4;rw [hz,h4]
   have aey:=hide(NV hlx hf hcu.1 hmp.out);have how':=hide((Wl y c).trans how.out);have aeW:pW(L++ [(false,y,c)]):=fun z hz=>by
    rcases List.mem_append.1 hz with h|h
    ·exact hbd z h
    ·rw [List.mem_singleton]at h;subst h;unfold bg at hyu hcu;dsimp only;omega
   obtain⟨es,clock,since,seen,c0,LQ,_,_,_,hbi,_⟩:=id hrg;have aag:=hro.kept hg1(.inr(aA hro hbi(fun c e=>by cases e)));have af0:=hN.lt;have hN1:=hNr.kept hg1(fun e=>by have:=Option.some.inj e;omega);have hM1:Hid(MapU w1 x.Mo f sz):=Xh.out.block(hg1.block _ Xh.out.lt(fun e=>hrg.ne(Option.some.inj e).symm));have hb1:Below w.heap.size w w1:=⟨hg1.os.trans hbr.os,hg1.tape.trans hbr.tape,hg1.output.trans hbr.output,Nat.le_trans hbr.size hg1.size,fun k hk=>(hg1.block k(Nat.lt_of_lt_of_le hk hbr.size)(fun e=>by have:=Option.some.inj e;omega)).trans(hbr.block k hk)⟩;have hme:=(show Hid(cnt1<wr.rangeLeft x.Mo W1.heap.size)from by show _<_;rw [hrg.left_eq];exact hlt);have afF:W1.heap.size≤w1.heap.size:=by have:=hg1.size;omega
   have hln:L.length≤40001:=by omega
   have aeF:L.length+1+cnt1≤sz+1:=by omega
   have jk:Below w1.heap.size w1(w1.alloc(aV false y c)):=(Below.refl _ _).alloc(Nat.le_refl _)_;have hcr:=kF w1 false y c;have hkw:KeepsWalks w1(w1.alloc(aV false y c)):=KeepsWalks.alloc _ _;have hM2:Hid(MapU(w1.alloc(aV false y c))x.Mo f sz):=hM1.out.block(jk.block _ hM1.out.lt);have EF:=hN1.later jk;have Oc:=aM aag jk;have hb2:=hb1.trans(jk.mono hb1.size);have hs2:w.heap.size≤w1.heap.size:=hb1.size;dsimp only [aV]at jk hcr hkw hM2 EF Oc hb2;clear hmp how hbd hro hNr Xh hbr hzr hrg hg1 Sa hlt hlc hat hf LQ hbi hlx hwx hwc hM1 hN1 hb1 hb hc;go_wp2_with(at_builtin;refine wpList_append_own_at _ rfl _ _ 79 rfl w.heap.size 82 i0(.agg #[.bool false,.int .u32 0,.int .u32 0])3 12 Tryz.underlying79 hi hz0 hz1 hz2 rfl(by decide)u3 L.length(RC L)rfl(aag.alloc _)⟨w1.heap.size,0,none⟩1 1(RC [(false,y,c)])rfl rfl hcr(mM false y c)(by unfold maxLen;omega)(by omega) ?c3 ?_)
   case c3=>simp;omega
   intro v4 W4 B_ hg4 _ _;have Gl:=hrg1.of_walks(hkw.trans(KeepsWalks.of_grownBy hg4(fun j o e ho=>by
    obtain⟨cc,hcc⟩:=aP Oc e;rw [hcc]at ho;cases ho;rfl)))
   have AP:=EF.kept hg4(aA Oc EF(fun c e=>by cases e));have Bb:Hid(MapU W4 x.Mo f sz):=hM2.out.kept hg4(Ne.symm(CU Oc hM2.out));have hb4:Below w.heap.size w W4:=⟨hg4.os.trans hb2.os,hg4.tape.trans hb2.tape,hg4.output.trans hb2.output,Nat.le_trans hb2.size hg4.size,fun k hk=>(hg4.block k(Nat.lt_of_lt_of_le hk hb2.size)(fun e=>by have:=(Oc.lt k e.symm).1;omega)).trans(hb2.block k hk)⟩;have hz4:W1.heap.size≤W4.heap.size:=by
    have:=hg4.size;have:=jk.size;omega
   have hfin:Hid(W4.ownsRow w.heap.size 82 3 v4(L++ [(false,y,c)]).length(RC(L++ [(false,y,c)]))∧(L++ [(false,y,c)]).length+cnt1≤sz+1):=by
    show _∧_;rw [List.length_append,kK];exact⟨B_,by simpa using aeF⟩
   clear hrg1 aag Oc hg4 hkw jk hcr EF hM2 hb2 B_;go_wp2
   go_roundw
   case rel=>exact⟨_,cnt1,_,Gl,hfin.out.1,aey,how',aeW,hfin.out.2,AP,Bb,hb4,hz4⟩
   case measure=>rw [Gl.left_eq];exact hme.out
end Go.Proofs.YtakaadcpaeiccabGreat
