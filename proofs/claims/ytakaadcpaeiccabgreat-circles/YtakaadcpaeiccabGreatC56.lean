import Derived.Test.YtakaadcpaeiccabGreatC47
set_option maxHeartbeats 8000000
set_option maxRecDepth 100000
namespace Go.Proofs.YtakaadcpaeiccabGreat
open Go.RowKit Go.Maps
theorem Gt(w:World):
  Calls Tryz.prog 94 #[]w fun e w'=>e=.returned(.agg #[.nilFunc,.func(.func 130)#[]#[],.func(.func 131)#[]#[],.func(.func 132)#[]#[],.nilFunc,.nilFunc,.nilFunc,.nilFunc,.nilFunc,.func(.func 133)#[]#[]])∧Below w.heap.size w w':=by
 go_enter Tryz.func94,Tryz.ntmps94
 go_wp2
 go_returns
 exact⟨rfl,(Below.refl _ _).alloc(Nat.le_refl _)_⟩
theorem CR(s:St)(t:Int)(p:ah)(ao:Option Addr)(c:Nat)(L:List(Int×Int)):s.send t {p with la:=ao,lc:=c}L=s.send t p L:=by
 unfold St.send;rw [L9]
theorem Ub(s:St)(p:ah)(ao:Option Addr)(c:Nat):s.askOn {p with la:=ao,lc:=c}=s.askOn p:=by
 unfold St.askOn;dsimp only;exact CR s 0 {p with aS:=p.aS - 1,hops:=St.far p.hops,aW:=if(aJ s.A p.dest).isSome then max p.aW(dY s.A p.dest)else p.aW,iK:=if(aJ s.A p.dest).isSome then false else p.iK}ao c []
theorem Ua(s:St)(p:ah)(ao:Option Addr)(c:Nat):s.asked {p with la:=ao,lc:=c}=s.asked p:=by
 unfold St.asked;dsimp only;rw [Ub];rfl
theorem RA(s:St)(fr:Int)(p:ah)(ao:Option Addr)(c:Nat):s.learn fr {p with la:=ao,lc:=c}=s.learn fr p:=by
 simp only [St.learn,Ua]
theorem zD(s:St)(fr:Int)(p:ah)(ao:Option Addr)(c:Nat):s.dE fr {p with la:=ao,lc:=c}=s.dE fr p:=by
 unfold St.dE;dsimp only;rw [RA];try rfl
theorem IJ(s:St)(fr:Int)(p:ah)(ao:Option Addr)(c:Nat):s.il fr {p with la:=ao,lc:=c}=s.il fr p:=by
 unfold St.il;dsimp only;split
 ·exact CR _ _ {p with aS:=p.aS - 1,hops:=St.far p.hops}ao c []
 ·rfl
theorem DN(s:St)(fr:Int)(p:ah)(ao:Option Addr)(c:Nat):s.eT fr {p with la:=ao,lc:=c}=s.eT fr p:=by
 unfold St.eT;dsimp only;rw [IJ];try rfl
theorem Gu(s:St)(fr:Int)(p:ah)(ao:Option Addr)(c:Nat):s.fu fr {p with la:=ao,lc:=c}=s.fu fr p:=by
 unfold St.fu;dsimp only;split
 ·rfl
 ·split
  ·rfl
  ·split
   ·exact CR _ _ {p with aS:=p.aS - 1}ao c []
   ·rfl
theorem Jo(s:St)(fr:Int)(p:ah)(ao:Option Addr)(c:Nat)(L:List(Int×Int)):s.gu fr {p with la:=ao,lc:=c}L=s.gu fr p L:=by
 unfold St.gu;dsimp only;rw [zD,DN,Gu];rfl
theorem Er {N B:Nat} {g:bA} {s:St} {TL:List Hp.Tm} {w:World}(n:Nd N B g s TL w)(fr:Int)(p:ah)(hp:p.Wf)(fq:0≤s.now∧s.now≤4611686018427387904)(hfl:s.aH.length≤1000000)(hdl:s.aN.length≤1000000):
  Calls Tryz.prog 93 #[.pointer(some⟨N,0,none⟩),.pointer(some⟨B,0,none⟩),.int .u32 fr,p.val]w fun e w'=>e=.returned(.tuple #[])∧lg N B g s(s.ed fr p)TL w w':=by
 obtain⟨_,hde,_,_,_,_⟩:=hp.num;have hb0:Below w.heap.size w(w.alloc p.box):=(Below.refl _ _).alloc(Nat.le_refl _)_;have gp:=PB.new p w;have n0:=n.later hb0;have jS:¬Ft N g s w.heap.size:=n.new(Nat.le_refl _);obtain⟨s2,dA⟩:∃s2,s.ed fr p=s2:=⟨_,rfl⟩;rw [dA];replace dA:=hide dA;have HX:=hide(iU n0 8 hdl);dsimp only [ah.box]at hb0 n0 HX;unfold PB at gp;dsimp only [ah.box]at gp;go_enter Tryz.func93,Tryz.ntmps93
 go_upto_region 1 with(fail)
 generalize World.alloc _ _=W1 at hb0 gp n0 HX ⊢;generalize lm:w.heap.size=C at gp jS ⊢;replace lm:=hide lm;go_wp2_with fail
 refine Calls.mono HX.out ?_;rintro e w2⟨rfl,g2,n2,u2,t2⟩;obtain⟨hP2,Gz⟩:=u2.jN gp jS;obtain⟨s1,hs1⟩:∃z,s.drop 8=z:=⟨_,rfl⟩;have h1:Hid(s1.me=s.me∧s1.now=s.now∧s1.aH=s.aH∧s1.A=s.A):=by
  show _∧_;rw [←hs1];exact⟨rfl,rfl,rfl,rfl⟩
 have hs2:Hid((if p.kind=9∧p.dest≠s1.me then {s1.kN fr p.dest with bZ:=s1.now+2000}else s1)=s2):=by
  rw [←hs1];have:=dA.out;unfold St.ed at this;exact this
 rw [hs1]at n2 u2 Gz;have H9:=(Up.below hb0:Up B(Ft N g s)(Ft N g s)w W1).trans u2;have LJ:0≤s1.now∧s1.now≤4611686018427387904:=by rw [h1.out.2.1];exact fq
 have zC:s1.aH.length≤1000000:=by rw [h1.out.2.2.1];exact hfl
 clear hs1 dA HX hb0 n0 u2 gp jS;obtain⟨c2,c3,c4,c7,c0⟩:=n2.cell;obtain⟨p0,p1,p2,p3,p4,p5,p6,p7,p8,p9,je,iX⟩:=PB.cell hP2;have hq:∀q,Below w2.heap.size w2(w2.drewN q):=fun q=>below_drewN(Below.refl _ _)q;by_cases hk:p.kind=9∧p.dest≠s1.me
 ·replace hs2:=hide((if_pos hk).symm.trans hs2.out);obtain⟨hk9,hkd⟩:=hk;have b9:(p.kind==9)=true:=by simpa using hk9
  have bd:(p.dest !=s1.me)=true:=by simpa using hkd
  clear hk9 hkd;go_wp2_with fail
  go_quiet(fail)
  generalize hg:World.drewN _ _=W3;obtain⟨n3,hP3,hb3⟩:=(show ∀q w3,w2.drewN q=w3→Nd N B g2 s1 TL w3∧PB p C w3∧Below w2.heap.size w2 w3 from by
   rintro q _ rfl;exact⟨n2.later(hq q),PB.below hP2(hq q),hq q⟩)_ _ hg
  have PG:=H9.trans(.below hb3:Up B(Ft N g2 s1)(Ft N g2 s1)w2 W3);clear hg n2 hP2 c2 c3 c4 c7 c0 p0 p1 p2 p3 p4 p5 p6 p7 p8 p9 je iX hq H9 hb3 b9 bd;obtain⟨p0,p1,p2,p3,p4,p5,p6,p7,p8,p9,je,iX⟩:=PB.cell hP3;have HL:=hide(Ct n3 fr p.dest hde zC);go_wp2_with fail
  refine Calls.mono HL.out ?_;rintro e w4⟨rfl,g4,n4,u4,t4⟩;obtain⟨s3,hs3⟩:∃z,s1.kN fr p.dest=z:=⟨_,rfl⟩;have h3:Hid(s3.now=s1.now∧ {s3 with bZ:=s1.now+2000}=s2):=by
   show _∧_;rw [←hs3];exact⟨rfl,hs2.out⟩
  rw [hs3]at n4 u4;have pI:=PG.trans u4;have tt:Hid(g4.x.T=g.x.T):=t4.out.trans t2.out;clear hs3 hs2 HL u4 PG n3 hP3 p0 p1 p2 p3 p4 p5 p6 p7 p8 p9 je iX;obtain⟨c2,c3,c4,c7,c0⟩:=n4.cell;rw [h3.out.1]at c0;have f4:=n4.nn.cr.nd.free 4;have hg1:w4.grownBy(w4.setCell⟨N,4,none⟩(.int .u64(s1.now+2000)))(some N):=aa(aC _(some N))4 _;obtain⟨e1,e2,e3,e4,e5,e6,e7,e8,e9⟩:=n4.nn.eq;obtain⟨n5,u5⟩:=n4.cells(s':={s3 with bZ:=s1.now+2000})(n4.nn.cr.nd.Qo(s1.now+2000))(Fx.grown hg1 fun k e=>by cases e;rfl)⟨e1,e2,rfl,e4,e5,e6,e7,e8,e9⟩⟨rfl,rfl,rfl,rfl,rfl,rfl⟩⟨rfl,rfl,rfl,rfl,rfl,rfl,rfl,rfl,rfl⟩⟨rfl,rfl,rfl,rfl,rfl⟩;rw [h3.out.2]at n5 u5;have hw:IntKind.u64.wrap(s1.now+2000)=s1.now+2000:=lY LJ(by omega);have hfin:Hid(lg N B g s s2 TL w(w4.setCell⟨N,4,none⟩(.int .u64(s1.now+2000)))):=⟨_,n5,pI.trans u5,tt.out⟩;clear n4 n5 u5 pI hg1 e1 e2 e3 e4 e5 e6 e7 e8 e9 h3;go_wp2
  go_returns
  first
   |exact⟨rfl,hfin.out⟩
   |(rw [hw];exact⟨rfl,hfin.out⟩)
 ·replace hs2:=hide((if_neg hk).symm.trans hs2.out);have hk':p.kind≠9∨(p.kind=9∧p.dest=s1.me):=by
   by_cases h9:p.kind=9
   ·exact .inr⟨h9,Classical.byContradiction fun h=>hk⟨h9,h⟩⟩
   ·exact .inl h9
  clear hk;have hfin:Hid(∀w3,Below w2.heap.size w2 w3→lg N B g s s2 TL w w3):=by
   intro w3 hb;rw [←hs2.out];exact⟨g2,n2.later hb,H9.trans(.below hb),t2⟩
  have hq:=hide hq;clear hs2 hP2 n2;rcases hk' with h9|⟨h9,hd⟩
  ·have b9:(p.kind==9)=false:=by simpa using h9
   clear h9;go_wp2_with fail
   go_quiet(fail)
   go_wp2
   go_returns
   exact⟨rfl,hfin.out _(hq.out _)⟩
  ·have b9:(p.kind==9)=true:=by simpa using h9
   have bd:(p.dest !=s1.me)=false:=by simpa using hd
   clear h9 hd;go_wp2_with fail
   go_quiet(fail)
   go_wp2
   go_returns
   exact⟨rfl,hfin.out _(hq.out _)⟩
def U_(N B:Nat)(g:bA)(s s2:St)(TL:List Hp.Tm)(w w':World):Prop:=∃dO,lg N B g s s2 dO w w'∧∃d,X8 d s TL s2 dO
theorem U_.of {N B:Nat} {g:bA} {s s2:St} {TL:List Hp.Tm} {w w':World}(h:lg N B g s s2 TL w w')(hQ:s2.Q=s.Q):U_ N B g s s2 TL w w':=⟨TL,h,0,.inl⟨rfl,hQ⟩⟩
theorem X0(s:St)(p:ah):(s.asked p).Q=s.Q:=by
 unfold St.asked St.iH St.gT;split
 ·exact ve _ _
 ·split
  ·exact ve _ _
  ·split<;>rfl
theorem adS(s:St)(fr:Int)(p:ah):(s.learn fr p).Q=s.Q:=by
 unfold St.learn;split
 ·rfl
 ·split<;>exact X0 _ _
theorem Jp(s:St)(fr:Int)(L:List(Int×Int)):(s.gD fr L).Q=s.Q:=by
 unfold St.gD;dsimp only;split<;>rfl
theorem Jq(s:St)(fr:Int)(p:ah):(s.fu fr p).Q=s.Q:=by
 unfold St.fu;split
 ·rfl
 ·split
  ·rfl
  ·split<;>rfl
theorem DL(s:St)(fr:Int)(p:ah):(s.ed fr p).Q=s.Q:=by
 unfold St.ed;split<;>rfl
theorem V5 {x0 x1 x2 x3 x4:Int} {r:List Int}(ao:Option Addr)(c:Nat)(hb:∀x∈x0::x1::x2::x3::x4::r,0≤x∧x≤255)(hF:uM(x0::x1::x2::x3::x4::r)=true):
  ({fU x0 x1 x2 x4 r with la:=ao,lc:=c}:ah).Hd∧(x1=1∨x1=2∨x1=3∨x1=9)∧(fU x0 x1 x2 x4 r).kind=x1:=by
 have h1:=Wh(x2:=x2)(fun y hy=>hb y(by simp [hy]))(hb x0(by simp))(hb x1(by simp))(hb x4(by simp))(r:=r);have hg:(fU x0 x1 x2 x4 r).dL=true:=by
  simp only [uM,Bool.and_eq_true]at hF;exact hF.2
 obtain⟨_,t0,t1,q0,q1,_,hk⟩:=ek hg;have hkk:(fU x0 x1 x2 x4 r).kind=x1:=by
  unfold fU;split
  ·rename_i h;exact h.symm
  split
  ·rename_i h;exact h.symm
  split
  ·rename_i h;exact h.symm
  split
  ·rename_i h;exact h.symm
  ·rfl
 refine⟨⟨⟨h1.1,h1.2,h1.3,h1.4,h1.5,h1.6,h1.7,h1.8,h1.9,h1.10,h1.11,h1.12,h1.13,h1.14,h1.15,h1.16,h1.17,h1.18,h1.19,h1.20⟩,⟨t0,t1⟩,⟨q0,q1⟩⟩,?_,hkk⟩;rw [hkk]at hk;rcases hk with h|h|h|⟨h,_⟩
 ·exact .inl h
 ·exact .inr(.inl h)
 ·exact .inr(.inr(.inr h))
 ·exact .inr(.inr(.inl h))
theorem Vy(w:World):(Instr.index 199(.agg #[.nilFunc,.func(.func 130)#[]#[],.func(.func 131)#[]#[],.func(.func 132)#[]#[],.nilFunc,.nilFunc,.nilFunc,.nilFunc,.nilFunc,.func(.func 133)#[]#[]])(.int .i64 1)).run Tryz.prog w=.ok(.func(.func 130)#[]#[])w:=by kernel_rfl
theorem Vx(w:World):(Instr.index 199(.agg #[.nilFunc,.func(.func 130)#[]#[],.func(.func 131)#[]#[],.func(.func 132)#[]#[],.nilFunc,.nilFunc,.nilFunc,.nilFunc,.nilFunc,.func(.func 133)#[]#[]])(.int .i64 2)).run Tryz.prog w=.ok(.func(.func 131)#[]#[])w:=by kernel_rfl
theorem Vw(w:World):(Instr.index 199(.agg #[.nilFunc,.func(.func 130)#[]#[],.func(.func 131)#[]#[],.func(.func 132)#[]#[],.nilFunc,.nilFunc,.nilFunc,.nilFunc,.nilFunc,.func(.func 133)#[]#[]])(.int .i64 3)).run Tryz.prog w=.ok(.func(.func 132)#[]#[])w:=by kernel_rfl
theorem Vv(w:World):(Instr.index 199(.agg #[.nilFunc,.func(.func 130)#[]#[],.func(.func 131)#[]#[],.func(.func 132)#[]#[],.nilFunc,.nilFunc,.nilFunc,.nilFunc,.nilFunc,.func(.func 133)#[]#[]])(.int .i64 9)).run Tryz.prog w=.ok(.func(.func 133)#[]#[])w:=by kernel_rfl
theorem aby {N B:Nat} {g:bA} {s:St} {TL:List Hp.Tm} {w:World}(n:Nd N B g s TL w)(hF:s.Px)(htn:s.tn≤4000000000000000000)(htl:TL.length≤1000000)(fr:Int)(hfr:bg fr)(v:Value)(xs:List Int)(hv:eH w v xs):
  Calls Tryz.prog 59 #[.pointer(some⟨N,0,none⟩),.pointer(some⟨B,0,none⟩),.int .u32 fr,v]w fun e w'=>e=.returned(.tuple #[])∧U_ N B g s(s.hear fr xs)TL w w':=by
 have hby:=hv.1;have HD:=hide(Kb v xs w hv);clear hv;obtain⟨s2,dA⟩:∃s2,s.hear fr xs=s2:=⟨_,rfl⟩;rw [dA];replace dA:=hide dA;have hfl:s.aH.length≤900000:=hF.aH;have hdl:s.aN.length≤900000:=hF.aN;go_enter Tryz.func59,Tryz.ntmps59
 go_wp2_with fail
 refine Calls.mono HD.out ?_;rintro e w1⟨hb1,h⟩;have n1:=n.later hb1;clear HD;rcases h with⟨hFt,v1,rfl,x0,x1,x2,x3,x4,r,ao,c,hxs,hv1,hlen,hA,Gr⟩|⟨hFt,rfl⟩
 ·subst hxs;obtain⟨hq,hk,hkk⟩:=V5(ao:=ao)(c:=c)hby hFt;have hs2:Hid((if fr=0∨fr=s.me then s.drop 0 else s.gu fr {fU x0 x1 x2 x4 r with la:=ao,lc:=c}(jX x1 x4 r))=s2):=by
   show _=_;rw [←dA.out,Jo];unfold St.hear;rw [hFt];by_cases h:fr=0∨fr=s.me
   ·rw [if_pos h,if_pos(.inr h)]
   ·rw [if_neg h,if_neg(by rintro(h1|h1);· cases h1
                ·exact h h1)]
    rfl
  have hL1:eY w1 {fU x0 x1 x2 x4 r with la:=ao,lc:=c}(jX x1 x4 r):=⟨hlen,hA⟩;have hap:∀b,ao=some b→¬Ft N g s b.block:=fun b hb=>n.new(Gr b hb);have hL0:x1≠3→jX x1 x4 r=[]:=fun h=>by unfold jX;rw [if_neg h]
  have hpk:({fU x0 x1 x2 x4 r with la:=ao,lc:=c}:ah).kind=x1:=hkk;have hpa:({fU x0 x1 x2 x4 r with la:=ao,lc:=c}:ah).la=ao:=rfl;generalize({fU x0 x1 x2 x4 r with la:=ao,lc:=c}:ah)=p at hv1 hq hs2 hL1 hpk hpa;generalize jX x1 x4 r=L at hs2 hL1 hL0;subst hv1 hpa;have hap:Ex N g s p.la:=hap;clear hby hFt hlen hA Gr dA hkk;rw [←hpk]at hk hL0;clear hpk;have hp:=hq.wf;have hb2:Below w1.heap.size w1(w1.alloc p.box):=(Below.refl _ _).alloc(Nat.le_refl _)_;have hP2:=PB.new p w1;have n2:=n1.later hb2;have vV:=hb1.trans(hb2.mono hb1.size);have hL2:=hL1.below hb2;clear n1 hL1 hb2;dsimp only [ah.box]at n2 vV hL2;unfold PB at hP2;dsimp only [ah.box]at hP2;dsimp only [ah.val];go_upto_region 2 with(fail)
  generalize World.alloc _ _=W2 at hP2 n2 vV hL2 ⊢;generalize w1.heap.size=C at hP2 ⊢;obtain⟨c2,c3,c4,c7,c0⟩:=n2.cell;obtain⟨p0,p1,p2,p3,p4,p5,p6,p7,p8,p9,je,iX⟩:=PB.cell hP2;by_cases hf:fr=0∨fr=s.me
  ·replace hs2:=hide((if_pos hf).symm.trans hs2.out);have HX:=hide(iU n2 0(by omega));rw [hs2.out]at HX;have hQ:Hid(s2.Q=s.Q):=by show _=_;rw [←hs2.out];rfl
   have hfin:Hid(∀w9,lg N B g s s2 TL W2 w9→U_ N B g s s2 TL w w9):=fun w9 h=> .of(h.pre vV)hQ.out;have hf':fr=0∨(¬fr=0∧fr=s.me):=by
    by_cases h:fr=0
    ·exact .inl h
    ·exact .inr⟨h,hf.resolve_left h⟩
   clear hs2 hQ vV hf n2 hL2 hP2 hap;rcases hf' with h|⟨h,h'⟩
   ·have b0:(fr==0)=true:=by simpa using h
    clear h;go_wp2_with fail
    refine Calls.mono HX.out ?_;rintro e w9⟨rfl,hN⟩;have Gs:=hide(hfin.out _ hN);clear hN HX;go_wp2
    go_returns
    exact⟨rfl,Gs.out⟩
   ·have b0:(fr==0)=false:=by simpa using h
    have b1:(fr==s.me)=true:=by simpa using h'
    clear h h';go_wp2_with fail
    refine Calls.mono HX.out ?_;rintro e w9⟨rfl,hN⟩;have Gs:=hide(hfin.out _ hN);clear hN HX;go_wp2
    go_returns
    exact⟨rfl,Gs.out⟩
  ·replace hs2:=hide((if_neg hf).symm.trans hs2.out);have b0:(fr==0)=false:=by
    have:¬fr=0:=fun h=>hf(.inl h);simpa using this
   have b1:(fr==s.me)=false:=by
    have:¬fr=s.me:=fun h=>hf(.inr h);simpa using this
   clear hf;go_wp2_with fail
   by_cases xP:s.now<s.bZ
   ·have bs:decide(s.now<s.bZ)=true:=decide_eq_true xP;have hs3:Hid(s.ed fr p=s2):=by
     show _=_;rw [←hs2.out];unfold St.gu;rw [if_pos xP]
    have HX:Hid(∀W5,Below W2.heap.size W2 W5→Calls Tryz.prog 93 #[.pointer(some⟨N,0,none⟩),.pointer(some⟨B,0,none⟩),.int .u32 fr,p.val]W5 fun e w'=>e=.returned(.tuple #[])∧U_ N B g s s2 TL w w'):=by
     intro W5 h5;refine(Er(n2.later h5)fr p hp hF.now(by omega)(by omega)).mono ?_;rintro e w9⟨rfl,hN⟩;rw [hs3.out]at hN;exact⟨rfl,.of(hN.pre(vV.trans(h5.mono vV.size)))(by rw [←hs3.out];exact DL _ _ _)⟩
    dsimp only [ah.val]at HX;clear hs2 hs3 xP;go_quiet(fail)
    generalize hg:World.drewN _ _=W3;obtain⟨hP3,hb3⟩:=(show ∀q w3,W2.drewN q=w3→PB p C w3∧Below W2.heap.size W2 w3 from by
     rintro q _ rfl;have hbq:Below W2.heap.size W2(W2.drewN q):=below_drewN(Below.refl _ _)q;exact⟨PB.below hP2 hbq,hbq⟩)_ _ hg
    clear hg n2 hP2 c2 c3 c4 c7 c0 p0 p1 p2 p3 p4 p5 p6 p7 p8 p9 je iX;obtain⟨p0,p1,p2,p3,p4,p5,p6,p7,p8,p9,je,iX⟩:=PB.cell hP3;go_wp2_with fail
    refine Calls.mono(HX.out _ hb3) ?_;rintro e w9⟨rfl,hN⟩;replace hN:=hide hN;clear HX hb3 hP3 p0 p1 p2 p3 p4 p5 p6 p7 p8 p9 je iX;go_wp2
    go_returns
    exact⟨rfl,hN.out⟩
   ·have bs:decide(s.now<s.bZ)=false:=decide_eq_false xP;go_quiet(fail)
    generalize hg:World.drewN _ _=W3;obtain⟨n3,hP3,hb3⟩:=(show ∀q w3,W2.drewN q=w3→Nd N B g s TL w3∧PB p C w3∧Below W2.heap.size W2 w3 from by
     rintro q _ rfl;have hbq:Below W2.heap.size W2(W2.drewN q):=below_drewN(Below.refl _ _)q;exact⟨n2.later hbq,PB.below hP2 hbq,hbq⟩)_ _ hg
    have hL3:=hL2.below hb3;have xQ:=vV.trans(hb3.mono vV.size);clear hg n2 hP2 hL2 vV hb3 c2 c3 c4 c7 c0 p0 p1 p2 p3 p4 p5 p6 p7 p8 p9 je iX bs b0 b1;have HH:Hid(∀W',Below W3.heap.size W3 W'→Calls Tryz.prog 94 #[]W' fun e w5=>e=.returned(.agg #[.nilFunc,.func(.func 130)#[]#[],.func(.func 131)#[]#[],.func(.func 132)#[]#[],.nilFunc,.nilFunc,.nilFunc,.nilFunc,.nilFunc,.func(.func 133)#[]#[]])∧Below W3.heap.size W3 w5):=by
     intro W' h;refine(Gt W').mono ?_;rintro e w5⟨rfl,h5⟩;exact⟨rfl,h.trans(h5.mono h.size)⟩
    have PW:Hid(∀W5,Below W3.heap.size W3 W5→W5.cell?⟨C,0,none⟩=some(.int .i64 p.aS)∧W5.cell?⟨C,1,none⟩=some(.int .i64 p.kind)∧W5.cell?⟨C,2,none⟩=some(.int .i64 p.hops)∧W5.cell?⟨C,3,none⟩=some(.bool p.iK)∧W5.cell?⟨C,4,none⟩=some(.int .u32 p.id)∧W5.cell?⟨C,5,none⟩=some(.int .u32 p.dest)∧W5.cell?⟨C,6,none⟩=some(.int .u32 p.aW)∧W5.cell?⟨C,7,none⟩=some(.int .u32 p.aI)∧W5.cell?⟨C,8,none⟩=some(.int .u32 p.dm)∧W5.cell?⟨C,9,none⟩=some(.int .u32 p.life)∧W5.cell?⟨C,10,none⟩=some(.slice p.la p.ln p.lc)∧W5.cell?⟨C,11,none⟩=some(.string p.pay)):=fun W5 h5=>PB.cell(PB.below hP3 h5);rcases hk with hk|hk|hk|hk
    ·have hs3:Hid(s.dE fr p=s2):=by
      show _=_;rw [←hs2.out];unfold St.gu;rw [if_neg xP,hk];rfl
     have HX:Hid(∀W5,Below W3.heap.size W3 W5→Calls Tryz.prog 130 #[.pointer(some⟨N,0,none⟩),.pointer(some⟨B,0,none⟩),.int .u32 fr,p.val]W5 fun e w'=>e=.returned(.tuple #[])∧U_ N B g s s2 TL w w'):=by
      intro W5 h5;refine(Bj(n3.later h5)hF htn fr hfr p hq(by have:=hL3.below h5;rwa [hL0(by omega)]at this)).mono ?_;rintro e w9⟨rfl,hN⟩;rw [hs3.out]at hN;exact⟨rfl,.of(hN.pre(xQ.trans(h5.mono xQ.size)))(by rw [←hs3.out];exact nD _ _ _)⟩
     have hix:=Vy;dsimp only [ah.val]at HX;rw [hk]at PW HX;clear hs2 hs3 xP hL3 hL0 hap n3 hP3 hq hp hk xQ;obtain⟨p0,p1,p2,p3,p4,p5,p6,p7,p8,p9,je,iX⟩:=PW.out _(Below.refl _ _);go_wp2_with fail
     go_region_law(first
      |(go_simp;go_at_call 94;refine(HH.out _(by first|exact Below.refl _ _|exact(Below.refl _ _).drew|exact below_drewN(Below.refl _ _)_)).mono ?_;rintro e w5⟨rfl,hb5⟩;obtain⟨q0,q1,q2,q3,q4,q5,q6,q7,q8,q9,q10,q11⟩:=PW.out _ hb5)
      |(go_simp;go_at_call 130;refine(HX.out _(by first|exact hb5|exact hb5.drew|exact below_drewN hb5 _)).mono ?_;rintro e w9⟨rfl,hN⟩;replace hN:=hide hN))
     all_goals
      go_wp2
      go_returns
      exact⟨rfl,hN.out⟩
    ·have hs3:Hid(s.eT fr p=s2):=by
      show _=_;rw [←hs2.out];unfold St.gu;rw [if_neg xP,hk];rfl
     have HX:Hid(∀W5,Below W3.heap.size W3 W5→Calls Tryz.prog 131 #[.pointer(some⟨N,0,none⟩),.pointer(some⟨B,0,none⟩),.int .u32 fr,p.val]W5 fun e w'=>e=.returned(.tuple #[])∧U_ N B g s s2 TL w w'):=by
      intro W5 h5;refine(Hm(n3.later h5)fr hfr p hq(by have:=hL3.below h5;rwa [hL0(by omega)]at this)hF.me hF.now(by omega)(by omega)htl).mono ?_;rintro e w9⟨rfl,dO,hN,hT⟩;rw [hs3.out]at hN hT;exact⟨rfl,dO,hN.pre(xQ.trans(h5.mono xQ.size)),_,hT⟩
     have hix:=Vx;dsimp only [ah.val]at HX;rw [hk]at PW HX;clear hs2 hs3 xP hL3 hL0 hap n3 hP3 hq hp hk xQ;obtain⟨p0,p1,p2,p3,p4,p5,p6,p7,p8,p9,je,iX⟩:=PW.out _(Below.refl _ _);go_wp2_with fail
     go_region_law(first
      |(go_simp;go_at_call 94;refine(HH.out _(by first|exact Below.refl _ _|exact(Below.refl _ _).drew|exact below_drewN(Below.refl _ _)_)).mono ?_;rintro e w5⟨rfl,hb5⟩;obtain⟨q0,q1,q2,q3,q4,q5,q6,q7,q8,q9,q10,q11⟩:=PW.out _ hb5)
      |(go_simp;go_at_call 131;refine(HX.out _(by first|exact hb5|exact hb5.drew|exact below_drewN hb5 _)).mono ?_;rintro e w9⟨rfl,hN⟩;replace hN:=hide hN))
     all_goals
      go_wp2
      go_returns
      exact⟨rfl,hN.out⟩
    ·have hs3:Hid(s.gD fr L=s2):=by
      show _=_;rw [←hs2.out];unfold St.gu;rw [if_neg xP,hk];rfl
     have HX:Hid(∀W5,Below W3.heap.size W3 W5→Calls Tryz.prog 132 #[.pointer(some⟨N,0,none⟩),.pointer(some⟨B,0,none⟩),.int .u32 fr,p.val]W5 fun e w'=>e=.returned(.tuple #[])∧U_ N B g s s2 TL w w'):=by
      intro W5 h5;refine(J4(n3.later h5)fr hfr p hp L(hL3.below h5)hap(by omega)(by omega)).mono ?_;rintro e w9⟨rfl,hN⟩;rw [hs3.out]at hN;exact⟨rfl,.of(hN.pre(xQ.trans(h5.mono xQ.size)))(by rw [←hs3.out];exact Jp _ _ _)⟩
     have hix:=Vw;dsimp only [ah.val]at HX;rw [hk]at PW HX;clear hs2 hs3 xP hL3 hL0 hap n3 hP3 hq hp hk xQ;obtain⟨p0,p1,p2,p3,p4,p5,p6,p7,p8,p9,je,iX⟩:=PW.out _(Below.refl _ _);go_wp2_with fail
     go_region_law(first
      |(go_simp;go_at_call 94;refine(HH.out _(by first|exact Below.refl _ _|exact(Below.refl _ _).drew|exact below_drewN(Below.refl _ _)_)).mono ?_;rintro e w5⟨rfl,hb5⟩;obtain⟨q0,q1,q2,q3,q4,q5,q6,q7,q8,q9,q10,q11⟩:=PW.out _ hb5)
      |(go_simp;go_at_call 132;refine(HX.out _(by first|exact hb5|exact hb5.drew|exact below_drewN hb5 _)).mono ?_;rintro e w9⟨rfl,hN⟩;replace hN:=hide hN))
     all_goals
      go_wp2
      go_returns
      exact⟨rfl,hN.out⟩
    ·have hs3:Hid(s.fu fr p=s2):=by
      show _=_;rw [←hs2.out];unfold St.gu;rw [if_neg xP,hk];rfl
     have HX:Hid(∀W5,Below W3.heap.size W3 W5→Calls Tryz.prog 133 #[.pointer(some⟨N,0,none⟩),.pointer(some⟨B,0,none⟩),.int .u32 fr,p.val]W5 fun e w'=>e=.returned(.tuple #[])∧U_ N B g s s2 TL w w'):=by
      intro W5 h5;refine(J5(n3.later h5)fr hfr p hq(by have:=hL3.below h5;rwa [hL0(by omega)]at this)hF.now(by omega)(by omega)(by have:=hF.aR;omega)).mono ?_;rintro e w9⟨rfl,hN⟩;rw [hs3.out]at hN;exact⟨rfl,.of(hN.pre(xQ.trans(h5.mono xQ.size)))(by rw [←hs3.out];exact Jq _ _ _)⟩
     have hix:=Vv;dsimp only [ah.val]at HX;rw [hk]at PW HX;clear hs2 hs3 xP hL3 hL0 hap n3 hP3 hq hp hk xQ;obtain⟨p0,p1,p2,p3,p4,p5,p6,p7,p8,p9,je,iX⟩:=PW.out _(Below.refl _ _);go_wp2_with fail
     go_region_law(first
      |(go_simp;go_at_call 94;refine(HH.out _(by first|exact Below.refl _ _|exact(Below.refl _ _).drew|exact below_drewN(Below.refl _ _)_)).mono ?_;rintro e w5⟨rfl,hb5⟩;obtain⟨q0,q1,q2,q3,q4,q5,q6,q7,q8,q9,q10,q11⟩:=PW.out _ hb5)
      |(go_simp;go_at_call 133;refine(HX.out _(by first|exact hb5|exact hb5.drew|exact below_drewN hb5 _)).mono ?_;rintro e w9⟨rfl,hN⟩;replace hN:=hide hN))
     all_goals
      go_wp2
      go_returns
      exact⟨rfl,hN.out⟩
 ·have hs2:Hid(s.drop 0=s2):=by
   show _=_;rw [←dA.out];unfold St.hear;rw [if_pos(.inl hFt)]
  have hb2:Below w1.heap.size w1(w1.alloc ah.zero.box):=(Below.refl _ _).alloc(Nat.le_refl _)_;have n2:=n1.later hb2;have vV:=hb1.trans(hb2.mono hb1.size);have HX:=hide(iU n2 0(by omega));rw [hs2.out]at HX;have hQ:Hid(s2.Q=s.Q):=by show _=_;rw [←hs2.out];rfl
  clear hs2 dA n1 hb2;dsimp only [ah.box,ah.zero]at HX vV n2;dsimp only [ah.val,ah.zero];go_upto_region 3 with(fail)
  generalize World.alloc _ _=W2 at HX vV n2 ⊢;go_wp2_with fail
  refine Calls.mono HX.out ?_;rintro e w9⟨rfl,hN⟩;have Gs:Hid(U_ N B g s s2 TL w w9):=.of(hN.pre vV)hQ.out;clear hN HX;go_wp2
  go_returns
  exact⟨rfl,Gs.out⟩
end Go.Proofs.YtakaadcpaeiccabGreat
