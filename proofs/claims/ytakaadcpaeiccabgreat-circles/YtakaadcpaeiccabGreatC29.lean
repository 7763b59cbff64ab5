import Derived.Test.YtakaadcpaeiccabGreatC28
set_option maxHeartbeats 8000000
set_option maxRecDepth 100000
namespace Go.Proofs.YtakaadcpaeiccabGreat
open Go.RowKit Go.Maps
variable{B N:Nat}{s:St}{w:World}
theorem Ib(w:World):
  Calls Tryz.prog 94 #[] w λe w'=>e=.returned (.agg #[.nilFunc,.func (.func 130) #[] #[],.func (.func 131) #[] #[],.func (.func 132) #[] #[],.nilFunc,.nilFunc,.nilFunc,.nilFunc,.nilFunc,.func (.func 133) #[] #[]])∧Below w.heap.size w w':=by
 go_enter Tryz.func94,Tryz.ntmps94;go_wp2;go_returns;exact⟨rfl,bq⟩
theorem DZ(s:St)(t:Int)(p:aF)(ao:Option Addr)(c:Nat)(L:List (Int×Int)):s.send t {p with la:=ao,lc:=c} L=s.send t p L:=by
 unfold St.send;rw[Ng]
theorem UW(s:St)(p:aF)(ao:Option Addr)(c:Nat):s.askOn {p with la:=ao,lc:=c}=s.askOn p:=by
 unfold St.askOn;dsimp only;exact DZ s 0 {p with ttl:=p.ttl - 1,hops:=St.far p.hops,a_:=if (aJ s.A p.dest).isSome then max p.a_ (eF s.A p.dest)else p.a_,unk:=if (aJ s.A p.dest).isSome then false else p.unk} ao c []
theorem UU(s:St)(p:aF)(ao:Option Addr)(c:Nat):s.asked {p with la:=ao,lc:=c}=s.asked p:=by
 unfold St.asked;dsimp only;rw[UW];rfl
theorem SA(s:St)(fr:Int)(p:aF)(ao:Option Addr)(c:Nat):s.learn fr {p with la:=ao,lc:=c}=s.learn fr p:=by
 simp only[St.learn,UU]
theorem Av(s:St)(fr:Int)(p:aF)(ao:Option Addr)(c:Nat):s.dJ fr {p with la:=ao,lc:=c}=s.dJ fr p:=by
 unfold St.dJ;dsimp only;rw[SA];try rfl
theorem JJ(s:St)(fr:Int)(p:aF)(ao:Option Addr)(c:Nat):s.iM fr {p with la:=ao,lc:=c}=s.iM fr p:=by
 unfold St.iM;dsimp only;split
 ·exact DZ _ _ {p with ttl:=p.ttl - 1,hops:=St.far p.hops} ao c []
 ·rfl
theorem EI(s:St)(fr:Int)(p:aF)(ao:Option Addr)(c:Nat):s.fE fr {p with la:=ao,lc:=c}=s.fE fr p:=by
 unfold St.fE;dsimp only;rw[JJ];try rfl
theorem Ic(s:St)(fr:Int)(p:aF)(ao:Option Addr)(c:Nat):s.fO fr {p with la:=ao,lc:=c}=s.fO fr p:=by
 unfold St.fO;dsimp only;split
 ·rfl
 ·split
  ·rfl
  ·split
   ·exact DZ _ _ {p with ttl:=p.ttl - 1} ao c []
   ·rfl
theorem Ke(s:St)(fr:Int)(p:aF)(ao:Option Addr)(c:Nat)(L:List (Int×Int)):s.gT fr {p with la:=ao,lc:=c} L=s.gT fr p L:=by
 unfold St.gT;dsimp only;rw[Av,EI,Ic];rfl
theorem Fv{g:bI}{TL:List Hp.Tm}(n:Nd N B g s TL w)(fr:Int)(p:aF)(hp:p.Wf)(fK:0<=s.now∧s.now<=4611686018427387904)(hfl:s.aL.length<=1000000)(hdl:s.aT.length<=1000000):
  Calls Tryz.prog 93 #[.pointer (some ⟨N,0,none⟩),.pointer (some ⟨B,0,none⟩),.int .u32 fr,p.val] w λe w'=>e=.returned (.tuple #[])∧l5 N B g s (s.eP fr p) TL w w':=by
 obtain⟨_,hde,_,_,_,_⟩:=hp.num;have hb0:Below w.heap.size w (w.alloc p.box):=bq;have gQ:=PB.new p w;have n0:=n.later hb0;have kL:¬Ft N g s w.heap.size:=n.new (aD _);obtain⟨s2,dD⟩:∃s2,s.eP fr p=s2:=⟨_,rfl⟩;rw[dD];replace dD:=hide dD;have HX:=hide (jC n0 8 hdl);dsimp only[aF.box]at hb0 n0 HX;unfold PB at gQ;dsimp only[aF.box]at gQ;go_enter Tryz.func93,Tryz.ntmps93;go_upto_region 1 with(fail);generalize World.alloc _ _=W1 at hb0 gQ n0 HX ⊢;generalize l8:w.heap.size=C at gQ kL ⊢;replace l8:=hide l8;go_wp2_with fail;refine aU HX.out ?_;rintro e w2 ⟨rfl,g2,n2,u2,t2⟩;obtain⟨hP2,Ij⟩:=u2.kG gQ kL;obtain⟨s1,hs1⟩:∃z,s.drop 8=z:=⟨_,rfl⟩;have h1:Hid (s1.me=s.me∧s1.now=s.now∧s1.aL=s.aL∧s1.A=s.A):=by
  show _∧_;rw[<-hs1];exact⟨rfl,rfl,rfl,rfl⟩
 have hs2:Hid ((if p.kind=9∧p.dest≠s1.me then {s1.lI fr p.dest with cO:=s1.now+2000}else s1)=s2):=by
  rw[<-hs1];have:=dD.out;unfold St.eP at this;exact this
 rw[hs1]at n2 u2 Ij;have Jf:=(Up.below hb0:Up B (Ft N g s) (Ft N g s) w W1).trans u2;have MX:0<=s1.now∧s1.now<=4611686018427387904:=by rw[h1.out.2.1];exact fK
 have Au:s1.aL.length<=1000000:=by rw[h1.out.2.2.1];exact hfl
 clear hs1 dD HX hb0 n0 u2 gQ kL;obtain⟨c2,c3,c4,c7,c0⟩:=n2.cell;obtain⟨p0,p1,p2,p3,p4,p5,p6,p7,p8,p9,jL,jF⟩:=PB.cell hP2;have hq:∀q,Below w2.heap.size w2 (w2.drewN q):=λq=>below_drewN (aV _ _) q;by_cases hk:p.kind=9∧p.dest≠s1.me
 ·replace hs2:=hide ((aQ hk).symm.trans hs2.out);obtain⟨hk9,hkd⟩:=hk;have b9:(p.kind==9)=true:=by simpa using hk9
  have bd:(p.dest !=s1.me)=true:=by simpa using hkd
  clear hk9 hkd;go_wp2_with fail;go_quiet (fail);generalize hg:World.drewN _ _=W3;obtain⟨n3,hP3,hb3⟩:=(show ∀q w3,w2.drewN q=w3->Nd N B g2 s1 TL w3∧PB p C w3∧Below w2.heap.size w2 w3 from by
   rintro q _ rfl;exact⟨n2.later (hq q),PB.below hP2 (hq q),hq q⟩) _ _ hg
  have Qq:=Jf.trans (.below hb3:Up B (Ft N g2 s1) (Ft N g2 s1) w2 W3);clear hg n2 hP2 c2 c3 c4 c7 c0 p0 p1 p2 p3 p4 p5 p6 p7 p8 p9 jL jF hq Jf hb3 b9 bd;obtain⟨p0,p1,p2,p3,p4,p5,p6,p7,p8,p9,jL,jF⟩:=PB.cell hP3;have HL:=hide (Dy n3 fr p.dest hde Au);go_wp2_with fail;refine aU HL.out ?_;rintro e w4 ⟨rfl,g4,n4,u4,t4⟩;obtain⟨s3,hs3⟩:∃z,s1.lI fr p.dest=z:=⟨_,rfl⟩;have h3:Hid (s3.now=s1.now∧ {s3 with cO:=s1.now+2000}=s2):=by
   show _∧_;rw[<-hs3];exact⟨rfl,hs2.out⟩
  rw[hs3]at n4 u4;have qf:=Qq.trans u4;have tt:Hid (g4.x.T=g.x.T):=t4.out.trans t2.out;clear hs3 hs2 HL u4 Qq n3 hP3 p0 p1 p2 p3 p4 p5 p6 p7 p8 p9 jL jF;obtain⟨c2,c3,c4,c7,c0⟩:=n4.cell;rw[h3.out.1]at c0;have f4:=n4.nn.cr.nd.free 4;have hg1:w4.grownBy (w4.setCell ⟨N,4,none⟩ (.int .u64 (s1.now+2000))) (some N):=ah (aC _ (some N)) 4 _;obtain⟨e1,e2,e3,e4,e5,e6,e7,e8,e9⟩:=n4.nn.eq;obtain⟨n5,u5⟩:=n4.cells (s':={s3 with cO:=s1.now+2000}) (n4.nn.cr.nd.Q6 (s1.now+2000)) (Fx.grown hg1 λk e=>by cases e;rfl) ⟨e1,e2,rfl,e4,e5,e6,e7,e8,e9⟩ ⟨rfl,rfl,rfl,rfl,rfl,rfl⟩ ⟨rfl,rfl,rfl,rfl,rfl,rfl,rfl,rfl,rfl⟩ ⟨rfl,rfl,rfl,rfl,rfl⟩;rw[h3.out.2]at n5 u5;have hw:IntKind.u64.wrap (s1.now+2000)=s1.now+2000:=mP MX (by omega);have hfin:Hid (l5 N B g s s2 TL w (w4.setCell ⟨N,4,none⟩ (.int .u64 (s1.now+2000)))):=⟨_,n5,qf.trans u5,tt.out⟩;clear n4 n5 u5 qf hg1 e1 e2 e3 e4 e5 e6 e7 e8 e9 h3;go_wp2;go_returns;first
   |exact⟨rfl,hfin.out⟩
   |(rw[hw];exact⟨rfl,hfin.out⟩)
 ·replace hs2:=hide ((aM hk).symm.trans hs2.out);have hk':p.kind≠9∨(p.kind=9∧p.dest=s1.me):=by
   by_cases h9:p.kind=9
   ·exact .inr ⟨h9,Classical.byContradiction λh=>hk ⟨h9,h⟩⟩
   ·exact .inl h9
  clear hk;have hfin:Hid (∀w3,Below w2.heap.size w2 w3->l5 N B g s s2 TL w w3):=by
   intro w3 hb;rw[<-hs2.out];exact⟨g2,n2.later hb,Jf.trans (.below hb),t2⟩
  have hq:=hide hq;clear hs2 hP2 n2;rcases hk' with h9|⟨h9,hd⟩
  ·have b9:(p.kind==9)=false:=by simpa using h9
   clear h9;go_wp2_with fail;go_quiet (fail);go_wp2;go_returns;exact⟨rfl,hfin.out _ (hq.out _)⟩
  ·have b9:(p.kind==9)=true:=by simpa using h9
   have bd:(p.dest !=s1.me)=false:=by simpa using hd
   clear h9 hd;go_wp2_with fail;go_quiet (fail);go_wp2;go_returns;exact⟨rfl,hfin.out _ (hq.out _)⟩
def VQ(N B:Nat)(g:bI)(s s2:St)(TL:List Hp.Tm)(w w':World):Prop:=∃dR,l5 N B g s s2 dR w w'∧∃d,YS d s TL s2 dR
theorem VQ.of{g:bI}{s2:St}{TL:List Hp.Tm}{w':World}(h:l5 N B g s s2 TL w w')(hQ:s2.Q=s.Q):VQ N B g s s2 TL w w':=⟨TL,h,0,.inl ⟨rfl,hQ⟩⟩
theorem YL(s:St)(p:aF):(s.asked p).Q=s.Q:=by
 unfold St.asked St.ja St.iC;split
 ·exact vT _ _
 ·split
  ·exact vT _ _
  ·split<;>rfl
theorem aew(s:St)(fr:Int)(p:aF):(s.learn fr p).Q=s.Q:=by
 unfold St.learn;split
 ·rfl
 ·split<;>exact YL _ _
theorem Kg(s:St)(fr:Int)(L:List (Int×Int)):(s.gW fr L).Q=s.Q:=by
 unfold St.gW;dsimp only;split<;>rfl
theorem Kh(s:St)(fr:Int)(p:aF):(s.fO fr p).Q=s.Q:=by
 unfold St.fO;split
 ·rfl
 ·split
  ·rfl
  ·split<;>rfl
theorem EH(s:St)(fr:Int)(p:aF):(s.eP fr p).Q=s.Q:=by
 unfold St.eP;split<;>rfl
theorem WW{x0 x1 x2 x3 x4:Int}{r:List Int}(ao:Option Addr)(c:Nat)(hb:∀x∈x0::x1::x2::x3::x4::r,0<=x∧x<=255)(hF:vG (x0::x1::x2::x3::x4::r)=true):
  ({iX x0 x1 x2 x4 r with la:=ao,lc:=c}:aF).Hd∧(x1=1∨x1=2∨x1=3∨x1=9)∧(iX x0 x1 x2 x4 r).kind=x1:=by
 have h1:=Xd (x2:=x2) (λy hy=>hb y (by simp[hy])) (hb x0 (by simp)) (hb x1 (by simp)) (hb x4 (by simp)) (r:=r);have hg:(iX x0 x1 x2 x4 r).eU=true:=by
  simp only[vG,fF]at hF;exact hF.2
 obtain⟨_,t0,t1,q0,q1,_,hk⟩:=eT hg;have hkk:(iX x0 x1 x2 x4 r).kind=x1:=by
  unfold iX;split
  ·rename_i h;exact h.symm
  split
  ·rename_i h;exact h.symm
  split
  ·rename_i h;exact h.symm
  split
  ·rename_i h;exact h.symm
  ·rfl
 refine⟨⟨⟨h1.1,h1.2,h1.3,h1.4,h1.5,h1.6,h1.7,h1.8,h1.9,h1.10,h1.11,h1.12,h1.13,h1.14,h1.15,h1.16,h1.17,h1.18,h1.19,h1.20⟩,⟨t0,t1⟩,⟨q0,q1⟩⟩,?_,hkk⟩;rw[hkk]at hk;rcases hk with h|h|h|⟨h,_⟩
 ·exact .inl h
 ·exact .inr (.inl h)
 ·exact .inr (.inr (.inr h))
 ·exact .inr (.inr (.inl h))
theorem Wp(w:World):(Instr.index 199 (.agg #[.nilFunc,.func (.func 130) #[] #[],.func (.func 131) #[] #[],.func (.func 132) #[] #[],.nilFunc,.nilFunc,.nilFunc,.nilFunc,.nilFunc,.func (.func 133) #[] #[]]) (.int .i64 1)).run Tryz.prog w=.ok (.func (.func 130) #[] #[]) w:=by kernel_rfl
theorem Wo(w:World):(Instr.index 199 (.agg #[.nilFunc,.func (.func 130) #[] #[],.func (.func 131) #[] #[],.func (.func 132) #[] #[],.nilFunc,.nilFunc,.nilFunc,.nilFunc,.nilFunc,.func (.func 133) #[] #[]]) (.int .i64 2)).run Tryz.prog w=.ok (.func (.func 131) #[] #[]) w:=by kernel_rfl
theorem Wn(w:World):(Instr.index 199 (.agg #[.nilFunc,.func (.func 130) #[] #[],.func (.func 131) #[] #[],.func (.func 132) #[] #[],.nilFunc,.nilFunc,.nilFunc,.nilFunc,.nilFunc,.func (.func 133) #[] #[]]) (.int .i64 3)).run Tryz.prog w=.ok (.func (.func 132) #[] #[]) w:=by kernel_rfl
theorem Wm(w:World):(Instr.index 199 (.agg #[.nilFunc,.func (.func 130) #[] #[],.func (.func 131) #[] #[],.func (.func 132) #[] #[],.nilFunc,.nilFunc,.nilFunc,.nilFunc,.nilFunc,.func (.func 133) #[] #[]]) (.int .i64 9)).run Tryz.prog w=.ok (.func (.func 133) #[] #[]) w:=by kernel_rfl
theorem ace{g:bI}{TL:List Hp.Tm}(n:Nd N B g s TL w)(hF:s.Qm)(htn:s.tn<=4000000000000000000)(htl:TL.length<=1000000)(fr:Int)(hfr:bB fr)(v:Value)(xs:List Int)(hv:fu w v xs):
  Calls Tryz.prog 59 #[.pointer (some ⟨N,0,none⟩),.pointer (some ⟨B,0,none⟩),.int .u32 fr,v] w λe w'=>e=.returned (.tuple #[])∧VQ N B g s (s.hear fr xs) TL w w':=by
 have hby:=hv.1;have HD:=hide (La v xs w hv);clear hv;obtain⟨s2,dD⟩:∃s2,s.hear fr xs=s2:=⟨_,rfl⟩;rw[dD];replace dD:=hide dD;have hfl:s.aL.length<=900000:=hF.aL;have hdl:s.aT.length<=900000:=hF.aT;go_enter Tryz.func59,Tryz.ntmps59;go_wp2_with fail;refine aU HD.out ?_;rintro e w1 ⟨hb1,h⟩;have n1:=n.later hb1;clear HD;rcases h with⟨hFt,v1,rfl,x0,x1,x2,x3,x4,r,ao,c,hxs,hv1,hlen,hA,H_⟩|⟨hFt,rfl⟩
 ·subst hxs;obtain⟨hq,hk,hkk⟩:=WW (ao:=ao) (c:=c) hby hFt;have hs2:Hid ((if fr=0∨fr=s.me then s.drop 0 else s.gT fr {iX x0 x1 x2 x4 r with la:=ao,lc:=c} (nC x1 x4 r))=s2):=by
   show _=_;rw[<-dD.out,Ke];unfold St.hear;rw[hFt];by_cases h:fr=0∨fr=s.me
   ·rw[aQ h,aQ (.inr h)]
   ·rw[aM h,aM (by rintro(h1|h1)<;>first|(cases h1;done)|exact h h1)];rfl
  have hL1:fH w1 {iX x0 x1 x2 x4 r with la:=ao,lc:=c} (nC x1 x4 r):=⟨hlen,hA⟩;have hap:∀b,ao=some b->¬Ft N g s b.block:=λb hb=>n.new (H_ b hb);have hL0:x1≠3->nC x1 x4 r=[]:=λh=>by unfold nC;rw[aM h]
  have hpk:({iX x0 x1 x2 x4 r with la:=ao,lc:=c}:aF).kind=x1:=hkk;have hpa:({iX x0 x1 x2 x4 r with la:=ao,lc:=c}:aF).la=ao:=rfl;generalize ({iX x0 x1 x2 x4 r with la:=ao,lc:=c}:aF)=p at hv1 hq hs2 hL1 hpk hpa;generalize nC x1 x4 r=L at hs2 hL1 hL0;subst hv1 hpa;have hap:FC N g s p.la:=hap;clear hby hFt hlen hA H_ dD hkk;rw[<-hpk]at hk hL0;clear hpk;have hp:=hq.wf;have hb2:Below w1.heap.size w1 (w1.alloc p.box):=bq;have hP2:=PB.new p w1;have n2:=n1.later hb2;have wU:=hb1.trans (hb2.mono hb1.size);have hL2:=hL1.below hb2;clear n1 hL1 hb2;dsimp only[aF.box]at n2 wU hL2;unfold PB at hP2;dsimp only[aF.box]at hP2;dsimp only[aF.val];go_upto_region 2 with(fail);generalize World.alloc _ _=W2 at hP2 n2 wU hL2 ⊢;generalize w1.heap.size=C at hP2 ⊢;obtain⟨c2,c3,c4,c7,c0⟩:=n2.cell;obtain⟨p0,p1,p2,p3,p4,p5,p6,p7,p8,p9,jL,jF⟩:=PB.cell hP2;by_cases hf:fr=0∨fr=s.me
  ·replace hs2:=hide ((aQ hf).symm.trans hs2.out);have HX:=hide (jC n2 0 (by omega));rw[hs2.out]at HX;have hQ:Hid (s2.Q=s.Q):=by show _=_;rw[<-hs2.out];rfl
   have hfin:Hid (∀w9,l5 N B g s s2 TL W2 w9->VQ N B g s s2 TL w w9):=λw9 h=> .of (h.pre wU) hQ.out;have hf':fr=0∨(¬fr=0∧fr=s.me):=by
    by_cases h:fr=0
    ·exact .inl h
    ·exact .inr ⟨h,hf.resolve_left h⟩
   clear hs2 hQ wU hf n2 hL2 hP2 hap;rcases hf' with h|⟨h,h'⟩
   ·have b0:(fr==0)=true:=by simpa using h
    clear h;go_wp2_with fail;refine aU HX.out ?_;rintro e w9 ⟨rfl,hN⟩;have Ia:=hide (hfin.out _ hN);clear hN HX;go_wp2;go_returns;exact⟨rfl,Ia.out⟩
   ·have b0:(fr==0)=false:=by simpa using h
    have b1:(fr==s.me)=true:=by simpa using h'
    clear h h';go_wp2_with fail;refine aU HX.out ?_;rintro e w9 ⟨rfl,hN⟩;have Ia:=hide (hfin.out _ hN);clear hN HX;go_wp2;go_returns;exact⟨rfl,Ia.out⟩
  ·replace hs2:=hide ((aM hf).symm.trans hs2.out);have b0:(fr==0)=false:=by
    have:¬fr=0:=λh=>hf (.inl h);simpa using this
   have b1:(fr==s.me)=false:=by
    have:¬fr=s.me:=λh=>hf (.inr h);simpa using this
   clear hf;go_wp2_with fail;by_cases yL:s.now<s.cO
   ·have bs:decide (s.now<s.cO)=true:=gm yL;have hs3:Hid (s.eP fr p=s2):=by
     show _=_;rw[<-hs2.out];unfold St.gT;rw[aQ yL]
    have HX:Hid (∀W5,Below W2.heap.size W2 W5->Calls Tryz.prog 93 #[.pointer (some ⟨N,0,none⟩),.pointer (some ⟨B,0,none⟩),.int .u32 fr,p.val] W5 λe w'=>e=.returned (.tuple #[])∧VQ N B g s s2 TL w w'):=by
     intro W5 h5;refine(Fv (n2.later h5) fr p hp hF.now (by omega) (by omega)).mono ?_;rintro e w9 ⟨rfl,hN⟩;rw[hs3.out]at hN;exact⟨rfl,.of (hN.pre (wU.trans (h5.mono wU.size))) (by rw[<-hs3.out];exact EH _ _ _)⟩
    dsimp only[aF.val]at HX;clear hs2 hs3 yL;go_quiet (fail);generalize hg:World.drewN _ _=W3;obtain⟨hP3,hb3⟩:=(show ∀q w3,W2.drewN q=w3->PB p C w3∧Below W2.heap.size W2 w3 from by
     rintro q _ rfl;have hbq:Below W2.heap.size W2 (W2.drewN q):=below_drewN (aV _ _) q;exact⟨PB.below hP2 hbq,hbq⟩) _ _ hg
    clear hg n2 hP2 c2 c3 c4 c7 c0 p0 p1 p2 p3 p4 p5 p6 p7 p8 p9 jL jF;obtain⟨p0,p1,p2,p3,p4,p5,p6,p7,p8,p9,jL,jF⟩:=PB.cell hP3;go_wp2_with fail;refine aU (HX.out _ hb3) ?_;rintro e w9 ⟨rfl,hN⟩;replace hN:=hide hN;clear HX hb3 hP3 p0 p1 p2 p3 p4 p5 p6 p7 p8 p9 jL jF;go_wp2;go_returns;exact⟨rfl,hN.out⟩
   ·have bs:decide (s.now<s.cO)=false:=fA yL;go_quiet (fail);generalize hg:World.drewN _ _=W3;obtain⟨n3,hP3,hb3⟩:=(show ∀q w3,W2.drewN q=w3->Nd N B g s TL w3∧PB p C w3∧Below W2.heap.size W2 w3 from by
     rintro q _ rfl;have hbq:Below W2.heap.size W2 (W2.drewN q):=below_drewN (aV _ _) q;exact⟨n2.later hbq,PB.below hP2 hbq,hbq⟩) _ _ hg
    have hL3:=hL2.below hb3;have yM:=wU.trans (hb3.mono wU.size);clear hg n2 hP2 hL2 wU hb3 c2 c3 c4 c7 c0 p0 p1 p2 p3 p4 p5 p6 p7 p8 p9 jL jF bs b0 b1;have HH:Hid (∀W',Below W3.heap.size W3 W'->Calls Tryz.prog 94 #[] W' λe w5=>e=.returned (.agg #[.nilFunc,.func (.func 130) #[] #[],.func (.func 131) #[] #[],.func (.func 132) #[] #[],.nilFunc,.nilFunc,.nilFunc,.nilFunc,.nilFunc,.func (.func 133) #[] #[]])∧Below W3.heap.size W3 w5):=by
     intro W' h;refine(Ib W').mono ?_;rintro e w5 ⟨rfl,h5⟩;exact⟨rfl,h.trans (h5.mono h.size)⟩
    have QE:Hid (∀W5,Below W3.heap.size W3 W5->W5.cell? ⟨C,0,none⟩=some (.int .i64 p.ttl)∧W5.cell? ⟨C,1,none⟩=some (.int .i64 p.kind)∧W5.cell? ⟨C,2,none⟩=some (.int .i64 p.hops)∧W5.cell? ⟨C,3,none⟩=some (.bool p.unk)∧W5.cell? ⟨C,4,none⟩=some (.int .u32 p.id)∧W5.cell? ⟨C,5,none⟩=some (.int .u32 p.dest)∧W5.cell? ⟨C,6,none⟩=some (.int .u32 p.a_)∧W5.cell? ⟨C,7,none⟩=some (.int .u32 p.aK)∧W5.cell? ⟨C,8,none⟩=some (.int .u32 p.dx)∧W5.cell? ⟨C,9,none⟩=some (.int .u32 p.life)∧W5.cell? ⟨C,10,none⟩=some (.slice p.la p.ln p.lc)∧W5.cell? ⟨C,11,none⟩=some (.string p.pay)):=λW5 h5=>PB.cell (PB.below hP3 h5);rcases hk with hk|hk|hk|hk
    ·have hs3:Hid (s.dJ fr p=s2):=by
      show _=_;rw[<-hs2.out];unfold St.gT;rw[aM yL,hk];rfl
     have HX:Hid (∀W5,Below W3.heap.size W3 W5->Calls Tryz.prog 130 #[.pointer (some ⟨N,0,none⟩),.pointer (some ⟨B,0,none⟩),.int .u32 fr,p.val] W5 λe w'=>e=.returned (.tuple #[])∧VQ N B g s s2 TL w w'):=by
      intro W5 h5;refine(Cn (n3.later h5) hF htn fr hfr p hq (by have:=hL3.below h5;rwa [hL0 (by omega)]at this)).mono ?_;rintro e w9 ⟨rfl,hN⟩;rw[hs3.out]at hN;exact⟨rfl,.of (hN.pre (yM.trans (h5.mono yM.size))) (by rw[<-hs3.out];exact n_ _ _ _)⟩
     have hix:=Wp;dsimp only[aF.val]at HX;rw[hk]at QE HX;clear hs2 hs3 yL hL3 hL0 hap n3 hP3 hq hp hk yM;obtain⟨p0,p1,p2,p3,p4,p5,p6,p7,p8,p9,jL,jF⟩:=QE.out _ (aV _ _);go_wp2_with fail;go_region_law (first
      |(go_simp;go_at_call 94;refine(HH.out _ (by first|exact aV _ _|exact(aV _ _).drew|exact below_drewN (aV _ _) _)).mono ?_;rintro e w5 ⟨rfl,hb5⟩;obtain⟨q0,q1,q2,q3,q4,q5,q6,q7,q8,q9,q10,q11⟩:=QE.out _ hb5)
      |(go_simp;go_at_call 130;refine(HX.out _ (by first|exact hb5|exact hb5.drew|exact below_drewN hb5 _)).mono ?_;rintro e w9 ⟨rfl,hN⟩;replace hN:=hide hN))
     all_goals
      go_wp2;go_returns;exact⟨rfl,hN.out⟩
    ·have hs3:Hid (s.fE fr p=s2):=by
      show _=_;rw[<-hs2.out];unfold St.gT;rw[aM yL,hk];rfl
     have HX:Hid (∀W5,Below W3.heap.size W3 W5->Calls Tryz.prog 131 #[.pointer (some ⟨N,0,none⟩),.pointer (some ⟨B,0,none⟩),.int .u32 fr,p.val] W5 λe w'=>e=.returned (.tuple #[])∧VQ N B g s s2 TL w w'):=by
      intro W5 h5;refine(I5 (n3.later h5) fr hfr p hq (by have:=hL3.below h5;rwa [hL0 (by omega)]at this) hF.me hF.now (by omega) (by omega) htl).mono ?_;rintro e w9 ⟨rfl,dR,hN,hT⟩;rw[hs3.out]at hN hT;exact⟨rfl,dR,hN.pre (yM.trans (h5.mono yM.size)),_,hT⟩
     have hix:=Wo;dsimp only[aF.val]at HX;rw[hk]at QE HX;clear hs2 hs3 yL hL3 hL0 hap n3 hP3 hq hp hk yM;obtain⟨p0,p1,p2,p3,p4,p5,p6,p7,p8,p9,jL,jF⟩:=QE.out _ (aV _ _);go_wp2_with fail;go_region_law (first
      |(go_simp;go_at_call 94;refine(HH.out _ (by first|exact aV _ _|exact(aV _ _).drew|exact below_drewN (aV _ _) _)).mono ?_;rintro e w5 ⟨rfl,hb5⟩;obtain⟨q0,q1,q2,q3,q4,q5,q6,q7,q8,q9,q10,q11⟩:=QE.out _ hb5)
      |(go_simp;go_at_call 131;refine(HX.out _ (by first|exact hb5|exact hb5.drew|exact below_drewN hb5 _)).mono ?_;rintro e w9 ⟨rfl,hN⟩;replace hN:=hide hN))
     all_goals
      go_wp2;go_returns;exact⟨rfl,hN.out⟩
    ·have hs3:Hid (s.gW fr L=s2):=by
      show _=_;rw[<-hs2.out];unfold St.gT;rw[aM yL,hk];rfl
     have HX:Hid (∀W5,Below W3.heap.size W3 W5->Calls Tryz.prog 132 #[.pointer (some ⟨N,0,none⟩),.pointer (some ⟨B,0,none⟩),.int .u32 fr,p.val] W5 λe w'=>e=.returned (.tuple #[])∧VQ N B g s s2 TL w w'):=by
      intro W5 h5;refine(KW (n3.later h5) fr hfr p hp L (hL3.below h5) hap (by omega) (by omega)).mono ?_;rintro e w9 ⟨rfl,hN⟩;rw[hs3.out]at hN;exact⟨rfl,.of (hN.pre (yM.trans (h5.mono yM.size))) (by rw[<-hs3.out];exact Kg _ _ _)⟩
     have hix:=Wn;dsimp only[aF.val]at HX;rw[hk]at QE HX;clear hs2 hs3 yL hL3 hL0 hap n3 hP3 hq hp hk yM;obtain⟨p0,p1,p2,p3,p4,p5,p6,p7,p8,p9,jL,jF⟩:=QE.out _ (aV _ _);go_wp2_with fail;go_region_law (first
      |(go_simp;go_at_call 94;refine(HH.out _ (by first|exact aV _ _|exact(aV _ _).drew|exact below_drewN (aV _ _) _)).mono ?_;rintro e w5 ⟨rfl,hb5⟩;obtain⟨q0,q1,q2,q3,q4,q5,q6,q7,q8,q9,q10,q11⟩:=QE.out _ hb5)
      |(go_simp;go_at_call 132;refine(HX.out _ (by first|exact hb5|exact hb5.drew|exact below_drewN hb5 _)).mono ?_;rintro e w9 ⟨rfl,hN⟩;replace hN:=hide hN))
     all_goals
      go_wp2;go_returns;exact⟨rfl,hN.out⟩
    ·have hs3:Hid (s.fO fr p=s2):=by
      show _=_;rw[<-hs2.out];unfold St.gT;rw[aM yL,hk];rfl
     have HX:Hid (∀W5,Below W3.heap.size W3 W5->Calls Tryz.prog 133 #[.pointer (some ⟨N,0,none⟩),.pointer (some ⟨B,0,none⟩),.int .u32 fr,p.val] W5 λe w'=>e=.returned (.tuple #[])∧VQ N B g s s2 TL w w'):=by
      intro W5 h5;refine(KX (n3.later h5) fr hfr p hq (by have:=hL3.below h5;rwa [hL0 (by omega)]at this) hF.now (by omega) (by omega) (by have:=hF.aY;omega)).mono ?_;rintro e w9 ⟨rfl,hN⟩;rw[hs3.out]at hN;exact⟨rfl,.of (hN.pre (yM.trans (h5.mono yM.size))) (by rw[<-hs3.out];exact Kh _ _ _)⟩
     have hix:=Wm;dsimp only[aF.val]at HX;rw[hk]at QE HX;clear hs2 hs3 yL hL3 hL0 hap n3 hP3 hq hp hk yM;obtain⟨p0,p1,p2,p3,p4,p5,p6,p7,p8,p9,jL,jF⟩:=QE.out _ (aV _ _);go_wp2_with fail;go_region_law (first
      |(go_simp;go_at_call 94;refine(HH.out _ (by first|exact aV _ _|exact(aV _ _).drew|exact below_drewN (aV _ _) _)).mono ?_;rintro e w5 ⟨rfl,hb5⟩;obtain⟨q0,q1,q2,q3,q4,q5,q6,q7,q8,q9,q10,q11⟩:=QE.out _ hb5)
      |(go_simp;go_at_call 133;refine(HX.out _ (by first|exact hb5|exact hb5.drew|exact below_drewN hb5 _)).mono ?_;rintro e w9 ⟨rfl,hN⟩;replace hN:=hide hN))
     all_goals
      go_wp2;go_returns;exact⟨rfl,hN.out⟩
 ·have hs2:Hid (s.drop 0=s2):=by
   show _=_;rw[<-dD.out];unfold St.hear;rw[aQ (.inl hFt)]
  have hb2:Below w1.heap.size w1 (w1.alloc aF.zero.box):=bq;have n2:=n1.later hb2;have wU:=hb1.trans (hb2.mono hb1.size);have HX:=hide (jC n2 0 (by omega));rw[hs2.out]at HX;have hQ:Hid (s2.Q=s.Q):=by show _=_;rw[<-hs2.out];rfl
  clear hs2 dD n1 hb2;dsimp only[aF.box,aF.zero]at HX wU n2;dsimp only[aF.val,aF.zero];go_upto_region 3 with(fail);generalize World.alloc _ _=W2 at HX wU n2 ⊢;go_wp2_with fail;refine aU HX.out ?_;rintro e w9 ⟨rfl,hN⟩;have Ia:Hid (VQ N B g s s2 TL w w9):=.of (hN.pre wU) hQ.out;clear hN HX;go_wp2;go_returns;exact⟨rfl,Ia.out⟩
open Go.MuLone
theorem Qf{N:Nat}{g:bI}{s:St}{TL:List Hp.Tm}{w:World}(n:Nn N g s TL w){k:Int}(hI:s.Inv k)(hk:k<=100000000000)(hT:dQ s TL)(now fr:Int)(fK:s.now<=now∧now<=4611686018427387904)(hfr:bB fr)(v:Value)(xs:List Int)(hv:VB w v xs):
  Calls Tryz.prog 25 #[.pointer (some ⟨N,0,none⟩),.int .u64 now,.int .u32 fr,v] w λe w'=>∃o,e=.returned o∧Hid ((s.rcv now fr xs).Inv (k+1))∧BH N g s (s.rcv now fr xs) w o w':=by
 have hA:=n.cr.tb.ok;have hl:=n.cr.tb.len;have hb0:Below w.heap.size w (w.alloc jm):=bq;have hC0:(w.alloc jm).heap[w.heap.size]?=some jm:=bS _ _;have kL:¬Ft N g s w.heap.size:=λh=>by have:=n.lt h;omega
 have hs0:(w.alloc jm).heap.size=w.heap.size+1:=by simp
 have n0:=n.later hb0;have hv0:=hv.later hb0;have hM:=(qU hI).2 now fK hA hl;obtain⟨s3,hs3⟩:∃z,s.locked.begin now=z:=⟨_,rfl⟩;rw[hs3]at hM;have H9:Hid (s3.lk=1):=by show _=_;rw[<-hs3];rfl
 have M9:Hid (s3.Q=s.Q):=by show _=_;rw[<-hs3];rfl
 have xY:Hid (s3.now=now):=by show _=_;rw[<-hs3];rfl
 have TD:Hid (s3.me=s.me):=by show _=_;rw[<-hs3];rfl
 replace hM:=hide hM;dsimp only[jm]at hb0 hC0 hs0 n0 hv0
 go_enter_defers Tryz.func25,Tryz.ntmps25
 go_upto_region 1 with(fail);generalize World.alloc _ _=W1 at hb0 hC0 hs0 n0 hv0 ⊢;obtain⟨c0,f0⟩:=n0.Ji;rw[hI.lk]at c0;go_wp2_with fail;refine aU (lock_free l_ ⟨N,0,none⟩ W1 c0 f0) ?_;rintro e w2 ⟨rfl,rfl⟩;obtain⟨n2,hg2⟩:=n0.kV 1;have hf2:Fx (Ft N g s) w (W1.setCell ⟨N,0,none⟩ (.int .i32 1)):=aW (Fx.below hb0) hg2 (λi _ e=>by cases e;exact .inl (.inl rfl));have hv2:=n0.vb hv0 (Fx.grown hg2 λk e=>by cases e;exact .inl (.inl rfl));have hC2:=(hg2.block w.heap.size (by omega) (λe=>kL (by cases e;exact .inl (.inl rfl)))).trans hC0;have hs2:w.heap.size+1<=(W1.setCell ⟨N,0,none⟩ (.int .i32 1)).heap.size:=by
  have:=hg2.size;omega
 have hcn:=hI.cnt;have HB:=hide (zm n2 now ⟨hI.dom.mb,hI.dom.on,hI.dom.own⟩ ⟨hcn.1,by dsimp only;omega⟩);rw[show({s with lk:=1}:St).begin now=s3 from hs3]at HB;have hF1:Hid (∀k,Ft N ({g with x:={g.x with lk:=1}}:bI) ({s with lk:=1}:St) k->Ft N g s k):=λk h=>h;replace hs3:=hide hs3;clear n0 hv0 hC0 hs0 hb0 c0 f0 hg2 hA hl hcn;generalize ({g with x:={g.x with lk:=1}}:bI)=g1 at n2 HB hF1;generalize ({s with lk:=1}:St)=s1 at n2 HB hF1;generalize World.setCell _ _ _=W2 at n2 hf2 hv2 hC2 hs2 HB ⊢;go_wp2_with fail;refine aU HB.out ?_;rintro e w3 ⟨g3,rfl,n3,u3,ZA,t3⟩;clear t3;have hv3:=n2.vb hv2 ZA;clear HB;have Ub:Hid (dQ s3 TL):=by
  show dQ _ _;unfold dQ;rw[M9.out];exact hT
 have hlen:=n3.nn.aan Ub.out;have yc:=hM.out.fine (by omega);have HH:=hide (ace n3 yc (by have:=hM.out.tn;omega) (by omega) fr hfr v xs hv3.1);have O3:=hide n3.nn.ids;have EC:=hide n3.nn.rs.sr.qR;have adf:Hid (∀q∈s3.Q,q.txt.length<=4):=λq hq=>(n3.nn.rs.sr.ok q hq).txt;have hpk:Hid (Eff 5 s3 (s3.hear fr xs)):=AV s3 fr xs hv3.1.1 adf.out;clear hv2 hv3 ZA n2 n3;go_wp2_with fail;refine aU HH.out ?_;rintro e w5 ⟨rfl,QC,⟨g5,n5,u5,t5⟩,d5,Qu⟩;obtain⟨s5,hs5⟩:∃z,s3.hear fr xs=z:=⟨_,rfl⟩;rw[hs5]at n5 u5 Qu hpk;have XW:Hid (dQ s5 QC):=Z0 Qu Ub.out O3.out EC.out;have og:Hid (s5.Mid k 6):=vw hM.out hpk.out;have EG:Hid (s5.lk=1):=hpk.out.lk.trans H9.out;have yD:=u3.trans u5;replace hs5:=hide hs5;clear HH u3 u5 Qu O3 EC adf hpk yc hlen;have M_:=hide (mJ og.out (by omega) n5.nn.cr.tb.ok n5.nn.cr.tb.len);have NC:=hide (oV n5 og.out.dom (by have:=og.out.cnt;omega) (by have:=og.out.bA;omega) og.out.bd og.out.seq);go_wp2_with fail;refine aU NC.out ?_;rintro e w6 ⟨g6,rfl,n6,u6,t6⟩;obtain⟨s6,hs6⟩:∃z,s5.finish=z:=⟨_,rfl⟩;have EF:s6.lk=1:=by rw[<-hs6,(aP s5).lk];exact EG.out
 have XV:Hid (dQ s6 QC):=by
  show dQ _ _;unfold dQ;rw[<-hs6,(aP s5).Q];exact XW.out
 have jU:Hid (s.rcv now fr xs=s6.freed):=by
  show _=_;rw[<-hs6];unfold St.rcv St.receive;rw[hs3.out,hs5.out]
 rw[hs6]at n6 u6 M_ ⊢;have nL:=yD.trans u6;clear NC hs6 u6 n5 yD;have ER:=nL.QR (aD _);have nR:∀k,Ft N g6 s6 k->Ft N g s k∨(w.heap.size<=k∧k<w6.heap.size):=λk hk=>(nL.sub k hk).elim (λh=> .inl (hF1.out k h)) λh=> .inr ⟨by omega,h.2⟩;have gD:=(ER.block w.heap.size (by omega) (λh=>kL (hF1.out _ h))).trans hC2;have kR:¬Ft N g6 s6 w.heap.size:=λh=>(nL.sub _ h).elim (λh=>kL (hF1.out _ h)) (by omega);have M4:=hf2.trans ER (λi _ h=>hF1.out i h);have r1:=ownsRow_base_a n6.ac.aK (show w.heap.size<=W2.heap.size+1 by omega);have r2:=ownsRow_base_a n6.ac.bP (show w.heap.size<=W2.heap.size+1 by omega);have r3:=ownsRow_base_a n6.ac.bQ (show w.heap.size<=W2.heap.size+1 by omega);have m6:=n6.nn;obtain⟨af,kf,hf,_⟩:=ak r1;obtain⟨ac,kc,hc,_⟩:=ak r2;obtain⟨ad,kd,hdd,_⟩:=ak r3;rw[hf]at r1;rw[hc]at r2;rw[hdd]at r3;rw[hf,hc,hdd];simp only[iY];clear n6 hf hc hdd nL ER hf2 hC2;generalize hjj:s6.bn=jj;replace hjj:=hide hjj;obtain⟨z0,z1,z2,z3,z4⟩:=cells5 gD;obtain⟨y0,y1,y2,y3,y4⟩:=yj gD;have gV:=ah (ah (ah (ah (ah (aC w6 (some w.heap.size)) 0 (.string jj)) 1 (.bool s6.bC)) 2 (.slice af s6.aL.length kf)) 3 (.slice ac s6.aY.length kc)) 4 (.slice ad s6.aT.length kd);have gJ:(((((w6.setCell ⟨w.heap.size,0,none⟩ (.string jj)).setCell ⟨w.heap.size,1,none⟩ (.bool s6.bC)).setCell ⟨w.heap.size,2,none⟩ (.slice af s6.aL.length kf)).setCell ⟨w.heap.size,3,none⟩ (.slice ac s6.aY.length kc)).setCell ⟨w.heap.size,4,none⟩ (.slice ad s6.aT.length kd)).heap[w.heap.size]?=some (.cells #[.string jj,.bool s6.bC,.slice af s6.aL.length kf,.slice ac s6.aY.length kc,.slice ad s6.aT.length kd] 52):=by
  simp[World.setCell,Array.getElem?_modify,gD]
 have r1:=r1.kept gV (.inr (aB r1 gD (λc e=>(by cases e))));have r2:=r2.kept gV (.inr (aB r2 gD (λc e=>(by cases e))));have r3:=r3.kept gV (.inr (aB r3 gD (λc e=>(by cases e))));have m7:=m6.kept λk hk=>gV.block k (m6.lt hk) (λe=>kR (by cases e;exact hk));have pW:=aW M4 gV (λi hi e=>by cases e;omega);have kI:=λk hk=>(nR k hk).imp_right λh=>(⟨h.1,fZ h.2 gV.size⟩:w.heap.size<=k∧_);clear m6 gV M4 gD nR;go_wp2_with fail;generalize World.setCell _ _ _=W7 at gJ r1 r2 r3 m7 pW kI ⊢;obtain⟨p0,p1,p2,p3,p4⟩:=cells5 gJ;obtain⟨c0,f0⟩:=m7.Ji;rw[EF]at c0;refine leaves_cons (f:=50) (args:=#[.pointer (some ⟨N,0,none⟩)]) (by simp) (by simp[go_sem]) ?_;refine(unlock_deferred l_ ⟨N,0,none⟩ .returning W7 c0 f0).mono ?_;rintro e u' w'' ⟨rfl,rfl,rfl⟩;obtain⟨m8,jN⟩:=m7.kV 0;have BO:N≠w.heap.size:=λe=>kR (by rw[<-e];exact .inl (.inl rfl));have h_:=(jN.block w.heap.size (aG gJ) (λe=>by cases e;exact BO rfl)).trans gJ;have r1:=r1.kept jN (.inr (aB r1 m7.cr.nd (λc e=>(by cases e))));have r2:=r2.kept jN (.inr (aB r2 m7.cr.nd (λc e=>(by cases e))));have r3:=r3.kept jN (.inr (aB r3 m7.cr.nd (λc e=>(by cases e))));have xZ:=aW pW jN (λi hi e=>by cases e;exact .inl (.inl rfl));have nQ:=λk hk=>(kI k hk).imp_right λh=>(⟨h.1,fZ h.2 jN.size⟩:w.heap.size<=k∧_);clear p0 p1 p2 p3 p4 c0 f0 jN m7 pW kI gJ;generalize World.setCell _ _ _=W8 at h_ r1 r2 r3 m8 xZ nQ ⊢;obtain⟨p0,p1,p2,p3,p4⟩:=cells5 h_;refine⟨.agg #[.string jj,.bool s6.bC,.slice af s6.aL.length kf,.slice ac s6.aY.length kc,.slice ad s6.aT.length kd],by simp[results,Tryz.results25,go_sem,p0,p1,p2,p3,p4],_,rfl,?_⟩;rw[jU.out];refine⟨M_,_,QC,.slice af s6.aL.length kf,.slice ac s6.aY.length kc,.slice ad s6.aT.length kd,?_,m8,XV.out,r1,r2,r3,xZ,nQ⟩;rw[<-hjj.out];rfl
variable{m:aS}{W:World}
theorem Fg{y:MG}{W':World}(h:MM y m W){κ:Int}{q q':Nat}(hok:iT κ q m){i:Nat}{x:SG}{s:bJ}{z z':St}{o:Value}(h1:y.L[i]?=some x)(h2:m.S[i]?=some s)(hz:s.nd=some z)(c:BH x.N x.g z z' W o W')(hI:z'.Inv (κ+1))(hp:z'.Pos)(hme:z'.me=z.me)(fK:z'.now=m.now)(hq:q<=q')(hql:z'.Q.length<=q')(hc:Lc z.cnt z'):
  ∃aK bP bQ y2,o=iY z'.bn z'.bC aK bP bQ∧iG W.heap.size z'.aL z'.aY z'.aT aK bP bQ W'∧MM y2 (m.put i {s with nd:=some z'}) W'∧MU y m y2 (m.put i {s with nd:=some z'}) W W'∧Cq (κ+1) q' (m.put i {s with nd:=some z'}) i z':=by
 obtain⟨aK,bP,bQ,e,hor,y2,hm2,hu2⟩:=h.call h1 h2 hz c;have hi:=(eB.1 h2).1;have hS:(m.put i {s with nd:=some z'}).S[i]?=some {s with nd:=some z'}:=by rw[(ic _ _ _).1,List.getElem?_set_self hi]
 obtain⟨x2,hx2⟩:∃x2,y2.L[i]?=some x2:=⟨_,cZ (by rw[hm2.len,(ic _ _ _).1,List.length_set];exact hi)⟩;obtain⟨nn,_⟩:=(hm2.st i x2 _ hx2 hS).nd z' rfl;exact⟨aK,bP,bQ,y2,e,hor,hm2,hu2,hok.called (by omega) hq h2 hz hc ⟨hI,hp,hme.trans ((hok.at h2).nd z hz).me,by rw[fK];exact eY _,hql,nn.cr.tb.ok,nn.cr.tb.len⟩⟩
theorem Nn.NU{N:Nat}{g:bI}{s:St}{TL:List Hp.Tm}(n:Nn N g s TL W):mg s:=λq hq=>⟨(n.rs.sr.ok q hq).txt,(n.rs.sr.ok q hq).ttl⟩
theorem Be{i:Nat}{s:bJ}(h:m.S[i]?=some s)(z:St):m.act i z=(m.put i {s with nd:=some z}).did i z.ot:=by
 unfold aS.act;rw[eX h]
theorem UB(s:ByteArray)(hs:s.size<=65536)(w:World):∃cap W,(convert 9 58 (.string s)).run Tryz.prog w=.ok (.slice (some ⟨w.heap.size,0,none⟩) s.size cap) W∧Below w.heap.size w W∧VB W (.slice (some ⟨w.heap.size,0,none⟩) s.size cap) (aI s):=by
 refine⟨_,_,run_bytes_of_string (P:=Tryz.prog) w 9 58 5 s Tryz.underlying9 Tryz.underlying58 Tryz.underlying5,(aV w.heap.size w).drew.alloc (aD _) _,Ri s hs w _,λb o n c hv=> ?_⟩;simp only[Value.slice.injEq,Option.some.injEq,Addr.mk.injEq,and_true]at hv;obtain⟨⟨rfl,rfl⟩,_⟩:=hv;exact⟨_,_,bS w.drew _⟩
theorem FZ{x:SG}{s:bJ}{W:World}(h:mZ x s W)(b:Nat)(hb:b<6)(on:Bool):nJ x s {s with hrs:=s.hrs.set b on} W (W.setCell ⟨x.B,3+b,none⟩ (.bool on)):=by
 have hl:=h.hl;refine h.set (x':=x) (s':={s with hrs:=s.hrs.set b on}) (3+b) (.bool on) rfl ?_ (by rw[List.length_set];exact hl) ⟨rfl,rfl⟩ (λz hz=>⟨hz,rfl,rfl,rfl⟩);have hbl:b<s.hrs.length:=by omega
 simp[FL,List.set_append,List.map_set,hl,Nat.add_comm 3 b];omega
theorem acp{y:MG}{m:aS}{w:World}(h:MM y m w)(a b:Nat)(ha:a<m.S.length)(hb:b<m.S.length)(hn:m.S.length<=6)(on:Bool):Calls Tryz.prog 29 #[.pointer (some ⟨y.G,0,none⟩),.int .i64 a,.int .i64 b,.bool on] w λe w'=>e=.returned (.tuple #[])∧MP y m (m.link a b on) w w':=by
 by_cases hab:a=b
 ·subst hab;have ho:m.link a a on=m:=by unfold aS.link;rw[aQ rfl]
  have hfin:MP y m (m.link a a on) w w:=by rw[ho];exact MP.refl h
  clear h ho;go_enter Tryz.func29,Tryz.ntmps29;go_wp2;go_returns;exact⟨rfl,hfin⟩
 ·obtain⟨xa,sa,g,c,e1,e2,e3,e4,p0⟩:=h.get ha;obtain⟨_,q1,_,_⟩:=h.cell;rw[e4]at q1;have hab':((a:Int)==(b:Int))=false:=by
   have:¬(a:Int)=(b:Int):=by omega
   simpa using this
  have han:(a:Int)<(m.S.length:Int):=by omega
  have hbn:(b:Int)<(m.S.length:Int):=by omega
  have ha6:(a:Int)<6:=by omega
  have hb6:(b:Int)<6:=by omega
  obtain⟨_,_,_,_,_,hh,fz⟩:=(h.st a xa sa e1 e2).cell;have hhl:=(h.st a xa sa e1 e2).hl;have k0:=hh b _ (cZ (by omega));have k1:=fz (3+b);obtain⟨y1,hm1,hu1⟩:=h.Z8 e1 e2 (FZ (h.st a xa sa e1 e2) b (by omega) on);obtain⟨m1,XP⟩:∃m1,m.put a {sa with hrs:=sa.hrs.set b on}=m1:=⟨_,rfl⟩;have hS1:m1.S.length=m.S.length:=by rw[<-XP,(ic _ _ _).1,List.length_set]
  have hl:m.link a b on=m1.put b {m1.at' b with hrs:=(m1.at' b).hrs.set a on}:=by
   unfold aS.link;rw[aM hab,e3,XP]
  rw[XP]at hm1 hu1;obtain⟨xb,sb,g',c',f1,f2,f3,f4,p1⟩:=hm1.get (i:=b) (by rw[hS1];exact hb);obtain⟨_,r1,_,_⟩:=hm1.cell;obtain⟨_,_,_,_,_,hh',fz'⟩:=(hm1.st b xb sb f1 f2).cell;have agx:=(hm1.st b xb sb f1 f2).hl;have k2:=hh' a _ (cZ (by omega));have k3:=fz' (3+a);have hp2:=hm1.Z8 f1 f2 (FZ (hm1.st b xb sb f1 f2) a (by omega) on);rw[f4,hS1]at r1;rw[hu1.G]at r1;have hfin:MP y m (m.link a b on) w ((w.setCell ⟨xa.B,3+b,none⟩ (.bool on)).setCell ⟨xb.B,3+a,none⟩ (.bool on)):=by
   rw[hl,f3];exact MP.comp hu1 hp2
  generalize sa.hrs[b]=v0 at k0;generalize sb.hrs[a]=v1 at k2;clear h hm1 hu1 hp2 hl XP e1 e2 e3 e4 f1 f2 f3 f4 hh hh' fz fz' hab;go_enter Tryz.func29,Tryz.ntmps29;go_wp2;go_returns;exact⟨rfl,hfin⟩
variable{w:World}
theorem oo.at9{base:Nat}{v:Value}{L:List (Rt×Value)}{W W':World}(h:oo base v L W)(he:∀(k:Nat) (c:Array Value) (t:Nat),t∈([38,34]:List Nat)->base<=k->W.heap[k]?=some (Obj.cells c t (0,0))->W'.heap[k]?=W.heap[k]?):oo base v L W':=
 ⟨bK h.row λk hk=>by
  obtain⟨c,hc⟩:=aR h.row hk;exact he k c 38 (by decide) (h.row.lt k hk).1 hc,λp hp=>bK (h.bH p hp) λk hk=>by
  obtain⟨c,hc⟩:=aR (h.bH p hp) hk;exact he k c 34 (by decide) ((h.bH p hp).lt k hk).1 hc⟩
theorem Vh{N:Nat}{g:bI}{s:St}{TL:List Hp.Tm}(n:Nn N g s TL w)(hlk:s.lk=0):
  Calls Tryz.prog 26 #[.pointer (some ⟨N,0,none⟩)] w λe w'=>∃v L,e=.returned v∧L.map (·.1)=s.A∧oo w.heap.size v L w'∧Nn N g s TL w'∧Fx (Ft N g s) w w':=by
 obtain⟨c0,g0⟩:=n.Ji;rw[hlk]at c0;obtain⟨n2,hg2⟩:=n.kV 1;have hf2:Fx (Ft N g s) w (w.setCell ⟨N,0,none⟩ (.int .i32 1)):=Fx.grown hg2 λk e=>by cases e;exact .inl (.inl rfl)
 have hsz:(w.setCell ⟨N,0,none⟩ (.int .i32 1)).heap.size=w.heap.size:=by simp
 have h0:g.x.lk=0:=n.eq.lk.trans hlk;have hx:({g with x:={g.x with lk:=0}}:bI)=g:=by rw[<-h0]
 have hs0:({s with lk:=0}:St)=s:=by rw[<-hlk]
 have hNl:=n.lt (.inl (.inl rfl));clear hg2
 go_enter_defers Tryz.func26,Tryz.ntmps26
 go_wp2_with fail;refine aU (lock_free l_ ⟨N,0,none⟩ w c0 g0) ?_;rintro e w2 ⟨rfl,rfl⟩;generalize World.setCell _ _ _=W2 at n2 hf2 hsz ⊢;have c5:=n2.cr.nd.cell.2.2.2.2.1;dsimp only at c5;go_wp2_with fail;refine aU (I9 n2.cr.tb) ?_;rintro e w3 ⟨v,L,rfl,hL,hls,hb3⟩;obtain⟨ao,c,rfl,hH⟩:=ak hls.row;have n3:=n2.later hb3;obtain⟨u0,g2⟩:=n3.Ji;obtain⟨n4,hg4⟩:=n3.kV 0;have hf4:Fx (Ft N g s) w (w3.setCell ⟨N,0,none⟩ (.int .i32 0)):=aW (hf2.trans (Fx.below (S:=λ_=>False) hb3) (λ_ _ h=>h.elim)) hg4 (λi _ e=>by cases e;exact .inl (.inl rfl));have afb:oo w.heap.size (.slice ao L.length c) L (w3.setCell ⟨N,0,none⟩ (.int .i32 0)):=by
  rw[<-hsz];exact hls.at9 λk cc t ht hk hc=>hg4.block k (aG hc) λe=>by
   cases e;have:=n2.cr.nd;rw[hsz]at hk;omega
 have n5:Nn N g s TL (w3.setCell ⟨N,0,none⟩ (.int .i32 0)):=by
  have h:=n4;rw[show({({g with x:={g.x with lk:=1}}:bI)with x:={({g with x:={g.x with lk:=1}}:bI).x with lk:=0}}:bI)={g with x:={g.x with lk:=0}}from rfl,hx]at h;rw[show({({s with lk:=1}:St)with lk:=0}:St)={s with lk:=0}from rfl,hs0]at h;exact h
 dsimp only at u0;clear n2 n3 n4 hls hg4 hf2 hH;go_wp2_with fail;refine leaves_cons (f:=50) (args:=#[.pointer (some ⟨N,0,none⟩)]) (by simp) (by simp[go_sem]) ?_;refine(unlock_deferred l_ ⟨N,0,none⟩ .returning w3 u0 g2).mono ?_;rintro e u' w'' ⟨rfl,rfl,rfl⟩;exact⟨_,results_tmp rfl _ _ _,.slice ao L.length c,L,rfl,hL,afb,n5,hf4⟩
theorem Dz{y:MG}{m:aS}(h:MM y m w)(k:Nat)(hk:k<m.S.length)(hlk:∀z,(m.at' k).nd=some z->z.lk=0):Calls Tryz.prog 12 #[.pointer (some ⟨y.G,0,none⟩),.int .i64 k] w λe w'=>∃v L,e=.returned v∧L.map (·.1)=m.tab k∧oo w.heap.size v L w'∧MM y m w'∧MU y m y m w w':=by
 obtain⟨x,s,g,c,e1,e2,e3,e4,p0⟩:=h.get hk;obtain⟨_,q1,_,_⟩:=h.cell;rw[e4]at q1;have c2:=(h.st k x s e1 e2).cell.2.2.1;have HR:=hide (FB h k);have hkn:(k:Int)<(m.S.length:Int):=by omega
 have hrun:m.runs k=s.nd.isSome:=by
  unfold aS.runs aS.has;simp[hk,e3]
 rw[hrun]at HR;rw[e3]at hlk;have htab:m.tab k=match s.nd with|none=> []|some z=>z.A:=by
  unfold aS.tab;rw[e3];cases s.nd<;>rfl
 rw[htab];cases hnd:s.nd with
 |none=>
  rw[hnd]at HR;simp only[Option.isSome_none]at HR;have hfin:=h;clear h e1 e2 e3 e4 hrun q1 c2 p0;go_enter Tryz.func12,Tryz.ntmps12;go_wp2_with fail;refine aU HR.out ?_;rintro e w2 ⟨rfl,rfl⟩;go_wp2;go_ret;exact⟨_,[],rfl,rfl,⟨⟨rfl,.inl ⟨rfl,rfl⟩⟩,λp hp=>by cases hp⟩,hfin,MU.refl _ _ _⟩
 |some z=>
  rw[hnd]at HR c2;simp only[Option.isSome_some]at HR;unfold MC at c2;obtain⟨nn,tm⟩:=(h.st k x s e1 e2).nd z hnd;have HN:=Vh nn (hlk z hnd);have HN2:Hid (Calls Tryz.prog 26 #[.pointer (some ⟨x.N,0,none⟩)] w λe w'=>∃v L,e=.returned v∧L.map (·.1)=z.A∧oo w.heap.size v L w'∧MM y m w'∧MU y m y m w w'):=by
   refine HN.mono ?_;rintro e w' ⟨v,L,rfl,hL,hls,n2,fx⟩;have hst:=h.st k x s e1 e2;have hB:¬Ft x.N x.g z x.B:=λhk=>by
    obtain⟨o,ho,hK⟩:=nn.kind hk;rw[hst.blk]at ho;cases ho;exact hK.not (by decide)
   have hJ:∀k,x.jv.ownBlock=some k->¬Ft x.N x.g z k:=λk hk hf=>by
    obtain⟨o,ho,hK⟩:=nn.kind hf;obtain⟨cc,hc⟩:=aR hst.row hk;rw[hc]at ho;cases ho;exact hK.not (by decide)
   have hst':mZ x s w':=⟨(fx.block _ (aG hst.blk) hB).trans hst.blk,hst.hl,bK hst.row λk hk=>fx.block k (hst.row.lt k hk).2 (hJ k hk),λu hu=>by
    rw[hnd]at hu;cases hu;exact⟨n2,tm⟩⟩
   have hmp:=h.turn e1 e2 (fx.mono λk hk=> .inr (.inr ⟨z,hnd,hk⟩)) hst' rfl λk hk=> .inl hk;have h5:m.S.set k s=m.S:=by
    obtain⟨h5,h6⟩:=eB.1 e2;rw[<-h6];exact List.set_getElem_self h5
   have h6:y.L.set k x=y.L:=by
    obtain⟨h5,h6⟩:=eB.1 e1;rw[<-h6];exact List.set_getElem_self h5
   rw[h5,h6]at hmp;exact⟨v,L,rfl,hL,hls,hmp.1,hmp.2⟩
  clear h e1 e2 e3 e4 hrun HN nn tm;go_enter Tryz.func12,Tryz.ntmps12;go_wp2_with fail;refine aU HR.out ?_;rintro e w2 ⟨rfl,rfl⟩;go_wp2_with fail;refine aU HN2.out ?_;rintro e w3 ⟨v,L,rfl,hL,hls,hp,hu⟩;clear HN2 HR;go_wp2;go_ret;exact⟨v,L,rfl,hL,hls,hp,hu⟩
end Go.Proofs.YtakaadcpaeiccabGreat
