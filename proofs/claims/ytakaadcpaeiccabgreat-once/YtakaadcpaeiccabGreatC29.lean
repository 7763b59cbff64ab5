import Derived.Test.YtakaadcpaeiccabGreatC28
set_option maxHeartbeats 8000000
set_option maxRecDepth 100000
namespace Go.Proofs.YtakaadcpaeiccabGreat
open Go.RowKit Go.Maps
variable{B N:Nat}{s:St}{w:World}
theorem I7(w:World):
  Calls Tryz.prog 94 #[] w λe w'=>e=.returned (.agg #[.nilFunc,.func (.func 130) #[] #[],.func (.func 131) #[] #[],.func (.func 132) #[] #[],.nilFunc,.nilFunc,.nilFunc,.nilFunc,.nilFunc,.func (.func 133) #[] #[]])∧Below w.heap.size w w':=by
 go_enter Tryz.func94,Tryz.ntmps94;go_wp2;go_returns;exact⟨rfl,bC⟩
theorem EA(s:St)(t:Int)(p:aD)(ao:Option Addr)(c:Nat)(L:List (Int×Int)):s.send t {p with la:=ao,lc:=c} L=s.send t p L:=by
 unfold St.send;rw[NQ]
theorem Vh(s:St)(p:aD)(ao:Option Addr)(c:Nat):s.askOn {p with la:=ao,lc:=c}=s.askOn p:=by
 unfold St.askOn;dsimp only;exact EA s 0 {p with ttl:=p.ttl - 1,hops:=St.far p.hops,aX:=if (aK s.A p.dest).isSome then max p.aX (eT s.A p.dest)else p.aX,unk:=if (aK s.A p.dest).isSome then false else p.unk} ao c []
theorem Vg(s:St)(p:aD)(ao:Option Addr)(c:Nat):s.asked {p with la:=ao,lc:=c}=s.asked p:=by
 unfold St.asked;dsimp only;rw[Vh];rfl
theorem Tv(s:St)(fr:Int)(p:aD)(ao:Option Addr)(c:Nat):s.learn fr {p with la:=ao,lc:=c}=s.learn fr p:=by
 simp only[St.learn,Vg]
theorem Bo(s:St)(fr:Int)(p:aD)(ao:Option Addr)(c:Nat):s.bV fr {p with la:=ao,lc:=c}=s.bV fr p:=by
 unfold St.bV;dsimp only;rw[Tv];try rfl
theorem Kn(s:St)(fr:Int)(p:aD)(ao:Option Addr)(c:Nat):s.iD fr {p with la:=ao,lc:=c}=s.iD fr p:=by
 unfold St.iD;dsimp only;split
 ·exact EA _ _ {p with ttl:=p.ttl - 1,hops:=St.far p.hops} ao c []
 ·rfl
theorem Fw(s:St)(fr:Int)(p:aD)(ao:Option Addr)(c:Nat):s.dN fr {p with la:=ao,lc:=c}=s.dN fr p:=by
 unfold St.dN;dsimp only;rw[Kn];try rfl
theorem I8(s:St)(fr:Int)(p:aD)(ao:Option Addr)(c:Nat):s.dU fr {p with la:=ao,lc:=c}=s.dU fr p:=by
 unfold St.dU;dsimp only;split
 ·rfl
 ·split
  ·rfl
  ·split
   ·exact EA _ _ {p with ttl:=p.ttl - 1} ao c []
   ·rfl
theorem KS(s:St)(fr:Int)(p:aD)(ao:Option Addr)(c:Nat)(L:List (Int×Int)):s.gF fr {p with la:=ao,lc:=c} L=s.gF fr p L:=by
 unfold St.gF;dsimp only;rw[Bo,Fw,I8];rfl
theorem Gc{g:bI}{TL:List Hp.Tm}(n:Nd N B g s TL w)(fr:Int)(p:aD)(hp:p.Wf)(fK:0<=s.now∧s.now<=4611686018427387904)(hfl:s.aI.length<=1000000)(hdl:s.aQ.length<=1000000):
  Calls Tryz.prog 93 #[.pointer (some ⟨N,0,none⟩),.pointer (some ⟨B,0,none⟩),.int .u32 fr,p.val] w λe w'=>e=.returned (.tuple #[])∧lV N B g s (s.dA fr p) TL w w':=by
 obtain⟨_,hde,_,_,_,_⟩:=hp.num;have hb0:Below w.heap.size w (w.alloc p.box):=bC;have gX:=PB.new p w;have n0:=n.later hb0;have kK:¬Ft N g s w.heap.size:=n.new (aB _);obtain⟨s2,dB⟩:∃s2,s.dA fr p=s2:=⟨_,rfl⟩;rw[dB];replace dB:=hide dB;have HX:=hide (jA n0 8 hdl);dsimp only[aD.box]at hb0 n0 HX;unfold PB at gX;dsimp only[aD.box]at gX;go_enter Tryz.func93,Tryz.ntmps93;go_upto_region 1 with(fail);generalize World.alloc _ _=W1 at hb0 gX n0 HX ⊢;generalize lZ:w.heap.size=C at gX kK ⊢;replace lZ:=hide lZ;go_wp2_with fail;refine aT HX.out ?_;rintro e w2 ⟨rfl,g2,n2,u2,t2⟩;obtain⟨hP2,Ja⟩:=u2.kF gX kK;obtain⟨s1,hs1⟩:∃z,s.drop 8=z:=⟨_,rfl⟩;have h1:Hid (s1.me=s.me∧s1.now=s.now∧s1.aI=s.aI∧s1.A=s.A):=by
  show _∧_;rw[<-hs1];exact⟨rfl,rfl,rfl,rfl⟩
 have hs2:Hid ((if p.kind=9∧p.dest≠s1.me then {s1.kE fr p.dest with cZ:=s1.now+2000}else s1)=s2):=by
  rw[<-hs1];have:=dB.out;unfold St.dA at this;exact this
 rw[hs1]at n2 u2 Ja;have JR:=(Up.below hb0:Up B (Ft N g s) (Ft N g s) w W1).trans u2;have Ny:0<=s1.now∧s1.now<=4611686018427387904:=by rw[h1.out.2.1];exact fK
 have Bn:s1.aI.length<=1000000:=by rw[h1.out.2.2.1];exact hfl
 clear hs1 dB HX hb0 n0 u2 gX kK;obtain⟨c2,c3,c4,c7,c0⟩:=n2.cell;obtain⟨p0,p1,p2,p3,p4,p5,p6,p7,p8,p9,jK,jE⟩:=PB.cell hP2;have hq:∀q,Below w2.heap.size w2 (w2.drewN q):=λq=>below_drewN (aU _ _) q;by_cases hk:p.kind=9∧p.dest≠s1.me
 ·replace hs2:=hide ((aM hk).symm.trans hs2.out);obtain⟨hk9,hkd⟩:=hk;have b9:(p.kind==9)=true:=by simpa using hk9
  have bd:(p.dest !=s1.me)=true:=by simpa using hkd
  clear hk9 hkd;go_wp2_with fail;go_quiet (fail);generalize hg:World.drewN _ _=W3;obtain⟨n3,hP3,hb3⟩:=(show ∀q w3,w2.drewN q=w3->Nd N B g2 s1 TL w3∧PB p C w3∧Below w2.heap.size w2 w3 from by
   rintro q _ rfl;exact⟨n2.later (hq q),PB.below hP2 (hq q),hq q⟩) _ _ hg
  have Q7:=JR.trans (.below hb3:Up B (Ft N g2 s1) (Ft N g2 s1) w2 W3);clear hg n2 hP2 c2 c3 c4 c7 c0 p0 p1 p2 p3 p4 p5 p6 p7 p8 p9 jK jE hq JR hb3 b9 bd;obtain⟨p0,p1,p2,p3,p4,p5,p6,p7,p8,p9,jK,jE⟩:=PB.cell hP3;have HL:=hide (Ej n3 fr p.dest hde Bn);go_wp2_with fail;refine aT HL.out ?_;rintro e w4 ⟨rfl,g4,n4,u4,t4⟩;obtain⟨s3,hs3⟩:∃z,s1.kE fr p.dest=z:=⟨_,rfl⟩;have h3:Hid (s3.now=s1.now∧ {s3 with cZ:=s1.now+2000}=s2):=by
   show _∧_;rw[<-hs3];exact⟨rfl,hs2.out⟩
  rw[hs3]at n4 u4;have qf:=Q7.trans u4;have tt:Hid (g4.x.T=g.x.T):=t4.out.trans t2.out;clear hs3 hs2 HL u4 Q7 n3 hP3 p0 p1 p2 p3 p4 p5 p6 p7 p8 p9 jK jE;obtain⟨c2,c3,c4,c7,c0⟩:=n4.cell;rw[h3.out.1]at c0;have f4:=n4.nn.cr.nd.free 4;have hg1:w4.grownBy (w4.setCell ⟨N,4,none⟩ (.int .u64 (s1.now+2000))) (some N):=ah (aC _ (some N)) 4 _;obtain⟨e1,e2,e3,e4,e5,e6,e7,e8,e9⟩:=n4.nn.eq;obtain⟨n5,u5⟩:=n4.cells (s':={s3 with cZ:=s1.now+2000}) (n4.nn.cr.nd.RF (s1.now+2000)) (Fx.grown hg1 λk e=>by cases e;rfl) ⟨e1,e2,rfl,e4,e5,e6,e7,e8,e9⟩ ⟨rfl,rfl,rfl,rfl,rfl,rfl⟩ ⟨rfl,rfl,rfl,rfl,rfl,rfl,rfl,rfl,rfl⟩ ⟨rfl,rfl,rfl,rfl,rfl⟩;rw[h3.out.2]at n5 u5;have hw:IntKind.u64.wrap (s1.now+2000)=s1.now+2000:=mK Ny (by omega);have hfin:Hid (lV N B g s s2 TL w (w4.setCell ⟨N,4,none⟩ (.int .u64 (s1.now+2000)))):=⟨_,n5,qf.trans u5,tt.out⟩;clear n4 n5 u5 qf hg1 e1 e2 e3 e4 e5 e6 e7 e8 e9 h3;go_wp2;go_returns;first
   |exact⟨rfl,hfin.out⟩
   |(rw[hw];exact⟨rfl,hfin.out⟩)
 ·replace hs2:=hide ((aH hk).symm.trans hs2.out);have hk':p.kind≠9∨(p.kind=9∧p.dest=s1.me):=by
   by_cases h9:p.kind=9
   ·exact .inr ⟨h9,Classical.byContradiction λh=>hk ⟨h9,h⟩⟩
   ·exact .inl h9
  clear hk;have hfin:Hid (∀w3,Below w2.heap.size w2 w3->lV N B g s s2 TL w w3):=by
   intro w3 hb;rw[<-hs2.out];exact⟨g2,n2.later hb,JR.trans (.below hb),t2⟩
  have hq:=hide hq;clear hs2 hP2 n2;rcases hk' with h9|⟨h9,hd⟩
  ·have b9:(p.kind==9)=false:=by simpa using h9
   clear h9;go_wp2_with fail;go_quiet (fail);go_wp2;go_returns;exact⟨rfl,hfin.out _ (hq.out _)⟩
  ·have b9:(p.kind==9)=true:=by simpa using h9
   have bd:(p.dest !=s1.me)=false:=by simpa using hd
   clear h9 hd;go_wp2_with fail;go_quiet (fail);go_wp2;go_returns;exact⟨rfl,hfin.out _ (hq.out _)⟩
def Wl(N B:Nat)(g:bI)(s s2:St)(TL:List Hp.Tm)(w w':World):Prop:=∃dW,lV N B g s s2 dW w w'∧∃d,Ze d s TL s2 dW
theorem Wl.of{g:bI}{s2:St}{TL:List Hp.Tm}{w':World}(h:lV N B g s s2 TL w w')(hQ:s2.Q=s.Q):Wl N B g s s2 TL w w':=⟨TL,h,0,.inl ⟨rfl,hQ⟩⟩
theorem Y_(s:St)(p:aD):(s.asked p).Q=s.Q:=by
 unfold St.asked St.iG St.gK;split
 ·exact wz _ _
 ·split
  ·exact wz _ _
  ·split<;>rfl
theorem aey(s:St)(fr:Int)(p:aD):(s.learn fr p).Q=s.Q:=by
 unfold St.learn;split
 ·rfl
 ·split<;>exact Y_ _ _
theorem KT(s:St)(fr:Int)(L:List (Int×Int)):(s.fC fr L).Q=s.Q:=by
 unfold St.fC;dsimp only;split<;>rfl
theorem KU(s:St)(fr:Int)(p:aD):(s.dU fr p).Q=s.Q:=by
 unfold St.dU;split
 ·rfl
 ·split
  ·rfl
  ·split<;>rfl
theorem Fv(s:St)(fr:Int)(p:aD):(s.dA fr p).Q=s.Q:=by
 unfold St.dA;split<;>rfl
theorem Xp{x0 x1 x2 x3 x4:Int}{r:List Int}(ao:Option Addr)(c:Nat)(hb:∀x∈x0::x1::x2::x3::x4::r,0<=x∧x<=255)(hF:qB (x0::x1::x2::x3::x4::r)=true):
  ({iY x0 x1 x2 x4 r with la:=ao,lc:=c}:aD).Hd∧(x1=1∨x1=2∨x1=3∨x1=9)∧(iY x0 x1 x2 x4 r).kind=x1:=by
 have h1:=Xx (x2:=x2) (λy hy=>hb y (by simp[hy])) (hb x0 (by simp)) (hb x1 (by simp)) (hb x4 (by simp)) (r:=r);have hg:(iY x0 x1 x2 x4 r).eZ=true:=by
  simp only[qB,eF]at hF;exact hF.2
 obtain⟨_,t0,t1,q0,q1,_,hk⟩:=eY hg;have hkk:(iY x0 x1 x2 x4 r).kind=x1:=by
  unfold iY;split
  ·rename_i h;exact h.symm
  split
  ·rename_i h;exact h.symm
  split
  ·rename_i h;exact h.symm
  split
  ·rename_i h;exact h.symm
  ·rfl
 refine⟨⟨⟨h1.1,h1.2,h1.3,h1.4,h1.5,h1.6,h1.7,h1.8,h1.9,h1.10,h1.11,h1.12,h1.13,h1.14,h1.15,h1.16,h1.17,h1.18,h1.19,h1.20⟩,⟨t0,t1⟩,⟨q0,q1⟩⟩,?_,hkk⟩;rw[hkk]at hk;rcases hk with h|h|h|⟨h,_⟩
 ·exact .inl h
 ·exact .inr (.inl h)
 ·exact .inr (.inr (.inr h))
 ·exact .inr (.inr (.inl h))
theorem WR(w:World):(Instr.index 199 (.agg #[.nilFunc,.func (.func 130) #[] #[],.func (.func 131) #[] #[],.func (.func 132) #[] #[],.nilFunc,.nilFunc,.nilFunc,.nilFunc,.nilFunc,.func (.func 133) #[] #[]]) (.int .i64 1)).run Tryz.prog w=.ok (.func (.func 130) #[] #[]) w:=by kernel_rfl
theorem WQ(w:World):(Instr.index 199 (.agg #[.nilFunc,.func (.func 130) #[] #[],.func (.func 131) #[] #[],.func (.func 132) #[] #[],.nilFunc,.nilFunc,.nilFunc,.nilFunc,.nilFunc,.func (.func 133) #[] #[]]) (.int .i64 2)).run Tryz.prog w=.ok (.func (.func 131) #[] #[]) w:=by kernel_rfl
theorem WO(w:World):(Instr.index 199 (.agg #[.nilFunc,.func (.func 130) #[] #[],.func (.func 131) #[] #[],.func (.func 132) #[] #[],.nilFunc,.nilFunc,.nilFunc,.nilFunc,.nilFunc,.func (.func 133) #[] #[]]) (.int .i64 3)).run Tryz.prog w=.ok (.func (.func 132) #[] #[]) w:=by kernel_rfl
theorem WN(w:World):(Instr.index 199 (.agg #[.nilFunc,.func (.func 130) #[] #[],.func (.func 131) #[] #[],.func (.func 132) #[] #[],.nilFunc,.nilFunc,.nilFunc,.nilFunc,.nilFunc,.func (.func 133) #[] #[]]) (.int .i64 9)).run Tryz.prog w=.ok (.func (.func 133) #[] #[]) w:=by kernel_rfl
theorem acB{g:bI}{TL:List Hp.Tm}(n:Nd N B g s TL w)(hF:s.QY)(htn:s.tn<=4000000000000000000)(htl:TL.length<=1000000)(fr:Int)(hfr:a_ fr)(v:Value)(xs:List Int)(hv:fe w v xs):
  Calls Tryz.prog 59 #[.pointer (some ⟨N,0,none⟩),.pointer (some ⟨B,0,none⟩),.int .u32 fr,v] w λe w'=>e=.returned (.tuple #[])∧Wl N B g s (s.hear fr xs) TL w w':=by
 have hby:=hv.1;have HD:=hide (LZ v xs w hv);clear hv;obtain⟨s2,dB⟩:∃s2,s.hear fr xs=s2:=⟨_,rfl⟩;rw[dB];replace dB:=hide dB;have hfl:s.aI.length<=900000:=hF.aI;have hdl:s.aQ.length<=900000:=hF.aQ;go_enter Tryz.func59,Tryz.ntmps59;go_wp2_with fail;refine aT HD.out ?_;rintro e w1 ⟨hb1,h⟩;have n1:=n.later hb1;clear HD;rcases h with⟨hFt,v1,rfl,x0,x1,x2,x3,x4,r,ao,c,hxs,hv1,hlen,hA,I5⟩|⟨hFt,rfl⟩
 ·subst hxs;obtain⟨hq,hk,hkk⟩:=Xp (ao:=ao) (c:=c) hby hFt;have hs2:Hid ((if fr=0∨fr=s.me then s.drop 0 else s.gF fr {iY x0 x1 x2 x4 r with la:=ao,lc:=c} (m_ x1 x4 r))=s2):=by
   show _=_;rw[<-dB.out,KS];unfold St.hear;rw[hFt];by_cases h:fr=0∨fr=s.me
   ·rw[aM h,aM (.inr h)]
   ·rw[aH h,aH (by rintro(h1|h1)<;>first|(cases h1;done)|exact h h1)];rfl
  have hL1:fI w1 {iY x0 x1 x2 x4 r with la:=ao,lc:=c} (m_ x1 x4 r):=⟨hlen,hA⟩;have hap:∀b,ao=some b->¬Ft N g s b.block:=λb hb=>n.new (I5 b hb);have hL0:x1≠3->m_ x1 x4 r=[]:=λh=>by unfold m_;rw[aH h]
  have hpk:({iY x0 x1 x2 x4 r with la:=ao,lc:=c}:aD).kind=x1:=hkk;have hpa:({iY x0 x1 x2 x4 r with la:=ao,lc:=c}:aD).la=ao:=rfl;generalize ({iY x0 x1 x2 x4 r with la:=ao,lc:=c}:aD)=p at hv1 hq hs2 hL1 hpk hpa;generalize m_ x1 x4 r=L at hs2 hL1 hL0;subst hv1 hpa;have hap:Gh N g s p.la:=hap;clear hby hFt hlen hA I5 dB hkk;rw[<-hpk]at hk hL0;clear hpk;have hp:=hq.wf;have hb2:Below w1.heap.size w1 (w1.alloc p.box):=bC;have hP2:=PB.new p w1;have n2:=n1.later hb2;have xO:=hb1.trans (hb2.mono hb1.size);have hL2:=hL1.below hb2;clear n1 hL1 hb2;dsimp only[aD.box]at n2 xO hL2;unfold PB at hP2;dsimp only[aD.box]at hP2;dsimp only[aD.val];go_upto_region 2 with(fail);generalize World.alloc _ _=W2 at hP2 n2 xO hL2 ⊢;generalize w1.heap.size=C at hP2 ⊢;obtain⟨c2,c3,c4,c7,c0⟩:=n2.cell;obtain⟨p0,p1,p2,p3,p4,p5,p6,p7,p8,p9,jK,jE⟩:=PB.cell hP2;by_cases hf:fr=0∨fr=s.me
  ·replace hs2:=hide ((aM hf).symm.trans hs2.out);have HX:=hide (jA n2 0 (by omega));rw[hs2.out]at HX;have hQ:Hid (s2.Q=s.Q):=by show _=_;rw[<-hs2.out];rfl
   have hfin:Hid (∀w9,lV N B g s s2 TL W2 w9->Wl N B g s s2 TL w w9):=λw9 h=> .of (h.pre xO) hQ.out;have hf':fr=0∨(¬fr=0∧fr=s.me):=by
    by_cases h:fr=0
    ·exact .inl h
    ·exact .inr ⟨h,hf.resolve_left h⟩
   clear hs2 hQ xO hf n2 hL2 hP2 hap;rcases hf' with h|⟨h,h'⟩
   ·have b0:(fr==0)=true:=by simpa using h
    clear h;go_wp2_with fail;refine aT HX.out ?_;rintro e w9 ⟨rfl,hN⟩;have I6:=hide (hfin.out _ hN);clear hN HX;go_wp2;go_returns;exact⟨rfl,I6.out⟩
   ·have b0:(fr==0)=false:=by simpa using h
    have b1:(fr==s.me)=true:=by simpa using h'
    clear h h';go_wp2_with fail;refine aT HX.out ?_;rintro e w9 ⟨rfl,hN⟩;have I6:=hide (hfin.out _ hN);clear hN HX;go_wp2;go_returns;exact⟨rfl,I6.out⟩
  ·replace hs2:=hide ((aH hf).symm.trans hs2.out);have b0:(fr==0)=false:=by
    have:¬fr=0:=λh=>hf (.inl h);simpa using this
   have b1:(fr==s.me)=false:=by
    have:¬fr=s.me:=λh=>hf (.inr h);simpa using this
   clear hf;go_wp2_with fail;by_cases zB:s.now<s.cZ
   ·have bs:decide (s.now<s.cZ)=true:=gu zB;have hs3:Hid (s.dA fr p=s2):=by
     show _=_;rw[<-hs2.out];unfold St.gF;rw[aM zB]
    have HX:Hid (∀W5,Below W2.heap.size W2 W5->Calls Tryz.prog 93 #[.pointer (some ⟨N,0,none⟩),.pointer (some ⟨B,0,none⟩),.int .u32 fr,p.val] W5 λe w'=>e=.returned (.tuple #[])∧Wl N B g s s2 TL w w'):=by
     intro W5 h5;refine(Gc (n2.later h5) fr p hp hF.now (by omega) (by omega)).mono ?_;rintro e w9 ⟨rfl,hN⟩;rw[hs3.out]at hN;exact⟨rfl,.of (hN.pre (xO.trans (h5.mono xO.size))) (by rw[<-hs3.out];exact Fv _ _ _)⟩
    dsimp only[aD.val]at HX;clear hs2 hs3 zB;go_quiet (fail);generalize hg:World.drewN _ _=W3;obtain⟨hP3,hb3⟩:=(show ∀q w3,W2.drewN q=w3->PB p C w3∧Below W2.heap.size W2 w3 from by
     rintro q _ rfl;have hbq:Below W2.heap.size W2 (W2.drewN q):=below_drewN (aU _ _) q;exact⟨PB.below hP2 hbq,hbq⟩) _ _ hg
    clear hg n2 hP2 c2 c3 c4 c7 c0 p0 p1 p2 p3 p4 p5 p6 p7 p8 p9 jK jE;obtain⟨p0,p1,p2,p3,p4,p5,p6,p7,p8,p9,jK,jE⟩:=PB.cell hP3;go_wp2_with fail;refine aT (HX.out _ hb3) ?_;rintro e w9 ⟨rfl,hN⟩;replace hN:=hide hN;clear HX hb3 hP3 p0 p1 p2 p3 p4 p5 p6 p7 p8 p9 jK jE;go_wp2;go_returns;exact⟨rfl,hN.out⟩
   ·have bs:decide (s.now<s.cZ)=false:=fD zB;go_quiet (fail);generalize hg:World.drewN _ _=W3;obtain⟨n3,hP3,hb3⟩:=(show ∀q w3,W2.drewN q=w3->Nd N B g s TL w3∧PB p C w3∧Below W2.heap.size W2 w3 from by
     rintro q _ rfl;have hbq:Below W2.heap.size W2 (W2.drewN q):=below_drewN (aU _ _) q;exact⟨n2.later hbq,PB.below hP2 hbq,hbq⟩) _ _ hg
    have hL3:=hL2.below hb3;have zC:=xO.trans (hb3.mono xO.size);clear hg n2 hP2 hL2 xO hb3 c2 c3 c4 c7 c0 p0 p1 p2 p3 p4 p5 p6 p7 p8 p9 jK jE bs b0 b1;have HH:Hid (∀W',Below W3.heap.size W3 W'->Calls Tryz.prog 94 #[] W' λe w5=>e=.returned (.agg #[.nilFunc,.func (.func 130) #[] #[],.func (.func 131) #[] #[],.func (.func 132) #[] #[],.nilFunc,.nilFunc,.nilFunc,.nilFunc,.nilFunc,.func (.func 133) #[] #[]])∧Below W3.heap.size W3 w5):=by
     intro W' h;refine(I7 W').mono ?_;rintro e w5 ⟨rfl,h5⟩;exact⟨rfl,h.trans (h5.mono h.size)⟩
    have Rk:Hid (∀W5,Below W3.heap.size W3 W5->W5.cell? ⟨C,0,none⟩=some (.int .i64 p.ttl)∧W5.cell? ⟨C,1,none⟩=some (.int .i64 p.kind)∧W5.cell? ⟨C,2,none⟩=some (.int .i64 p.hops)∧W5.cell? ⟨C,3,none⟩=some (.bool p.unk)∧W5.cell? ⟨C,4,none⟩=some (.int .u32 p.id)∧W5.cell? ⟨C,5,none⟩=some (.int .u32 p.dest)∧W5.cell? ⟨C,6,none⟩=some (.int .u32 p.aX)∧W5.cell? ⟨C,7,none⟩=some (.int .u32 p.aJ)∧W5.cell? ⟨C,8,none⟩=some (.int .u32 p.dw)∧W5.cell? ⟨C,9,none⟩=some (.int .u32 p.life)∧W5.cell? ⟨C,10,none⟩=some (.slice p.la p.ln p.lc)∧W5.cell? ⟨C,11,none⟩=some (.string p.pay)):=λW5 h5=>PB.cell (PB.below hP3 h5);rcases hk with hk|hk|hk|hk
    ·have hs3:Hid (s.bV fr p=s2):=by
      show _=_;rw[<-hs2.out];unfold St.gF;rw[aH zB,hk];rfl
     have HX:Hid (∀W5,Below W3.heap.size W3 W5->Calls Tryz.prog 130 #[.pointer (some ⟨N,0,none⟩),.pointer (some ⟨B,0,none⟩),.int .u32 fr,p.val] W5 λe w'=>e=.returned (.tuple #[])∧Wl N B g s s2 TL w w'):=by
      intro W5 h5;refine(Dc (n3.later h5) hF htn fr hfr p hq (by have:=hL3.below h5;rwa [hL0 (by omega)]at this)).mono ?_;rintro e w9 ⟨rfl,hN⟩;rw[hs3.out]at hN;exact⟨rfl,.of (hN.pre (zC.trans (h5.mono zC.size))) (by rw[<-hs3.out];exact nX _ _ _)⟩
     have hix:=WR;dsimp only[aD.val]at HX;rw[hk]at Rk HX;clear hs2 hs3 zB hL3 hL0 hap n3 hP3 hq hp hk zC;obtain⟨p0,p1,p2,p3,p4,p5,p6,p7,p8,p9,jK,jE⟩:=Rk.out _ (aU _ _);go_wp2_with fail;go_region_law (first
      |(go_simp;go_at_call 94;refine(HH.out _ (by first|exact aU _ _|exact(aU _ _).drew|exact below_drewN (aU _ _) _)).mono ?_;rintro e w5 ⟨rfl,hb5⟩;obtain⟨q0,q1,q2,q3,q4,q5,q6,q7,q8,q9,q10,q11⟩:=Rk.out _ hb5)
      |(go_simp;go_at_call 130;refine(HX.out _ (by first|exact hb5|exact hb5.drew|exact below_drewN hb5 _)).mono ?_;rintro e w9 ⟨rfl,hN⟩;replace hN:=hide hN))
     all_goals
      go_wp2;go_returns;exact⟨rfl,hN.out⟩
    ·have hs3:Hid (s.dN fr p=s2):=by
      show _=_;rw[<-hs2.out];unfold St.gF;rw[aH zB,hk];rfl
     have HX:Hid (∀W5,Below W3.heap.size W3 W5->Calls Tryz.prog 131 #[.pointer (some ⟨N,0,none⟩),.pointer (some ⟨B,0,none⟩),.int .u32 fr,p.val] W5 λe w'=>e=.returned (.tuple #[])∧Wl N B g s s2 TL w w'):=by
      intro W5 h5;refine(JJ (n3.later h5) fr hfr p hq (by have:=hL3.below h5;rwa [hL0 (by omega)]at this) hF.me hF.now (by omega) (by omega) htl).mono ?_;rintro e w9 ⟨rfl,dW,hN,hT⟩;rw[hs3.out]at hN hT;exact⟨rfl,dW,hN.pre (zC.trans (h5.mono zC.size)),_,hT⟩
     have hix:=WQ;dsimp only[aD.val]at HX;rw[hk]at Rk HX;clear hs2 hs3 zB hL3 hL0 hap n3 hP3 hq hp hk zC;obtain⟨p0,p1,p2,p3,p4,p5,p6,p7,p8,p9,jK,jE⟩:=Rk.out _ (aU _ _);go_wp2_with fail;go_region_law (first
      |(go_simp;go_at_call 94;refine(HH.out _ (by first|exact aU _ _|exact(aU _ _).drew|exact below_drewN (aU _ _) _)).mono ?_;rintro e w5 ⟨rfl,hb5⟩;obtain⟨q0,q1,q2,q3,q4,q5,q6,q7,q8,q9,q10,q11⟩:=Rk.out _ hb5)
      |(go_simp;go_at_call 131;refine(HX.out _ (by first|exact hb5|exact hb5.drew|exact below_drewN hb5 _)).mono ?_;rintro e w9 ⟨rfl,hN⟩;replace hN:=hide hN))
     all_goals
      go_wp2;go_returns;exact⟨rfl,hN.out⟩
    ·have hs3:Hid (s.fC fr L=s2):=by
      show _=_;rw[<-hs2.out];unfold St.gF;rw[aH zB,hk];rfl
     have HX:Hid (∀W5,Below W3.heap.size W3 W5->Calls Tryz.prog 132 #[.pointer (some ⟨N,0,none⟩),.pointer (some ⟨B,0,none⟩),.int .u32 fr,p.val] W5 λe w'=>e=.returned (.tuple #[])∧Wl N B g s s2 TL w w'):=by
      intro W5 h5;refine(LM (n3.later h5) fr hfr p hp L (hL3.below h5) hap (by omega) (by omega)).mono ?_;rintro e w9 ⟨rfl,hN⟩;rw[hs3.out]at hN;exact⟨rfl,.of (hN.pre (zC.trans (h5.mono zC.size))) (by rw[<-hs3.out];exact KT _ _ _)⟩
     have hix:=WO;dsimp only[aD.val]at HX;rw[hk]at Rk HX;clear hs2 hs3 zB hL3 hL0 hap n3 hP3 hq hp hk zC;obtain⟨p0,p1,p2,p3,p4,p5,p6,p7,p8,p9,jK,jE⟩:=Rk.out _ (aU _ _);go_wp2_with fail;go_region_law (first
      |(go_simp;go_at_call 94;refine(HH.out _ (by first|exact aU _ _|exact(aU _ _).drew|exact below_drewN (aU _ _) _)).mono ?_;rintro e w5 ⟨rfl,hb5⟩;obtain⟨q0,q1,q2,q3,q4,q5,q6,q7,q8,q9,q10,q11⟩:=Rk.out _ hb5)
      |(go_simp;go_at_call 132;refine(HX.out _ (by first|exact hb5|exact hb5.drew|exact below_drewN hb5 _)).mono ?_;rintro e w9 ⟨rfl,hN⟩;replace hN:=hide hN))
     all_goals
      go_wp2;go_returns;exact⟨rfl,hN.out⟩
    ·have hs3:Hid (s.dU fr p=s2):=by
      show _=_;rw[<-hs2.out];unfold St.gF;rw[aH zB,hk];rfl
     have HX:Hid (∀W5,Below W3.heap.size W3 W5->Calls Tryz.prog 133 #[.pointer (some ⟨N,0,none⟩),.pointer (some ⟨B,0,none⟩),.int .u32 fr,p.val] W5 λe w'=>e=.returned (.tuple #[])∧Wl N B g s s2 TL w w'):=by
      intro W5 h5;refine(LP (n3.later h5) fr hfr p hq (by have:=hL3.below h5;rwa [hL0 (by omega)]at this) hF.now (by omega) (by omega) (by have:=hF.aR;omega)).mono ?_;rintro e w9 ⟨rfl,hN⟩;rw[hs3.out]at hN;exact⟨rfl,.of (hN.pre (zC.trans (h5.mono zC.size))) (by rw[<-hs3.out];exact KU _ _ _)⟩
     have hix:=WN;dsimp only[aD.val]at HX;rw[hk]at Rk HX;clear hs2 hs3 zB hL3 hL0 hap n3 hP3 hq hp hk zC;obtain⟨p0,p1,p2,p3,p4,p5,p6,p7,p8,p9,jK,jE⟩:=Rk.out _ (aU _ _);go_wp2_with fail;go_region_law (first
      |(go_simp;go_at_call 94;refine(HH.out _ (by first|exact aU _ _|exact(aU _ _).drew|exact below_drewN (aU _ _) _)).mono ?_;rintro e w5 ⟨rfl,hb5⟩;obtain⟨q0,q1,q2,q3,q4,q5,q6,q7,q8,q9,q10,q11⟩:=Rk.out _ hb5)
      |(go_simp;go_at_call 133;refine(HX.out _ (by first|exact hb5|exact hb5.drew|exact below_drewN hb5 _)).mono ?_;rintro e w9 ⟨rfl,hN⟩;replace hN:=hide hN))
     all_goals
      go_wp2;go_returns;exact⟨rfl,hN.out⟩
 ·have hs2:Hid (s.drop 0=s2):=by
   show _=_;rw[<-dB.out];unfold St.hear;rw[aM (.inl hFt)]
  have hb2:Below w1.heap.size w1 (w1.alloc aD.zero.box):=bC;have n2:=n1.later hb2;have xO:=hb1.trans (hb2.mono hb1.size);have HX:=hide (jA n2 0 (by omega));rw[hs2.out]at HX;have hQ:Hid (s2.Q=s.Q):=by show _=_;rw[<-hs2.out];rfl
  clear hs2 dB n1 hb2;dsimp only[aD.box,aD.zero]at HX xO n2;dsimp only[aD.val,aD.zero];go_upto_region 3 with(fail);generalize World.alloc _ _=W2 at HX xO n2 ⊢;go_wp2_with fail;refine aT HX.out ?_;rintro e w9 ⟨rfl,hN⟩;have I6:Hid (Wl N B g s s2 TL w w9):=.of (hN.pre xO) hQ.out;clear hN HX;go_wp2;go_returns;exact⟨rfl,I6.out⟩
open Go.MuLone
theorem QR{N:Nat}{g:bI}{s:St}{TL:List Hp.Tm}{w:World}(n:Nn N g s TL w){k:Int}(hI:s.Inv k)(hk:k<=100000000000)(hT:dV s TL)(now fr:Int)(fK:s.now<=now∧now<=4611686018427387904)(hfr:a_ fr)(v:Value)(xs:List Int)(hv:VB w v xs):
  Calls Tryz.prog 25 #[.pointer (some ⟨N,0,none⟩),.int .u64 now,.int .u32 fr,v] w λe w'=>∃o,e=.returned o∧Hid ((s.rcv now fr xs).Inv (k+1))∧Ct N g s (s.rcv now fr xs) w o w':=by
 have hA:=n.cr.tb.ok;have hl:=n.cr.tb.len;have hb0:Below w.heap.size w (w.alloc je):=bC;have hC0:(w.alloc je).heap[w.heap.size]?=some je:=bS _ _;have kK:¬Ft N g s w.heap.size:=λh=>by have:=n.lt h;omega
 have hs0:(w.alloc je).heap.size=w.heap.size+1:=by simp
 have n0:=n.later hb0;have hv0:=hv.later hb0;have hM:=(qZ hI).2 now fK hA hl;obtain⟨s3,hs3⟩:∃z,s.locked.begin now=z:=⟨_,rfl⟩;rw[hs3]at hM;have I4:Hid (s3.lk=1):=by show _=_;rw[<-hs3];rfl
 have NG:Hid (s3.Q=s.Q):=by show _=_;rw[<-hs3];rfl
 have yM:Hid (s3.now=now):=by show _=_;rw[<-hs3];rfl
 have Ue:Hid (s3.me=s.me):=by show _=_;rw[<-hs3];rfl
 replace hM:=hide hM;dsimp only[je]at hb0 hC0 hs0 n0 hv0
 go_enter_defers Tryz.func25,Tryz.ntmps25
 go_upto_region 1 with(fail);generalize World.alloc _ _=W1 at hb0 hC0 hs0 n0 hv0 ⊢;obtain⟨c0,f0⟩:=n0.Nh;rw[hI.lk]at c0;go_wp2_with fail;refine aT (lock_free nK ⟨N,0,none⟩ W1 c0 f0) ?_;rintro e w2 ⟨rfl,rfl⟩;obtain⟨n2,hg2⟩:=n0.l6 1;have hf2:Fx (Ft N g s) w (W1.setCell ⟨N,0,none⟩ (.int .i32 1)):=aV (Fx.below hb0) hg2 (λi _ e=>by cases e;exact .inl (.inl rfl));have hv2:=n0.vb hv0 (Fx.grown hg2 λk e=>by cases e;exact .inl (.inl rfl));have hC2:=(hg2.block w.heap.size (by omega) (λe=>kK (by cases e;exact .inl (.inl rfl)))).trans hC0;have hs2:w.heap.size+1<=(W1.setCell ⟨N,0,none⟩ (.int .i32 1)).heap.size:=by
  have:=hg2.size;omega
 have hcn:=hI.cnt;have HB:=hide (zX n2 now ⟨hI.dom.mb,hI.dom.on,hI.dom.own⟩ ⟨hcn.1,by dsimp only;omega⟩);rw[show({s with lk:=1}:St).begin now=s3 from hs3]at HB;have hF1:Hid (∀k,Ft N ({g with x:={g.x with lk:=1}}:bI) ({s with lk:=1}:St) k->Ft N g s k):=λk h=>h;replace hs3:=hide hs3;clear n0 hv0 hC0 hs0 hb0 c0 f0 hg2 hA hl hcn;generalize ({g with x:={g.x with lk:=1}}:bI)=g1 at n2 HB hF1;generalize ({s with lk:=1}:St)=s1 at n2 HB hF1;generalize World.setCell _ _ _=W2 at n2 hf2 hv2 hC2 hs2 HB ⊢;go_wp2_with fail;refine aT HB.out ?_;rintro e w3 ⟨g3,rfl,n3,u3,ZW,t3⟩;clear t3;have hv3:=n2.vb hv2 ZW;clear HB;have Uu:Hid (dV s3 TL):=by
  show dV _ _;unfold dV;rw[NG.out];exact hT
 have hlen:=n3.nn.aaC Uu.out;have yP:=hM.out.fine (by omega);have HH:=hide (acB n3 yP (by have:=hM.out.tn;omega) (by omega) fr hfr v xs hv3.1);have PL:=hide n3.nn.ids;have Fq:=hide n3.nn.rs.sr.qY;have adu:Hid (∀q∈s3.Q,q.txt.length<=4):=λq hq=>(n3.nn.rs.sr.ok q hq).txt;have hpk:Hid (Eff 5 s3 (s3.hear fr xs)):=BJ s3 fr xs hv3.1.1 adu.out;clear hv2 hv3 ZW n2 n3;go_wp2_with fail;refine aT HH.out ?_;rintro e w5 ⟨rfl,Rh,⟨g5,n5,u5,t5⟩,d5,Q9⟩;obtain⟨s5,hs5⟩:∃z,s3.hear fr xs=z:=⟨_,rfl⟩;rw[hs5]at n5 u5 Q9 hpk;have Yl:Hid (dV s5 Rh):=aak Q9 Uu.out PL.out Fq.out;have nZ:Hid (s5.Mid k 6):=vK hM.out hpk.out;have Fu:Hid (s5.lk=1):=hpk.out.lk.trans I4.out;have zl:=u3.trans u5;replace hs5:=hide hs5;clear HH u3 u5 Q9 PL Fq adu hpk yP hlen;have NI:=hide (mH nZ.out (by omega) n5.nn.cr.tb.ok n5.nn.cr.tb.len);have Oj:=hide (oU n5 nZ.out.dom (by have:=nZ.out.cnt;omega) (by have:=nZ.out.bg;omega) nZ.out.bd nZ.out.seq);go_wp2_with fail;refine aT Oj.out ?_;rintro e w6 ⟨g6,rfl,n6,u6,t6⟩;obtain⟨s6,hs6⟩:∃z,s5.finish=z:=⟨_,rfl⟩;have Fs:s6.lk=1:=by rw[<-hs6,(aO s5).lk];exact Fu.out
 have Yk:Hid (dV s6 Rh):=by
  show dV _ _;unfold dV;rw[<-hs6,(aO s5).Q];exact Yl.out
 have jS:Hid (s.rcv now fr xs=s6.freed):=by
  show _=_;rw[<-hs6];unfold St.rcv St.receive;rw[hs3.out,hs5.out]
 rw[hs6]at n6 u6 NI ⊢;have nG:=zl.trans u6;clear Oj hs6 u6 n5 zl;have FJ:=nG.Rq (aB _);have nN:∀k,Ft N g6 s6 k->Ft N g s k∨(w.heap.size<=k∧k<w6.heap.size):=λk hk=>(nG.sub k hk).elim (λh=> .inl (hF1.out k h)) λh=> .inr ⟨by omega,h.2⟩;have gG:=(FJ.block w.heap.size (by omega) (λh=>kK (hF1.out _ h))).trans hC2;have kP:¬Ft N g6 s6 w.heap.size:=λh=>(nG.sub _ h).elim (λh=>kK (hF1.out _ h)) (by omega);have NC:=hf2.trans FJ (λi _ h=>hF1.out i h);have r1:=ownsRow_base_a n6.ac.aJ (show w.heap.size<=W2.heap.size+1 by omega);have r2:=ownsRow_base_a n6.ac.bL (show w.heap.size<=W2.heap.size+1 by omega);have r3:=ownsRow_base_a n6.ac.bO (show w.heap.size<=W2.heap.size+1 by omega);have m6:=n6.nn;obtain⟨af,kf,hf,_⟩:=ay r1;obtain⟨ac,kc,hc,_⟩:=ay r2;obtain⟨ad,kd,hdd,_⟩:=ay r3;rw[hf]at r1;rw[hc]at r2;rw[hdd]at r3;rw[hf,hc,hdd];simp only[iZ];clear n6 hf hc hdd nG FJ hf2 hC2;generalize hjj:s6.aZ=jj;replace hjj:=hide hjj;obtain⟨z0,z1,z2,z3,z4⟩:=cells5 gG;obtain⟨y0,y1,y2,y3,y4⟩:=yS gG;have g_:=ah (ah (ah (ah (ah (aC w6 (some w.heap.size)) 0 (.string jj)) 1 (.bool s6.bn)) 2 (.slice af s6.aI.length kf)) 3 (.slice ac s6.aR.length kc)) 4 (.slice ad s6.aQ.length kd);have gL:(((((w6.setCell ⟨w.heap.size,0,none⟩ (.string jj)).setCell ⟨w.heap.size,1,none⟩ (.bool s6.bn)).setCell ⟨w.heap.size,2,none⟩ (.slice af s6.aI.length kf)).setCell ⟨w.heap.size,3,none⟩ (.slice ac s6.aR.length kc)).setCell ⟨w.heap.size,4,none⟩ (.slice ad s6.aQ.length kd)).heap[w.heap.size]?=some (.cells #[.string jj,.bool s6.bn,.slice af s6.aI.length kf,.slice ac s6.aR.length kc,.slice ad s6.aQ.length kd] 52):=by
  simp[World.setCell,Array.getElem?_modify,gG]
 have r1:=r1.kept g_ (.inr (aA r1 gG (λc e=>(by cases e))));have r2:=r2.kept g_ (.inr (aA r2 gG (λc e=>(by cases e))));have r3:=r3.kept g_ (.inr (aA r3 gG (λc e=>(by cases e))));have m7:=m6.kept λk hk=>g_.block k (m6.lt hk) (λe=>kP (by cases e;exact hk));have pX:=aV NC g_ (λi hi e=>by cases e;omega);have kH:=λk hk=>(nN k hk).imp_right λh=>(⟨h.1,fO h.2 g_.size⟩:w.heap.size<=k∧_);clear m6 g_ NC gG nN;go_wp2_with fail;generalize World.setCell _ _ _=W7 at gL r1 r2 r3 m7 pX kH ⊢;obtain⟨p0,p1,p2,p3,p4⟩:=cells5 gL;obtain⟨c0,f0⟩:=m7.Nh;rw[Fs]at c0;refine leaves_cons (f:=50) (args:=#[.pointer (some ⟨N,0,none⟩)]) (by simp) (by simp[go_sem]) ?_;refine(unlock_deferred nK ⟨N,0,none⟩ .returning W7 c0 f0).mono ?_;rintro e u' w'' ⟨rfl,rfl,rfl⟩;obtain⟨m8,jL⟩:=m7.l6 0;have Cz:N≠w.heap.size:=λe=>kP (by rw[<-e];exact .inl (.inl rfl));have ig:=(jL.block w.heap.size (aF gL) (λe=>by cases e;exact Cz rfl)).trans gL;have r1:=r1.kept jL (.inr (aA r1 m7.cr.nd (λc e=>(by cases e))));have r2:=r2.kept jL (.inr (aA r2 m7.cr.nd (λc e=>(by cases e))));have r3:=r3.kept jL (.inr (aA r3 m7.cr.nd (λc e=>(by cases e))));have yN:=aV pX jL (λi hi e=>by cases e;exact .inl (.inl rfl));have nM:=λk hk=>(kH k hk).imp_right λh=>(⟨h.1,fO h.2 jL.size⟩:w.heap.size<=k∧_);clear p0 p1 p2 p3 p4 c0 f0 jL m7 pX kH gL;generalize World.setCell _ _ _=W8 at ig r1 r2 r3 m8 yN nM ⊢;obtain⟨p0,p1,p2,p3,p4⟩:=cells5 ig;refine⟨.agg #[.string jj,.bool s6.bn,.slice af s6.aI.length kf,.slice ac s6.aR.length kc,.slice ad s6.aQ.length kd],by simp[results,Tryz.results25,go_sem,p0,p1,p2,p3,p4],_,rfl,?_⟩;rw[jS.out];refine⟨NI,_,Rh,.slice af s6.aI.length kf,.slice ac s6.aR.length kc,.slice ad s6.aQ.length kd,?_,m8,Yk.out,r1,r2,r3,yN,nM⟩;rw[<-hjj.out];rfl
variable{m:aP}{W:World}
theorem F5{y:MG}{W':World}(h:MM y m W){κ:Int}{q q':Nat}(hok:iX κ q m){i:Nat}{x:SG}{s:bG}{z z':St}{o:Value}(h1:y.L[i]?=some x)(h2:m.S[i]?=some s)(hz:s.nd=some z)(c:Ct x.N x.g z z' W o W')(hI:z'.Inv (κ+1))(hp:z'.Pos)(hme:z'.me=z.me)(fK:z'.now=m.now)(hq:q<=q')(hql:z'.Q.length<=q')(hc:L6 z.cnt z'):
  ∃aJ bL bO y2,o=iZ z'.aZ z'.bn aJ bL bO∧iH W.heap.size z'.aI z'.aR z'.aQ aJ bL bO W'∧MM y2 (m.put i {s with nd:=some z'}) W'∧MU y m y2 (m.put i {s with nd:=some z'}) W W'∧Dh (κ+1) q' (m.put i {s with nd:=some z'}) i z':=by
 obtain⟨aJ,bL,bO,e,hor,y2,hm2,hu2⟩:=h.call h1 h2 hz c;have hi:=(fu.1 h2).1;have hS:(m.put i {s with nd:=some z'}).S[i]?=some {s with nd:=some z'}:=by rw[(gQ _ _ _).1,List.getElem?_set_self hi]
 obtain⟨x2,hx2⟩:∃x2,y2.L[i]?=some x2:=⟨_,cK (by rw[hm2.len,(gQ _ _ _).1,List.length_set];exact hi)⟩;obtain⟨nn,_⟩:=(hm2.st i x2 _ hx2 hS).nd z' rfl;exact⟨aJ,bL,bO,y2,e,hor,hm2,hu2,hok.called (by omega) hq h2 hz hc ⟨hI,hp,hme.trans ((hok.at h2).nd z hz).me,by rw[fK];exact fo _,hql,nn.cr.tb.ok,nn.cr.tb.len⟩⟩
theorem Nn.Ke{N:Nat}{g:bI}{s:St}{TL:List Hp.Tm}(n:Nn N g s TL W):l8 s:=λq hq=>⟨(n.rs.sr.ok q hq).txt,(n.rs.sr.ok q hq).ttl⟩
theorem BV{i:Nat}{s:bG}(h:m.S[i]?=some s)(z:St):m.act i z=(m.put i {s with nd:=some z}).did i z.ot:=by
 unfold aP.act;rw[dX h]
theorem UZ(s:ByteArray)(hs:s.size<=65536)(w:World):∃cap W,(convert 9 58 (.string s)).run Tryz.prog w=.ok (.slice (some ⟨w.heap.size,0,none⟩) s.size cap) W∧Below w.heap.size w W∧VB W (.slice (some ⟨w.heap.size,0,none⟩) s.size cap) (ak s):=by
 refine⟨_,_,run_bytes_of_string (P:=Tryz.prog) w 9 58 5 s Tryz.underlying9 Tryz.underlying58 Tryz.underlying5,(aU w.heap.size w).drew.alloc (aB _) _,RQ s hs w _,λb o n c hv=> ?_⟩;simp only[Value.slice.injEq,Option.some.injEq,Addr.mk.injEq,and_true]at hv;obtain⟨⟨rfl,rfl⟩,_⟩:=hv;exact⟨_,_,bS w.drew _⟩
theorem GH{x:SG}{s:bG}{W:World}(h:mZ x s W)(b:Nat)(hb:b<6)(on:Bool):nD x s {s with hrs:=s.hrs.set b on} W (W.setCell ⟨x.B,3+b,none⟩ (.bool on)):=by
 have hl:=h.hl;refine h.set (x':=x) (s':={s with hrs:=s.hrs.set b on}) (3+b) (.bool on) rfl ?_ (by rw[List.length_set];exact hl) ⟨rfl,rfl⟩ (λz hz=>⟨hz,rfl,rfl,rfl⟩);have hbl:b<s.hrs.length:=by omega
 simp[Gp,List.set_append,List.map_set,hl,Nat.add_comm 3 b];omega
theorem acK{y:MG}{m:aP}{w:World}(h:MM y m w)(a b:Nat)(ha:a<m.S.length)(hb:b<m.S.length)(hn:m.S.length<=6)(on:Bool):Calls Tryz.prog 29 #[.pointer (some ⟨y.G,0,none⟩),.int .i64 a,.int .i64 b,.bool on] w λe w'=>e=.returned (.tuple #[])∧MP y m (m.link a b on) w w':=by
 by_cases hab:a=b
 ·subst hab;have ho:m.link a a on=m:=by unfold aP.link;rw[aM rfl]
  have hfin:MP y m (m.link a a on) w w:=by rw[ho];exact MP.refl h
  clear h ho;go_enter Tryz.func29,Tryz.ntmps29;go_wp2;go_returns;exact⟨rfl,hfin⟩
 ·obtain⟨xa,sa,g,c,e1,e2,e3,e4,p0⟩:=h.get ha;obtain⟨_,q1,_,_⟩:=h.cell;rw[e4]at q1;have hab':((a:Int)==(b:Int))=false:=by
   have:¬(a:Int)=(b:Int):=by omega
   simpa using this
  have han:(a:Int)<(m.S.length:Int):=by omega
  have hbn:(b:Int)<(m.S.length:Int):=by omega
  have ha6:(a:Int)<6:=by omega
  have hb6:(b:Int)<6:=by omega
  obtain⟨_,_,_,_,_,hh,fz⟩:=(h.st a xa sa e1 e2).cell;have hhl:=(h.st a xa sa e1 e2).hl;have k0:=hh b _ (cK (by omega));have k1:=fz (3+b);obtain⟨y1,hm1,hu1⟩:=h.stp e1 e2 (GH (h.st a xa sa e1 e2) b (by omega) on);obtain⟨m1,Yc⟩:∃m1,m.put a {sa with hrs:=sa.hrs.set b on}=m1:=⟨_,rfl⟩;have hS1:m1.S.length=m.S.length:=by rw[<-Yc,(gQ _ _ _).1,List.length_set]
  have hl:m.link a b on=m1.put b {m1.at' b with hrs:=(m1.at' b).hrs.set a on}:=by
   unfold aP.link;rw[aH hab,e3,Yc]
  rw[Yc]at hm1 hu1;obtain⟨xb,sb,g',c',f1,f2,f3,f4,p1⟩:=hm1.get (i:=b) (by rw[hS1];exact hb);obtain⟨_,r1,_,_⟩:=hm1.cell;obtain⟨_,_,_,_,_,hh',fz'⟩:=(hm1.st b xb sb f1 f2).cell;have agJ:=(hm1.st b xb sb f1 f2).hl;have k2:=hh' a _ (cK (by omega));have k3:=fz' (3+a);have hp2:=hm1.stp f1 f2 (GH (hm1.st b xb sb f1 f2) a (by omega) on);rw[f4,hS1]at r1;rw[hu1.G]at r1;have hfin:MP y m (m.link a b on) w ((w.setCell ⟨xa.B,3+b,none⟩ (.bool on)).setCell ⟨xb.B,3+a,none⟩ (.bool on)):=by
   rw[hl,f3];exact MP.comp hu1 hp2
  generalize sa.hrs[b]=v0 at k0;generalize sb.hrs[a]=v1 at k2;clear h hm1 hu1 hp2 hl Yc e1 e2 e3 e4 f1 f2 f3 f4 hh hh' fz fz' hab;go_enter Tryz.func29,Tryz.ntmps29;go_wp2;go_returns;exact⟨rfl,hfin⟩
variable{y:MG}{m:aP}{i:Nat}
theorem MM.aav{W:World}(h:MM y m W)(t:Int):MM y {m with now:=t} (W.setCell ⟨y.G,0,none⟩ (.int .u64 t))∧MU y m y {m with now:=t} W (W.setCell ⟨y.G,0,none⟩ (.int .u64 t)):=by
 have hg:W.grownBy (W.setCell ⟨y.G,0,none⟩ (.int .u64 t)) (some y.G):=ah (aC _ (some y.G)) 0 _;refine⟨⟨?_,h.Ai.kept hg (.inr (aA h.Ai h.blk (λc e=>(by cases e)))),h.bD.kept hg (.inr (aA h.bD h.blk (λc e=>(by cases e)))),h.len,λi x s h1 h2=>(h.st i x s h1 h2).kept λk hk=>hg.block k ((h.st i x s h1 h2).lt hk) λe=>(h.own h1 h2 hk).1 (Option.some.inj e),h.ap⟩,Fx.grown hg λk e=>by cases e;exact .inl rfl,λk hk=> .inl hk,rfl,rfl,rfl,rfl⟩;simp[World.setCell,Array.getElem?_modify,h.blk]
def fE(m:aP)(k:Nat):aP×List Ev:=(List.range k).foldl aP.sP (m,[])
theorem Ad(m:aP)(k:Nat):fE m (k+1)=aP.sP (fE m k) k:=by
 unfold fE;rw[List.range_succ,List.foldl_append];rfl
theorem Ka{z:aP×List Ev}(h:(z.1.at' i).nd=none):aP.sP z i=z:=by
 unfold aP.sP;rw[h]
theorem J_{z:aP×List Ev}{s:St}(h:(z.1.at' i).nd=some s):aP.sP z i=((z.1.act i (s.jY z.1.now)).1,z.2++(z.1.act i (s.jY z.1.now)).2):=by
 unfold aP.sP;rw[h]
theorem Jp(φ:aP->Int×ByteArray->aP×List Ev)(hφ:∀m f,(φ m f).1.now=m.now)(m:aP)(i:Nat)(o:Ot):(m.jG φ i o).1.now=m.now:=by
 have hg:∀(L:List (Int×ByteArray)) (z:aP×List Ev),(L.foldl (uH φ) z).1.now=z.1.now:=by
  intro L
  induction L with
  |nil=>intro z;rfl
  |cons f L ih=>
   intro z;rw[fP,ih];exact hφ z.1 f
 unfold aP.jG;split
 ·rfl
 ·split
  ·exact hg _ _
  ·rfl
theorem Sv(i:Nat)(m:aP)(f:Int×ByteArray):(m.nU i f).1.now=m.now:=(iQ m i f).2
theorem Sn(i:Nat)(m:aP)(f:Int×ByteArray):(m.jg i f).1.now=m.now:=by
 unfold aP.jg;split
 ·exact(iQ m i f).2
 ·split
  ·exact(iQ m i f).2
  ·unfold aP.CZ;rw[Jp _ (Sv i)];exact(iQ m i f).2
theorem Zc(m:aP)(i:Nat)(z:St):(m.act i z).1.now=m.now∧(m.act i z).1.S.length=m.S.length:=by
 refine⟨Jp _ (Sn i) _ i _,?_⟩;show(aP.jG (aP.jg i) (m.put i _) i _).1.S.length=_;rw[UW _ (Sq i),(gQ _ _ _).1,List.length_set]
theorem UU(φ:aP->Int×ByteArray->aP×List Ev)(hφ:∀m f,(φ m f).2.length<=1)(m:aP)(i:Nat)(o:Ot):(m.jG φ i o).2.length<=1+o.aI.length:=by
 cases hi:o.idle
 ·cases hw:((m.at' i).write o).2
  ·unfold aP.jG;rw[aH (by simp[hi]),aH (by simp[hw])];simp
  ·rw[vY φ m i o hi hw];exact BN hφ m i o _ (aB _)
 ·unfold aP.jG;rw[aM hi];simp
theorem acI{w:World}(h:MM y m w){κ:Int}{q:Nat}(hok:iX κ q m)(IQ:0<=κ∧κ<=90000000000)(hq:q<=4990)(n:Int)(fK:m.now+60000<=4611686018427387904):
  Calls Tryz.prog 31 #[.pointer (some ⟨y.G,0,none⟩),.int .i64 n] w λe w'=>jB y m (m.tick n).1 (m.tick n).2 w.heap.size w e w'∧iX (κ+1000000) q (m.tick n).1:=by
 by_cases hn:n<1∨n>60000
 ·have ho:m.tick n=(m,[]):=by
   unfold aP.tick;rw[aM hn]
  have hfin:jB y m (m.tick n).1 (m.tick n).2 w.heap.size w (.returned (.slice none 0 0)) w∧iX (κ+1000000) q (m.tick n).1:=by
   rw[ho];exact⟨⟨_,[],rfl,rfl,gP.nil _ _,MP.refl h⟩,hok.up (by omega) (aB _)⟩
  replace hfin:=hide hfin;clear h ho hok;by_cases h1:n<1
  ·go_enter Tryz.func31,Tryz.ntmps31;go_wp2;go_ret;exact hfin.out
  ·have h2:60000<n:=by omega
   go_enter Tryz.func31,Tryz.ntmps31;go_wp2;go_ret;exact hfin.out
 ·have hn1:¬n<1:=λh=>hn (.inl h);have hn2:¬60000<n:=λh=>hn (.inr h);have ho:m.tick n=fE {m with now:=m.now+n} m.S.length:=by
   unfold aP.tick;rw[aH hn];rfl
  obtain⟨hs1,hu1⟩:=h.aav (m.now+n);have hok1:iX κ q {m with now:=m.now+n}:=⟨hok.n,hok.bD,by have:=hok.now;dsimp only;omega,λs hs=>(hok.st s hs).up (fo _) (aB _) (by dsimp only;omega)⟩;obtain⟨c0,c1,_,fz⟩:=h.cell;have f0:=fz 0;obtain⟨sa,sc,hsv⟩:=h.svf;rw[hsv]at c1;have hw1:IntKind.u64.wrap n=n:=by
   simp only[IntKind.wrap,IntKind.signed,IntKind.bits];simp;omega
  have hw2:IntKind.u64.wrap (m.now+n)=m.now+n:=by
   have:=hok.now;simp only[IntKind.wrap,IntKind.signed,IntKind.bits];simp;omega
  rw[ho];have hnS:({m with now:=m.now+n}:aP).S.length=m.S.length:=rfl;obtain⟨m1,hm1⟩:∃m1,({m with now:=m.now+n}:aP)=m1:=⟨_,rfl⟩;rw[hm1]at hs1 hu1 hok1 hnS ⊢;have rC:Hid (∃y' L,MM y' (fE m1 0).1 (w.setCell ⟨y.G,0,none⟩ (.int .u64 (m.now+n)))∧MU y m y' (fE m1 0).1 w (w.setCell ⟨y.G,0,none⟩ (.int .u64 (m.now+n)))∧iX (κ+100001 * (0:Nat)) q (fE m1 0).1∧(fE m1 0).1.now=m1.now∧(fE m1 0).1.S.length=m.S.length∧gP w.heap.size (.slice none 0 0) L (w.setCell ⟨y.G,0,none⟩ (.int .u64 (m.now+n)))∧L.map (·.1)=(fE m1 0).2∧L.length<=100001 * 0):=
   ⟨y,[],hs1,hu1,hok1.up (by omega) (aB _),rfl,hnS,gP.nil _ _,rfl,by simp⟩
  have u1:=hs1.cell.2.1;rw[hsv]at u1;have hmS:m.S.length<=6:=hok.n;obtain⟨i0,hi0,hz0,hz1,hz2⟩:=info_parts Nr;clear h hs1 hu1 hok1 hok ho fz hm1;go_enter Tryz.func31,Tryz.ntmps31;go_upto_region 4 with(fail);generalize World.setCell _ _ _=W1 at rC u1 ⊢;clear c0 c1 f0;go_wp2_with fail;go_loopw [5,28] (λev iv wr=>∃k:Nat,k<=m.S.length∧iv=.int .i64 k∧Hid (∃y' L,MM y' (fE m1 k).1 wr∧MU y m y' (fE m1 k).1 w wr∧iX (κ+100001 * k) q (fE m1 k).1∧(fE m1 k).1.now=m1.now∧(fE m1 k).1.S.length=m.S.length∧gP w.heap.size ev L wr∧L.map (·.1)=(fE m1 k).2∧L.length<=100001 * k)) (λ_ iv _=>m.S.length - (intOf iv).toNat)
  case atStart=>exact⟨0,b_ _,rfl,rC⟩
  case round=>
   clear rC u1;obtain⟨k,hk,rfl,hr⟩:=hrel;by_cases hkl:k<m.S.length
   ·have hki:(k:Int)<(m.S.length:Int):=by omega
    obtain⟨y',L,hm,hu,hmo,hN,hSl,hev,hL,Yt⟩:=hr.out;obtain⟨x,s,g,c,e1,e2,e3,e4,p0⟩:=hm.get (i:=k) (by rw[hSl];exact hkl);have hsa:sa=some ⟨g,0,none⟩:=by
     have h5:=e4;rw[hu.sv,hsv]at h5;injection h5 with h5 _ _
    subst hsa;have c2:=(hm.st k x s e1 e2).cell.2.2.1;have hk1:k+1<=m.S.length:=by omega
    have hme:=pQ hkl;cases hnd:s.nd with
    |none=>
     rw[hnd]at c2;unfold Pk at c2;have hr2:Hid (∃y' L,MM y' (fE m1 (k+1)).1 wr∧MU y m y' (fE m1 (k+1)).1 w wr∧iX (κ+100001 * (k+1:Nat)) q (fE m1 (k+1)).1∧(fE m1 (k+1)).1.now=m1.now∧(fE m1 (k+1)).1.S.length=m.S.length∧gP w.heap.size u5 L wr∧L.map (·.1)=(fE m1 (k+1)).2∧L.length<=100001 * (k+1)):=by
      show ∃y' L,_;rw[Ad,Ka (by rw[e3];exact hnd)];exact⟨y',L,hm,hu,hmo.up (by omega) (aB _),hN,hSl,hev,hL,by omega⟩
     have hw64:wrap64 ((k:Int)+1)=(k:Int)+1:=by unfold wrap64;omega
     clear hr hm hu hmo hev hL Yt e1 e2 e3 e4;go_wp2;try rw[hw64]
     go_roundw
     case rel=>
      first
       |exact⟨k+1,hk1,by go_num,hr2⟩
       |exact⟨_,_,⟨k+1,hk1,by go_num,hr2⟩,rfl⟩
       |((repeat apply Exists.intro);refine⟨⟨k+1,hk1,by go_num,hr2⟩,rfl⟩)
     case measure=>exact hme
    |some z=>
     rw[hnd]at c2;unfold Pk at c2;have hnk:=(hmo.at e2).nd z hnd;have hd1:Below wr.heap.size wr wr.drew:=(aU _ _).drew;have hmd:=hm.later hd1;obtain⟨nn,tm⟩:=(hmd.st k x s e1 e2).nd z hnd;have hsr:=nn.Ke;have HT:=acG nn hnk.inv (by omega) tm hnk.pos m1.now ⟨by have:=hnk.nw;rw[hN]at this;exact this,by have:=hmo.now.2;rw[hN]at this;exact this⟩;have q0:=hm.cell.1;rw[hN,hu.G]at q0;obtain⟨M,hMe⟩:∃M,(fE m1 k).1=M:=⟨_,rfl⟩;have hsucc:fE m1 (k+1)=((M.act k (z.jY m1.now)).1,(fE m1 k).2++(M.act k (z.jY m1.now)).2):=by
      rw[Ad,J_ (by rw[e3];exact hnd),hN,hMe]
     rw[hMe]at hm hu hmo hN hSl e2 e3 hmd;have HT2:Hid (Calls Tryz.prog 20 #[.pointer (some ⟨x.N,0,none⟩),.int .u64 m1.now] wr.drew λe w2=>∃aJ bL bO y2,e=.returned (iZ (z.jY m1.now).aZ (z.jY m1.now).bn aJ bL bO)∧iH wr.heap.size (z.jY m1.now).aI (z.jY m1.now).aR (z.jY m1.now).aQ aJ bL bO w2∧wr.heap.size<=w2.heap.size∧MM y2 (M.put k {s with nd:=some (z.jY m1.now)}) w2∧MU y' M y2 (M.put k {s with nd:=some (z.jY m1.now)}) wr w2∧Dh (κ+100001 * k+1) q (M.put k {s with nd:=some (z.jY m1.now)}) k (z.jY m1.now)):=by
      refine HT.mono ?_;rintro e w2 ⟨o,rfl,hI2,hcp⟩;obtain⟨s',hp1,hp2⟩:=zM z m1.now hsr;have hrest:=oz hp1;have hcnt:=vZ hp1;rw[<-hp2]at hrest hcnt;obtain⟨aJ,bL,bO,y2,rfl,hor,hm2,hu2,hdk⟩:=F5 hmd hmo e1 e2 hnd hcp hI2.out (Xv hnk.pos hnk.inv.tl.1 m1.now) hrest.1 (hrest.2.trans hN.symm) (aB _) (dH (aal _ _) hnk.ql) hcnt;exact⟨aJ,bL,bO,y2,rfl,hor,hu2.fx.size,hm2,hu2.pre hd1,hdk⟩
     have hDD:Hid (∀aJ bL bO y2 w2,iH wr.heap.size (z.jY m1.now).aI (z.jY m1.now).aR (z.jY m1.now).aQ aJ bL bO w2->wr.heap.size<=w2.heap.size->MM y2 (M.put k {s with nd:=some (z.jY m1.now)}) w2->MU y' M y2 (M.put k {s with nd:=some (z.jY m1.now)}) wr w2->Dh (κ+100001 * k+1) q (M.put k {s with nd:=some (z.jY m1.now)}) k (z.jY m1.now)->Calls Tryz.prog 36 #[.pointer (some ⟨y.G,0,none⟩),.int .i64 k,iZ (z.jY m1.now).aZ (z.jY m1.now).bn aJ bL bO] w2 λe w3=>∃v2 L2,e=.returned v2∧L2.length<=100001∧w3.ownsRow w.heap.size 54 7 u5 L.length (EvC L)∧w3.ownsRow wr.heap.size 54 7 v2 L2.length (EvC L2)∧(∀u∈EvC L2,u.oneCell'=true)∧w.heap.size<=w3.heap.size∧∀v' w',w'.ownsRow w.heap.size 54 7 v' (L.length+L2.length) (EvC L++EvC L2)->w3.grownBy w' u5.ownBlock->∃y' L,MM y' (fE m1 (k+1)).1 w'∧MU y m y' (fE m1 (k+1)).1 w w'∧iX (κ+100001 * (k+1:Nat)) q (fE m1 (k+1)).1∧(fE m1 (k+1)).1.now=m1.now∧(fE m1 (k+1)).1.S.length=m.S.length∧gP w.heap.size v' L w'∧L.map (·.1)=(fE m1 (k+1)).2∧L.length<=100001 * (k+1)):=by
      intro aJ bL bO y2 w2 hor hsz hm2 hu2 hdk;have hd:=Gg hm2 hdk aJ bL bO wr.heap.size hor hsz;rw[hu2.G,hu.G]at hd;refine hd.mono ?_;rintro e w3 ⟨v2,L2,rfl,hL2,ny,y3,oJ,hu3⟩;have hl2:L2.length<=100001:=by
       have h6:=congrArg List.length hL2;rw[iL]at h6;have h7:=UU (aP.jg k) (Hz k) (M.put k {s with nd:=some (z.jY m1.now)}) k (z.jY m1.now).ot;obtain⟨_,_,h8⟩:=hdk.pre;have h9:=h8.nd.inv.frl;have h10:(z.jY m1.now).ot.aI.length=(z.jY m1.now).aI.length:=rfl;have h11:((M.put k {s with nd:=some (z.jY m1.now)}).did k (z.jY m1.now).ot).2.length=(aP.jG (aP.jg k) (M.put k {s with nd:=some (z.jY m1.now)}) k (z.jY m1.now).ot).2.length:=rfl;omega
      have adh:=hu2.trans hu3;have abx:=hev.mesh hm adh.fx;have hut:=hu.trans adh;have hz0:=hu.fx.size;have hz3:=hut.fx.size;refine⟨v2,L2,rfl,hl2,abx.row,ny.row,ny.one,hz3,λv' w' ho' hg'=> ?_⟩;have hmk:=FW hdk;have hac:=Zc M k (z.jY m1.now);have hae:=BV e2 (z.jY m1.now);have hbE:∀k5,uP y3 ((M.put k {s with nd:=some (z.jY m1.now)}).did k (z.jY m1.now).ot).1 k5->w'.heap[k5]?=w3.heap[k5]?:=λk5 hk5=>hg'.block k5 (oJ.lt hk5) λe5=>by
       obtain⟨cc,PY⟩:=aS abx.row e5.symm;exact oJ.notE (by decide) PY hk5
      rw[hsucc,hae];rw[hae]at hac;refine⟨y3,L++L2,oJ.kept hbE,⟨aV hut.fx hg' (λj5 hj5 e5=> ?_),λk5 hk5=>(hut.sub k5 hk5).imp_right λh=>⟨h.1,fO h.2 hg'.size⟩,hut.G,hut.n,hut.sv,hut.B⟩,hmk.up (by omega) (aB _),hac.1.trans hN,hac.2.trans hSl,abx.append ny hz0 (λx hx k5 hk5=>((hev.out x hx).lt hk5).2) ho' hg',?_,by rw[dx];omega⟩
      ·have:=(hev.row.lt j5 e5).1;omega
      ·rw[List.map_append,hL,hL2]
     have IW:Hid (∀n2,n2<=100001->L.length+n2<=maxLen∧(L.length+n2)* 112<=140737488355328):=λn2 h2=>by unfold maxLen;omega
     have hw64:wrap64 ((k:Int)+1)=(k:Int)+1:=by unfold wrap64;omega
     obtain⟨zt,hzt⟩:∃zt,z.jY m1.now=zt:=⟨_,rfl⟩;rw[hzt]at HT2 hDD;obtain⟨N,Ux⟩:∃N,x.N=N:=⟨_,rfl⟩;rw[Ux]at HT2 c2;clear hr hm hu hmo hev hL Yt e1 e2 e3 e4 HT hzt Ux hsucc hMe hN hSl hnk nn tm hsr hmd hd1;go_upto_region 9 with(fail);go_region_law (first
      |(go_simp;go_at_call 20;refine HT2.out.mono ?_;rintro e w2 ⟨aJ,bL,bO,y2,rfl,hor,hsz,hm2,hu2,hdk⟩;have Wm:=hide (hDD.out _ _ _ _ _ hor hsz hm2 hu2 hdk);clear hor hsz hm2 hu2 hdk)
      |(go_simp;go_at_call 36;refine Wm.out.mono ?_;rintro e w3 ⟨v2,L2,rfl,hl2,hr1,hr2,h1c,hbw,hnx⟩;replace hnx:=hide hnx;obtain⟨abp,abo⟩:=IW.out _ hl2)
      |(refine kU rfl (.tmp 38) (.tmp 50) 29 rfl w.heap.size 54 i0 (.agg #[.int .i64 0,.int .i64 0,.string ⟨#[]⟩,.bool false,.slice none 0 0,.slice none 0 0,.slice none 0 0]) 7 112 Tryz.underlying29 hi0 hz0 hz1 hz2 rfl (by decide) u5 L.length (EvC L) ?h1 hr1 wr.heap.size v2 L2.length (EvC L2) ?h2 hr2 h1c abp abo hbw ?_;(case h1=>simp[Act.eval,Act.put]);(case h2=>simp[Act.eval,Act.put]);intro v7 w7 iy gW;have Bg:=hide (hnx.out v7 w7 iy gW)))
     all_goals
      clear Wm hnx IW HT2 hDD hr1 hr2 h1c;go_wp2;try rw[hw64]
      go_roundw
      case rel=>
       first
        |exact⟨k+1,hk1,by go_num,Bg⟩
        |exact⟨_,_,⟨k+1,hk1,by go_num,Bg⟩,rfl⟩
        |((repeat apply Exists.intro);refine⟨⟨k+1,hk1,by go_num,Bg⟩,rfl⟩)
      case measure=>exact hme
   ·obtain rfl:k=m.S.length:=by omega
    obtain⟨y',L,hm,hu,hmo,hN,hSl,hev,hL,Yt⟩:=hr.out;have hfin:jB y m (fE m1 m.S.length).1 (fE m1 m.S.length).2 w.heap.size w (.returned u5) wr∧iX (κ+1000000) q (fE m1 m.S.length).1:=⟨⟨_,L,rfl,hL,hev,y',hm,hu⟩,hmo.up (by omega) (aB _)⟩;replace hfin:=hide hfin;clear hr hm hu hmo hev hL Yt hN hSl;go_wp2;go_ret;exact hfin.out
end Go.Proofs.YtakaadcpaeiccabGreat
