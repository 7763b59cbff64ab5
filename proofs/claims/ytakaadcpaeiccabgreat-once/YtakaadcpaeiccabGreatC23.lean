import Derived.Test.YtakaadcpaeiccabGreatC22
set_option maxHeartbeats 8000000
set_option maxRecDepth 100000
namespace Go.Proofs.YtakaadcpaeiccabGreat
open Go.RowKit Go.Maps
variable{B N:Nat}{q:Sr}{s:St}{w:World}
theorem Dv{Q:List Sr}(hn:Q.Pairwise λa b=>a.dest≠b.dest){q:Sr}(hq:q∈Q):St.j6 Q q.dest=some q:=by
 cases h:St.j6 Q q.dest with
 |none=>
  have:=List.find?_eq_none.1 h q hq;simp at this
 |some z=>
  obtain⟨h1,h2⟩:=gZ h;rw[vo hn h1 hq h2]
def GoI(N B:Nat)(g g1:bI)(s:St)(w w1:World)(D:List Sr)(k:Int)(j i:Nat)(wr:World):Prop:=
 ∃si gi QG,Hid (si=(D.take i).foldl St.step s)∧Nd N B gi si QG wr∧Up B (Ft N g s) (Ft N gi si) w wr∧Up B (Ft N g1 s) (Ft N gi si) w1 wr∧Hid (gi.x.T=g.x.T)∧Hid (∀a∈D.drop i,gi.h a.dest=g.h a.dest)∧Hid (Ce (D.drop i) si QG)∧Hid (si.Mid k (j+i))∧Hid (Kp s si)
theorem Kk(hq:q∈s.Q)(hn:s.Q.Pairwise λa b=>a.dest≠b.dest)(hf:(bH s.A q.dest s.now).2=true){TL dW:List Hp.Tm}(ht:F6 q.id TL dW)(h4:∀q∈s.Q,q.txt.length<=4):TmR q s TL (s.sendAll q.dest) dW:=by
 refine .inr ⟨(nR s q.dest h4).tl,?_,ht⟩;unfold St.sendAll;rw[Dv hn hq];dsimp only;rw[aM hf]
theorem Kl{d:Int}(hf:(bH s.A d s.now).2=false):s.sendAll d=s:=by
 unfold St.sendAll;split
 ·rfl
 ·rw[hf];rfl
theorem GoI.next{g g1 gi g5:bI}{si s2:St}{w1 wr w5:World}{D:List Sr}{k:Int}{j i:Nat}{QG F9:List Hp.Tm}(hx:D[i]?=some q)(hst:si=(D.take i).foldl St.step s)(ni:Nd N B gi si QG wr)(u1:Up B (Ft N g s) (Ft N gi si) w wr)(u2:Up B (Ft N g1 s) (Ft N gi si) w1 wr)(t1:gi.x.T=g.x.T)(hh:∀a∈D.drop i,gi.h a.dest=g.h a.dest)(hr:Ce (D.drop i) si QG)(hm:si.Mid k (j+i))(hk:Kp s si)
  (e2:si.step q=s2) (n5:Nd N B g5 s2 F9 w5) (u5:Up B (Ft N gi si) (Ft N g5 s2) wr w5) (t5:g5.x.T=gi.x.T) (h5:∀z,z≠q.dest->g5.h z=gi.h z) (ht:TmR q si QG s2 F9):GoI N B g g1 s w w1 D k j (i+1) w5:=by
 have hd:D.drop i=q::D.drop (i+1):=by
  obtain⟨hi,e⟩:=fu.1 hx;rw[List.drop_eq_getElem_cons hi,e]
 rw[hd]at hr hh;have hn:=ni.nn.rs.sr.qY;have h4:∀q∈si.Q,q.txt.length<=4:=λq hq=>(ni.nn.rs.sr.ok q hq).txt;obtain⟨m2,k2⟩:=mid_step hm ni.nn.cr.tb.ok ni.nn.cr.tb.len h4 q (h4 q (hr.mem q gm));rw[e2]at m2 k2;refine⟨s2,g5,F9,?_,n5,u1.trans u5,u2.trans u5,t5.trans t1,λa ha=> ?_,hr.step hn ht,m2,hk.trans k2⟩
 ·show s2=_;rw[List.take_add_one,hx,List.foldl_append,<-hst,<-e2];rfl
 ·have h1:=(List.pairwise_cons.1 hr.qY).1 a ha;rw[h5 a.dest (Ne.symm h1)];exact hh a (iJ _ ha)
theorem acD{g:bI}{TL:List Hp.Tm}(n:Nd N B g s TL w){k:Int}{j:Nat}(hM:s.Mid k j)(hj:j<=1000)(hk:0<=k∧k<=100000000000)(hT:dV s TL)(hpos:∀a∈s.Q,0<a.id):
  Calls Tryz.prog 52 #[.pointer (some ⟨N,0,none⟩),.pointer (some ⟨B,0,none⟩)] w λe w'=>e=.returned (.tuple #[])∧∃g1 w1,GoI N B g g1 s w w1 (St.j_ s.Q s.now) k j (St.j_ s.Q s.now).length w':=by
 have hlt:=n.nn.aaC hT;obtain⟨c2,c3,c4,c7,c0⟩:=n.cell;have HD:=hide (aep n hT (by omega) hM.EF hpos s.now hM.now);have hDl:(St.j_ s.Q s.now).length<=5000:=by
  unfold St.j_;rw[(List.mergeSort_perm _ _).length_eq];exact dH (List.length_filter_le _ _) n.nn.rs.sr.len
 generalize hDe:St.j_ s.Q s.now=D at HD hDl ⊢;clear hDe;go_enter Tryz.func52,Tryz.ntmps52;go_wp2_with fail;refine aT HD.out ?_;rintro e w1 ⟨v,rfl,g1,TL1,n1,u1,t1,y1,r1,ho⟩;obtain⟨ao,c,rfl,_⟩:=ay ho;have hkeep:Hid (∀(gi:bI) (si:St) (wr:World),Up B (Ft N g1 s) (Ft N gi si) w1 wr->wr.ownsRow w.heap.size 172 1 (.slice ao D.length c) D.length (D.map λq=>gH (g.h q.dest))):=λgi si wr u=>bP ho λk hk=>by
  obtain⟨cc,hc⟩:=aS ho hk;exact(u.block k _ hc (n1.aaP hc).1 (.inl ⟨λc e=>(by cases e),λc e=>(by cases e),λc e=>(by cases e),λc e=>(by cases e),λc e=>(by cases e)⟩)).trans hc.symm
 have h0:Hid (GoI N B g g1 s w w1 D k j 0 w1):=⟨s,g1,TL1,rfl,n1,u1,Up.refl _ _ _,t1.out,λa _=>by rw[y1.out.1],by rw[List.drop_zero];exact r1,hM,Kp.refl s⟩;clear HD n n1 u1 t1 y1 r1 ho c2 c3 c4 c7 c0 hM hT hpos;go_wp2_with fail;go_loopw [13] (λvi wr=>∃i:Nat,i<=D.length∧vi=.int .i64 i∧GoI N B g g1 s w w1 D k j i wr) (λvi _=>D.length - (intOf vi).toNat)
 case atStart=>exact⟨0,b_ _,rfl,h0.out⟩
 case round=>
  clear h0;obtain⟨i,hi,rfl,hg⟩:=hrel;by_cases hlt:i<D.length
  ·obtain⟨si,gi,QG,hst,ni,u1,u2,t1,hh,hr,hm,hkp⟩:=hg;have hki:(i:Int)<(D.length:Int):=by omega
   obtain⟨q,hx⟩:∃q,D[i]?=some q:=⟨_,cK hlt⟩;have hd:q∈D.drop i:=by
    obtain⟨hi,e⟩:=fu.1 hx;rw[List.drop_eq_getElem_cons hi,e];exact gm
   have hqm:=hr.out.mem q hd;have hok:=ni.nn.rs.sr.ok q hqm;obtain⟨Bq,hB,hL⟩:=ni.nn.rs.sr.ln q hqm;have hgB:g.h q.dest=some Bq:=(hh.out q hd).symm.trans hB;have hrow:=hkeep.out gi si wr u2;obtain⟨gb,cb,hv,_⟩:=bY hrow (by omega);cases hv;have d0:=(hrow.cellAt i (by simpa using hlt)).trans (by rw[jQ,hx,Option.map_some,hgB];rfl:(D.map λq=>gH (g.h q.dest))[i]?=some (.pointer (some ⟨Bq,0,none⟩)));have b0:=hL.cell.1;have PL:=hr.out.pos q hqm;have HS:=hide (tK ni q.dest hok.dest hm.out.me hm.out.now (by have:=hm.out.aI;omega) (by have:=hr.out.pm.length_eq;rw[iL]at this;have:=List.length_filter_le (sJ (D.drop i)) si.Q;have:=ni.nn.rs.sr.len;omega));rw[Dv ni.nn.rs.sr.qY hqm]at HS;have hwk:wrap64 ((i:Int)+1)=(i:Int)+1:=by unfold wrap64;omega
   have hTl:QG.length<=5000:=by
    have:=hr.out.pm.length_eq;rw[iL]at this;have:=List.length_filter_le (sJ (D.drop i)) si.Q;have:=ni.nn.rs.sr.len;omega
   have hTi:∀x∈QG,x.2.1<=si.tl:=λx hx=>by
    obtain⟨z,hz,rfl⟩:=dh.1 (hr.out.pm.mem_iff.1 hx);exact hr.out.le z (List.mem_filter.1 hz).1
   have hnx:=hide (λ(s2:St) (g5:bI) (F9:List Hp.Tm) (w5:World) (e2:si.step q=s2) (n5:Nd N B g5 s2 F9 w5) (u5:Up B (Ft N gi si) (Ft N g5 s2) wr w5) (t5:g5.x.T=gi.x.T) (h5:∀z,z≠q.dest->g5.h z=gi.h z) (ht:TmR q si QG s2 F9)=>GoI.next (g:=g) (g1:=g1) (w:=w) (w1:=w1) hx hst.out ni u1 u2 t1.out hh.out hr.out hm.out hkp.out e2 n5 u5 t5 h5 ht);have Fq:=ni.nn.rs.sr.qY;have h4:∀q∈si.Q,q.txt.length<=4:=λq hq=>(ni.nn.rs.sr.ok q hq).txt;have hR:=hm.out.rdy (by omega) hk;have hdl:si.aQ.length<=800000:=by have:=hm.out.aQ;omega
   have htl:=hm.out.tl;clear hst u1 u2 t1 hh hr hkp hd hgB hrow;obtain⟨fd,xN⟩:∃b,(bH si.A q.dest si.now).2=b:=⟨_,rfl⟩;rw[xN]at HS;replace hx:=hide hx;replace Fq:=hide Fq;replace h4:=hide h4;replace hR:=hide hR;replace hTi:=hide hTi;replace hm:=hm;cases fd
   ·rw[Kl xN]at HS;go_wp2_with fail;refine aT HS.out ?_;rintro e w2 ⟨rfl,F9,⟨g2,n2,u2,t2,y2⟩,_,hsame⟩;obtain rfl:F9=QG:=hsame (.inr rfl);have hB2:g2.h q.dest=some Bq:=(y2.out q.dest (λh=>by cases h.1)).trans hB;obtain⟨fn,hb2,hfn⟩:=n2.j6 hqm hB2;have c5:=hb2.cell.2.2.2.2.2;rw[hfn (by omega)]at c5;have y2':=hide (λz=>y2.out z (λh=>by cases h.1));have hstep:si.step q=if q.out then si.widen q else si.ask q:=by
     unfold St.step;rw[xN];rfl
    obtain⟨qo,hqo⟩:∃b,q.out=b:=⟨_,rfl⟩;rw[hqo]at c5 hstep;clear HS hsame hb2 hfn y2 d0 b0 ni;cases qo
    ·have HA:=hide (VD n2 hR.out (by omega) q hqm Bq hB2 (by omega) (by omega) hTi.out);obtain⟨s2,hs2⟩:∃z,si.ask q=z:=⟨_,rfl⟩;have NE:=hide (NZ si q q F9 rfl);rw[hs2]at HA NE;have TV:Hid (si.step q=s2):=by show _=_;rw[hstep,<-hs2];rfl
     clear hs2 hstep n2;simp only[Er,if_false,Bool.false_eq_true]at c5;go_wp2_with fail;refine aT HA.out ?_;rintro e w5 ⟨rfl,g5,n5,u5,t5,y5⟩;have hn:=hide (hnx.out s2 g5 _ w5 TV.out n5 (u2.trans u5) (t5.out.trans t2.out) (λz _=>by rw[y5.out.1];exact y2'.out z) NE.out);clear HA n5 u5 u2 hnx NE;go_wp2;go_roundw
     case rel=>exact⟨i+1,by omega,by go_num,hn.out⟩
     case measure=>simp[intOf];omega
    ·have HA:=hide (Zl n2 hR.out hdl q hqm Bq hB2 (by omega) (by omega) hTi.out);obtain⟨s2,hs2⟩:∃z,si.widen q=z:=⟨_,rfl⟩;rw[hs2]at HA;have TV:Hid (si.step q=s2):=by show _=_;rw[hstep,<-hs2];rfl
     clear hs2 hstep n2;simp only[Er,if_true]at c5;go_wp2_with fail;refine aT HA.out ?_;rintro e w5 ⟨rfl,Rh,⟨g5,n5,u5,t5,y5⟩,NE⟩;have hn:=hide (hnx.out s2 g5 _ w5 TV.out n5 (u2.trans u5) (t5.out.trans t2.out) (λz hz=>(y5.out z hz).trans (y2'.out z)) NE);clear HA n5 u5 u2 hnx NE;go_wp2;go_roundw
     case rel=>exact⟨i+1,by omega,by go_num,hn.out⟩
     case measure=>simp[intOf];omega
   ·obtain⟨s2,hs2⟩:∃z,si.sendAll q.dest=z:=⟨_,rfl⟩;have NE:Hid (∀F9,F6 q.id QG F9->TmR q si QG s2 F9):=λF9 h=>by rw[<-hs2];exact Kk hqm Fq.out xN h h4.out
    have TV:Hid (si.step q=s2):=by
     show _=_;unfold St.step;rw[xN,<-hs2];rfl
    rw[hs2]at HS;clear hs2 xN;go_wp2_with fail;refine aT HS.out ?_;rintro e w2 ⟨rfl,F9,⟨g2,n2,u2,t2,y2⟩,htk,_⟩;have hn:=hide (hnx.out s2 g2 _ w2 TV.out n2 u2 t2.out (λz hz=>y2.out z (by rintro⟨_,q',h,rfl⟩;cases h;exact hz rfl)) (NE.out F9 (htk q rfl rfl)));clear HS n2 u2 hnx NE htk y2 ni d0 b0;go_wp2;go_roundw
    case rel=>exact⟨i+1,by omega,by go_num,hn.out⟩
    case measure=>simp[intOf];omega
  ·obtain rfl:i=D.length:=by omega
   go_wp2;go_returns;exact⟨rfl,g1,w1,hg⟩
open Go.MuLone
theorem acG{N:Nat}{g:bI}{s:St}{TL:List Hp.Tm}{w:World}(n:Nn N g s TL w){k:Int}(hI:s.Inv k)(hk:0<=k∧k<=100000000000)(hT:dV s TL)(hpos:∀a∈s.Q,0<a.id)(now:Int)(fK:s.now<=now∧now<=4611686018427387904):
  Calls Tryz.prog 20 #[.pointer (some ⟨N,0,none⟩),.int .u64 now] w λe w'=>∃o,e=.returned o∧Hid ((s.jY now).Inv (k+1))∧Ct N g s (s.jY now) w o w':=by
 have hA:=n.cr.tb.ok;have hl:=n.cr.tb.len;have hb0:Below w.heap.size w (w.alloc je):=bC;have hC0:(w.alloc je).heap[w.heap.size]?=some je:=bS _ _;have kK:¬Ft N g s w.heap.size:=λh=>by have:=n.lt h;omega
 have hs0:(w.alloc je).heap.size=w.heap.size+1:=by simp
 have n0:=n.later hb0;have hM:=(qZ hI).2 now fK hA hl;obtain⟨s3,hs3⟩:∃z,s.locked.begin now=z:=⟨_,rfl⟩;rw[hs3]at hM;have I4:Hid (s3.lk=1):=by show _=_;rw[<-hs3];rfl
 have NG:Hid (s3.Q=s.Q):=by show _=_;rw[<-hs3];rfl
 have yM:Hid (s3.now=now):=by show _=_;rw[<-hs3];rfl
 have Ue:Hid (s3.me=s.me):=by show _=_;rw[<-hs3];rfl
 replace hM:=hide hM;dsimp only[je]at hb0 hC0 hs0 n0
 go_enter_defers Tryz.func20,Tryz.ntmps20
 go_upto_region 1 with(fail);generalize World.alloc _ _=W1 at hb0 hC0 hs0 n0 ⊢;obtain⟨c0,f0⟩:=n0.Nh;rw[hI.lk]at c0;go_wp2_with fail;refine aT (lock_free nK ⟨N,0,none⟩ W1 c0 f0) ?_;rintro e w2 ⟨rfl,rfl⟩;obtain⟨n2,hg2⟩:=n0.l6 1;have hf2:Fx (Ft N g s) w (W1.setCell ⟨N,0,none⟩ (.int .i32 1)):=aV (Fx.below hb0) hg2 (λi _ e=>by cases e;exact .inl (.inl rfl));have hC2:=(hg2.block w.heap.size (by omega) (λe=>kK (by cases e;exact .inl (.inl rfl)))).trans hC0;have hs2:w.heap.size+1<=(W1.setCell ⟨N,0,none⟩ (.int .i32 1)).heap.size:=by
  have:=hg2.size;omega
 have hcn:=hI.cnt;have HB:=hide (zX n2 now ⟨hI.dom.mb,hI.dom.on,hI.dom.own⟩ ⟨hcn.1,by dsimp only;omega⟩);rw[show({s with lk:=1}:St).begin now=s3 from hs3]at HB;have hF1:Hid (∀k,Ft N ({g with x:={g.x with lk:=1}}:bI) ({s with lk:=1}:St) k->Ft N g s k):=λk h=>h;replace hs3:=hide hs3;clear n0 hC0 hs0 hb0 c0 f0 hg2 hA hl hcn;generalize ({g with x:={g.x with lk:=1}}:bI)=g1 at n2 HB hF1;generalize ({s with lk:=1}:St)=s1 at n2 HB hF1;generalize World.setCell _ _ _=W2 at n2 hf2 hC2 hs2 HB ⊢;go_wp2_with fail;refine aT HB.out ?_;rintro e w3 ⟨g3,rfl,n3,u3,ZW,t3⟩;clear t3;clear HB;have Uu:Hid (dV s3 TL):=by
  show dV _ _;unfold dV;rw[NG.out];exact hT
 have HG:=hide (acD n3 hM.out (by omega) hk Uu.out (by rw[NG.out];exact hpos));have hDl:Hid ((St.j_ s3.Q s3.now).length<=5000):=by
  show _<=_;unfold St.j_;rw[(List.mergeSort_perm _ _).length_eq];exact dH (List.length_filter_le _ _) n3.nn.rs.sr.len
 clear ZW n2 n3 hpos;go_wp2_with fail;refine aT HG.out ?_;rintro e w5 ⟨rfl,g1',w1',s5,g5,Rh,adl,n5,u5,_,t5,_,nO,ad1,hk5⟩;have hs5:Hid ((St.j_ s3.Q now).foldl St.step s3=s5):=by
  show _=_;rw[adl.out,List.take_length,yM.out]
 have Yl:Hid (dV s5 Rh):=by
  have:=nO.out;rw[List.drop_length]at this;exact this.done
 have nZ:Hid (s5.Mid k (1+(St.j_ s3.Q s3.now).length)):=ad1.out;have Fu:Hid (s5.lk=1):=hk5.out.lk.trans I4.out;have zl:=u3.trans u5;replace hDl:(St.j_ s3.Q s3.now).length<=5000:=hDl.out;generalize (St.j_ s3.Q s3.now).length=dl at nZ hDl;clear HG u3 u5 adl nO ad1 hk5;have NI:=hide (mH nZ.out (by omega) n5.nn.cr.tb.ok n5.nn.cr.tb.len);have Oj:=hide (oU n5 nZ.out.dom (by have:=nZ.out.cnt;omega) (by have:=nZ.out.bg;omega) nZ.out.bd nZ.out.seq);go_wp2_with fail;refine aT Oj.out ?_;rintro e w6 ⟨g6,rfl,n6,u6,t6⟩;obtain⟨s6,hs6⟩:∃z,s5.finish=z:=⟨_,rfl⟩;have Fs:s6.lk=1:=by rw[<-hs6,(aO s5).lk];exact Fu.out
 have Yk:Hid (dV s6 Rh):=by
  show dV _ _;unfold dV;rw[<-hs6,(aO s5).Q];exact Yl.out
 have jS:Hid (s.jY now=s6.freed):=by
  show _=_;rw[<-hs6];unfold St.jY St.tick;rw[hs3.out];dsimp only;rw[hs5.out]
 rw[hs6]at n6 u6 NI ⊢;have nG:=zl.trans u6;clear Oj hs6 u6 n5 zl;have FJ:=nG.Rq (aB _);have nN:∀k,Ft N g6 s6 k->Ft N g s k∨(w.heap.size<=k∧k<w6.heap.size):=λk hk=>(nG.sub k hk).elim (λh=> .inl (hF1.out k h)) λh=> .inr ⟨by omega,h.2⟩;have gG:=(FJ.block w.heap.size (by omega) (λh=>kK (hF1.out _ h))).trans hC2;have kP:¬Ft N g6 s6 w.heap.size:=λh=>(nG.sub _ h).elim (λh=>kK (hF1.out _ h)) (by omega);have NC:=hf2.trans FJ (λi _ h=>hF1.out i h);have r1:=ownsRow_base_a n6.ac.aJ (show w.heap.size<=W2.heap.size+1 by omega);have r2:=ownsRow_base_a n6.ac.bL (show w.heap.size<=W2.heap.size+1 by omega);have r3:=ownsRow_base_a n6.ac.bO (show w.heap.size<=W2.heap.size+1 by omega);have m6:=n6.nn;obtain⟨af,kf,hf,_⟩:=ay r1;obtain⟨ac,kc,hc,_⟩:=ay r2;obtain⟨ad,kd,hdd,_⟩:=ay r3;rw[hf]at r1;rw[hc]at r2;rw[hdd]at r3;rw[hf,hc,hdd];simp only[iZ];clear n6 hf hc hdd nG FJ hf2 hC2;generalize hjj:s6.aZ=jj;replace hjj:=hide hjj;obtain⟨z0,z1,z2,z3,z4⟩:=cells5 gG;obtain⟨y0,y1,y2,y3,y4⟩:=yS gG;have g_:=ah (ah (ah (ah (ah (aC w6 (some w.heap.size)) 0 (.string jj)) 1 (.bool s6.bn)) 2 (.slice af s6.aI.length kf)) 3 (.slice ac s6.aR.length kc)) 4 (.slice ad s6.aQ.length kd);have gL:(((((w6.setCell ⟨w.heap.size,0,none⟩ (.string jj)).setCell ⟨w.heap.size,1,none⟩ (.bool s6.bn)).setCell ⟨w.heap.size,2,none⟩ (.slice af s6.aI.length kf)).setCell ⟨w.heap.size,3,none⟩ (.slice ac s6.aR.length kc)).setCell ⟨w.heap.size,4,none⟩ (.slice ad s6.aQ.length kd)).heap[w.heap.size]?=some (.cells #[.string jj,.bool s6.bn,.slice af s6.aI.length kf,.slice ac s6.aR.length kc,.slice ad s6.aQ.length kd] 52):=by
  simp[World.setCell,Array.getElem?_modify,gG]
 have r1:=r1.kept g_ (.inr (aA r1 gG (λc e=>(by cases e))));have r2:=r2.kept g_ (.inr (aA r2 gG (λc e=>(by cases e))));have r3:=r3.kept g_ (.inr (aA r3 gG (λc e=>(by cases e))));have m7:=m6.kept λk hk=>g_.block k (m6.lt hk) (λe=>kP (by cases e;exact hk));have pX:=aV NC g_ (λi hi e=>by cases e;omega);have kH:=λk hk=>(nN k hk).imp_right λh=>(⟨h.1,fO h.2 g_.size⟩:w.heap.size<=k∧_);clear m6 g_ NC gG nN;go_wp2_with fail;generalize World.setCell _ _ _=W7 at gL r1 r2 r3 m7 pX kH ⊢;obtain⟨p0,p1,p2,p3,p4⟩:=cells5 gL;obtain⟨c0,f0⟩:=m7.Nh;rw[Fs]at c0;refine leaves_cons (f:=50) (args:=#[.pointer (some ⟨N,0,none⟩)]) (by simp) (by simp[go_sem]) ?_;refine(unlock_deferred nK ⟨N,0,none⟩ .returning W7 c0 f0).mono ?_;rintro e u' w'' ⟨rfl,rfl,rfl⟩;obtain⟨m8,jL⟩:=m7.l6 0;have Cz:N≠w.heap.size:=λe=>kP (by rw[<-e];exact .inl (.inl rfl));have ig:=(jL.block w.heap.size (aF gL) (λe=>by cases e;exact Cz rfl)).trans gL;have r1:=r1.kept jL (.inr (aA r1 m7.cr.nd (λc e=>(by cases e))));have r2:=r2.kept jL (.inr (aA r2 m7.cr.nd (λc e=>(by cases e))));have r3:=r3.kept jL (.inr (aA r3 m7.cr.nd (λc e=>(by cases e))));have yN:=aV pX jL (λi hi e=>by cases e;exact .inl (.inl rfl));have nM:=λk hk=>(kH k hk).imp_right λh=>(⟨h.1,fO h.2 jL.size⟩:w.heap.size<=k∧_);clear p0 p1 p2 p3 p4 c0 f0 jL m7 pX kH gL;generalize World.setCell _ _ _=W8 at ig r1 r2 r3 m8 yN nM ⊢;obtain⟨p0,p1,p2,p3,p4⟩:=cells5 ig;refine⟨.agg #[.string jj,.bool s6.bn,.slice af s6.aI.length kf,.slice ac s6.aR.length kc,.slice ad s6.aQ.length kd],by simp[results,Tryz.results20,go_sem,p0,p1,p2,p3,p4],_,rfl,?_⟩;rw[jS.out];refine⟨NI,_,Rh,.slice af s6.aI.length kf,.slice ac s6.aR.length kc,.slice ad s6.aQ.length kd,?_,m8,Yk.out,r1,r2,r3,yN,nM⟩;rw[<-hjj.out];rfl
variable{s:St}
theorem aaj{TL:List Hp.Tm}(hT:dV s TL)(h:∀q∈s.Q,q.id<=s.tl):∀x∈TL,x.2.1<=s.tl:=λx hx=>by
 obtain⟨q,hq,rfl⟩:=dh.1 (hT.mem_iff.1 hx);exact h q hq
theorem acH{N:Nat}{g:bI}{TL:List Hp.Tm}{w:World}(n:Nn N g s TL w){k:Int}(hI:s.Inv k)(hk:0<=k∧k<=100000000000)(hT:dV s TL)(now d:Int)(t:ByteArray)(fK:s.now<=now∧now<=4611686018427387904)(hd:a_ d)(ht:t.size<=16)(D5:d≠s.me)(hd0:d≠0)(hQ:s.Q.length<=4999):
  Calls Tryz.prog 21 #[.pointer (some ⟨N,0,none⟩),.int .u64 now,.int .u32 d,.string t] w λe w'=>∃o,e=.returned (.tuple #[o,.int .i64 0])∧Hid ((s.snd now d t).Inv (k+1))∧Ct N g s (s.snd now d t) w o w':=by
 have h16:¬(16:Int)<(t.size:Int):=by omega
 have abz:(d==s.me)=false:=by simpa using D5
 have afx:(d==0)=false:=by simpa using hd0
 have hA:=n.cr.tb.ok;have hl:=n.cr.tb.len;have hb0:Below w.heap.size w (w.alloc je):=bC;have hC0:(w.alloc je).heap[w.heap.size]?=some je:=bS _ _;have kK:¬Ft N g s w.heap.size:=λh=>by have:=n.lt h;omega
 have hs0:(w.alloc je).heap.size=w.heap.size+1:=by simp
 have n0:=n.later hb0;have hM:=(qZ hI).2 now fK hA hl;obtain⟨s3,hs3⟩:∃z,s.locked.begin now=z:=⟨_,rfl⟩;rw[hs3]at hM;have I4:Hid (s3.lk=1):=by show _=_;rw[<-hs3];rfl
 have NG:Hid (s3.Q=s.Q):=by show _=_;rw[<-hs3];rfl
 have yM:Hid (s3.now=now):=by show _=_;rw[<-hs3];rfl
 have Ue:Hid (s3.me=s.me):=by show _=_;rw[<-hs3];rfl
 replace hM:=hide hM;dsimp only[je]at hb0 hC0 hs0 n0
 go_enter_defers Tryz.func21,Tryz.ntmps21
 go_upto_region 1 with(fail);generalize World.alloc _ _=W1 at hb0 hC0 hs0 n0 ⊢;obtain⟨c0,f0⟩:=n0.Nh;rw[hI.lk]at c0;go_wp2_with fail;refine aT (lock_free nK ⟨N,0,none⟩ W1 c0 f0) ?_;rintro e w2 ⟨rfl,rfl⟩;obtain⟨n2,hg2⟩:=n0.l6 1;have hf2:Fx (Ft N g s) w (W1.setCell ⟨N,0,none⟩ (.int .i32 1)):=aV (Fx.below hb0) hg2 (λi _ e=>by cases e;exact .inl (.inl rfl));have hC2:=(hg2.block w.heap.size (by omega) (λe=>kK (by cases e;exact .inl (.inl rfl)))).trans hC0;have hs2:w.heap.size+1<=(W1.setCell ⟨N,0,none⟩ (.int .i32 1)).heap.size:=by
  have:=hg2.size;omega
 have hcn:=hI.cnt;have HB:=hide (zX n2 now ⟨hI.dom.mb,hI.dom.on,hI.dom.own⟩ ⟨hcn.1,by dsimp only;omega⟩);rw[show({s with lk:=1}:St).begin now=s3 from hs3]at HB;have hF1:Hid (∀k,Ft N ({g with x:={g.x with lk:=1}}:bI) ({s with lk:=1}:St) k->Ft N g s k):=λk h=>h;replace hs3:=hide hs3;have c2:=n2.cr.nd.cell.2.1;rw[n2.eq.self]at c2;dsimp only at c2;clear n0 hC0 hs0 hb0 c0 f0 hg2 hA hl hcn;generalize ({g with x:={g.x with lk:=1}}:bI)=g1 at n2 HB hF1;generalize ({s with lk:=1}:St)=s1 at n2 HB hF1;generalize World.setCell _ _ _=W2 at n2 hf2 c2 hC2 hs2 HB ⊢;go_wp2_with fail;refine aT HB.out ?_;rintro e w3 ⟨g3,rfl,n3,u3,ZW,t3⟩;clear t3;clear HB;have Uu:Hid (dV s3 TL):=by
  show dV _ _;unfold dV;rw[NG.out];exact hT
 have hlen:=hide (n3.nn.aaC Uu.out);have HS:=hide (Cj n3 d hd t ht hM.out.me hM.out.now (by have:=hM.out.aI;omega));obtain⟨fd,xN⟩:∃b,(bH s3.A d s3.now).2=b:=⟨_,rfl⟩;rw[xN]at HS;have hQl:Hid (s3.Q.length<=4999):=by show _<=_;rw[NG.out];exact hQ
 clear ZW n2 n3 c2 h16 abz afx;go_wp2_with fail;refine aT HS.out ?_;rintro e w4 ⟨rfl,g4,n4,u4,t4,y4⟩;have qf:=u3.trans u4;clear HS u3 u4 t4 y4;cases fd
 ·have he4:s3.aN d t=s3:=by
   unfold St.aN;rw[xN];rfl
  rw[he4]at n4 qf;have HA:=hide (Zm n4 (hM.out.rdy (by omega) hk) (by have:=hM.out.aQ;omega) d hd t ht (by have:=hlen.out;omega) hQl.out (by have:=hM.out.tl;omega) (aaj Uu.out hM.out.EF));obtain⟨V_,hKa⟩:=Po hM.out n4.nn.cr.tb.ok n4.nn.cr.tb.len d t;obtain⟨s5,hs5⟩:∃z,s3.await d t=z:=⟨_,rfl⟩;rw[hs5]at HA V_ hKa;have nZ:Hid (s5.Mid k 2):=V_;have Fu:Hid (s5.lk=1):=hKa.lk.trans I4.out;have abv:Hid ((bH s3.A d s3.now).2=false):=xN;replace hs5:=hide hs5;clear he4 V_ hKa n4 xN;go_wp2_with fail;refine aT HA.out ?_;rintro e w5 ⟨rfl,Rh,⟨g5,n5,u5,t5⟩,Q9⟩;have Yl:Hid (dV s5 Rh):=Q9 Uu.out;have zl:=qf.trans u5;clear HA u5 qf Q9 t5;have NI:=hide (mH nZ.out (by omega) n5.nn.cr.tb.ok n5.nn.cr.tb.len);have Oj:=hide (oU n5 nZ.out.dom (by have:=nZ.out.cnt;omega) (by have:=nZ.out.bg;omega) nZ.out.bd nZ.out.seq);go_wp2_with fail;refine aT Oj.out ?_;rintro e w6 ⟨g6,rfl,n6,u6,t6⟩;obtain⟨s6,hs6⟩:∃z,s5.finish=z:=⟨_,rfl⟩;have Fs:s6.lk=1:=by rw[<-hs6,(aO s5).lk];exact Fu.out
  have Yk:Hid (dV s6 Rh):=by
   show dV _ _;unfold dV;rw[<-hs6,(aO s5).Q];exact Yl.out
  have jS:Hid (s.snd now d t=s6.freed):=by
   show _=_;rw[<-hs6];unfold St.snd St.sends;rw[hs3.out];dsimp only;rw[abv.out];simp only[Bool.false_eq_true,if_false];rw[hs5.out]
  rw[hs6]at n6 u6 NI ⊢;have nG:=zl.trans u6;clear Oj hs6 u6 n5 zl;have FJ:=nG.Rq (aB _);have nN:∀k,Ft N g6 s6 k->Ft N g s k∨(w.heap.size<=k∧k<w6.heap.size):=λk hk=>(nG.sub k hk).elim (λh=> .inl (hF1.out k h)) λh=> .inr ⟨by omega,h.2⟩;have gG:=(FJ.block w.heap.size (by omega) (λh=>kK (hF1.out _ h))).trans hC2;have kP:¬Ft N g6 s6 w.heap.size:=λh=>(nG.sub _ h).elim (λh=>kK (hF1.out _ h)) (by omega);have NC:=hf2.trans FJ (λi _ h=>hF1.out i h);have r1:=ownsRow_base_a n6.ac.aJ (show w.heap.size<=W2.heap.size+1 by omega);have r2:=ownsRow_base_a n6.ac.bL (show w.heap.size<=W2.heap.size+1 by omega);have r3:=ownsRow_base_a n6.ac.bO (show w.heap.size<=W2.heap.size+1 by omega);have m6:=n6.nn;obtain⟨af,kf,hf,_⟩:=ay r1;obtain⟨ac,kc,hc,_⟩:=ay r2;obtain⟨ad,kd,hdd,_⟩:=ay r3;rw[hf]at r1;rw[hc]at r2;rw[hdd]at r3;rw[hf,hc,hdd];simp only[iZ];clear n6 hf hc hdd nG FJ hf2 hC2;generalize hjj:s6.aZ=jj;replace hjj:=hide hjj;obtain⟨z0,z1,z2,z3,z4⟩:=cells5 gG;obtain⟨y0,y1,y2,y3,y4⟩:=yS gG;have g_:=ah (ah (ah (ah (ah (aC w6 (some w.heap.size)) 0 (.string jj)) 1 (.bool s6.bn)) 2 (.slice af s6.aI.length kf)) 3 (.slice ac s6.aR.length kc)) 4 (.slice ad s6.aQ.length kd);have gL:(((((w6.setCell ⟨w.heap.size,0,none⟩ (.string jj)).setCell ⟨w.heap.size,1,none⟩ (.bool s6.bn)).setCell ⟨w.heap.size,2,none⟩ (.slice af s6.aI.length kf)).setCell ⟨w.heap.size,3,none⟩ (.slice ac s6.aR.length kc)).setCell ⟨w.heap.size,4,none⟩ (.slice ad s6.aQ.length kd)).heap[w.heap.size]?=some (.cells #[.string jj,.bool s6.bn,.slice af s6.aI.length kf,.slice ac s6.aR.length kc,.slice ad s6.aQ.length kd] 52):=by
   simp[World.setCell,Array.getElem?_modify,gG]
  have r1:=r1.kept g_ (.inr (aA r1 gG (λc e=>(by cases e))));have r2:=r2.kept g_ (.inr (aA r2 gG (λc e=>(by cases e))));have r3:=r3.kept g_ (.inr (aA r3 gG (λc e=>(by cases e))));have m7:=m6.kept λk hk=>g_.block k (m6.lt hk) (λe=>kP (by cases e;exact hk));have pX:=aV NC g_ (λi hi e=>by cases e;omega);have kH:=λk hk=>(nN k hk).imp_right λh=>(⟨h.1,fO h.2 g_.size⟩:w.heap.size<=k∧_);clear m6 g_ NC gG nN;go_wp2_with fail;generalize World.setCell _ _ _=W7 at gL r1 r2 r3 m7 pX kH ⊢;obtain⟨p0,p1,p2,p3,p4⟩:=cells5 gL;obtain⟨c0,f0⟩:=m7.Nh;rw[Fs]at c0;refine leaves_cons (f:=50) (args:=#[.pointer (some ⟨N,0,none⟩)]) (by simp) (by simp[go_sem]) ?_;refine(unlock_deferred nK ⟨N,0,none⟩ .returning W7 c0 f0).mono ?_;rintro e u' w'' ⟨rfl,rfl,rfl⟩;obtain⟨m8,jL⟩:=m7.l6 0;have Cz:N≠w.heap.size:=λe=>kP (by rw[<-e];exact .inl (.inl rfl));have ig:=(jL.block w.heap.size (aF gL) (λe=>by cases e;exact Cz rfl)).trans gL;have r1:=r1.kept jL (.inr (aA r1 m7.cr.nd (λc e=>(by cases e))));have r2:=r2.kept jL (.inr (aA r2 m7.cr.nd (λc e=>(by cases e))));have r3:=r3.kept jL (.inr (aA r3 m7.cr.nd (λc e=>(by cases e))));have yN:=aV pX jL (λi hi e=>by cases e;exact .inl (.inl rfl));have nM:=λk hk=>(kH k hk).imp_right λh=>(⟨h.1,fO h.2 jL.size⟩:w.heap.size<=k∧_);clear p0 p1 p2 p3 p4 c0 f0 jL m7 pX kH gL;generalize World.setCell _ _ _=W8 at ig r1 r2 r3 m8 yN nM ⊢;obtain⟨p0,p1,p2,p3,p4⟩:=cells5 ig;refine⟨.tuple #[.agg #[.string jj,.bool s6.bn,.slice af s6.aI.length kf,.slice ac s6.aR.length kc,.slice ad s6.aQ.length kd],.int .i64 0],by simp[results,Tryz.results21,go_sem,p0,p1,p2,p3,p4],.agg #[.string jj,.bool s6.bn,.slice af s6.aI.length kf,.slice ac s6.aR.length kc,.slice ad s6.aQ.length kd],rfl,?_⟩;rw[jS.out];refine⟨NI,_,Rh,.slice af s6.aI.length kf,.slice ac s6.aR.length kc,.slice ad s6.aQ.length kd,?_,m8,Yk.out,r1,r2,r3,yN,nM⟩;rw[<-hjj.out];rfl
 ·obtain⟨V_,hKa⟩:=E_ hM.out d t;obtain⟨s5,hs5⟩:∃z,s3.aN d t=z:=⟨_,rfl⟩;have hQ5:s5.Q=s3.Q:=by rw[<-hs5];exact(fq s3 d t).1
  rw[hs5]at n4 qf V_ hKa;have nZ:Hid (s5.Mid k 2):=V_;have Fu:Hid (s5.lk=1):=hKa.lk.trans I4.out;have abv:Hid ((bH s3.A d s3.now).2=true):=xN;have Yl:Hid (dV s5 TL):=by
   show dV _ _;unfold dV;rw[hQ5];exact Uu.out
  replace hs5:=hide hs5;clear V_ hKa xN hQ5;have NI:=hide (mH nZ.out (by omega) n4.nn.cr.tb.ok n4.nn.cr.tb.len);have Oj:=hide (oU n4 nZ.out.dom (by have:=nZ.out.cnt;omega) (by have:=nZ.out.bg;omega) nZ.out.bd nZ.out.seq);go_wp2_with fail;refine aT Oj.out ?_;rintro e w6 ⟨g6,rfl,n6,u6,t6⟩;obtain⟨s6,hs6⟩:∃z,s5.finish=z:=⟨_,rfl⟩;have Fs:s6.lk=1:=by rw[<-hs6,(aO s5).lk];exact Fu.out
  have Yk:Hid (dV s6 TL):=by
   show dV _ _;unfold dV;rw[<-hs6,(aO s5).Q];exact Yl.out
  have jS:Hid (s.snd now d t=s6.freed):=by
   show _=_;rw[<-hs6];unfold St.snd St.sends;rw[hs3.out];dsimp only;rw[abv.out];simp only[if_true];rw[hs5.out]
  rw[hs6]at n6 u6 NI ⊢;have nG:=qf.trans u6;clear Oj hs6 u6 n4 qf;have FJ:=nG.Rq (aB _);have nN:∀k,Ft N g6 s6 k->Ft N g s k∨(w.heap.size<=k∧k<w6.heap.size):=λk hk=>(nG.sub k hk).elim (λh=> .inl (hF1.out k h)) λh=> .inr ⟨by omega,h.2⟩;have gG:=(FJ.block w.heap.size (by omega) (λh=>kK (hF1.out _ h))).trans hC2;have kP:¬Ft N g6 s6 w.heap.size:=λh=>(nG.sub _ h).elim (λh=>kK (hF1.out _ h)) (by omega);have NC:=hf2.trans FJ (λi _ h=>hF1.out i h);have r1:=ownsRow_base_a n6.ac.aJ (show w.heap.size<=W2.heap.size+1 by omega);have r2:=ownsRow_base_a n6.ac.bL (show w.heap.size<=W2.heap.size+1 by omega);have r3:=ownsRow_base_a n6.ac.bO (show w.heap.size<=W2.heap.size+1 by omega);have m6:=n6.nn;obtain⟨af,kf,hf,_⟩:=ay r1;obtain⟨ac,kc,hc,_⟩:=ay r2;obtain⟨ad,kd,hdd,_⟩:=ay r3;rw[hf]at r1;rw[hc]at r2;rw[hdd]at r3;rw[hf,hc,hdd];simp only[iZ];clear n6 hf hc hdd nG FJ hf2 hC2;generalize hjj:s6.aZ=jj;replace hjj:=hide hjj;obtain⟨z0,z1,z2,z3,z4⟩:=cells5 gG;obtain⟨y0,y1,y2,y3,y4⟩:=yS gG;have g_:=ah (ah (ah (ah (ah (aC w6 (some w.heap.size)) 0 (.string jj)) 1 (.bool s6.bn)) 2 (.slice af s6.aI.length kf)) 3 (.slice ac s6.aR.length kc)) 4 (.slice ad s6.aQ.length kd);have gL:(((((w6.setCell ⟨w.heap.size,0,none⟩ (.string jj)).setCell ⟨w.heap.size,1,none⟩ (.bool s6.bn)).setCell ⟨w.heap.size,2,none⟩ (.slice af s6.aI.length kf)).setCell ⟨w.heap.size,3,none⟩ (.slice ac s6.aR.length kc)).setCell ⟨w.heap.size,4,none⟩ (.slice ad s6.aQ.length kd)).heap[w.heap.size]?=some (.cells #[.string jj,.bool s6.bn,.slice af s6.aI.length kf,.slice ac s6.aR.length kc,.slice ad s6.aQ.length kd] 52):=by
   simp[World.setCell,Array.getElem?_modify,gG]
  have r1:=r1.kept g_ (.inr (aA r1 gG (λc e=>(by cases e))));have r2:=r2.kept g_ (.inr (aA r2 gG (λc e=>(by cases e))));have r3:=r3.kept g_ (.inr (aA r3 gG (λc e=>(by cases e))));have m7:=m6.kept λk hk=>g_.block k (m6.lt hk) (λe=>kP (by cases e;exact hk));have pX:=aV NC g_ (λi hi e=>by cases e;omega);have kH:=λk hk=>(nN k hk).imp_right λh=>(⟨h.1,fO h.2 g_.size⟩:w.heap.size<=k∧_);clear m6 g_ NC gG nN;go_wp2_with fail;generalize World.setCell _ _ _=W7 at gL r1 r2 r3 m7 pX kH ⊢;obtain⟨p0,p1,p2,p3,p4⟩:=cells5 gL;obtain⟨c0,f0⟩:=m7.Nh;rw[Fs]at c0;refine leaves_cons (f:=50) (args:=#[.pointer (some ⟨N,0,none⟩)]) (by simp) (by simp[go_sem]) ?_;refine(unlock_deferred nK ⟨N,0,none⟩ .returning W7 c0 f0).mono ?_;rintro e u' w'' ⟨rfl,rfl,rfl⟩;obtain⟨m8,jL⟩:=m7.l6 0;have Cz:N≠w.heap.size:=λe=>kP (by rw[<-e];exact .inl (.inl rfl));have ig:=(jL.block w.heap.size (aF gL) (λe=>by cases e;exact Cz rfl)).trans gL;have r1:=r1.kept jL (.inr (aA r1 m7.cr.nd (λc e=>(by cases e))));have r2:=r2.kept jL (.inr (aA r2 m7.cr.nd (λc e=>(by cases e))));have r3:=r3.kept jL (.inr (aA r3 m7.cr.nd (λc e=>(by cases e))));have yN:=aV pX jL (λi hi e=>by cases e;exact .inl (.inl rfl));have nM:=λk hk=>(kH k hk).imp_right λh=>(⟨h.1,fO h.2 jL.size⟩:w.heap.size<=k∧_);clear p0 p1 p2 p3 p4 c0 f0 jL m7 pX kH gL;generalize World.setCell _ _ _=W8 at ig r1 r2 r3 m8 yN nM ⊢;obtain⟨p0,p1,p2,p3,p4⟩:=cells5 ig;refine⟨.tuple #[.agg #[.string jj,.bool s6.bn,.slice af s6.aI.length kf,.slice ac s6.aR.length kc,.slice ad s6.aQ.length kd],.int .i64 0],by simp[results,Tryz.results21,go_sem,p0,p1,p2,p3,p4],.agg #[.string jj,.bool s6.bn,.slice af s6.aI.length kf,.slice ac s6.aR.length kc,.slice ad s6.aQ.length kd],rfl,?_⟩;rw[jS.out];refine⟨NI,_,TL,.slice af s6.aI.length kf,.slice ac s6.aR.length kc,.slice ad s6.aQ.length kd,?_,m8,Yk.out,r1,r2,r3,yN,nM⟩;rw[<-hjj.out];rfl
theorem VE{N:Nat}{g:bI}{s:St}{TL:List Hp.Tm}{w:World}(n:Nn N g s TL w)(hlk:s.lk=0)(now d:Int)(t:ByteArray)(r:Int)(h:(16<t.size∧r=6)∨(t.size<=16∧(d=s.me∨d=0)∧r=2)):
  Calls Tryz.prog 21 #[.pointer (some ⟨N,0,none⟩),.int .u64 now,.int .u32 d,.string t] w λe w'=>e=.returned (.tuple #[.agg #[.string ⟨#[]⟩,.bool false,.slice none 0 0,.slice none 0 0,.slice none 0 0],.int .i64 r])∧Nn N g s TL w'∧Fx (Ft N g s) w w':=by
 have hb0:Below w.heap.size w (w.alloc je):=bC;have hC0:(w.alloc je).heap[w.heap.size]?=some je:=bS _ _;have kK:¬Ft N g s w.heap.size:=λh=>by have:=n.lt h;omega
 have hs0:(w.alloc je).heap.size=w.heap.size+1:=by simp
 have n0:=n.later hb0;dsimp only[je]at hb0 hC0 hs0 n0
 go_enter_defers Tryz.func21,Tryz.ntmps21
 go_upto_region 1 with(fail);generalize World.alloc _ _=W1 at hb0 hC0 hs0 n0 ⊢;obtain⟨c0,f0⟩:=n0.Nh;rw[hlk]at c0;go_wp2_with fail;refine aT (lock_free nK ⟨N,0,none⟩ W1 c0 f0) ?_;rintro e w2 ⟨rfl,rfl⟩;obtain⟨n2,hg2⟩:=n0.l6 1;have hf2:Fx (Ft N g s) w (W1.setCell ⟨N,0,none⟩ (.int .i32 1)):=aV (Fx.below hb0) hg2 (λi _ e=>by cases e;exact .inl (.inl rfl));have hC2:=(hg2.block w.heap.size (by omega) (λe=>kK (by cases e;exact .inl (.inl rfl)))).trans hC0;have hs2:w.heap.size+1<=(W1.setCell ⟨N,0,none⟩ (.int .i32 1)).heap.size:=by
  have:=hg2.size;omega
 have c2:=n2.cr.nd.cell.2.1;rw[n2.eq.self]at c2;dsimp only at c2;have hback:Hid (∀ {W:World},Nn N {({g with x:={g.x with lk:=1}}:bI)with x:={({g with x:={g.x with lk:=1}}:bI).x with lk:=0}} {({s with lk:=1}:St)with lk:=0} TL W->Nn N g s TL W):=by
  intro W m;have e1:({({s with lk:=1}:St)with lk:=0}:St)=s:=by rw[<-hlk]
  have hx:g.x.lk=0:=n.eq.lk.trans hlk;have e2:({({g with x:={g.x with lk:=1}}:bI)with x:={({g with x:={g.x with lk:=1}}:bI).x with lk:=0}}:bI)=g:=by
   obtain⟨x,a,M,ff,gg,sz,h,u,Mt,hp,tv⟩:=g;obtain⟨lk,self,seq,cZ,T,Ms,tn,own,Mo,cnt,dm,eG,qK,Tm,pc⟩:=x;dsimp only at hx;subst hx;rfl
  rw[e1,e2]at m;exact m
 have hF1:Hid (∀k,Ft N ({g with x:={g.x with lk:=1}}:bI) ({s with lk:=1}:St) k->Ft N g s k):=λk h=>h;have Uh:Hid (({s with lk:=1}:St).lk=1):=rfl;clear n0 hC0 hs0 hb0 c0 f0 hg2;generalize ({g with x:={g.x with lk:=1}}:bI)=g1 at n2 hF1 hback;generalize ({s with lk:=1}:St)=s1 at n2 hF1 Uh hback;generalize World.setCell _ _ _=W2 at n2 hf2 c2 hC2 hs2 ⊢;obtain⟨z0,z1,z2,z3,z4⟩:=cells5 hC2;obtain⟨y0,y1,y2,y3,y4⟩:=yS hC2;rcases h with⟨afY,rfl⟩|⟨afY,hd,rfl⟩
 ·have h16:(16:Int)<(t.size:Int):=by omega
  have g_:=ah (ah (ah (ah (ah (aC W2 (some w.heap.size)) 0 (.string ⟨#[]⟩)) 1 (.bool false)) 2 (.slice none 0 0)) 3 (.slice none 0 0)) 4 (.slice none 0 0);have gL:(((((W2.setCell ⟨w.heap.size,0,none⟩ (.string ⟨#[]⟩)).setCell ⟨w.heap.size,1,none⟩ (.bool false)).setCell ⟨w.heap.size,2,none⟩ (.slice none 0 0)).setCell ⟨w.heap.size,3,none⟩ (.slice none 0 0)).setCell ⟨w.heap.size,4,none⟩ (.slice none 0 0)).heap[w.heap.size]?=some (.cells #[.string ⟨#[]⟩,.bool false,.slice none 0 0,.slice none 0 0,.slice none 0 0] 52):=by
   simp[World.setCell,Array.getElem?_modify,hC2]
  have m7:=n2.kept λk hk=>g_.block k (n2.lt hk) (λe=>kK (by cases e;exact hF1.out _ hk));have pX:=aV hf2 g_ (λi hi e=>by cases e;omega);clear n2 g_ hf2 hC2;go_wp2_with fail;generalize World.setCell _ _ _=W7 at gL m7 pX ⊢;obtain⟨c0,f0⟩:=m7.Nh;rw[Uh.out]at c0;refine leaves_cons (f:=50) (args:=#[.pointer (some ⟨N,0,none⟩)]) (by simp) (by simp[go_sem]) ?_;refine(unlock_deferred nK ⟨N,0,none⟩ .returning W7 c0 f0).mono ?_;rintro e u' w'' ⟨rfl,rfl,rfl⟩;obtain⟨m8,jL⟩:=m7.l6 0;have Cz:N≠w.heap.size:=λe=>kK (by rw[<-e];exact .inl (.inl rfl));have ig:=(jL.block w.heap.size (aF gL) (λe=>by cases e;exact Cz rfl)).trans gL;have yN:=aV pX jL (λi hi e=>by cases e;exact .inl (.inl rfl));have r_:=hback.out m8;clear c0 f0 jL m7 m8 pX gL;generalize World.setCell _ _ _=W8 at ig yN r_ ⊢;obtain⟨p0,p1,p2,p3,p4⟩:=cells5 ig;refine⟨.tuple #[.agg #[.string ⟨#[]⟩,.bool false,.slice none 0 0,.slice none 0 0,.slice none 0 0],.int .i64 6],by simp[results,Tryz.results21,go_sem,p0,p1,p2,p3,p4],rfl,r_,yN⟩
 ·have h16:¬(16:Int)<(t.size:Int):=by omega
  rcases hd with rfl|rfl
  ·have D5:(s.me==s.me)=true:=beq_self_eq_true _;have g_:=ah (ah (ah (ah (ah (aC W2 (some w.heap.size)) 0 (.string ⟨#[]⟩)) 1 (.bool false)) 2 (.slice none 0 0)) 3 (.slice none 0 0)) 4 (.slice none 0 0);have gL:(((((W2.setCell ⟨w.heap.size,0,none⟩ (.string ⟨#[]⟩)).setCell ⟨w.heap.size,1,none⟩ (.bool false)).setCell ⟨w.heap.size,2,none⟩ (.slice none 0 0)).setCell ⟨w.heap.size,3,none⟩ (.slice none 0 0)).setCell ⟨w.heap.size,4,none⟩ (.slice none 0 0)).heap[w.heap.size]?=some (.cells #[.string ⟨#[]⟩,.bool false,.slice none 0 0,.slice none 0 0,.slice none 0 0] 52):=by
    simp[World.setCell,Array.getElem?_modify,hC2]
   have m7:=n2.kept λk hk=>g_.block k (n2.lt hk) (λe=>kK (by cases e;exact hF1.out _ hk));have pX:=aV hf2 g_ (λi hi e=>by cases e;omega);clear n2 g_ hf2 hC2;go_wp2_with fail;generalize World.setCell _ _ _=W7 at gL m7 pX ⊢;obtain⟨c0,f0⟩:=m7.Nh;rw[Uh.out]at c0;refine leaves_cons (f:=50) (args:=#[.pointer (some ⟨N,0,none⟩)]) (by simp) (by simp[go_sem]) ?_;refine(unlock_deferred nK ⟨N,0,none⟩ .returning W7 c0 f0).mono ?_;rintro e u' w'' ⟨rfl,rfl,rfl⟩;obtain⟨m8,jL⟩:=m7.l6 0;have Cz:N≠w.heap.size:=λe=>kK (by rw[<-e];exact .inl (.inl rfl));have ig:=(jL.block w.heap.size (aF gL) (λe=>by cases e;exact Cz rfl)).trans gL;have yN:=aV pX jL (λi hi e=>by cases e;exact .inl (.inl rfl));have r_:=hback.out m8;clear c0 f0 jL m7 m8 pX gL;generalize World.setCell _ _ _=W8 at ig yN r_ ⊢;obtain⟨p0,p1,p2,p3,p4⟩:=cells5 ig;refine⟨.tuple #[.agg #[.string ⟨#[]⟩,.bool false,.slice none 0 0,.slice none 0 0,.slice none 0 0],.int .i64 2],by simp[results,Tryz.results21,go_sem,p0,p1,p2,p3,p4],rfl,r_,yN⟩
  ·have hd0:((0:Int)==0)=true:=rfl;by_cases D5:(0:Int)=s.me
   ·have abz:((0:Int)==s.me)=true:=by simpa using D5
    clear D5;have g_:=ah (ah (ah (ah (ah (aC W2 (some w.heap.size)) 0 (.string ⟨#[]⟩)) 1 (.bool false)) 2 (.slice none 0 0)) 3 (.slice none 0 0)) 4 (.slice none 0 0);have gL:(((((W2.setCell ⟨w.heap.size,0,none⟩ (.string ⟨#[]⟩)).setCell ⟨w.heap.size,1,none⟩ (.bool false)).setCell ⟨w.heap.size,2,none⟩ (.slice none 0 0)).setCell ⟨w.heap.size,3,none⟩ (.slice none 0 0)).setCell ⟨w.heap.size,4,none⟩ (.slice none 0 0)).heap[w.heap.size]?=some (.cells #[.string ⟨#[]⟩,.bool false,.slice none 0 0,.slice none 0 0,.slice none 0 0] 52):=by
     simp[World.setCell,Array.getElem?_modify,hC2]
    have m7:=n2.kept λk hk=>g_.block k (n2.lt hk) (λe=>kK (by cases e;exact hF1.out _ hk));have pX:=aV hf2 g_ (λi hi e=>by cases e;omega);clear n2 g_ hf2 hC2;go_wp2_with fail;generalize World.setCell _ _ _=W7 at gL m7 pX ⊢;obtain⟨c0,f0⟩:=m7.Nh;rw[Uh.out]at c0;refine leaves_cons (f:=50) (args:=#[.pointer (some ⟨N,0,none⟩)]) (by simp) (by simp[go_sem]) ?_;refine(unlock_deferred nK ⟨N,0,none⟩ .returning W7 c0 f0).mono ?_;rintro e u' w'' ⟨rfl,rfl,rfl⟩;obtain⟨m8,jL⟩:=m7.l6 0;have Cz:N≠w.heap.size:=λe=>kK (by rw[<-e];exact .inl (.inl rfl));have ig:=(jL.block w.heap.size (aF gL) (λe=>by cases e;exact Cz rfl)).trans gL;have yN:=aV pX jL (λi hi e=>by cases e;exact .inl (.inl rfl));have r_:=hback.out m8;clear c0 f0 jL m7 m8 pX gL;generalize World.setCell _ _ _=W8 at ig yN r_ ⊢;obtain⟨p0,p1,p2,p3,p4⟩:=cells5 ig;refine⟨.tuple #[.agg #[.string ⟨#[]⟩,.bool false,.slice none 0 0,.slice none 0 0,.slice none 0 0],.int .i64 2],by simp[results,Tryz.results21,go_sem,p0,p1,p2,p3,p4],rfl,r_,yN⟩
   ·have abz:((0:Int)==s.me)=false:=by simpa using D5
    clear D5;have g_:=ah (ah (ah (ah (ah (aC W2 (some w.heap.size)) 0 (.string ⟨#[]⟩)) 1 (.bool false)) 2 (.slice none 0 0)) 3 (.slice none 0 0)) 4 (.slice none 0 0);have gL:(((((W2.setCell ⟨w.heap.size,0,none⟩ (.string ⟨#[]⟩)).setCell ⟨w.heap.size,1,none⟩ (.bool false)).setCell ⟨w.heap.size,2,none⟩ (.slice none 0 0)).setCell ⟨w.heap.size,3,none⟩ (.slice none 0 0)).setCell ⟨w.heap.size,4,none⟩ (.slice none 0 0)).heap[w.heap.size]?=some (.cells #[.string ⟨#[]⟩,.bool false,.slice none 0 0,.slice none 0 0,.slice none 0 0] 52):=by
     simp[World.setCell,Array.getElem?_modify,hC2]
    have m7:=n2.kept λk hk=>g_.block k (n2.lt hk) (λe=>kK (by cases e;exact hF1.out _ hk));have pX:=aV hf2 g_ (λi hi e=>by cases e;omega);clear n2 g_ hf2 hC2;go_wp2_with fail;generalize World.setCell _ _ _=W7 at gL m7 pX ⊢;obtain⟨c0,f0⟩:=m7.Nh;rw[Uh.out]at c0;refine leaves_cons (f:=50) (args:=#[.pointer (some ⟨N,0,none⟩)]) (by simp) (by simp[go_sem]) ?_;refine(unlock_deferred nK ⟨N,0,none⟩ .returning W7 c0 f0).mono ?_;rintro e u' w'' ⟨rfl,rfl,rfl⟩;obtain⟨m8,jL⟩:=m7.l6 0;have Cz:N≠w.heap.size:=λe=>kK (by rw[<-e];exact .inl (.inl rfl));have ig:=(jL.block w.heap.size (aF gL) (λe=>by cases e;exact Cz rfl)).trans gL;have yN:=aV pX jL (λi hi e=>by cases e;exact .inl (.inl rfl));have r_:=hback.out m8;clear c0 f0 jL m7 m8 pX gL;generalize World.setCell _ _ _=W8 at ig yN r_ ⊢;obtain⟨p0,p1,p2,p3,p4⟩:=cells5 ig;refine⟨.tuple #[.agg #[.string ⟨#[]⟩,.bool false,.slice none 0 0,.slice none 0 0,.slice none 0 0],.int .i64 2],by simp[results,Tryz.results21,go_sem,p0,p1,p2,p3,p4],rfl,r_,yN⟩
variable{x:Bool×Int×Int}
def zy(x:Bool×Int×Int):Rt:=⟨x.2.1,gr x.2.2,0,0,false,0,[]⟩
def Cw(me:Int)(x:Bool×Int×Int):Bool:=!x.1&&(x.2.1 !=me)
def V3(me:Int)(A:List Rt)(x:Bool×Int×Int):List Rt:=if Cw me x&&decide (A.length<8)then A++ [zy x]else A
def um(me:Int)(out:List (Bool×Int×Int)):List Rt:=out.foldl (V3 me) []
theorem AZ(me:Int){out:List (Bool×Int×Int)}{k:Nat}{x:Bool×Int×Int}(h:out[k]?=some x):um me (out.take (k+1))=V3 me (um me (out.take k)) x:=by
 rw[o8 h];simp[um]
theorem M4(me:Int)(out:List (Bool×Int×Int)):∀k,(um me (out.take k)).length<=8:=by
 intro k
 induction k with
 |zero=>simp[um]
 |succ k ih=>
  cases hx:out[k]? with
  |none=>
   have hk:=List.getElem?_eq_none_iff.1 hx;rw[jD (by omega)];rw[jD (by omega)]at ih;exact ih
  |some x=>
   rw[AZ me hx];unfold V3;split
   ·rename_i h;have h8:(um me (out.take k)).length<8:=by
     revert h
     cases Cw me x<;>simp
    simp;omega
   ·exact ih
theorem zO(me:Int)(out:List (Bool×Int×Int)):∀k,∀z∈um me (out.take k),∃j x,j<k∧out[j]?=some x∧Cw me x=true∧z=zy x:=by
 intro k
 induction k with
 |zero=>intro z hz;simp[um]at hz
 |succ k ih=>
  intro z hz;cases hx:out[k]? with
  |none=>
   have hk:=List.getElem?_eq_none_iff.1 hx;rw[jD (by omega)]at hz;rw[jD (by omega)]at ih;obtain⟨j,x,h1,h2⟩:=ih z hz;exact⟨j,x,by omega,h2⟩
  |some x=>
   rw[AZ me hx]at hz;unfold V3 at hz;split at hz
   ·rename_i h;rcases dG.1 hz with hz|hz
    ·obtain⟨j,y,h1,h2⟩:=ih z hz;exact⟨j,y,by omega,h2⟩
    ·simp at hz;refine⟨k,x,by omega,hx,?_,hz⟩
     revert h
     cases Cw me x<;>simp
   ·obtain⟨j,y,h1,h2⟩:=ih z hz;exact⟨j,y,by omega,h2⟩
def Ris(out:List (Bool×Int×Int)):Prop:=out.Pairwise λa b=>a.1=false->b.1=false->a.2.1<b.2.1
theorem Ris.get{out:List (Bool×Int×Int)}(h:Ris out){j k:Nat}{x y:Bool×Int×Int}(hj:out[j]?=some x)(hk:out[k]?=some y)(hjk:j<k)(hx:x.1=false)(hy:y.1=false):x.2.1<y.2.1:=by
 obtain⟨h1,rfl⟩:=fu.1 hj;obtain⟨h2,rfl⟩:=fu.1 hk;exact List.pairwise_iff_getElem.1 h j k h1 h2 hjk hx hy
theorem EW{me:Int}(h:Cw me x=true):x.1=false:=by
 unfold Cw at h
 revert h
 cases x.1<;>simp
theorem Pd(me:Int){out:List (Bool×Int×Int)}(h:Ris out){k:Nat}{x:Bool×Int×Int}(hx:out[k]?=some x)(hp:Cw me x=true):∀z∈um me (out.take k),z.dest<x.2.1:=by
 intro z hz;obtain⟨j,y,hj,hy,hyp,rfl⟩:=zO me out k z hz;exact h.get hy hx hj (EW hyp) (EW hp)
theorem Vi{A:List Rt}(h:Asc A){x:Rt}(hx:∀z∈A,z.dest<x.dest):Asc (A++ [x]):=by
 unfold Asc;rw[List.pairwise_append];exact⟨h,List.pairwise_singleton _ _,λa ha b hb=>by simp at hb;subst hb;exact hx a ha⟩
theorem Xn{f:Int->Option Int}{c:Option Int}{out:List (Bool×Int×Int)}(h:iT f c out):Ris out:=by
 obtain⟨ss,hp,_,rfl⟩:=h;have h2:Ris (gM f ss):=by
  unfold Ris gM;rw[List.pairwise_map];exact hp.imp (λhab _ _=>hab)
 unfold Ris at *;cases c with
 |none=>exact h2
 |some s=>exact List.pairwise_cons.2 ⟨λb _ h=>(by cases h),h2⟩
theorem aaT:∀(L:List (Bool×Int×Int)) (f:Int->Option Int),MB f->qx L->MB (L.foldl stepM f):=by
 intro L
 induction L with
 |nil=>intro f hf _;exact hf
 |cons x L ih=>
  intro f hf hb;have hx:=MK hb (gm ..);exact ih _ (hf.step hx.1 hx.2) (λy hy=>hb y (iJ _ hy))
theorem SL{L out:List (Bool×Int×Int)}(hb:qx L)(h:iT (mG L) (qI L) out){x:Bool×Int×Int}(hx:x∈out)(ho:x.1=false):a_ x.2.1∧a_ x.2.2:=by
 obtain⟨ss,hp,hm,rfl⟩:=h;rcases dG.1 hx with hx|hx
 ·revert hx
  cases qI L with
  |none=>intro hx;cases hx
  |some s=>
   intro hx;simp[dz]at hx;rw[hx]at ho;cases ho
 ·obtain⟨a,ha,rfl⟩:=dh.1 hx;have hMB:MB (mG L):=aaT L _ Te hb;obtain⟨v,hv⟩:=Option.isSome_iff_exists.1 ((hm a).1 ha);exact⟨(hMB a v hv).1,hMB.getD a⟩
theorem M0(h1:a_ x.2.1)(h2:a_ x.2.2):(zy x).Ok:=⟨h1,uG h2,by simp[zy,oW],by simp[zy,a_],by simp[zy,BZ],by simp[zy],by simp[zy],by simp[zy]⟩
theorem MT.empty{me:Int}{T M:Nat}{W:World}(hT:Gu T me M W)(hM:fH W M (λ_=>none) 0):MT me T M (λ_=>none) (λ_=> .slice none 0 0) [] W:=
 ⟨hT,hM,List.Pairwise.nil,by simp,λd B _ h=>(by cases h),by simp,by simp,by simp,by simp⟩
def cmpL(L:List (Bool×Int×Int)):List (Bool×Int×Int):=L.foldl (λo r=>AJ o (norm r)) []
def St.new(me:Int)(xs:List Int)(now:Int):St:=
 St.finish ⟨me,gr ((qI (jl xs)).getD 0),if xs=[]then 0 else now+2000,0,0,um me (cmpL (jl xs)),[],0,λ_=>none,0,0,[],0,[],now,[],[],[],[],decide (xs≠ []),0⟩
end Go.Proofs.YtakaadcpaeiccabGreat
