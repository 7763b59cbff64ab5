import Derived.Test.YtakaadcpaeiccabGreatV16
set_option maxHeartbeats 8000000
set_option maxRecDepth 100000
namespace Go.Proofs.YtakaadcpaeiccabGreat
open Go.RowKit Go.Maps
theorem Sd:(Tryz.prog.info? 172).map (λi=>(i.zero,i.size,i.bytes))=some (some (.pointer none),1,8):=by kernel_rfl
theorem Pn(W:World)(B:Nat):∀(j:Nat) (u:Value),([.pointer (some ⟨B,0,none⟩)]:List Value)[j]?=some u->(W.alloc (.cells #[.pointer (some ⟨B,0,none⟩)] 172)).cell? ((⟨W.heap.size,0,none⟩:Addr).add j)=some u:=by
 intro j u hj;have h:=bV W (.cells #[.pointer (some ⟨B,0,none⟩)] 172);rw[Addr.add_lit,Nat.zero_add]
 match j,hj with
 |0,hj=>cases hj;exact aJ _ _ 0 _ _ _ h
def Yp(v:Value):Nat:=match v with
 | .slice _ n _=>n
 |_=>0
def adt(N B:Nat)(g:bI)(s:St)(_TL:List Hp.Tm)(D:List Sr)(w:World)(v:Value)(w':World):Prop:=∃g' dX,Nd N B g' s dX w'∧Up B (Ft N g s) (Ft N g' s) w w'∧Hid (g'.x.T=g.x.T)∧Hid (g'.h=g.h∧g'.u=g.u)∧Bj D s dX∧w'.ownsRow w.heap.size 172 1 v D.length (D.map λq=>gJ (g.h q.dest))
theorem adm{N B:Nat}{g:bI}{s:St}{TL:List Hp.Tm}{w:World}(n:Nd N B g s TL w)(hT:dV s TL)(hl:TL.length<=5000)(hle:∀a∈s.Q,a.id<=s.tl)(hpos:∀a∈s.Q,0<a.id)(now:Int)(h0:0<=now∧now<=4611686018427387904):
  Calls Tryz.prog 77 #[.pointer (some ⟨N,0,none⟩),.int .u64 now] w λe w'=>∃v,e=.returned v∧adt N B g s TL (St.jA s.Q now) w v w':=by
 obtain⟨i0,hi,hz0,hz1,hz2⟩:=info_parts Sd;have OD:=hide n.nn.ids;have EA:=hide n.nn.rs.sr.qM;have hok:=hide n.nn.rs.sr.ok;have hln:=hide (λq (hq:q∈s.Q)=>n.nn.rs.sr.ln q hq);have hT':=hide hT;have hle':=hide hle;have hpos':=hide hpos;clear hT hle hpos;go_enter Tryz.func77,Tryz.ntmps77;go_wp2_with fail;go_loopw [5] (λlv wr=>∃(D:List Sr) (g1:bI) (TL1:List Hp.Tm),Nd N B g1 s TL1 wr∧Up B (Ft N g s) (Ft N g1 s) w wr∧Hid (g1.x=g.x)∧Hid (g1.h=g.h∧g1.u=g.u)∧Hid (xO TL TL1 D now)∧Hid (∀a∈D,a∈s.Q)∧wr.ownsRow w.heap.size 172 1 lv D.length (D.map λq=>gJ (g.h q.dest))) (λlv _=>5000 - Yp lv)
 case atStart=>exact⟨[],g,TL,n,Up.refl _ _ _,rfl,⟨rfl,rfl⟩,xO.nil TL now,λ_ h=>(by cases h),⟨rfl,.inl ⟨rfl,rfl⟩⟩⟩
 case round=>
  clear n;obtain⟨D,g1,TL1,n1,u1,x1,y1,d1,m1,r1⟩:=hrel;have hlen:D.length+TL1.length=TL.length:=by
   have:=d1.out.pm.length_eq;rw[bU,gY]at this;exact this
  have HN:=hide (abj n1 now h0 (by omega));obtain⟨_,_,c13,c14,_⟩:=n1.nn.cr.nd.more;obtain⟨ao,c,rfl,_⟩:=ax r1;go_wp2_with fail;refine aU HN.out ?_;rintro e w2 ⟨h',v',Fp,d,b,rfl,n2,u2,hd⟩;have r2:w2.ownsRow w.heap.size 172 1 (.slice ao D.length c) D.length (D.map λq=>gJ (g.h q.dest)):=bQ r1 λk hk=>by
   obtain⟨cc,hc⟩:=aS r1 hk;exact(u2.block k _ hc (n1.ZF hc).1 (.inl ⟨λc e=>(by cases e),λc e=>(by cases e),λc e=>(by cases e),λc e=>(by cases e),λc e=>(by cases e)⟩)).trans hc.symm
  have UZ:=u1.trans u2;clear HN c13 c14 r1 u1 u2 n1;have x2:Hid (({g1 with hp:=h',tv:=v'}:bI).x=g.x):=x1;have y2:Hid (({g1 with hp:=h',tv:=v'}:bI).h=g.h∧({g1 with hp:=h',tv:=v'}:bI).u=g.u):=y1;generalize ({g1 with hp:=h',tv:=v'}:bI)=g2 at n2 UZ x2 y2;rcases hd with⟨rfl,x,hxd,hxn,hxm,hxp⟩|⟨rfl,hno,rfl⟩
  ·obtain⟨q,hq,rfl⟩:=dW.1 (hT'.out.mem_iff.1 (d1.out.pm.mem_iff.1 (List.mem_append_right _ (hxp.mem_iff.1 jT))));have adL:q.dest=d:=hxd;subst adL;have YA:=(hok.out q hq).dest;obtain⟨Bq,hBq,_⟩:=hln.out q hq;have hlk:=n2.nn.rs.sr.map.looks YA;rw[y2.out.1,hBq]at hlk;simp only[gJ]at hlk;have hd3:Hid (xO TL Fp (D++ [q]) now):=d1.out.snoc hxn hxm hxp;have oI:Hid (∀a∈D++ [q],a∈s.Q):=λa ha=>(fu.1 ha).elim (m1.out a) λh=>by rw[fM]at h;rw[h];exact hq
   have hD5:D.length+1<=5000:=by
    have:=hxp.length_eq;rw[dZ]at this;omega
   clear hxd hxn hxm hxp hlen d1 m1;obtain⟨_,_,c13,c14,_⟩:=n2.nn.cr.nd.more;have hk1:Hid (D.length+1<=maxLen):=by show _<=_;unfold maxLen;omega
   have hk2:Hid ((D.length+1)* 8<=140737488355328):=by show _<=_;omega
   have hmod:q.dest%4294967296=q.dest:=by unfold a_ at YA;omega
   have jE:Below w2.heap.size w2 (w2.alloc (.cells #[.pointer (some ⟨Bq,0,none⟩)] 172)):=bC;have h12:=UZ.size;go_wp2_with(at_builtin;refine wpList_append_own_at _ rfl _ _ 170 rfl w.heap.size 172 i0 (.pointer none) 1 8 Tryz.underlying170 hi hz0 hz1 hz2 rfl (by decide) (.slice ao D.length c) D.length (D.map λq=>gJ (g.h q.dest)) rfl (r2.alloc _) ⟨w2.heap.size,0,none⟩ 1 1 [.pointer (some ⟨Bq,0,none⟩)] rfl rfl (Pn w2 Bq) (by simp[Value.oneCell']) hk1.out hk2.out ?c3 ?_)
   case c3=>simp;omega
   intro v7 w7 ig gQ _ _;have nA:=n2.later jE;have F7:Fx (λk=>(Value.slice ao D.length c).ownBlock=some k) (w2.alloc (.cells #[.pointer (some ⟨Bq,0,none⟩)] 172)) w7:=Fx.grown gQ λk e=>e;have n7:=nA.off F7 (λk hk=>by
    obtain⟨cc,hc⟩:=aS (r2.alloc _) hk;exact nA.ZF hc)
   have hs7:=jE.size;have hs8:=F7.size;have u7:Up B (Ft N g s) (Ft N g2 s) w w7:=⟨λk hk=>(UZ.sub k hk).imp_right λh=>⟨h.1,by omega⟩,F7.os.trans (jE.os.trans UZ.os),F7.tape.trans (jE.tape.trans UZ.tape),F7.output.trans (jE.output.trans UZ.output),by omega,λk o ho hn hA=>by
    have hkw:=aG ho;have h2:=UZ.block k o ho hn hA;have hk2:=aG h2;have h3:(w2.alloc (.cells #[.pointer (some ⟨Bq,0,none⟩)] 172)).heap[k]?=some o:=(jE.block k hk2).trans h2;exact(F7.block k (by omega) (λe=>by have:=(r2.lt k e).1;omega)).trans h3⟩
   have r7:w7.ownsRow w.heap.size 172 1 v7 (D++ [q]).length ((D++ [q]).map λq=>gJ (g.h q.dest)):=by
    rw[bU,List.length_singleton,List.map_append,List.map_cons,List.map_nil,hBq];exact ig
   obtain⟨Qc,c7,rfl,_⟩:=ax ig;clear nA F7 hs7 hs8 jE h12 ig gQ n2 UZ r2 c13 c14 hlk;go_wp2;go_roundw
   case rel=>exact⟨D++ [q],g2,Fp,n7,u7,x2,y2,hd3,oI,r7⟩
   case measure=>simp[Yp];omega
  ·have hDe:=hide (d1.out.eq hT'.out m1.out EA.out OD.out hno);have hR:=hide (Bj.first d1.out hT'.out m1.out EA.out OD.out hle'.out hpos'.out);have hfin:Hid (adt N B g s TL (St.jA s.Q now) w (.slice ao D.length c) w2):=by
    rw[<-hDe.out];exact⟨g2,Fp,n2,UZ,by rw[x2.out];exact rfl,y2.out,hR.out,r2⟩
   clear hR hDe d1 m1 hno n2 UZ r2 hlen;go_wp2;go_ret;exact⟨_,rfl,hfin.out⟩
variable{B N:Nat}{q:Sr}{s:St}{w:World}
theorem CO{Q:List Sr}(hn:Q.Pairwise λa b=>a.dest≠b.dest){q:Sr}(hq:q∈Q):St.jU Q q.dest=some q:=by
 cases h:St.jU Q q.dest with
 |none=>
  have:=List.find?_eq_none.1 h q hq;simp at this
 |some z=>
  obtain⟨h1,h2⟩:=jw h;rw[uW hn h1 hq h2]
def GoI(N B:Nat)(g g1:bI)(s:St)(w w1:World)(D:List Sr)(k:Int)(j i:Nat)(wr:World):Prop:=
 ∃si gi Ps,Hid (si=(D.take i).foldl St.step s)∧Nd N B gi si Ps wr∧Up B (Ft N g s) (Ft N gi si) w wr∧Up B (Ft N g1 s) (Ft N gi si) w1 wr∧Hid (gi.x.T=g.x.T)∧Hid (∀a∈D.drop i,gi.h a.dest=g.h a.dest)∧Hid (Bj (D.drop i) si Ps)∧Hid (si.Mid k (j+i))∧Hid (Kp s si)
theorem Jw(hq:q∈s.Q)(hn:s.Q.Pairwise λa b=>a.dest≠b.dest)(hf:(bE s.A q.dest s.now).2=true){TL dX:List Hp.Tm}(ht:Fh q.id TL dX)(h4:∀q∈s.Q,q.txt.length<=4):TmR q s TL (s.sendAll q.dest) dX:=by
 refine .inr ⟨(nS s q.dest h4).tl,?_,ht⟩;unfold St.sendAll;rw[CO hn hq];dsimp only;rw[aI hf]
theorem Jy{d:Int}(hf:(bE s.A d s.now).2=false):s.sendAll d=s:=by
 unfold St.sendAll;split
 ·rfl
 ·rw[hf];rfl
theorem GoI.next{g g1 gi g5:bI}{si s2:St}{w1 wr w5:World}{D:List Sr}{k:Int}{j i:Nat}{Ps Fp:List Hp.Tm}(hx:D[i]?=some q)(hst:si=(D.take i).foldl St.step s)(ni:Nd N B gi si Ps wr)(u1:Up B (Ft N g s) (Ft N gi si) w wr)(u2:Up B (Ft N g1 s) (Ft N gi si) w1 wr)(t1:gi.x.T=g.x.T)(hh:∀a∈D.drop i,gi.h a.dest=g.h a.dest)(hr:Bj (D.drop i) si Ps)(hm:si.Mid k (j+i))(hk:Kp s si)
  (e2:si.step q=s2) (n5:Nd N B g5 s2 Fp w5) (u5:Up B (Ft N gi si) (Ft N g5 s2) wr w5) (t5:g5.x.T=gi.x.T) (h5:∀z,z≠q.dest->g5.h z=gi.h z) (ht:TmR q si Ps s2 Fp):GoI N B g g1 s w w1 D k j (i+1) w5:=by
 have hd:D.drop i=q::D.drop (i+1):=by
  obtain⟨hi,e⟩:=fO.1 hx;rw[List.drop_eq_getElem_cons hi,e]
 rw[hd]at hr hh;have hn:=ni.nn.rs.sr.qM;have h4:∀q∈si.Q,q.txt.length<=4:=λq hq=>(ni.nn.rs.sr.ok q hq).txt;obtain⟨m2,k2⟩:=mid_step hm ni.nn.cr.tb.ok ni.nn.cr.tb.len h4 q (h4 q (hr.mem q jT));rw[e2]at m2 k2;refine⟨s2,g5,Fp,?_,n5,u1.trans u5,u2.trans u5,t5.trans t1,λa ha=> ?_,hr.step hn ht,m2,hk.trans k2⟩
 ·show s2=_;rw[List.take_add_one,hx,List.foldl_append,<-hst,<-e2];rfl
 ·have h1:=(List.pairwise_cons.1 hr.qM).1 a ha;rw[h5 a.dest (Ne.symm h1)];exact hh a (lU _ ha)
theorem abm{g:bI}{TL:List Hp.Tm}(n:Nd N B g s TL w){k:Int}{j:Nat}(hM:s.Mid k j)(hj:j<=1000)(hk:0<=k∧k<=100000000000)(hT:dV s TL)(hpos:∀a∈s.Q,0<a.id):
  Calls Tryz.prog 52 #[.pointer (some ⟨N,0,none⟩),.pointer (some ⟨B,0,none⟩)] w λe w'=>e=.returned (.tuple #[])∧∃g1 w1,GoI N B g g1 s w w1 (St.jA s.Q s.now) k j (St.jA s.Q s.now).length w':=by
 have hlt:=n.nn.Zr hT;obtain⟨c2,c3,c4,c7,c0⟩:=n.cell;have HD:=hide (adm n hT (by omega) hM.D6 hpos s.now hM.now);have hDl:(St.jA s.Q s.now).length<=5000:=by
  unfold St.jA;rw[(List.mergeSort_perm _ _).length_eq];exact dN (List.length_filter_le _ _) n.nn.rs.sr.len
 generalize hDe:St.jA s.Q s.now=D at HD hDl ⊢;clear hDe;go_enter Tryz.func52,Tryz.ntmps52;go_wp2_with fail;refine aU HD.out ?_;rintro e w1 ⟨v,rfl,g1,TL1,n1,u1,t1,y1,r1,ho⟩;obtain⟨ao,c,rfl,_⟩:=ax ho;have hkeep:Hid (∀(gi:bI) (si:St) (wr:World),Up B (Ft N g1 s) (Ft N gi si) w1 wr->wr.ownsRow w.heap.size 172 1 (.slice ao D.length c) D.length (D.map λq=>gJ (g.h q.dest))):=λgi si wr u=>bQ ho λk hk=>by
  obtain⟨cc,hc⟩:=aS ho hk;exact(u.block k _ hc (n1.ZF hc).1 (.inl ⟨λc e=>(by cases e),λc e=>(by cases e),λc e=>(by cases e),λc e=>(by cases e),λc e=>(by cases e)⟩)).trans hc.symm
 have h0:Hid (GoI N B g g1 s w w1 D k j 0 w1):=⟨s,g1,TL1,rfl,n1,u1,Up.refl _ _ _,t1.out,λa _=>by rw[y1.out.1],by rw[List.drop_zero];exact r1,hM,Kp.refl s⟩;clear HD n n1 u1 t1 y1 r1 ho c2 c3 c4 c7 c0 hM hT hpos;go_wp2_with fail;go_loopw [13] (λvi wr=>∃i:Nat,i<=D.length∧vi=.int .i64 i∧GoI N B g g1 s w w1 D k j i wr) (λvi _=>D.length - (intOf vi).toNat)
 case atStart=>exact⟨0,dm _,rfl,h0.out⟩
 case round=>
  clear h0;obtain⟨i,hi,rfl,hg⟩:=hrel;by_cases hlt:i<D.length
  ·obtain⟨si,gi,Ps,hst,ni,u1,u2,t1,hh,hr,hm,hkp⟩:=hg;have hki:(i:Int)<(D.length:Int):=by omega
   obtain⟨q,hx⟩:∃q,D[i]?=some q:=⟨_,bS hlt⟩;have hd:q∈D.drop i:=by
    obtain⟨hi,e⟩:=fO.1 hx;rw[List.drop_eq_getElem_cons hi,e];exact jT
   have hqm:=hr.out.mem q hd;have hok:=ni.nn.rs.sr.ok q hqm;obtain⟨Bq,hB,hL⟩:=ni.nn.rs.sr.ln q hqm;have hgB:g.h q.dest=some Bq:=(hh.out q hd).symm.trans hB;have hrow:=hkeep.out gi si wr u2;obtain⟨gb,cb,hv,_⟩:=bZ hrow (by omega);cases hv;have d0:=(hrow.cellAt i (by simpa using hlt)).trans (by rw[l9,hx,Option.map_some,hgB];rfl:(D.map λq=>gJ (g.h q.dest))[i]?=some (.pointer (some ⟨Bq,0,none⟩)));have b0:=hL.cell.1;have OD:=hr.out.pos q hqm;have HS:=hide (tq ni q.dest hok.dest hm.out.me hm.out.now (by have:=hm.out.aF;omega) (by have:=hr.out.pm.length_eq;rw[gY]at this;have:=List.length_filter_le (sF (D.drop i)) si.Q;have:=ni.nn.rs.sr.len;omega));rw[CO ni.nn.rs.sr.qM hqm]at HS;have hwk:wrap64 ((i:Int)+1)=(i:Int)+1:=by unfold wrap64;omega
   have hTl:Ps.length<=5000:=by
    have:=hr.out.pm.length_eq;rw[gY]at this;have:=List.length_filter_le (sF (D.drop i)) si.Q;have:=ni.nn.rs.sr.len;omega
   have hTi:∀x∈Ps,x.2.1<=si.tl:=λx hx=>by
    obtain⟨z,hz,rfl⟩:=dW.1 (hr.out.pm.mem_iff.1 hx);exact hr.out.le z (List.mem_filter.1 hz).1
   have hnx:=hide (λ(s2:St) (g5:bI) (Fp:List Hp.Tm) (w5:World) (e2:si.step q=s2) (n5:Nd N B g5 s2 Fp w5) (u5:Up B (Ft N gi si) (Ft N g5 s2) wr w5) (t5:g5.x.T=gi.x.T) (h5:∀z,z≠q.dest->g5.h z=gi.h z) (ht:TmR q si Ps s2 Fp)=>GoI.next (g:=g) (g1:=g1) (w:=w) (w1:=w1) hx hst.out ni u1 u2 t1.out hh.out hr.out hm.out hkp.out e2 n5 u5 t5 h5 ht);have EA:=ni.nn.rs.sr.qM;have h4:∀q∈si.Q,q.txt.length<=4:=λq hq=>(ni.nn.rs.sr.ok q hq).txt;have hR:=hm.out.rdy (by omega) hk;have hdl:si.aP.length<=800000:=by have:=hm.out.aP;omega
   have htl:=hm.out.tl;clear hst u1 u2 t1 hh hr hkp hd hgB hrow;obtain⟨fd,yO⟩:∃b,(bE si.A q.dest si.now).2=b:=⟨_,rfl⟩;rw[yO]at HS;replace hx:=hide hx;replace EA:=hide EA;replace h4:=hide h4;replace hR:=hide hR;replace hTi:=hide hTi;replace hm:=hm;cases fd
   ·rw[Jy yO]at HS;go_wp2_with fail;refine aU HS.out ?_;rintro e w2 ⟨rfl,Fp,⟨g2,n2,u2,t2,y2⟩,_,hsame⟩;obtain rfl:Fp=Ps:=hsame (.inr rfl);have hB2:g2.h q.dest=some Bq:=(y2.out q.dest (λh=>by cases h.1)).trans hB;obtain⟨fn,hb2,hfn⟩:=n2.jU hqm hB2;have c5:=hb2.cell.2.2.2.2.2;rw[hfn (by omega)]at c5;have y2':=hide (λz=>y2.out z (λh=>by cases h.1));have hstep:si.step q=if q.out then si.widen q else si.ask q:=by
     unfold St.step;rw[yO];rfl
    obtain⟨qo,hqo⟩:∃b,q.out=b:=⟨_,rfl⟩;rw[hqo]at c5 hstep;clear HS hsame hb2 hfn y2 d0 b0 ni;cases qo
    ·have HA:=hide (UE n2 hR.out (by omega) q hqm Bq hB2 (by omega) (by omega) hTi.out);obtain⟨s2,hs2⟩:∃z,si.ask q=z:=⟨_,rfl⟩;have MC:=hide (MS si q q Fp rfl);rw[hs2]at HA MC;have Sv:Hid (si.step q=s2):=by show _=_;rw[hstep,<-hs2];rfl
     clear hs2 hstep n2;simp only[DN,if_false,Bool.false_eq_true]at c5;go_wp2_with fail;refine aU HA.out ?_;rintro e w5 ⟨rfl,g5,n5,u5,t5,y5⟩;have hn:=hide (hnx.out s2 g5 _ w5 Sv.out n5 (u2.trans u5) (t5.out.trans t2.out) (λz _=>by rw[y5.out.1];exact y2'.out z) MC.out);clear HA n5 u5 u2 hnx MC;go_wp2;go_roundw
     case rel=>exact⟨i+1,by omega,by go_num,hn.out⟩
     case measure=>simp[intOf];omega
    ·have HA:=hide (Yf n2 hR.out hdl q hqm Bq hB2 (by omega) (by omega) hTi.out);obtain⟨s2,hs2⟩:∃z,si.widen q=z:=⟨_,rfl⟩;rw[hs2]at HA;have Sv:Hid (si.step q=s2):=by show _=_;rw[hstep,<-hs2];rfl
     clear hs2 hstep n2;simp only[DN,if_true]at c5;go_wp2_with fail;refine aU HA.out ?_;rintro e w5 ⟨rfl,Qd,⟨g5,n5,u5,t5,y5⟩,MC⟩;have hn:=hide (hnx.out s2 g5 _ w5 Sv.out n5 (u2.trans u5) (t5.out.trans t2.out) (λz hz=>(y5.out z hz).trans (y2'.out z)) MC);clear HA n5 u5 u2 hnx MC;go_wp2;go_roundw
     case rel=>exact⟨i+1,by omega,by go_num,hn.out⟩
     case measure=>simp[intOf];omega
   ·obtain⟨s2,hs2⟩:∃z,si.sendAll q.dest=z:=⟨_,rfl⟩;have MC:Hid (∀Fp,Fh q.id Ps Fp->TmR q si Ps s2 Fp):=λFp h=>by rw[<-hs2];exact Jw hqm EA.out yO h h4.out
    have Sv:Hid (si.step q=s2):=by
     show _=_;unfold St.step;rw[yO,<-hs2];rfl
    rw[hs2]at HS;clear hs2 yO;go_wp2_with fail;refine aU HS.out ?_;rintro e w2 ⟨rfl,Fp,⟨g2,n2,u2,t2,y2⟩,htk,_⟩;have hn:=hide (hnx.out s2 g2 _ w2 Sv.out n2 u2 t2.out (λz hz=>y2.out z (by rintro⟨_,q',h,rfl⟩;cases h;exact hz rfl)) (MC.out Fp (htk q rfl rfl)));clear HS n2 u2 hnx MC htk y2 ni d0 b0;go_wp2;go_roundw
    case rel=>exact⟨i+1,by omega,by go_num,hn.out⟩
    case measure=>simp[intOf];omega
  ·obtain rfl:i=D.length:=by omega
   go_wp2;go_returns;exact⟨rfl,g1,w1,hg⟩
open Go.MuLone
theorem abp{N:Nat}{g:bI}{s:St}{TL:List Hp.Tm}{w:World}(n:Nn N g s TL w){k:Int}(hI:s.Inv k)(hk:0<=k∧k<=100000000000)(hT:dV s TL)(hpos:∀a∈s.Q,0<a.id)(now:Int)(di:s.now<=now∧now<=4611686018427387904):
  Calls Tryz.prog 20 #[.pointer (some ⟨N,0,none⟩),.int .u64 now] w λe w'=>∃o,e=.returned o∧Hid ((s.iW now).Inv (k+1))∧BD N g s (s.iW now) w o w':=by
 have hA:=n.cr.tb.ok;have hl:=n.cr.tb.len;have hb0:Below w.heap.size w (w.alloc jy):=bC;have hC0:(w.alloc jy).heap[w.heap.size]?=some jy:=bV _ _;have kJ:¬Ft N g s w.heap.size:=λh=>by have:=n.lt h;omega
 have hs0:(w.alloc jy).heap.size=w.heap.size+1:=by simp
 have n0:=n.later hb0;have hM:=(qN hI).2 now di hA hl;obtain⟨s3,hs3⟩:∃z,s.locked.begin now=z:=⟨_,rfl⟩;rw[hs3]at hM;have Hu:Hid (s3.lk=1):=by show _=_;rw[<-hs3];rfl
 have MF:Hid (s3.Q=s.Q):=by show _=_;rw[<-hs3];rfl
 have yg:Hid (s3.now=now):=by show _=_;rw[<-hs3];rfl
 have SK:Hid (s3.me=s.me):=by show _=_;rw[<-hs3];rfl
 replace hM:=hide hM;dsimp only[jy]at hb0 hC0 hs0 n0
 go_enter_defers Tryz.func20,Tryz.ntmps20
 go_upto_region 1 with(fail);generalize World.alloc _ _=W1 at hb0 hC0 hs0 n0 ⊢;obtain⟨c0,f0⟩:=n0.LX;rw[hI.lk]at c0;go_wp2_with fail;refine aU (lock_free nN ⟨N,0,none⟩ W1 c0 f0) ?_;rintro e w2 ⟨rfl,rfl⟩;obtain⟨n2,hg2⟩:=n0.l6 1;have hf2:Fx (Ft N g s) w (W1.setCell ⟨N,0,none⟩ (.int .i32 1)):=aW (Fx.below hb0) hg2 (λi _ e=>by cases e;exact .inl (.inl rfl));have hC2:=(hg2.block w.heap.size (by omega) (λe=>kJ (by cases e;exact .inl (.inl rfl)))).trans hC0;have hs2:w.heap.size+1<=(W1.setCell ⟨N,0,none⟩ (.int .i32 1)).heap.size:=by
  have:=hg2.size;omega
 have hcn:=hI.cnt;have HB:=hide (zw n2 now ⟨hI.dom.mb,hI.dom.on,hI.dom.own⟩ ⟨hcn.1,by dsimp only;omega⟩);rw[show({s with lk:=1}:St).begin now=s3 from hs3]at HB;have hF1:Hid (∀k,Ft N ({g with x:={g.x with lk:=1}}:bI) ({s with lk:=1}:St) k->Ft N g s k):=λk h=>h;replace hs3:=hide hs3;clear n0 hC0 hs0 hb0 c0 f0 hg2 hA hl hcn;generalize ({g with x:={g.x with lk:=1}}:bI)=g1 at n2 HB hF1;generalize ({s with lk:=1}:St)=s1 at n2 HB hF1;generalize World.setCell _ _ _=W2 at n2 hf2 hC2 hs2 HB ⊢;go_wp2_with fail;refine aU HB.out ?_;rintro e w3 ⟨g3,rfl,n3,u3,YO,t3⟩;clear t3;clear HB;have Tg:Hid (dV s3 TL):=by
  show dV _ _;unfold dV;rw[MF.out];exact hT
 have HG:=hide (abm n3 hM.out (by omega) hk Tg.out (by rw[MF.out];exact hpos));have hDl:Hid ((St.jA s3.Q s3.now).length<=5000):=by
  show _<=_;unfold St.jA;rw[(List.mergeSort_perm _ _).length_eq];exact dN (List.length_filter_le _ _) n3.nn.rs.sr.len
 clear YO n2 n3 hpos;go_wp2_with fail;refine aU HG.out ?_;rintro e w5 ⟨rfl,g1',w1',s5,g5,Qd,ab5,n5,u5,_,t5,_,nD,acR,hk5⟩;have hs5:Hid ((St.jA s3.Q now).foldl St.step s3=s5):=by
  show _=_;rw[ab5.out,List.take_length,yg.out]
 have Xi:Hid (dV s5 Qd):=by
  have:=nD.out;rw[List.drop_length]at this;exact this.done
 have nZ:Hid (s5.Mid k (1+(St.jA s3.Q s3.now).length)):=acR.out;have EC:Hid (s5.lk=1):=hk5.out.lk.trans Hu.out;have yH:=u3.trans u5;replace hDl:(St.jA s3.Q s3.now).length<=5000:=hDl.out;generalize (St.jA s3.Q s3.now).length=dl at nZ hDl;clear HG u3 u5 ab5 nD acR hk5;have MH:=hide (mE nZ.out (by omega) n5.nn.cr.tb.ok n5.nn.cr.tb.len);have M9:=hide (oQ n5 nZ.out.dom (by have:=nZ.out.cnt;omega) (by have:=nZ.out.bg;omega) nZ.out.bd nZ.out.seq);go_wp2_with fail;refine aU M9.out ?_;rintro e w6 ⟨g6,rfl,n6,u6,t6⟩;obtain⟨s6,hs6⟩:∃z,s5.finish=z:=⟨_,rfl⟩;have EB:s6.lk=1:=by rw[<-hs6,(aR s5).lk];exact EC.out
 have Xh:Hid (dV s6 Qd):=by
  show dV _ _;unfold dV;rw[<-hs6,(aR s5).Q];exact Xi.out
 have jV:Hid (s.iW now=s6.freed):=by
  show _=_;rw[<-hs6];unfold St.iW St.tick;rw[hs3.out];dsimp only;rw[hs5.out]
 rw[hs6]at n6 u6 MH ⊢;have nI:=yH.trans u6;clear M9 hs6 u6 n5 yH;have ER:=nI.toFx (aB _);have nQ:∀k,Ft N g6 s6 k->Ft N g s k∨(w.heap.size<=k∧k<w6.heap.size):=λk hk=>(nI.sub k hk).elim (λh=> .inl (hF1.out k h)) λh=> .inr ⟨by omega,h.2⟩;have gX:=(ER.block w.heap.size (by omega) (λh=>kJ (hF1.out _ h))).trans hC2;have kP:¬Ft N g6 s6 w.heap.size:=λh=>(nI.sub _ h).elim (λh=>kJ (hF1.out _ h)) (by omega);have Mk:=hf2.trans ER (λi _ h=>hF1.out i h);have r1:=ownsRow_base_a n6.ac.aH (show w.heap.size<=W2.heap.size+1 by omega);have r2:=ownsRow_base_a n6.ac.bO (show w.heap.size<=W2.heap.size+1 by omega);have r3:=ownsRow_base_a n6.ac.bP (show w.heap.size<=W2.heap.size+1 by omega);have m6:=n6.nn;obtain⟨af,kf,hf,_⟩:=ax r1;obtain⟨ac,kc,hc,_⟩:=ax r2;obtain⟨ad,kd,hdd,_⟩:=ax r3;rw[hf]at r1;rw[hc]at r2;rw[hdd]at r3;rw[hf,hc,hdd];simp only[jg];clear n6 hf hc hdd nI ER hf2 hC2;generalize hjj:s6.bH=jj;replace hjj:=hide hjj;obtain⟨z0,z1,z2,z3,z4⟩:=cells5 gX;obtain⟨y0,y1,y2,y3,y4⟩:=yw gX;have iY:=ah (ah (ah (ah (ah (aC w6 (some w.heap.size)) 0 (.string jj)) 1 (.bool s6.bB)) 2 (.slice af s6.aF.length kf)) 3 (.slice ac s6.aO.length kc)) 4 (.slice ad s6.aP.length kd);have gM:(((((w6.setCell ⟨w.heap.size,0,none⟩ (.string jj)).setCell ⟨w.heap.size,1,none⟩ (.bool s6.bB)).setCell ⟨w.heap.size,2,none⟩ (.slice af s6.aF.length kf)).setCell ⟨w.heap.size,3,none⟩ (.slice ac s6.aO.length kc)).setCell ⟨w.heap.size,4,none⟩ (.slice ad s6.aP.length kd)).heap[w.heap.size]?=some (.cells #[.string jj,.bool s6.bB,.slice af s6.aF.length kf,.slice ac s6.aO.length kc,.slice ad s6.aP.length kd] 52):=by
  simp[World.setCell,d_,gX]
 obtain⟨r1,r2,r3⟩:=sN iY gX r1 r2 r3 (by decide);have m7:=m6.kept λk hk=>iY.block k (m6.lt hk) (λe=>kP (by cases e;exact hk));have pJ:=aW Mk iY (λi hi e=>by cases e;omega);have kG:=λk hk=>(nQ k hk).imp_right λh=>(⟨h.1,fZ h.2 iY.size⟩:w.heap.size<=k∧_);clear m6 iY Mk gX nQ;go_wp2_with fail;generalize World.setCell _ _ _=W7 at gM r1 r2 r3 m7 pJ kG ⊢;obtain⟨p0,p1,p2,p3,p4⟩:=cells5 gM;obtain⟨c0,f0⟩:=m7.LX;rw[EB]at c0;refine leaves_cons (f:=50) (args:=#[.pointer (some ⟨N,0,none⟩)]) (by simp) (by simp[go_sem]) ?_;refine(unlock_deferred nN ⟨N,0,none⟩ .returning W7 c0 f0).mono ?_;rintro e u' w'' ⟨rfl,rfl,rfl⟩;obtain⟨m8,lF⟩:=m7.l6 0;have BK:N≠w.heap.size:=λe=>kP (by rw[<-e];exact .inl (.inl rfl));have g_:=(lF.block w.heap.size (aG gM) (λe=>by cases e;exact BK rfl)).trans gM;obtain⟨r1,r2,r3⟩:=sN lF m7.cr.nd r1 r2 r3 (by decide);have yh:=aW pJ lF (λi hi e=>by cases e;exact .inl (.inl rfl));have nP:=λk hk=>(kG k hk).imp_right λh=>(⟨h.1,fZ h.2 lF.size⟩:w.heap.size<=k∧_);clear p0 p1 p2 p3 p4 c0 f0 lF m7 pJ kG gM;generalize World.setCell _ _ _=W8 at g_ r1 r2 r3 m8 yh nP ⊢;obtain⟨p0,p1,p2,p3,p4⟩:=cells5 g_;refine⟨.agg #[.string jj,.bool s6.bB,.slice af s6.aF.length kf,.slice ac s6.aO.length kc,.slice ad s6.aP.length kd],by simp[results,Tryz.results20,go_sem,p0,p1,p2,p3,p4],_,rfl,?_⟩;rw[jV.out];refine⟨MH,_,Qd,.slice af s6.aF.length kf,.slice ac s6.aO.length kc,.slice ad s6.aP.length kd,?_,m8,Xh.out,r1,r2,r3,yh,nP⟩;rw[<-hjj.out];rfl
variable{s:St}
theorem Y8{TL:List Hp.Tm}(hT:dV s TL)(h:∀q∈s.Q,q.id<=s.tl):∀x∈TL,x.2.1<=s.tl:=λx hx=>by
 obtain⟨q,hq,rfl⟩:=dW.1 (hT.mem_iff.1 hx);exact h q hq
theorem abq{N:Nat}{g:bI}{TL:List Hp.Tm}{w:World}(n:Nn N g s TL w){k:Int}(hI:s.Inv k)(hk:0<=k∧k<=100000000000)(hT:dV s TL)(now d:Int)(t:ByteArray)(di:s.now<=now∧now<=4611686018427387904)(hd:a_ d)(ht:t.size<=16)(Mv:d≠s.me)(hd0:d≠0)(hQ:s.Q.length<=4999):
  Calls Tryz.prog 21 #[.pointer (some ⟨N,0,none⟩),.int .u64 now,.int .u32 d,.string t] w λe w'=>∃o,e=.returned (.tuple #[o,.int .i64 0])∧Hid ((s.snd now d t).Inv (k+1))∧BD N g s (s.snd now d t) w o w':=by
 have h16:¬(16:Int)<(t.size:Int):=by omega
 have aat:(d==s.me)=false:=by simpa using Mv
 have aen:(d==0)=false:=by simpa using hd0
 have hA:=n.cr.tb.ok;have hl:=n.cr.tb.len;have hb0:Below w.heap.size w (w.alloc jy):=bC;have hC0:(w.alloc jy).heap[w.heap.size]?=some jy:=bV _ _;have kJ:¬Ft N g s w.heap.size:=λh=>by have:=n.lt h;omega
 have hs0:(w.alloc jy).heap.size=w.heap.size+1:=by simp
 have n0:=n.later hb0;have hM:=(qN hI).2 now di hA hl;obtain⟨s3,hs3⟩:∃z,s.locked.begin now=z:=⟨_,rfl⟩;rw[hs3]at hM;have Hu:Hid (s3.lk=1):=by show _=_;rw[<-hs3];rfl
 have MF:Hid (s3.Q=s.Q):=by show _=_;rw[<-hs3];rfl
 have yg:Hid (s3.now=now):=by show _=_;rw[<-hs3];rfl
 have SK:Hid (s3.me=s.me):=by show _=_;rw[<-hs3];rfl
 replace hM:=hide hM;dsimp only[jy]at hb0 hC0 hs0 n0
 go_enter_defers Tryz.func21,Tryz.ntmps21
 go_upto_region 1 with(fail);generalize World.alloc _ _=W1 at hb0 hC0 hs0 n0 ⊢;obtain⟨c0,f0⟩:=n0.LX;rw[hI.lk]at c0;go_wp2_with fail;refine aU (lock_free nN ⟨N,0,none⟩ W1 c0 f0) ?_;rintro e w2 ⟨rfl,rfl⟩;obtain⟨n2,hg2⟩:=n0.l6 1;have hf2:Fx (Ft N g s) w (W1.setCell ⟨N,0,none⟩ (.int .i32 1)):=aW (Fx.below hb0) hg2 (λi _ e=>by cases e;exact .inl (.inl rfl));have hC2:=(hg2.block w.heap.size (by omega) (λe=>kJ (by cases e;exact .inl (.inl rfl)))).trans hC0;have hs2:w.heap.size+1<=(W1.setCell ⟨N,0,none⟩ (.int .i32 1)).heap.size:=by
  have:=hg2.size;omega
 have hcn:=hI.cnt;have HB:=hide (zw n2 now ⟨hI.dom.mb,hI.dom.on,hI.dom.own⟩ ⟨hcn.1,by dsimp only;omega⟩);rw[show({s with lk:=1}:St).begin now=s3 from hs3]at HB;have hF1:Hid (∀k,Ft N ({g with x:={g.x with lk:=1}}:bI) ({s with lk:=1}:St) k->Ft N g s k):=λk h=>h;replace hs3:=hide hs3;have c2:=n2.cr.nd.cell.2.1;rw[n2.eq.self]at c2;dsimp only at c2;clear n0 hC0 hs0 hb0 c0 f0 hg2 hA hl hcn;generalize ({g with x:={g.x with lk:=1}}:bI)=g1 at n2 HB hF1;generalize ({s with lk:=1}:St)=s1 at n2 HB hF1;generalize World.setCell _ _ _=W2 at n2 hf2 c2 hC2 hs2 HB ⊢;go_wp2_with fail;refine aU HB.out ?_;rintro e w3 ⟨g3,rfl,n3,u3,YO,t3⟩;clear t3;clear HB;have Tg:Hid (dV s3 TL):=by
  show dV _ _;unfold dV;rw[MF.out];exact hT
 have hlen:=hide (n3.nn.Zr Tg.out);have HS:=hide (Bp n3 d hd t ht hM.out.me hM.out.now (by have:=hM.out.aF;omega));obtain⟨fd,yO⟩:∃b,(bE s3.A d s3.now).2=b:=⟨_,rfl⟩;rw[yO]at HS;have hQl:Hid (s3.Q.length<=4999):=by show _<=_;rw[MF.out];exact hQ
 clear YO n2 n3 c2 h16 aat aen;go_wp2_with fail;refine aU HS.out ?_;rintro e w4 ⟨rfl,g4,n4,u4,t4,y4⟩;have pW:=u3.trans u4;clear HS u3 u4 t4 y4;cases fd
 ·have he4:s3.aZ d t=s3:=by
   unfold St.aZ;rw[yO];rfl
  rw[he4]at n4 pW;have HA:=hide (Yg n4 (hM.out.rdy (by omega) hk) (by have:=hM.out.aP;omega) d hd t ht (by have:=hlen.out;omega) hQl.out (by have:=hM.out.tl;omega) (Y8 Tg.out hM.out.D6));obtain⟨U6,hKa⟩:=Om hM.out n4.nn.cr.tb.ok n4.nn.cr.tb.len d t;obtain⟨s5,hs5⟩:∃z,s3.await d t=z:=⟨_,rfl⟩;rw[hs5]at HA U6 hKa;have nZ:Hid (s5.Mid k 2):=U6;have EC:Hid (s5.lk=1):=hKa.lk.trans Hu.out;have aap:Hid ((bE s3.A d s3.now).2=false):=yO;replace hs5:=hide hs5;clear he4 U6 hKa n4 yO;go_wp2_with fail;refine aU HA.out ?_;rintro e w5 ⟨rfl,Qd,⟨g5,n5,u5,t5⟩,P8⟩;have Xi:Hid (dV s5 Qd):=P8 Tg.out;have yH:=pW.trans u5;clear HA u5 pW P8 t5;have MH:=hide (mE nZ.out (by omega) n5.nn.cr.tb.ok n5.nn.cr.tb.len);have M9:=hide (oQ n5 nZ.out.dom (by have:=nZ.out.cnt;omega) (by have:=nZ.out.bg;omega) nZ.out.bd nZ.out.seq);go_wp2_with fail;refine aU M9.out ?_;rintro e w6 ⟨g6,rfl,n6,u6,t6⟩;obtain⟨s6,hs6⟩:∃z,s5.finish=z:=⟨_,rfl⟩;have EB:s6.lk=1:=by rw[<-hs6,(aR s5).lk];exact EC.out
  have Xh:Hid (dV s6 Qd):=by
   show dV _ _;unfold dV;rw[<-hs6,(aR s5).Q];exact Xi.out
  have jV:Hid (s.snd now d t=s6.freed):=by
   show _=_;rw[<-hs6];unfold St.snd St.sends;rw[hs3.out];dsimp only;rw[aap.out];simp only[Bool.false_eq_true,if_false];rw[hs5.out]
  rw[hs6]at n6 u6 MH ⊢;have nI:=yH.trans u6;clear M9 hs6 u6 n5 yH;have ER:=nI.toFx (aB _);have nQ:∀k,Ft N g6 s6 k->Ft N g s k∨(w.heap.size<=k∧k<w6.heap.size):=λk hk=>(nI.sub k hk).elim (λh=> .inl (hF1.out k h)) λh=> .inr ⟨by omega,h.2⟩;have gX:=(ER.block w.heap.size (by omega) (λh=>kJ (hF1.out _ h))).trans hC2;have kP:¬Ft N g6 s6 w.heap.size:=λh=>(nI.sub _ h).elim (λh=>kJ (hF1.out _ h)) (by omega);have Mk:=hf2.trans ER (λi _ h=>hF1.out i h);have r1:=ownsRow_base_a n6.ac.aH (show w.heap.size<=W2.heap.size+1 by omega);have r2:=ownsRow_base_a n6.ac.bO (show w.heap.size<=W2.heap.size+1 by omega);have r3:=ownsRow_base_a n6.ac.bP (show w.heap.size<=W2.heap.size+1 by omega);have m6:=n6.nn;obtain⟨af,kf,hf,_⟩:=ax r1;obtain⟨ac,kc,hc,_⟩:=ax r2;obtain⟨ad,kd,hdd,_⟩:=ax r3;rw[hf]at r1;rw[hc]at r2;rw[hdd]at r3;rw[hf,hc,hdd];simp only[jg];clear n6 hf hc hdd nI ER hf2 hC2;generalize hjj:s6.bH=jj;replace hjj:=hide hjj;obtain⟨z0,z1,z2,z3,z4⟩:=cells5 gX;obtain⟨y0,y1,y2,y3,y4⟩:=yw gX;have iY:=ah (ah (ah (ah (ah (aC w6 (some w.heap.size)) 0 (.string jj)) 1 (.bool s6.bB)) 2 (.slice af s6.aF.length kf)) 3 (.slice ac s6.aO.length kc)) 4 (.slice ad s6.aP.length kd);have gM:(((((w6.setCell ⟨w.heap.size,0,none⟩ (.string jj)).setCell ⟨w.heap.size,1,none⟩ (.bool s6.bB)).setCell ⟨w.heap.size,2,none⟩ (.slice af s6.aF.length kf)).setCell ⟨w.heap.size,3,none⟩ (.slice ac s6.aO.length kc)).setCell ⟨w.heap.size,4,none⟩ (.slice ad s6.aP.length kd)).heap[w.heap.size]?=some (.cells #[.string jj,.bool s6.bB,.slice af s6.aF.length kf,.slice ac s6.aO.length kc,.slice ad s6.aP.length kd] 52):=by
   simp[World.setCell,d_,gX]
  obtain⟨r1,r2,r3⟩:=sN iY gX r1 r2 r3 (by decide);have m7:=m6.kept λk hk=>iY.block k (m6.lt hk) (λe=>kP (by cases e;exact hk));have pJ:=aW Mk iY (λi hi e=>by cases e;omega);have kG:=λk hk=>(nQ k hk).imp_right λh=>(⟨h.1,fZ h.2 iY.size⟩:w.heap.size<=k∧_);clear m6 iY Mk gX nQ;go_wp2_with fail;generalize World.setCell _ _ _=W7 at gM r1 r2 r3 m7 pJ kG ⊢;obtain⟨p0,p1,p2,p3,p4⟩:=cells5 gM;obtain⟨c0,f0⟩:=m7.LX;rw[EB]at c0;refine leaves_cons (f:=50) (args:=#[.pointer (some ⟨N,0,none⟩)]) (by simp) (by simp[go_sem]) ?_;refine(unlock_deferred nN ⟨N,0,none⟩ .returning W7 c0 f0).mono ?_;rintro e u' w'' ⟨rfl,rfl,rfl⟩;obtain⟨m8,lF⟩:=m7.l6 0;have BK:N≠w.heap.size:=λe=>kP (by rw[<-e];exact .inl (.inl rfl));have g_:=(lF.block w.heap.size (aG gM) (λe=>by cases e;exact BK rfl)).trans gM;obtain⟨r1,r2,r3⟩:=sN lF m7.cr.nd r1 r2 r3 (by decide);have yh:=aW pJ lF (λi hi e=>by cases e;exact .inl (.inl rfl));have nP:=λk hk=>(kG k hk).imp_right λh=>(⟨h.1,fZ h.2 lF.size⟩:w.heap.size<=k∧_);clear p0 p1 p2 p3 p4 c0 f0 lF m7 pJ kG gM;generalize World.setCell _ _ _=W8 at g_ r1 r2 r3 m8 yh nP ⊢;obtain⟨p0,p1,p2,p3,p4⟩:=cells5 g_;refine⟨.tuple #[.agg #[.string jj,.bool s6.bB,.slice af s6.aF.length kf,.slice ac s6.aO.length kc,.slice ad s6.aP.length kd],.int .i64 0],by simp[results,Tryz.results21,go_sem,p0,p1,p2,p3,p4],.agg #[.string jj,.bool s6.bB,.slice af s6.aF.length kf,.slice ac s6.aO.length kc,.slice ad s6.aP.length kd],rfl,?_⟩;rw[jV.out];refine⟨MH,_,Qd,.slice af s6.aF.length kf,.slice ac s6.aO.length kc,.slice ad s6.aP.length kd,?_,m8,Xh.out,r1,r2,r3,yh,nP⟩;rw[<-hjj.out];rfl
 ·obtain⟨U6,hKa⟩:=Eo hM.out d t;obtain⟨s5,hs5⟩:∃z,s3.aZ d t=z:=⟨_,rfl⟩;have hQ5:s5.Q=s3.Q:=by rw[<-hs5];exact(jM s3 d t).1
  rw[hs5]at n4 pW U6 hKa;have nZ:Hid (s5.Mid k 2):=U6;have EC:Hid (s5.lk=1):=hKa.lk.trans Hu.out;have aap:Hid ((bE s3.A d s3.now).2=true):=yO;have Xi:Hid (dV s5 TL):=by
   show dV _ _;unfold dV;rw[hQ5];exact Tg.out
  replace hs5:=hide hs5;clear U6 hKa yO hQ5;have MH:=hide (mE nZ.out (by omega) n4.nn.cr.tb.ok n4.nn.cr.tb.len);have M9:=hide (oQ n4 nZ.out.dom (by have:=nZ.out.cnt;omega) (by have:=nZ.out.bg;omega) nZ.out.bd nZ.out.seq);go_wp2_with fail;refine aU M9.out ?_;rintro e w6 ⟨g6,rfl,n6,u6,t6⟩;obtain⟨s6,hs6⟩:∃z,s5.finish=z:=⟨_,rfl⟩;have EB:s6.lk=1:=by rw[<-hs6,(aR s5).lk];exact EC.out
  have Xh:Hid (dV s6 TL):=by
   show dV _ _;unfold dV;rw[<-hs6,(aR s5).Q];exact Xi.out
  have jV:Hid (s.snd now d t=s6.freed):=by
   show _=_;rw[<-hs6];unfold St.snd St.sends;rw[hs3.out];dsimp only;rw[aap.out];simp only[if_true];rw[hs5.out]
  rw[hs6]at n6 u6 MH ⊢;have nI:=pW.trans u6;clear M9 hs6 u6 n4 pW;have ER:=nI.toFx (aB _);have nQ:∀k,Ft N g6 s6 k->Ft N g s k∨(w.heap.size<=k∧k<w6.heap.size):=λk hk=>(nI.sub k hk).elim (λh=> .inl (hF1.out k h)) λh=> .inr ⟨by omega,h.2⟩;have gX:=(ER.block w.heap.size (by omega) (λh=>kJ (hF1.out _ h))).trans hC2;have kP:¬Ft N g6 s6 w.heap.size:=λh=>(nI.sub _ h).elim (λh=>kJ (hF1.out _ h)) (by omega);have Mk:=hf2.trans ER (λi _ h=>hF1.out i h);have r1:=ownsRow_base_a n6.ac.aH (show w.heap.size<=W2.heap.size+1 by omega);have r2:=ownsRow_base_a n6.ac.bO (show w.heap.size<=W2.heap.size+1 by omega);have r3:=ownsRow_base_a n6.ac.bP (show w.heap.size<=W2.heap.size+1 by omega);have m6:=n6.nn;obtain⟨af,kf,hf,_⟩:=ax r1;obtain⟨ac,kc,hc,_⟩:=ax r2;obtain⟨ad,kd,hdd,_⟩:=ax r3;rw[hf]at r1;rw[hc]at r2;rw[hdd]at r3;rw[hf,hc,hdd];simp only[jg];clear n6 hf hc hdd nI ER hf2 hC2;generalize hjj:s6.bH=jj;replace hjj:=hide hjj;obtain⟨z0,z1,z2,z3,z4⟩:=cells5 gX;obtain⟨y0,y1,y2,y3,y4⟩:=yw gX;have iY:=ah (ah (ah (ah (ah (aC w6 (some w.heap.size)) 0 (.string jj)) 1 (.bool s6.bB)) 2 (.slice af s6.aF.length kf)) 3 (.slice ac s6.aO.length kc)) 4 (.slice ad s6.aP.length kd);have gM:(((((w6.setCell ⟨w.heap.size,0,none⟩ (.string jj)).setCell ⟨w.heap.size,1,none⟩ (.bool s6.bB)).setCell ⟨w.heap.size,2,none⟩ (.slice af s6.aF.length kf)).setCell ⟨w.heap.size,3,none⟩ (.slice ac s6.aO.length kc)).setCell ⟨w.heap.size,4,none⟩ (.slice ad s6.aP.length kd)).heap[w.heap.size]?=some (.cells #[.string jj,.bool s6.bB,.slice af s6.aF.length kf,.slice ac s6.aO.length kc,.slice ad s6.aP.length kd] 52):=by
   simp[World.setCell,d_,gX]
  obtain⟨r1,r2,r3⟩:=sN iY gX r1 r2 r3 (by decide);have m7:=m6.kept λk hk=>iY.block k (m6.lt hk) (λe=>kP (by cases e;exact hk));have pJ:=aW Mk iY (λi hi e=>by cases e;omega);have kG:=λk hk=>(nQ k hk).imp_right λh=>(⟨h.1,fZ h.2 iY.size⟩:w.heap.size<=k∧_);clear m6 iY Mk gX nQ;go_wp2_with fail;generalize World.setCell _ _ _=W7 at gM r1 r2 r3 m7 pJ kG ⊢;obtain⟨p0,p1,p2,p3,p4⟩:=cells5 gM;obtain⟨c0,f0⟩:=m7.LX;rw[EB]at c0;refine leaves_cons (f:=50) (args:=#[.pointer (some ⟨N,0,none⟩)]) (by simp) (by simp[go_sem]) ?_;refine(unlock_deferred nN ⟨N,0,none⟩ .returning W7 c0 f0).mono ?_;rintro e u' w'' ⟨rfl,rfl,rfl⟩;obtain⟨m8,lF⟩:=m7.l6 0;have BK:N≠w.heap.size:=λe=>kP (by rw[<-e];exact .inl (.inl rfl));have g_:=(lF.block w.heap.size (aG gM) (λe=>by cases e;exact BK rfl)).trans gM;obtain⟨r1,r2,r3⟩:=sN lF m7.cr.nd r1 r2 r3 (by decide);have yh:=aW pJ lF (λi hi e=>by cases e;exact .inl (.inl rfl));have nP:=λk hk=>(kG k hk).imp_right λh=>(⟨h.1,fZ h.2 lF.size⟩:w.heap.size<=k∧_);clear p0 p1 p2 p3 p4 c0 f0 lF m7 pJ kG gM;generalize World.setCell _ _ _=W8 at g_ r1 r2 r3 m8 yh nP ⊢;obtain⟨p0,p1,p2,p3,p4⟩:=cells5 g_;refine⟨.tuple #[.agg #[.string jj,.bool s6.bB,.slice af s6.aF.length kf,.slice ac s6.aO.length kc,.slice ad s6.aP.length kd],.int .i64 0],by simp[results,Tryz.results21,go_sem,p0,p1,p2,p3,p4],.agg #[.string jj,.bool s6.bB,.slice af s6.aF.length kf,.slice ac s6.aO.length kc,.slice ad s6.aP.length kd],rfl,?_⟩;rw[jV.out];refine⟨MH,_,TL,.slice af s6.aF.length kf,.slice ac s6.aO.length kc,.slice ad s6.aP.length kd,?_,m8,Xh.out,r1,r2,r3,yh,nP⟩;rw[<-hjj.out];rfl
theorem UF{N:Nat}{g:bI}{s:St}{TL:List Hp.Tm}{w:World}(n:Nn N g s TL w)(hlk:s.lk=0)(now d:Int)(t:ByteArray)(r:Int)(h:(16<t.size∧r=6)∨(t.size<=16∧(d=s.me∨d=0)∧r=2)):
  Calls Tryz.prog 21 #[.pointer (some ⟨N,0,none⟩),.int .u64 now,.int .u32 d,.string t] w λe w'=>e=.returned (.tuple #[.agg #[.string ⟨#[]⟩,.bool false,.slice none 0 0,.slice none 0 0,.slice none 0 0],.int .i64 r])∧Nn N g s TL w'∧Fx (Ft N g s) w w':=by
 have hb0:Below w.heap.size w (w.alloc jy):=bC;have hC0:(w.alloc jy).heap[w.heap.size]?=some jy:=bV _ _;have kJ:¬Ft N g s w.heap.size:=λh=>by have:=n.lt h;omega
 have hs0:(w.alloc jy).heap.size=w.heap.size+1:=by simp
 have n0:=n.later hb0;dsimp only[jy]at hb0 hC0 hs0 n0
 go_enter_defers Tryz.func21,Tryz.ntmps21
 go_upto_region 1 with(fail);generalize World.alloc _ _=W1 at hb0 hC0 hs0 n0 ⊢;obtain⟨c0,f0⟩:=n0.LX;rw[hlk]at c0;go_wp2_with fail;refine aU (lock_free nN ⟨N,0,none⟩ W1 c0 f0) ?_;rintro e w2 ⟨rfl,rfl⟩;obtain⟨n2,hg2⟩:=n0.l6 1;have hf2:Fx (Ft N g s) w (W1.setCell ⟨N,0,none⟩ (.int .i32 1)):=aW (Fx.below hb0) hg2 (λi _ e=>by cases e;exact .inl (.inl rfl));have hC2:=(hg2.block w.heap.size (by omega) (λe=>kJ (by cases e;exact .inl (.inl rfl)))).trans hC0;have hs2:w.heap.size+1<=(W1.setCell ⟨N,0,none⟩ (.int .i32 1)).heap.size:=by
  have:=hg2.size;omega
 have c2:=n2.cr.nd.cell.2.1;rw[n2.eq.self]at c2;dsimp only at c2;have hback:Hid (∀ {W:World},Nn N {({g with x:={g.x with lk:=1}}:bI)with x:={({g with x:={g.x with lk:=1}}:bI).x with lk:=0}} {({s with lk:=1}:St)with lk:=0} TL W->Nn N g s TL W):=by
  intro W m;have e1:({({s with lk:=1}:St)with lk:=0}:St)=s:=by rw[<-hlk]
  have hx:g.x.lk=0:=n.eq.lk.trans hlk;have e2:({({g with x:={g.x with lk:=1}}:bI)with x:={({g with x:={g.x with lk:=1}}:bI).x with lk:=0}}:bI)=g:=by
   obtain⟨x,a,M,ff,gg,sz,h,u,Mt,hp,tv⟩:=g;obtain⟨lk,self,seq,bN,T,Ms,tn,own,Mo,cnt,b_,eu,qy,Tm,pc⟩:=x;dsimp only at hx;subst hx;rfl
  rw[e1,e2]at m;exact m
 have hF1:Hid (∀k,Ft N ({g with x:={g.x with lk:=1}}:bI) ({s with lk:=1}:St) k->Ft N g s k):=λk h=>h;have SN:Hid (({s with lk:=1}:St).lk=1):=rfl;clear n0 hC0 hs0 hb0 c0 f0 hg2;generalize ({g with x:={g.x with lk:=1}}:bI)=g1 at n2 hF1 hback;generalize ({s with lk:=1}:St)=s1 at n2 hF1 SN hback;generalize World.setCell _ _ _=W2 at n2 hf2 c2 hC2 hs2 ⊢;obtain⟨z0,z1,z2,z3,z4⟩:=cells5 hC2;obtain⟨y0,y1,y2,y3,y4⟩:=yw hC2;rcases h with⟨aeN,rfl⟩|⟨aeN,hd,rfl⟩
 ·have h16:(16:Int)<(t.size:Int):=by omega
  have iY:=ah (ah (ah (ah (ah (aC W2 (some w.heap.size)) 0 (.string ⟨#[]⟩)) 1 (.bool false)) 2 (.slice none 0 0)) 3 (.slice none 0 0)) 4 (.slice none 0 0);have gM:(((((W2.setCell ⟨w.heap.size,0,none⟩ (.string ⟨#[]⟩)).setCell ⟨w.heap.size,1,none⟩ (.bool false)).setCell ⟨w.heap.size,2,none⟩ (.slice none 0 0)).setCell ⟨w.heap.size,3,none⟩ (.slice none 0 0)).setCell ⟨w.heap.size,4,none⟩ (.slice none 0 0)).heap[w.heap.size]?=some (.cells #[.string ⟨#[]⟩,.bool false,.slice none 0 0,.slice none 0 0,.slice none 0 0] 52):=by
   simp[World.setCell,d_,hC2]
  have m7:=n2.kept λk hk=>iY.block k (n2.lt hk) (λe=>kJ (by cases e;exact hF1.out _ hk));have pJ:=aW hf2 iY (λi hi e=>by cases e;omega);clear n2 iY hf2 hC2;go_wp2_with fail;generalize World.setCell _ _ _=W7 at gM m7 pJ ⊢;obtain⟨c0,f0⟩:=m7.LX;rw[SN.out]at c0;refine leaves_cons (f:=50) (args:=#[.pointer (some ⟨N,0,none⟩)]) (by simp) (by simp[go_sem]) ?_;refine(unlock_deferred nN ⟨N,0,none⟩ .returning W7 c0 f0).mono ?_;rintro e u' w'' ⟨rfl,rfl,rfl⟩;obtain⟨m8,lF⟩:=m7.l6 0;have BK:N≠w.heap.size:=λe=>kJ (by rw[<-e];exact .inl (.inl rfl));have g_:=(lF.block w.heap.size (aG gM) (λe=>by cases e;exact BK rfl)).trans gM;have yh:=aW pJ lF (λi hi e=>by cases e;exact .inl (.inl rfl));have rX:=hback.out m8;clear c0 f0 lF m7 m8 pJ gM;generalize World.setCell _ _ _=W8 at g_ yh rX ⊢;obtain⟨p0,p1,p2,p3,p4⟩:=cells5 g_;refine⟨.tuple #[.agg #[.string ⟨#[]⟩,.bool false,.slice none 0 0,.slice none 0 0,.slice none 0 0],.int .i64 6],by simp[results,Tryz.results21,go_sem,p0,p1,p2,p3,p4],rfl,rX,yh⟩
 ·have h16:¬(16:Int)<(t.size:Int):=by omega
  rcases hd with rfl|rfl
  ·have Mv:(s.me==s.me)=true:=beq_self_eq_true _;have iY:=ah (ah (ah (ah (ah (aC W2 (some w.heap.size)) 0 (.string ⟨#[]⟩)) 1 (.bool false)) 2 (.slice none 0 0)) 3 (.slice none 0 0)) 4 (.slice none 0 0);have gM:(((((W2.setCell ⟨w.heap.size,0,none⟩ (.string ⟨#[]⟩)).setCell ⟨w.heap.size,1,none⟩ (.bool false)).setCell ⟨w.heap.size,2,none⟩ (.slice none 0 0)).setCell ⟨w.heap.size,3,none⟩ (.slice none 0 0)).setCell ⟨w.heap.size,4,none⟩ (.slice none 0 0)).heap[w.heap.size]?=some (.cells #[.string ⟨#[]⟩,.bool false,.slice none 0 0,.slice none 0 0,.slice none 0 0] 52):=by
    simp[World.setCell,d_,hC2]
   have m7:=n2.kept λk hk=>iY.block k (n2.lt hk) (λe=>kJ (by cases e;exact hF1.out _ hk));have pJ:=aW hf2 iY (λi hi e=>by cases e;omega);clear n2 iY hf2 hC2;go_wp2_with fail;generalize World.setCell _ _ _=W7 at gM m7 pJ ⊢;obtain⟨c0,f0⟩:=m7.LX;rw[SN.out]at c0;refine leaves_cons (f:=50) (args:=#[.pointer (some ⟨N,0,none⟩)]) (by simp) (by simp[go_sem]) ?_;refine(unlock_deferred nN ⟨N,0,none⟩ .returning W7 c0 f0).mono ?_;rintro e u' w'' ⟨rfl,rfl,rfl⟩;obtain⟨m8,lF⟩:=m7.l6 0;have BK:N≠w.heap.size:=λe=>kJ (by rw[<-e];exact .inl (.inl rfl));have g_:=(lF.block w.heap.size (aG gM) (λe=>by cases e;exact BK rfl)).trans gM;have yh:=aW pJ lF (λi hi e=>by cases e;exact .inl (.inl rfl));have rX:=hback.out m8;clear c0 f0 lF m7 m8 pJ gM;generalize World.setCell _ _ _=W8 at g_ yh rX ⊢;obtain⟨p0,p1,p2,p3,p4⟩:=cells5 g_;refine⟨.tuple #[.agg #[.string ⟨#[]⟩,.bool false,.slice none 0 0,.slice none 0 0,.slice none 0 0],.int .i64 2],by simp[results,Tryz.results21,go_sem,p0,p1,p2,p3,p4],rfl,rX,yh⟩
  ·have hd0:((0:Int)==0)=true:=rfl;by_cases Mv:(0:Int)=s.me
   ·have aat:((0:Int)==s.me)=true:=by simpa using Mv
    clear Mv;have iY:=ah (ah (ah (ah (ah (aC W2 (some w.heap.size)) 0 (.string ⟨#[]⟩)) 1 (.bool false)) 2 (.slice none 0 0)) 3 (.slice none 0 0)) 4 (.slice none 0 0);have gM:(((((W2.setCell ⟨w.heap.size,0,none⟩ (.string ⟨#[]⟩)).setCell ⟨w.heap.size,1,none⟩ (.bool false)).setCell ⟨w.heap.size,2,none⟩ (.slice none 0 0)).setCell ⟨w.heap.size,3,none⟩ (.slice none 0 0)).setCell ⟨w.heap.size,4,none⟩ (.slice none 0 0)).heap[w.heap.size]?=some (.cells #[.string ⟨#[]⟩,.bool false,.slice none 0 0,.slice none 0 0,.slice none 0 0] 52):=by
     simp[World.setCell,d_,hC2]
    have m7:=n2.kept λk hk=>iY.block k (n2.lt hk) (λe=>kJ (by cases e;exact hF1.out _ hk));have pJ:=aW hf2 iY (λi hi e=>by cases e;omega);clear n2 iY hf2 hC2;go_wp2_with fail;generalize World.setCell _ _ _=W7 at gM m7 pJ ⊢;obtain⟨c0,f0⟩:=m7.LX;rw[SN.out]at c0;refine leaves_cons (f:=50) (args:=#[.pointer (some ⟨N,0,none⟩)]) (by simp) (by simp[go_sem]) ?_;refine(unlock_deferred nN ⟨N,0,none⟩ .returning W7 c0 f0).mono ?_;rintro e u' w'' ⟨rfl,rfl,rfl⟩;obtain⟨m8,lF⟩:=m7.l6 0;have BK:N≠w.heap.size:=λe=>kJ (by rw[<-e];exact .inl (.inl rfl));have g_:=(lF.block w.heap.size (aG gM) (λe=>by cases e;exact BK rfl)).trans gM;have yh:=aW pJ lF (λi hi e=>by cases e;exact .inl (.inl rfl));have rX:=hback.out m8;clear c0 f0 lF m7 m8 pJ gM;generalize World.setCell _ _ _=W8 at g_ yh rX ⊢;obtain⟨p0,p1,p2,p3,p4⟩:=cells5 g_;refine⟨.tuple #[.agg #[.string ⟨#[]⟩,.bool false,.slice none 0 0,.slice none 0 0,.slice none 0 0],.int .i64 2],by simp[results,Tryz.results21,go_sem,p0,p1,p2,p3,p4],rfl,rX,yh⟩
   ·have aat:((0:Int)==s.me)=false:=by simpa using Mv
    clear Mv;have iY:=ah (ah (ah (ah (ah (aC W2 (some w.heap.size)) 0 (.string ⟨#[]⟩)) 1 (.bool false)) 2 (.slice none 0 0)) 3 (.slice none 0 0)) 4 (.slice none 0 0);have gM:(((((W2.setCell ⟨w.heap.size,0,none⟩ (.string ⟨#[]⟩)).setCell ⟨w.heap.size,1,none⟩ (.bool false)).setCell ⟨w.heap.size,2,none⟩ (.slice none 0 0)).setCell ⟨w.heap.size,3,none⟩ (.slice none 0 0)).setCell ⟨w.heap.size,4,none⟩ (.slice none 0 0)).heap[w.heap.size]?=some (.cells #[.string ⟨#[]⟩,.bool false,.slice none 0 0,.slice none 0 0,.slice none 0 0] 52):=by
     simp[World.setCell,d_,hC2]
    have m7:=n2.kept λk hk=>iY.block k (n2.lt hk) (λe=>kJ (by cases e;exact hF1.out _ hk));have pJ:=aW hf2 iY (λi hi e=>by cases e;omega);clear n2 iY hf2 hC2;go_wp2_with fail;generalize World.setCell _ _ _=W7 at gM m7 pJ ⊢;obtain⟨c0,f0⟩:=m7.LX;rw[SN.out]at c0;refine leaves_cons (f:=50) (args:=#[.pointer (some ⟨N,0,none⟩)]) (by simp) (by simp[go_sem]) ?_;refine(unlock_deferred nN ⟨N,0,none⟩ .returning W7 c0 f0).mono ?_;rintro e u' w'' ⟨rfl,rfl,rfl⟩;obtain⟨m8,lF⟩:=m7.l6 0;have BK:N≠w.heap.size:=λe=>kJ (by rw[<-e];exact .inl (.inl rfl));have g_:=(lF.block w.heap.size (aG gM) (λe=>by cases e;exact BK rfl)).trans gM;have yh:=aW pJ lF (λi hi e=>by cases e;exact .inl (.inl rfl));have rX:=hback.out m8;clear c0 f0 lF m7 m8 pJ gM;generalize World.setCell _ _ _=W8 at g_ yh rX ⊢;obtain⟨p0,p1,p2,p3,p4⟩:=cells5 g_;refine⟨.tuple #[.agg #[.string ⟨#[]⟩,.bool false,.slice none 0 0,.slice none 0 0,.slice none 0 0],.int .i64 2],by simp[results,Tryz.results21,go_sem,p0,p1,p2,p3,p4],rfl,rX,yh⟩
variable{x:Bool×Int×Int}
def Eg(x:Bool×Int×Int):Rt:=⟨x.2.1,gr x.2.2,0,0,false,0,[]⟩
def BS(me:Int)(x:Bool×Int×Int):Bool:=!x.1&&(x.2.1 !=me)
def nwS(me:Int)(A:List Rt)(x:Bool×Int×Int):List Rt:=if BS me x&&decide (A.length<8)then A++ [Eg x]else A
def wS(me:Int)(out:List (Bool×Int×Int)):List Rt:=out.foldl (nwS me) []
theorem Ae(me:Int){out:List (Bool×Int×Int)}{k:Nat}{x:Bool×Int×Int}(h:out[k]?=some x):wS me (out.take (k+1))=nwS me (wS me (out.take k)) x:=by
 rw[oZ h];simp[wS]
theorem Ej(me:Int)(out:List (Bool×Int×Int)):∀k,(wS me (out.take k)).length<=8:=by
 intro k
 induction k with
 |zero=>simp[wS]
 |succ k ih=>
  cases hx:out[k]? with
  |none=>
   have hk:=List.getElem?_eq_none_iff.1 hx;rw[kN (by omega)];rw[kN (by omega)]at ih;exact ih
  |some x=>
   rw[Ae me hx];unfold nwS;split
   ·rename_i h;have h8:(wS me (out.take k)).length<8:=by
     revert h
     cases BS me x<;>simp
    simp;omega
   ·exact ih
theorem Ei(me:Int)(out:List (Bool×Int×Int)):∀k,∀z∈wS me (out.take k),∃j x,j<k∧out[j]?=some x∧BS me x=true∧z=Eg x:=by
 intro k
 induction k with
 |zero=>intro z hz;simp[wS]at hz
 |succ k ih=>
  intro z hz;cases hx:out[k]? with
  |none=>
   have hk:=List.getElem?_eq_none_iff.1 hx;rw[kN (by omega)]at hz;rw[kN (by omega)]at ih;obtain⟨j,x,h1,h2⟩:=ih z hz;exact⟨j,x,by omega,h2⟩
  |some x=>
   rw[Ae me hx]at hz;unfold nwS at hz;split at hz
   ·rename_i h;rcases fu.1 hz with hz|hz
    ·obtain⟨j,y,h1,h2⟩:=ih z hz;exact⟨j,y,by omega,h2⟩
    ·simp at hz;refine⟨k,x,by omega,hx,?_,hz⟩
     revert h
     cases BS me x<;>simp
   ·obtain⟨j,y,h1,h2⟩:=ih z hz;exact⟨j,y,by omega,h2⟩
def Ris(out:List (Bool×Int×Int)):Prop:=out.Pairwise λa b=>a.1=false->b.1=false->a.2.1<b.2.1
theorem Ris.get{out:List (Bool×Int×Int)}(h:Ris out){j k:Nat}{x y:Bool×Int×Int}(hj:out[j]?=some x)(hk:out[k]?=some y)(hjk:j<k)(hx:x.1=false)(hy:y.1=false):x.2.1<y.2.1:=by
 obtain⟨h1,rfl⟩:=fO.1 hj;obtain⟨h2,rfl⟩:=fO.1 hk;exact List.pairwise_iff_getElem.1 h j k h1 h2 hjk hx hy
theorem Eh{me:Int}(h:BS me x=true):x.1=false:=by
 unfold BS at h
 revert h
 cases x.1<;>simp
theorem Ob(me:Int){out:List (Bool×Int×Int)}(h:Ris out){k:Nat}{x:Bool×Int×Int}(hx:out[k]?=some x)(hp:BS me x=true):∀z∈wS me (out.take k),z.dest<x.2.1:=by
 intro z hz;obtain⟨j,y,hj,hy,hyp,rfl⟩:=Ei me out k z hz;exact h.get hy hx hj (Eh hyp) (Eh hp)
theorem Uk{A:List Rt}(h:Asc A){x:Rt}(hx:∀z∈A,z.dest<x.dest):Asc (A++ [x]):=by
 unfold Asc;rw[List.pairwise_append];exact⟨h,List.pairwise_singleton _ _,λa ha b hb=>by simp at hb;subst hb;exact hx a ha⟩
theorem V_{f:Int->Option Int}{c:Option Int}{out:List (Bool×Int×Int)}(h:kg f c out):Ris out:=by
 obtain⟨ss,hp,_,rfl⟩:=h;have h2:Ris (iD f ss):=by
  unfold Ris iD;rw[List.pairwise_map];exact hp.imp (λhab _ _=>hab)
 unfold Ris at *;cases c with
 |none=>exact h2
 |some s=>exact List.pairwise_cons.2 ⟨λb _ h=>(by cases h),h2⟩
theorem ZK:∀(L:List (Bool×Int×Int)) (f:Int->Option Int),MB f->qg L->MB (L.foldl stepM f):=by
 intro L
 induction L with
 |nil=>intro f hf _;exact hf
 |cons x L ih=>
  intro f hf hb;have hx:=Lh hb (jT ..);exact ih _ (hf.step hx.1 hx.2) (λy hy=>hb y (lU _ hy))
theorem Rl{L out:List (Bool×Int×Int)}(hb:qg L)(h:kg (BU L) (sD L) out){x:Bool×Int×Int}(hx:x∈out)(ho:x.1=false):a_ x.2.1∧a_ x.2.2:=by
 obtain⟨ss,hp,hm,rfl⟩:=h;rcases fu.1 hx with hx|hx
 ·revert hx
  cases sD L with
  |none=>intro hx;cases hx
  |some s=>
   intro hx;simp[dO]at hx;rw[hx]at ho;cases ho
 ·obtain⟨a,ha,rfl⟩:=dW.1 hx;have hMB:MB (BU L):=ZK L _ RG hb;obtain⟨v,hv⟩:=Option.isSome_iff_exists.1 ((hm a).1 ha);exact⟨(hMB a v hv).1,hMB.getD a⟩
theorem LG(h1:a_ x.2.1)(h2:a_ x.2.2):(Eg x).Ok:=⟨h1,uz h2,by simp[Eg,oV],by simp[Eg,a_],by simp[Eg,Be],by simp[Eg],by simp[Eg],by simp[Eg]⟩
theorem MT.empty{me:Int}{T M:Nat}{W:World}(hT:FP T me M W)(hM:fG W M (λ_=>none) 0):MT me T M (λ_=>none) (λ_=> .slice none 0 0) [] W:=
 ⟨hT,hM,List.Pairwise.nil,by simp,λd B _ h=>(by cases h),by simp,by simp,by simp,by simp⟩
def cmpL(L:List (Bool×Int×Int)):List (Bool×Int×Int):=L.foldl (λo r=>BP o (norm r)) []
def St.new(me:Int)(xs:List Int)(now:Int):St:=
 St.finish ⟨me,gr ((sD (jl xs)).getD 0),if xs=[]then 0 else now+2000,0,0,wS me (cmpL (jl xs)),[],0,λ_=>none,0,0,[],0,[],now,[],[],[],[],decide (xs≠ []),0⟩
theorem mh(W:World)(q:Nat):Below W.heap.size W (W.drewN q):=below_drewN (aV _ _) q
theorem abd{W1:World}{M:Nat}{f:Int->Option Nat}{s:Nat}(hm:fG W1 M f s)(hs:s<=8){x:Bool×Int×Int}(hx:a_ x.2.1)(hf:f x.2.1=none):
  ∀q:Nat×Nat,∃W6,(Instr.mapUpdate 156 (.map (some M)) (.int .u32 x.2.1) (.pointer (some ⟨W1.heap.size,0,none⟩))).run Tryz.prog (((W1.drewN q.1).alloc (cK (Eg x) (.slice none 0 0))).drewN q.2)=.ok () W6∧
   fG W6 M (eY f x.2.1 (some W1.heap.size)) (s+1)∧eD W1.heap.size (Eg x) (.slice none 0 0) W6∧W1.grownBy W6 (some M):=by
 intro q;have hb:Below W1.heap.size W1 (((W1.drewN q.1).alloc (cK (Eg x) (.slice none 0 0))).drewN q.2):=below_drewN ((below_drewN (aV _ _) q.1).alloc (aB _) _) q.2;have hm1:=hm.block (hb.block M hm.lt);have hN:eD W1.heap.size (Eg x) (.slice none 0 0) (((W1.drewN q.1).alloc (cK (Eg x) (.slice none 0 0))).drewN q.2):=eD.new (Eg x) (.slice none 0 0) (W1.drewN q.1);have hMl:=hm.lt;obtain⟨W6,hr,OC,jB⟩:=hm1.put (by unfold maxLen;omega) hx W1.heap.size;rw[hf,ay (by simp)]at OC;exact⟨W6,hr,OC,hN.block (jB.block _ hN.lt (λe=>by cases e;omega)),⟨jB.os.trans hb.os,jB.tape.trans hb.tape,jB.output.trans hb.output,dN hb.size jB.size,λk hk hn=>(jB.block k (fZ hk hb.size) hn).trans (hb.block k hk)⟩⟩
theorem Cn(me:Int)(ao:Option Addr)(n c:Nat)(L:List (Bool×Int×Int))(hL:L.length=n)(hn:n<=50000)(hbd:qg L)(hfw:Na L)(w:World)(hA:gG w ao (RC L)):
  Calls Tryz.prog 44 #[.int .u32 me,.slice ao n c] w λe w'=>∃T out,e=.returned (.pointer (some ⟨T,0,none⟩))∧kg (BU L) (sD L) out∧Bf me T (λk=>w.heap.size<=k∧k<w'.heap.size) (wS me out) w'∧Below w.heap.size w w':=by
 have hmm:=@run_makeMap Tryz.prog;have hM0:fG ((w.alloc (.map #[] 0)).alloc (.cells #[.int .u32 me,.map (some w.heap.size)] 158)) w.heap.size (λ_=>none) 0:=(fG.made w).block (((aV _ (w.alloc (.map #[] 0))).alloc (aB _) _).block w.heap.size (by simp));have hT0:FP (w.heap.size+1) me w.heap.size ((w.alloc (.map #[] 0)).alloc (.cells #[.int .u32 me,.map (some w.heap.size)] 158)):=by
  have:=bV (w.alloc (.map #[] 0)) (.cells #[.int .u32 me,.map (some w.heap.size)] 158);rw[World.size_alloc]at this;exact this
 have hb0:Below w.heap.size w ((w.alloc (.map #[] 0)).alloc (.cells #[.int .u32 me,.map (some w.heap.size)] 158)):=(bC).alloc (by simp) _;have hs0:((w.alloc (.map #[] 0)).alloc (.cells #[.int .u32 me,.map (some w.heap.size)] 158)).heap.size=w.heap.size+2:=by simp
 go_enter Tryz.func44,Tryz.ntmps44;go_wp2_with fail;clear hmm;generalize World.alloc _ _=W0 at hM0 hT0 hb0 hs0 ⊢;refine(vI ao n c L hL hn hbd hfw W0 (hA.below hb0)).mono ?_;rintro e w1 ⟨v,out,rfl,hcmp,hol,hrow,hb1⟩;rw[hs0]at hb1 hrow;have hbb:Below w.heap.size w w1:=hb0.trans (hb1.mono (by omega));have hm1:MT me (w.heap.size+1) w.heap.size (λ_=>none) (λ_=> .slice none 0 0) [] w1:=MT.empty (hT0.block (hb1.block _ (by omega))) (hM0.block (hb1.block _ (by omega)));have hs1:=hb1.size;rw[hs0]at hs1;have hris:=V_ hcmp;obtain⟨av,cv,rfl,_⟩:=ax hrow;clear hM0 hT0 hb0 hb1 hs0 hA;go_wp2_with fail;go_loopw [15] (λi wr=>∃(k:Nat) (f:Int->Option Nat) (g:Int->Value),k<=out.length∧i=.int .i64 k∧MT me (w.heap.size+1) w.heap.size f g (wS me (out.take k)) wr∧(∀q,mZ (w.heap.size+1) w.heap.size f g (wS me (out.take k)) q->w.heap.size<=q)∧wr.ownsRow (w.heap.size+2) 82 3 (.slice av out.length cv) out.length (RC out)∧Below w.heap.size w wr) (λi _=>out.length - (intOf i).toNat)
 case atStart=>
  refine⟨0,_,_,dm _,rfl,hm1,?_,hrow,hbb⟩;rintro q (rfl|rfl|⟨x,hx,_⟩)
  ·omega
  ·omega
  ·cases hx
 case round=>
  clear hrow hbb hm1 hs1;obtain⟨k,f,g,hk,rfl,hM,AB,hrow,hb⟩:=hrel;by_cases hlt:k<out.length
  ·have hki:(k:Int)<(out.length:Int):=by omega
   obtain⟨x,hx⟩:∃x,out[k]?=some x:=⟨_,bS (by omega)⟩;have hat:∀i z,i<3->([.bool x.1,.int .u32 x.2.1,.int .u32 x.2.2]:List Value)[i]?=some z->(RC out)[k * 3+i]?=some z:=λi z hi hz=>(jR (λx:Bool×Int×Int=>([Value.bool x.1,Value.int .u32 x.2.1,Value.int .u32 x.2.2]:List Value)) 3 (by decide) (λ_=>rfl) out k i hi hx).trans hz;obtain⟨av',cv',hv,hA'⟩:=ax hrow;obtain⟨rfl,rfl⟩:av'=av∧cv'=cv:=by cases hv;exact⟨rfl,rfl⟩
   clear hv;obtain⟨b1,o1,rfl,hj1⟩:=hA' (k * 3+0) _ (hat 0 _ (by decide) rfl);have d0:=hA'.one rfl (hat 0 _ (by decide) rfl);have d1:=hA'.one rfl (hat 1 _ (by decide) rfl);have d2:=hA'.one rfl (hat 2 _ (by decide) rfl);rw[Nat.add_zero]at d0;rw[<-Nat.add_assoc]at d1 d2;have hst:=(show Hid _ from Ae me hx);have hxo:=λh=>Rl hbd hcmp (iV hx) h;have hbl:=(show Hid _ from Ob me hris hx);have hln:=(show Hid _ from Ej me out k);generalize hAe:wS me (out.take k)=A at hM AB hst hbl hln;obtain⟨xo,xa,xs⟩:=x;dsimp only at d0 d1 d2 hxo;have hM1:=hM.later ((aV _ wr).alloc (aB _) (aY xo xa xs));have yc:=hrow.alloc (aY xo xa xs);have hb1:=hb.alloc hb.size (aY xo xa xs);have hB1:qx wr.heap.size xo xa xs (wr.alloc (aY xo xa xs)):=qx.new xo xa xs wr;have hs1:=hM.map.lt;have Me:(BS me (xo,xa,xs)&&decide (A.length<8))=false->Hid (wS me (out.take (k+1))=A):=λh=>by
    show _=_;rw[hst.out];exact ay (by rw[h];simp)
   have hadd:(BS me (xo,xa,xs)&&decide (A.length<8))=true->Hid (wS me (out.take (k+1))=A++ [Eg (xo,xa,xs)]):=λh=>by
    show _=_;rw[hst.out];exact aI h
   clear hj1 hat hA' hx hM hrow hb hAe hst;have hsz:(wr.alloc (aY xo xa xs)).heap.size=wr.heap.size+1:=by simp
   dsimp only[aY]at hM1 yc hb1 hB1 hsz;have hk1:k+1<=out.length:=by omega
   go_upto_region 5 with(fail);generalize World.alloc _ _=W1 at hM1 yc hb1 hB1 hsz ⊢;obtain⟨c0,c1,c2⟩:=hB1.cell;go_cut [32]from 19 to 32 (λp W6=>p=.bool (BS me (xo,xa,xs)&&decide (A.length<8))∧W1=W6)
   case first=>
    have hfull:=(show Hid _ from Ic (w.heap.size+1) w.heap.size A.length me f _ hM1.blk hM1.map);have acv:Hid (decide (A.length<8)=!decide (8<=A.length)):=by
     show _=_;by_cases h8:8<=A.length
     ·simp[h8]
     ·simp[h8];omega
    clear Me hadd hxo hbl hM1 yc hb1;cases xo
    ·cases hxm:(xa !=me)
     ·have hv:Hid ((BS me (false,xa,xs)&&decide (A.length<8))=false):=by
       show _=_;simp only[BS,hxm];rfl
      clear hfull;go_wp2_with fail;go_meet;exact⟨(congrArg Value.bool hv.out).symm,rfl⟩
     ·have hv:Hid ((BS me (false,xa,xs)&&decide (A.length<8))=!decide (8<=A.length)):=by
       show _=_;rw[acv.out];simp only[BS,hxm];rfl
      clear acv;go_wp2_with fail;refine aU hfull.out ?_;rintro e w3 ⟨rfl,rfl⟩;clear hfull;go_wp2_with fail;go_meet;exact⟨(congrArg Value.bool hv.out).symm,rfl⟩
    ·have hv:Hid ((BS me (true,xa,xs)&&decide (A.length<8))=false):=by
      show _=_;simp[BS]
     clear hfull;go_wp2_with fail;go_meet;exact⟨(congrArg Value.bool hv.out).symm,rfl⟩
   case rest=>
    obtain⟨rfl,hW⟩:=hcut;subst hW;have hwk0:Hid (wrap64 ((k:Int)+1)=(k:Int)+1):=by
     show _=_;unfold wrap64;omega
    have hme:Hid (out.length - (intOf (.int .i64 ((k:Int)+1))).toNat<out.length - (intOf (.int .i64 (k:Int))).toNat):=by
     show _<_;simp[intOf];omega
    have Sq:Hid (wS me (out.take (k+1))=A)->Hid (∃(k':Nat) (f':Int->Option Nat) (g':Int->Value),k'<=out.length∧Value.int .i64 ((k:Int)+1)=.int .i64 k'∧MT me (w.heap.size+1) w.heap.size f' g' (wS me (out.take k')) W1∧(∀q,mZ (w.heap.size+1) w.heap.size f' g' (wS me (out.take k')) q->w.heap.size<=q)∧(W1).ownsRow (w.heap.size+2) 82 3 (.slice (some ⟨b1,o1,none⟩) out.length cv') out.length (RC out)∧Below w.heap.size w W1):=λh=>by
     show ∃k' f' g',_;refine⟨k+1,f,g,hk1,by simp,?_⟩;rw[h.out];exact⟨hM1,AB,yc,hb1⟩
    have hA8:=hln.out;cases hb:(BS me (xo,xa,xs)&&decide (A.length<8))
    ·have hsk:=Sq (Me hb);clear Me hadd Sq hb;go_wp2;exact⟨hsk.out,hme.out⟩
    ·have had:=hadd hb;have hp:BS me (xo,xa,xs)=true:=by revert hb;cases BS me (xo,xa,xs)<;>simp
     have hl8:A.length<8:=by
      rw[hp,Bool.true_and]at hb;simpa using hb
     obtain rfl:xo=false:=Eh hp;have hxu:=hxo rfl;have hbx:∀z∈A,z.dest<xa:=hbl.out hp;have hno:aK A xa=none:=j4.2 λz hz=>by
      have:=hbx z hz;omega
     obtain⟨V,hV⟩:=Classical.skolem.1 (abd (x:=(false,xa,xs)) hM1.map (by omega) hxu.1 (hM1.off hxu.1 hno));have v00:=(hV (0,0)).1;have v01:=(hV (0,1)).1;have v0n:=λq=>(hV (0,q)).1;have v10:=(hV (1,0)).1;have v11:=(hV (1,1)).1;have v1n:=λq=>(hV (1,q)).1;have vn0:=λq=>(hV (q,0)).1;have vn1:=λq=>(hV (q,1)).1;have vnn:=λq q'=>(hV (q,q')).1;obtain⟨t0,t1⟩:=hM1.blk.cell;dsimp only[cK,Eg]at v00 v01 v0n v10 v11 v1n vn0 vn1 vnn;simp only[World.drewN_zero,<-World.drew_is_drewN]at v00 v01 v0n v10 v11 v1n vn0 vn1;have hre:∀(q:Nat) (B j:Nat) (u:Value),W1.cell? ⟨B,j,none⟩=some u->((W1.drewN q).alloc (.cells #[.int .u32 xa,.int .u32 (gr xs),.int .i64 0,.int .u32 0,.bool false,.int .u64 0,.slice none 0 0] 38)).cell? ⟨B,j,none⟩=some u:=λq B j u h=>Go.cell_later ((mh W1 q).alloc (aB _) _) h;have r1n:=λq=>hre q _ _ _ t1;have r2n:=λq=>hre q _ _ _ c1;have r3n:=λq=>hre q _ _ _ c2;have r10:=r1n 0;have r20:=r2n 0;have r30:=r3n 0;have r11:=r1n 1;have r21:=r2n 1;have r31:=r3n 1;simp only[World.drewN_zero,<-World.drew_is_drewN]at r10 r20 r30 r11 r21 r31;have hfin:Hid (∀q,∃(k':Nat) (f':Int->Option Nat) (g':Int->Value),k'<=out.length∧Value.int .i64 (wrap64 ((k:Int)+1))=.int .i64 k'∧MT me (w.heap.size+1) w.heap.size f' g' (wS me (out.take k')) (V q)∧(∀p,mZ (w.heap.size+1) w.heap.size f' g' (wS me (out.take k')) p->w.heap.size<=p)∧((V q)).ownsRow (w.heap.size+2) 82 3 (.slice (some ⟨b1,o1,none⟩) out.length cv') out.length (RC out)∧Below w.heap.size w (V q)):=λq=>by
      refine⟨k+1,eY f xa (some W1.heap.size),λe=>if e=xa then .slice none 0 0 else g e,hk1,by rw[hwk0.out];simp,?_⟩;rw[had.out];obtain⟨_,OC,P9,jB⟩:=hV q;have hf:=hM1.fresh (d:=xa) (y:=Eg (false,xa,xs)) rfl (LG hxu.1 hxu.2) rfl (N:=W1.heap.size) (aB _) (w':=V q) (A':=A++ [Eg (false,xa,xs)]) P9 (by rw[bU];exact OC) (λp hp hpM=>jB.block p hp (λe=>hpM (by cases e;rfl))) (λz hz=>by
       rcases fu.1 hz with hz|hz
       ·exact .inr ⟨hz,by have:=hbx z hz;omega⟩
       ·exact .inl (by simpa using hz)) (by simp) (λz hz _=>List.mem_append_left _ hz) (Uk hM1.yE hbx) (by rw[bU];simp;omega)
      refine⟨hf.1,λp hp=> ?_,?_,?_⟩
      ·rcases hf.2 p hp with h1|rfl
       ·exact AB p h1
       ·omega
      ·exact bQ yc λp hp=>jB.block p (yc.lt p hp).2 (λe=>by
        have h1:=(yc.lt p hp).1;cases e;omega)
      ·exact hb1.grown jB hb1.size (λp e=>by cases e;exact aB _)
     clear hV hno hp hl8 hxo hre hbl Me hadd had Sq hM1 yc hb1 AB hcmp hris hbd hB1 hs1 hol hL hn hki hk hA8 hln hbx hsz;have ad5:Hid (out.length - (intOf (.int .i64 (wrap64 ((k:Int)+1)))).toNat<out.length - (intOf (.int .i64 (k:Int))).toNat):=by
      show _<_;rw[hwk0.out];exact hme.out
     clear hme hwk0;go_wp2_with fail;clear hb;go_region_law (go_simp;go_at_call 42;refine(oK _ _).mono ?_;rintro e w5 ⟨rfl,rfl⟩)
     all_goals
      clear r1n r2n r3n r10 r20 r30 r11 r21 r31 v00 v01 v0n v10 v11 v1n vn0 vn1 vnn c0 c1 c2 t0 t1;go_wp2;exact⟨hfin.out _,ad5.out⟩
  ·have hkn:out.length<=k:=by omega
   rw[kN hkn]at hM AB;clear hrow hkn;go_wp2;go_ret;exact⟨_,out,rfl,hcmp,⟨_,f,g,hM,λq hq=>⟨AB q hq,hM.lt hq⟩⟩,hb⟩
end Go.Proofs.YtakaadcpaeiccabGreat
