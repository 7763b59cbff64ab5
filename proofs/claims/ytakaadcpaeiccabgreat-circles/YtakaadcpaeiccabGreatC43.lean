import Derived.Test.YtakaadcpaeiccabGreatC42
set_option maxHeartbeats 8000000
set_option maxRecDepth 100000
namespace Go.Proofs.YtakaadcpaeiccabGreat
open Go.RowKit Go.Maps
theorem RQ:(Tryz.prog.info? 172).map(fun i=>(i.zero,i.size,i.bytes))=some(some(.pointer none),1,8):=by kernel_rfl
theorem O4(W:World)(B:Nat):∀(j:Nat)(u:Value),([.pointer(some⟨B,0,none⟩)]:List Value)[j]?=some u→(W.alloc(.cells #[.pointer(some⟨B,0,none⟩)]172)).cell?((⟨W.heap.size,0,none⟩:Addr).add j)=some u:=by
 intro j u hj;have h:=heap_alloc_new W(.cells #[.pointer(some⟨B,0,none⟩)]172);rw [Addr.add_lit,Nat.zero_add]
 match j,hj with
 |0,hj=>cases hj;exact cell_of_row _ _ 0 _ _ _ h
def Yq(v:Value):Nat:=match v with
 | .slice _ n _=>n
 |_=>0
def adP(N B:Nat)(g:bA)(s:St)(_TL:List Hp.Tm)(D:List Sr)(w:World)(v:Value)(w':World):Prop:=∃g' dO,Nd N B g' s dO w'∧Up B(Ft N g s)(Ft N g' s)w w'∧Hid(g'.x.T=g.x.T)∧Hid(g'.h=g.h∧g'.u=g.u)∧Aj D s dO∧w'.ownsRow w.heap.size 172 1 v D.length(D.map fun q=>fJ(g.h q.dest))
theorem adJ {N B:Nat} {g:bA} {s:St} {TL:List Hp.Tm} {w:World}(n:Nd N B g s TL w)(hT:dM s TL)(hl:TL.length≤5000)(hle:∀a∈s.Q,a.id≤s.tl)(hpos:∀a∈s.Q,0<a.id)(now:Int)(h0:0≤now∧now≤4611686018427387904):
  Calls Tryz.prog 77 #[.pointer(some⟨N,0,none⟩),.int .u64 now]w fun e w'=>∃v,e=.returned v∧adP N B g s TL(St.j3 s.Q now)w v w':=by
 obtain⟨i0,hi,hz0,hz1,hz2⟩:=info_parts RQ;have Oh:=hide n.nn.ids;have DD:=hide n.nn.rs.sr.qA;have hok:=hide n.nn.rs.sr.ok;have hln:=hide(fun q(hq:q∈s.Q)=>n.nn.rs.sr.ln q hq);have hT':=hide hT;have aeE:=hide hle;have hpos':=hide hpos;clear hT hle hpos;go_enter Tryz.func77,Tryz.ntmps77
 go_wp2_with fail
 go_loopw [5](fun lv wr=>∃(D:List Sr)(g1:bA)(TL1:List Hp.Tm),Nd N B g1 s TL1 wr∧Up B(Ft N g s)(Ft N g1 s)w wr∧Hid(g1.x=g.x)∧Hid(g1.h=g.h∧g1.u=g.u)∧Hid(wJ TL TL1 D now)∧Hid(∀a∈D,a∈s.Q)∧wr.ownsRow w.heap.size 172 1 lv D.length(D.map fun q=>fJ(g.h q.dest)))(fun lv _=>5000 - Yq lv)
 case atStart=>exact⟨[],g,TL,n,Up.refl _ _ _,rfl,⟨rfl,rfl⟩,wJ.nil TL now,fun _ h=>(by cases h),⟨rfl,.inl⟨rfl,rfl⟩⟩⟩
 case round=>
  clear n;obtain⟨D,g1,TL1,n1,u1,x1,y1,d1,m1,r1⟩:=hrel;have hlen:D.length+TL1.length=TL.length:=by
   have:=d1.out.pm.fM;rw [List.length_append,List.length_map]at this;exact this
  have HN:=hide(abx n1 now h0(by omega));obtain⟨_,_,c13,c14,_⟩:=n1.nn.cr.nd.more;obtain⟨ao,c,rfl,_⟩:=ak r1;go_wp2_with fail
  refine Calls.mono HN.out ?_;rintro e w2⟨h',v',Em,d,b,rfl,n2,u2,hd⟩;have r2:w2.ownsRow w.heap.size 172 1(.slice ao D.length c)D.length(D.map fun q=>fJ(g.h q.dest)):=bD r1 fun k hk=>by
   obtain⟨cc,hc⟩:=aP r1 hk;exact(u2.block k _ hc(n1.ZN hc).1(.inl⟨fun c e=>(by cases e),fun c e=>(by cases e),fun c e=>(by cases e),fun c e=>(by cases e),fun c e=>(by cases e)⟩)).trans hc.symm
  have UO:=u1.trans u2;clear HN c13 c14 r1 u1 u2 n1;have x2:Hid(({g1 with hp:=h',tv:=v'}:bA).x=g.x):=x1;have y2:Hid(({g1 with hp:=h',tv:=v'}:bA).h=g.h∧({g1 with hp:=h',tv:=v'}:bA).u=g.u):=y1;generalize({g1 with hp:=h',tv:=v'}:bA)=g2 at n2 UO x2 y2;rcases hd with⟨rfl,x,hxd,Ob,hxm,hxp⟩|⟨rfl,hno,rfl⟩
  ·obtain⟨q,hq,rfl⟩:=List.mem_map.1(hT'.out.mem_iff.1(d1.out.pm.mem_iff.1(List.mem_append_right _(hxp.mem_iff.1 List.mem_cons_self))));have aec:q.dest=d:=hxd;subst aec;have YF:=(hok.out q hq).dest;obtain⟨Bq,hBq,_⟩:=hln.out q hq;have hlk:=n2.nn.rs.sr.map.looks YF;rw [y2.out.1,hBq]at hlk;simp only [fJ]at hlk;have hd3:Hid(wJ TL Em(D++ [q])now):=d1.out.snoc Ob hxm hxp;have nW:Hid(∀a∈D++ [q],a∈s.Q):=fun a ha=>(List.mem_append.1 ha).elim(m1.out a)fun h=>by rw [List.mem_singleton]at h;rw [h];exact hq
   have hD5:D.length+1≤5000:=by
    have:=hxp.fM;rw [List.length_cons]at this;omega
   clear hxd Ob hxm hxp hlen d1 m1;obtain⟨_,_,c13,c14,_⟩:=n2.nn.cr.nd.more;have hk1:Hid(D.length+1≤maxLen):=by show _≤_;unfold maxLen;omega
   have hk2:Hid((D.length+1)* 8≤140737488355328):=by show _≤_;omega
   have hmod:q.dest%4294967296=q.dest:=by unfold bg at YF;omega
   have jk:Below w2.heap.size w2(w2.alloc(.cells #[.pointer(some⟨Bq,0,none⟩)]172)):=(Below.refl _ _).alloc(Nat.le_refl _)_;have h12:=UO.size;go_wp2_with(at_builtin;refine wpList_append_own_at _ rfl _ _ 170 rfl w.heap.size 172 i0(.pointer none)1 8 Tryz.underlying170 hi hz0 hz1 hz2 rfl(by decide)(.slice ao D.length c)D.length(D.map fun q=>fJ(g.h q.dest))rfl(r2.alloc _)⟨w2.heap.size,0,none⟩1 1 [.pointer(some⟨Bq,0,none⟩)]rfl rfl(O4 w2 Bq)(by simp [Value.oneCell'])hk1.out hk2.out ?c3 ?_)
   case c3=>simp;omega
   intro v7 w7 gP eu _ _;have nA:=n2.later jk;have F7:Fx(fun k=>(Value.slice ao D.length c).ownBlock=some k)(w2.alloc(.cells #[.pointer(some⟨Bq,0,none⟩)]172))w7:=Fx.grown eu fun k e=>e;have n7:=nA.off F7(fun k hk=>by
    obtain⟨cc,hc⟩:=aP(r2.alloc _)hk;exact nA.ZN hc)
   have hs7:=jk.size;have hs8:=F7.size;have u7:Up B(Ft N g s)(Ft N g2 s)w w7:=⟨fun k hk=>(UO.sub k hk).dh fun h=>⟨h.1,by omega⟩,F7.os.trans(jk.os.trans UO.os),F7.tape.trans(jk.tape.trans UO.tape),F7.output.trans(jk.output.trans UO.output),by omega,fun k o ho hn hA=>by
    have hkw:=aD ho;have h2:=UO.block k o ho hn hA;have hk2:=aD h2;have h3:(w2.alloc(.cells #[.pointer(some⟨Bq,0,none⟩)]172)).heap[k]?=some o:=(jk.block k hk2).trans h2;exact(F7.block k(by omega)(fun e=>by have:=(r2.lt k e).1;omega)).trans h3⟩
   have r7:w7.ownsRow w.heap.size 172 1 v7(D++ [q]).length((D++ [q]).map fun q=>fJ(g.h q.dest)):=by
    rw [List.length_append,List.length_singleton,List.map_append,List.map_cons,List.map_nil,hBq];exact gP
   obtain⟨PS,c7,rfl,_⟩:=ak gP;clear nA F7 hs7 hs8 jk h12 gP eu n2 UO r2 c13 c14 hlk;go_wp2
   go_roundw
   case rel=>exact⟨D++ [q],g2,Em,n7,u7,x2,y2,hd3,nW,r7⟩
   case measure=>simp [Yq];omega
  ·have hDe:=hide(d1.out.eq hT'.out m1.out DD.out Oh.out hno);have hR:=hide(Aj.first d1.out hT'.out m1.out DD.out Oh.out aeE.out hpos'.out);have hfin:Hid(adP N B g s TL(St.j3 s.Q now)w(.slice ao D.length c)w2):=by
    rw [←hDe.out];exact⟨g2,Em,n2,UO,by rw [x2.out];exact rfl,y2.out,hR.out,r2⟩
   clear hR hDe d1 m1 hno n2 UO r2 hlen;go_wp2
   go_ret
   exact⟨_,rfl,hfin.out⟩
theorem BD {Q:List Sr}(hn:Q.Pairwise fun a b=>a.dest≠b.dest) {q:Sr}(hq:q∈Q):St.jD Q q.dest=some q:=by
 cases h:St.jD Q q.dest with
 |none=>
  have:=List.find?_eq_none.1 h q hq;simp at this
 |some z=>
  obtain⟨h1,h2⟩:=iL h;rw [uo hn h1 hq h2]
def GoI(N B:Nat)(g g1:bA)(s:St)(w w1:World)(D:List Sr)(k:Int)(j i:Nat)(wr:World):Prop:=
 ∃si gi Pe,Hid(si=(D.take i).foldl St.step s)∧Nd N B gi si Pe wr∧Up B(Ft N g s)(Ft N gi si)w wr∧Up B(Ft N g1 s)(Ft N gi si)w1 wr∧Hid(gi.x.T=g.x.T)∧Hid(∀a∈D.drop i,gi.h a.dest=g.h a.dest)∧Hid(Aj(D.drop i)si Pe)∧Hid(si.Mid k(j+i))∧Hid(Kp s si)
theorem IC {s:St} {q:Sr}(hq:q∈s.Q)(hn:s.Q.Pairwise fun a b=>a.dest≠b.dest)(hf:(bF s.A q.dest s.now).2=true) {TL dO:List Hp.Tm}(ht:Ej q.id TL dO)(h4:∀q∈s.Q,q.txt.length≤4):TmR q s TL(s.bP q.dest)dO:=by
 refine .inr⟨(mX s q.dest h4).tl,?_,ht⟩;unfold St.bP;rw [BD hn hq];dsimp only;rw [if_pos hf]
theorem IE {s:St} {d:Int}(hf:(bF s.A d s.now).2=false):s.bP d=s:=by
 unfold St.bP;split
 ·rfl
 ·rw [hf];rfl
theorem GoI.next {N B:Nat} {g g1 gi g5:bA} {s si s2:St} {w w1 wr w5:World} {D:List Sr} {k:Int} {j i:Nat} {q:Sr} {Pe Em:List Hp.Tm}(hx:D[i]?=some q)(hst:si=(D.take i).foldl St.step s)(ni:Nd N B gi si Pe wr)(u1:Up B(Ft N g s)(Ft N gi si)w wr)(u2:Up B(Ft N g1 s)(Ft N gi si)w1 wr)(t1:gi.x.T=g.x.T)(hh:∀a∈D.drop i,gi.h a.dest=g.h a.dest)(hr:Aj(D.drop i)si Pe)(hm:si.Mid k(j+i))(hk:Kp s si)
  (e2:si.step q=s2)(n5:Nd N B g5 s2 Em w5)(u5:Up B(Ft N gi si)(Ft N g5 s2)wr w5)(t5:g5.x.T=gi.x.T)(h5:∀z,z≠q.dest→g5.h z=gi.h z)(ht:TmR q si Pe s2 Em):GoI N B g g1 s w w1 D k j(i+1)w5:=by
 have hd:D.drop i=q::D.drop(i+1):=by
  obtain⟨hi,e⟩:=List.getElem?_eq_some_iff.1 hx;rw [List.drop_eq_getElem_cons hi,e]
 rw [hd]at hr hh;have hn:=ni.nn.rs.sr.qA;have h4:∀q∈si.Q,q.txt.length≤4:=fun q hq=>(ni.nn.rs.sr.ok q hq).txt;obtain⟨m2,k2⟩:=mid_step hm ni.nn.cr.tb.ok ni.nn.cr.tb.len h4 q(h4 q(hr.mem q List.mem_cons_self));rw [e2]at m2 k2;refine⟨s2,g5,Em,?_,n5,u1.trans u5,u2.trans u5,t5.trans t1,fun a ha=> ?_,hr.step hn ht,m2,hk.trans k2⟩
 ·show s2=_;rw [List.take_add_one,hx,List.foldl_append,←hst,←e2];rfl
 ·have h1:=(List.pairwise_cons.1 hr.qA).1 a ha;rw [h5 a.dest(Ne.symm h1)];exact hh a(List.mem_cons_of_mem _ ha)
theorem abA {N B:Nat} {g:bA} {s:St} {TL:List Hp.Tm} {w:World}(n:Nd N B g s TL w) {k:Int} {j:Nat}(hM:s.Mid k j)(hj:j≤1000)(hk:0≤k∧k≤100000000000)(hT:dM s TL)(hpos:∀a∈s.Q,0<a.id):
  Calls Tryz.prog 52 #[.pointer(some⟨N,0,none⟩),.pointer(some⟨B,0,none⟩)]w fun e w'=>e=.returned(.tuple #[])∧∃g1 w1,GoI N B g g1 s w w1(St.j3 s.Q s.now)k j(St.j3 s.Q s.now).length w':=by
 have hlt:=n.nn.ZC hT;obtain⟨c2,c3,c4,c7,c0⟩:=n.cell;have HD:=hide(adJ n hT(by omega)hM.CW hpos s.now hM.now);have hDl:(St.j3 s.Q s.now).length≤5000:=by
  unfold St.j3;rw [(List.mergeSort_perm _ _).fM];exact Nat.le_trans(List.length_filter_le _ _)n.nn.rs.sr.len
 generalize hDe:St.j3 s.Q s.now=D at HD hDl ⊢;clear hDe;go_enter Tryz.func52,Tryz.ntmps52
 go_wp2_with fail
 refine Calls.mono HD.out ?_;rintro e w1⟨v,rfl,g1,TL1,n1,u1,t1,y1,r1,ho⟩;obtain⟨ao,c,rfl,_⟩:=ak ho;have hkeep:Hid(∀(gi:bA)(si:St)(wr:World),Up B(Ft N g1 s)(Ft N gi si)w1 wr→wr.ownsRow w.heap.size 172 1(.slice ao D.length c)D.length(D.map fun q=>fJ(g.h q.dest))):=fun gi si wr u=>bD ho fun k hk=>by
  obtain⟨cc,hc⟩:=aP ho hk;exact(u.block k _ hc(n1.ZN hc).1(.inl⟨fun c e=>(by cases e),fun c e=>(by cases e),fun c e=>(by cases e),fun c e=>(by cases e),fun c e=>(by cases e)⟩)).trans hc.symm
 have h0:Hid(GoI N B g g1 s w w1 D k j 0 w1):=⟨s,g1,TL1,rfl,n1,u1,Up.refl _ _ _,t1.out,fun a _=>by rw [y1.out.1],by rw [List.drop_zero];exact r1,hM,Kp.refl s⟩;clear HD n n1 u1 t1 y1 r1 ho c2 c3 c4 c7 c0 hM hT hpos;go_wp2_with fail
 go_loopw [13](fun vi wr=>∃i:Nat,i≤D.length∧vi=.int .i64 i∧GoI N B g g1 s w w1 D k j i wr)(fun vi _=>D.length - (intOf vi).toNat)
 case atStart=>exact⟨0,Nat.zero_le _,rfl,h0.out⟩
 case round=>
  clear h0;obtain⟨i,hi,rfl,hg⟩:=hrel;by_cases hlt:i<D.length
  ·obtain⟨si,gi,Pe,hst,ni,u1,u2,t1,hh,hr,hm,hkp⟩:=hg;have hki:(i:Int)<(D.length:Int):=by omega
   obtain⟨q,hx⟩:∃q,D[i]?=some q:=⟨_,List.getElem?_eq_getElem hlt⟩;have hd:q∈D.drop i:=by
    obtain⟨hi,e⟩:=List.getElem?_eq_some_iff.1 hx;rw [List.drop_eq_getElem_cons hi,e];exact List.mem_cons_self
   have hqm:=hr.out.mem q hd;have hok:=ni.nn.rs.sr.ok q hqm;obtain⟨Bq,hB,hL⟩:=ni.nn.rs.sr.ln q hqm;have hgB:g.h q.dest=some Bq:=(hh.out q hd).symm.trans hB;have hrow:=hkeep.out gi si wr u2;obtain⟨gb,cb,hv,_⟩:=bS hrow(by omega);cases hv;have d0:=(hrow.cellAt i(by simpa using hlt)).trans(by rw [List.getElem?_map,hx,Option.map_some,hgB];rfl:(D.map fun q=>fJ(g.h q.dest))[i]?=some(.pointer(some⟨Bq,0,none⟩)));have b0:=hL.cell.1;have Oh:=hr.out.pos q hqm;have HS:=hide(su ni q.dest hok.dest hm.out.me hm.out.now(by have:=hm.out.aH;omega)(by have:=hr.out.pm.fM;rw [List.length_map]at this;have:=List.length_filter_le(rF(D.drop i))si.Q;have:=ni.nn.rs.sr.len;omega));rw [BD ni.nn.rs.sr.qA hqm]at HS;have hwk:wrap64((i:Int)+1)=(i:Int)+1:=by unfold wrap64;omega
   have hTl:Pe.length≤5000:=by
    have:=hr.out.pm.fM;rw [List.length_map]at this;have:=List.length_filter_le(rF(D.drop i))si.Q;have:=ni.nn.rs.sr.len;omega
   have hTi:∀x∈Pe,x.2.1≤si.tl:=fun x hx=>by
    obtain⟨z,hz,rfl⟩:=List.mem_map.1(hr.out.pm.mem_iff.1 hx);exact hr.out.le z(List.mem_filter.1 hz).1
   have hnx:=hide(fun(s2:St)(g5:bA)(Em:List Hp.Tm)(w5:World)(e2:si.step q=s2)(n5:Nd N B g5 s2 Em w5)(u5:Up B(Ft N gi si)(Ft N g5 s2)wr w5)(t5:g5.x.T=gi.x.T)(h5:∀z,z≠q.dest→g5.h z=gi.h z)(ht:TmR q si Pe s2 Em)=>GoI.next(g:=g)(g1:=g1)(w:=w)(w1:=w1)hx hst.out ni u1 u2 t1.out hh.out hr.out hm.out hkp.out e2 n5 u5 t5 h5 ht);have DD:=ni.nn.rs.sr.qA;have h4:∀q∈si.Q,q.txt.length≤4:=fun q hq=>(ni.nn.rs.sr.ok q hq).txt;have hR:=hm.out.rdy(by omega)hk;have hdl:si.aN.length≤800000:=by have:=hm.out.aN;omega
   have htl:=hm.out.tl;clear hst u1 u2 t1 hh hr hkp hd hgB hrow;obtain⟨fd,vU⟩:∃b,(bF si.A q.dest si.now).2=b:=⟨_,rfl⟩;rw [vU]at HS;replace hx:=hide hx;replace DD:=hide DD;replace h4:=hide h4;replace hR:=hide hR;replace hTi:=hide hTi;replace hm:=hm;cases fd
   ·rw [IE vU]at HS;go_wp2_with fail
    refine Calls.mono HS.out ?_;rintro e w2⟨rfl,Em,⟨g2,n2,u2,t2,y2⟩,_,hsame⟩;obtain rfl:Em=Pe:=hsame(.inr rfl);have hB2:g2.h q.dest=some Bq:=(y2.out q.dest(fun h=>by cases h.1)).trans hB;obtain⟨fn,hb2,hfn⟩:=n2.jD hqm hB2;have c5:=hb2.cell.2.2.2.2.2;rw [hfn(by omega)]at c5;have y2':=hide(fun z=>y2.out z(fun h=>by cases h.1));have hstep:si.step q=if q.out then si.widen q else si.ask q:=by
     unfold St.step;rw [vU];rfl
    obtain⟨qo,hqo⟩:∃b,q.out=b:=⟨_,rfl⟩;rw [hqo]at c5 hstep;clear HS hsame hb2 hfn y2 d0 b0 ni;cases qo
    ·have HA:=hide(Uu n2 hR.out(by omega)q hqm Bq hB2(by omega)(by omega)hTi.out);obtain⟨s2,hs2⟩:∃z,si.ask q=z:=⟨_,rfl⟩;have LU:=hide(Mh si q q Em rfl);rw [hs2]at HA LU;have R8:Hid(si.step q=s2):=by show _=_;rw [hstep,←hs2];rfl
     clear hs2 hstep n2;simp only [CG,if_false,Bool.false_eq_true]at c5;go_wp2_with fail
     refine Calls.mono HA.out ?_;rintro e w5⟨rfl,g5,n5,u5,t5,y5⟩;have hn:=hide(hnx.out s2 g5 _ w5 R8.out n5(u2.trans u5)(t5.out.trans t2.out)(fun z _=>by rw [y5.out.1];exact y2'.out z)LU.out);clear HA n5 u5 u2 hnx LU;go_wp2
     go_roundw
     case rel=>exact⟨i+1,by omega,by go_num,hn.out⟩
     case measure=>simp [intOf];omega
    ·have HA:=hide(Yc n2 hR.out hdl q hqm Bq hB2(by omega)(by omega)hTi.out);obtain⟨s2,hs2⟩:∃z,si.widen q=z:=⟨_,rfl⟩;rw [hs2]at HA;have R8:Hid(si.step q=s2):=by show _=_;rw [hstep,←hs2];rfl
     clear hs2 hstep n2;simp only [CG,if_true]at c5;go_wp2_with fail
     refine Calls.mono HA.out ?_;rintro e w5⟨rfl,PU,⟨g5,n5,u5,t5,y5⟩,LU⟩;have hn:=hide(hnx.out s2 g5 _ w5 R8.out n5(u2.trans u5)(t5.out.trans t2.out)(fun z hz=>(y5.out z hz).trans(y2'.out z))LU);clear HA n5 u5 u2 hnx LU;go_wp2
     go_roundw
     case rel=>exact⟨i+1,by omega,by go_num,hn.out⟩
     case measure=>simp [intOf];omega
   ·obtain⟨s2,hs2⟩:∃z,si.bP q.dest=z:=⟨_,rfl⟩;have LU:Hid(∀Em,Ej q.id Pe Em→TmR q si Pe s2 Em):=fun Em h=>by rw [←hs2];exact IC hqm DD.out vU h h4.out
    have R8:Hid(si.step q=s2):=by
     show _=_;unfold St.step;rw [vU,←hs2];rfl
    rw [hs2]at HS;clear hs2 vU;go_wp2_with fail
    refine Calls.mono HS.out ?_;rintro e w2⟨rfl,Em,⟨g2,n2,u2,t2,y2⟩,htk,_⟩;have hn:=hide(hnx.out s2 g2 _ w2 R8.out n2 u2 t2.out(fun z hz=>y2.out z(by rintro⟨_,q',h,rfl⟩;cases h;exact hz rfl))(LU.out Em(htk q rfl rfl)));clear HS n2 u2 hnx LU htk y2 ni d0 b0;go_wp2
    go_roundw
    case rel=>exact⟨i+1,by omega,by go_num,hn.out⟩
    case measure=>simp [intOf];omega
  ·obtain rfl:i=D.length:=by omega
   go_wp2
   go_returns
   exact⟨rfl,g1,w1,hg⟩
open Go.MuLone
theorem abD {N:Nat} {g:bA} {s:St} {TL:List Hp.Tm} {w:World}(n:Nn N g s TL w) {k:Int}(hI:s.Inv k)(hk:0≤k∧k≤100000000000)(hT:dM s TL)(hpos:∀a∈s.Q,0<a.id)(now:Int)(fq:s.now≤now∧now≤4611686018427387904):
  Calls Tryz.prog 20 #[.pointer(some⟨N,0,none⟩),.int .u64 now]w fun e w'=>∃o,e=.returned o∧Hid((s.j6 now).Inv(k+1))∧Az N g s(s.j6 now)w o w':=by
 have hA:=n.cr.tb.ok;have hl:=n.cr.tb.len;have hb0:Below w.heap.size w(w.alloc iN):=(Below.refl _ _).alloc(Nat.le_refl _)_;have hC0:(w.alloc iN).heap[w.heap.size]?=some iN:=heap_alloc_new _ _;have jS:¬Ft N g s w.heap.size:=fun h=>by have:=n.lt h;omega
 have hs0:(w.alloc iN).heap.size=w.heap.size+1:=by simp
 have n0:=n.later hb0;have hM:=(qB hI).2 now fq hA hl;obtain⟨s3,hs3⟩:∃z,s.aQ.begin now=z:=⟨_,rfl⟩;rw [hs3]at hM;have Gq:Hid(s3.lk=1):=by show _=_;rw [←hs3];rfl
 have LW:Hid(s3.Q=s.Q):=by show _=_;rw [←hs3];rfl
 have w_:Hid(s3.now=now):=by show _=_;rw [←hs3];rfl
 have Sq:Hid(s3.me=s.me):=by show _=_;rw [←hs3];rfl
 replace hM:=hide hM;dsimp only [iN]at hb0 hC0 hs0 n0
 go_enter_defers Tryz.func20,Tryz.ntmps20
 go_upto_region 1 with(fail)
 generalize World.alloc _ _=W1 at hb0 hC0 hs0 n0 ⊢;obtain⟨c0,f0⟩:=n0.Ib;rw [hI.lk]at c0;go_wp2_with fail
 refine Calls.mono(lock_free lu⟨N,0,none⟩W1 c0 f0) ?_;rintro e w2⟨rfl,rfl⟩;obtain⟨n2,hg2⟩:=n0.j_ 1;have hf2:Fx(Ft N g s)w(W1.setCell⟨N,0,none⟩(.int .i32 1)):=aT(Fx.below hb0)hg2(fun i _ e=>by cases e;exact .inl(.inl rfl));have hC2:=(hg2.block w.heap.size(by omega)(fun e=>jS(by cases e;exact .inl(.inl rfl)))).trans hC0;have hs2:w.heap.size+1≤(W1.setCell⟨N,0,none⟩(.int .i32 1)).heap.size:=by
  have:=hg2.size;omega
 have hcn:=hI.cnt;have HB:=hide(yn n2 now⟨hI.dom.mb,hI.dom.on,hI.dom.own⟩⟨hcn.1,by dsimp only;omega⟩);rw [show({s with lk:=1}:St).begin now=s3 from hs3]at HB;have hF1:Hid(∀k,Ft N({g with x:={g.x with lk:=1}}:bA)({s with lk:=1}:St)k→Ft N g s k):=fun k h=>h;replace hs3:=hide hs3;clear n0 hC0 hs0 hb0 c0 f0 hg2 hA hl hcn;generalize({g with x:={g.x with lk:=1}}:bA)=g1 at n2 HB hF1;generalize({s with lk:=1}:St)=s1 at n2 HB hF1;generalize World.setCell _ _ _=W2 at n2 hf2 hC2 hs2 HB ⊢;go_wp2_with fail
 refine Calls.mono HB.out ?_;rintro e w3⟨g3,rfl,n3,u3,YT,t3⟩;clear t3;clear HB;have Ta:Hid(dM s3 TL):=by
  show dM _ _;unfold dM;rw [LW.out];exact hT
 have HG:=hide(abA n3 hM.out(by omega)hk Ta.out(by rw [LW.out];exact hpos));have hDl:Hid((St.j3 s3.Q s3.now).length≤5000):=by
  show _≤_;unfold St.j3;rw [(List.mergeSort_perm _ _).fM];exact Nat.le_trans(List.length_filter_le _ _)n3.nn.rs.sr.len
 clear YT n2 n3 hpos;go_wp2_with fail
 refine Calls.mono HG.out ?_;rintro e w5⟨rfl,g1',w1',s5,g5,PU,ack,n5,u5,_,t5,_,iq,ac7,hk5⟩;have hs5:Hid((St.j3 s3.Q now).foldl St.step s3=s5):=by
  show _=_;rw [ack.out,List.take_length,w_.out]
 have Xc:Hid(dM s5 PU):=by
  have:=iq.out;rw [List.drop_length]at this;exact this.done
 have nE:Hid(s5.Mid k(1+(St.j3 s3.Q s3.now).length)):=ac7.out;have DK:Hid(s5.lk=1):=hk5.out.lk.trans Gq.out;have xE:=u3.trans u5;replace hDl:(St.j3 s3.Q s3.now).length≤5000:=hDl.out;generalize(St.j3 s3.Q s3.now).length=dl at nE hDl;clear HG u3 u5 ack iq ac7 hk5;have LX:=hide(lV nE.out(by omega)n5.nn.cr.tb.ok n5.nn.cr.tb.len);have ME:=hide(oq n5 nE.out.dom(by have:=nE.out.cnt;omega)(by have:=nE.out.a_;omega)nE.out.bd nE.out.seq);go_wp2_with fail
 refine Calls.mono ME.out ?_;rintro e w6⟨g6,rfl,n6,u6,t6⟩;obtain⟨s6,hs6⟩:∃z,s5.finish=z:=⟨_,rfl⟩;have DJ:s6.lk=1:=by rw [←hs6,(aO s5).lk];exact DK.out
 have Xb:Hid(dM s6 PU):=by
  show dM _ _;unfold dM;rw [←hs6,(aO s5).Q];exact Xc.out
 have jo:Hid(s.j6 now=s6.freed):=by
  show _=_;rw [←hs6];unfold St.j6 St.tick;rw [hs3.out];dsimp only;rw [hs5.out]
 rw [hs6]at n6 u6 LX ⊢;have mI:=xE.trans u6;clear ME hs6 u6 n5 xE;have DY:=mI.Qd(Nat.le_refl _);have mU:∀k,Ft N g6 s6 k→Ft N g s k∨(w.heap.size≤k∧k<w6.heap.size):=fun k hk=>(mI.sub k hk).elim(fun h=> .inl(hF1.out k h))fun h=> .inr⟨by omega,h.2⟩;have cK:=(DY.block w.heap.size(by omega)(fun h=>jS(hF1.out _ h))).trans hC2;have jY:¬Ft N g6 s6 w.heap.size:=fun h=>(mI.sub _ h).elim(fun h=>jS(hF1.out _ h))(by omega);have LP:=hf2.trans DY(fun i _ h=>hF1.out i h);have r1:=ownsRow_base_a n6.ac.aI(show w.heap.size≤W2.heap.size+1 by omega);have r2:=ownsRow_base_a n6.ac.bH(show w.heap.size≤W2.heap.size+1 by omega);have r3:=ownsRow_base_a n6.ac.bI(show w.heap.size≤W2.heap.size+1 by omega);have m6:=n6.nn;obtain⟨af,kf,hf,_⟩:=ak r1;obtain⟨ac,kc,hc,_⟩:=ak r2;obtain⟨ad,kd,hdd,_⟩:=ak r3;rw [hf]at r1;rw [hc]at r2;rw [hdd]at r3;rw [hf,hc,hdd];simp only [iE];clear n6 hf hc hdd mI DY hf2 hC2;generalize hjj:s6.aY=jj;replace hjj:=hide hjj;have z0:w6.cell?⟨w.heap.size,0,none⟩=some(.string⟨#[]⟩):=cell_of_row _ _ 0 _ _ _ cK;have z1:w6.cell?⟨w.heap.size,1,none⟩=some(.bool false):=cell_of_row _ _ 1 _ _ _ cK;have z2:w6.cell?⟨w.heap.size,2,none⟩=some(.slice none 0 0):=cell_of_row _ _ 2 _ _ _ cK;have z3:w6.cell?⟨w.heap.size,3,none⟩=some(.slice none 0 0):=cell_of_row _ _ 3 _ _ _ cK;have z4:w6.cell?⟨w.heap.size,4,none⟩=some(.slice none 0 0):=cell_of_row _ _ 4 _ _ _ cK;have y0:=frozen_of_row w6 w.heap.size 0 _ _ cK;have y1:=frozen_of_row w6 w.heap.size 1 _ _ cK;have y2:=frozen_of_row w6 w.heap.size 2 _ _ cK;have y3:=frozen_of_row w6 w.heap.size 3 _ _ cK;have y4:=frozen_of_row w6 w.heap.size 4 _ _ cK;have gB:=aa(aa(aa(aa(aa(aC w6(some w.heap.size))0(.string jj))1(.bool s6.aZ))2(.slice af s6.aH.length kf))3(.slice ac s6.aR.length kc))4(.slice ad s6.aN.length kd);have dI:(((((w6.setCell⟨w.heap.size,0,none⟩(.string jj)).setCell⟨w.heap.size,1,none⟩(.bool s6.aZ)).setCell⟨w.heap.size,2,none⟩(.slice af s6.aH.length kf)).setCell⟨w.heap.size,3,none⟩(.slice ac s6.aR.length kc)).setCell⟨w.heap.size,4,none⟩(.slice ad s6.aN.length kd)).heap[w.heap.size]?=some(.cells #[.string jj,.bool s6.aZ,.slice af s6.aH.length kf,.slice ac s6.aR.length kc,.slice ad s6.aN.length kd]52):=by
  simp [World.setCell,Array.getElem?_modify,cK]
 have r1:=r1.kept gB(.inr(aA r1 cK(fun c e=>(by cases e))));have r2:=r2.kept gB(.inr(aA r2 cK(fun c e=>(by cases e))));have r3:=r3.kept gB(.inr(aA r3 cK(fun c e=>(by cases e))));have m7:=m6.kept fun k hk=>gB.block k(m6.lt hk)(fun e=>jY(by cases e;exact hk));have pg:=aT LP gB(fun i hi e=>by cases e;omega);have jP:=fun k hk=>(mU k hk).dh fun h=>(⟨h.1,Nat.lt_of_lt_of_le h.2 gB.size⟩:w.heap.size≤k∧_);clear m6 gB LP cK mU;go_wp2_with fail
 generalize World.setCell _ _ _=W7 at dI r1 r2 r3 m7 pg jP ⊢;have p0:W7.cell?⟨w.heap.size,0,none⟩=some(.string jj):=cell_of_row _ _ 0 _ _ _ dI;have p1:W7.cell?⟨w.heap.size,1,none⟩=some(.bool s6.aZ):=cell_of_row _ _ 1 _ _ _ dI;have p2:W7.cell?⟨w.heap.size,2,none⟩=some(.slice af s6.aH.length kf):=cell_of_row _ _ 2 _ _ _ dI;have p3:W7.cell?⟨w.heap.size,3,none⟩=some(.slice ac s6.aR.length kc):=cell_of_row _ _ 3 _ _ _ dI;have p4:W7.cell?⟨w.heap.size,4,none⟩=some(.slice ad s6.aN.length kd):=cell_of_row _ _ 4 _ _ _ dI;obtain⟨c0,f0⟩:=m7.Ib;rw [DJ]at c0;refine leaves_cons(f:=50)(args:=#[.pointer(some⟨N,0,none⟩)])(by simp)(by simp [go_sem]) ?_;refine(unlock_deferred lu⟨N,0,none⟩ .returning W7 c0 f0).mono ?_;rintro e u' w''⟨rfl,rfl,rfl⟩;obtain⟨m8,jh⟩:=m7.j_ 0;have AO:N≠w.heap.size:=fun e=>jY(by rw [←e];exact .inl(.inl rfl));have bU:=(jh.block w.heap.size(aD dI)(fun e=>by cases e;exact AO rfl)).trans dI;have r1:=r1.kept jh(.inr(aA r1 m7.cr.nd(fun c e=>(by cases e))));have r2:=r2.kept jh(.inr(aA r2 m7.cr.nd(fun c e=>(by cases e))));have r3:=r3.kept jh(.inr(aA r3 m7.cr.nd(fun c e=>(by cases e))));have xc:=aT pg jh(fun i hi e=>by cases e;exact .inl(.inl rfl));have mR:=fun k hk=>(jP k hk).dh fun h=>(⟨h.1,Nat.lt_of_lt_of_le h.2 jh.size⟩:w.heap.size≤k∧_);clear p0 p1 p2 p3 p4 c0 f0 jh m7 pg jP dI;generalize World.setCell _ _ _=W8 at bU r1 r2 r3 m8 xc mR ⊢;have p0:W8.cell?⟨w.heap.size,0,none⟩=some(.string jj):=cell_of_row _ _ 0 _ _ _ bU;have p1:W8.cell?⟨w.heap.size,1,none⟩=some(.bool s6.aZ):=cell_of_row _ _ 1 _ _ _ bU;have p2:W8.cell?⟨w.heap.size,2,none⟩=some(.slice af s6.aH.length kf):=cell_of_row _ _ 2 _ _ _ bU;have p3:W8.cell?⟨w.heap.size,3,none⟩=some(.slice ac s6.aR.length kc):=cell_of_row _ _ 3 _ _ _ bU;have p4:W8.cell?⟨w.heap.size,4,none⟩=some(.slice ad s6.aN.length kd):=cell_of_row _ _ 4 _ _ _ bU;refine⟨.agg #[.string jj,.bool s6.aZ,.slice af s6.aH.length kf,.slice ac s6.aR.length kc,.slice ad s6.aN.length kd],by simp [results,Tryz.results20,go_sem,p0,p1,p2,p3,p4],_,rfl,?_⟩;rw [jo.out];refine⟨LX,_,PU,.slice af s6.aH.length kf,.slice ac s6.aR.length kc,.slice ad s6.aN.length kd,?_,m8,Xb.out,r1,r2,r3,xc,mR⟩;rw [←hjj.out];rfl
end Go.Proofs.YtakaadcpaeiccabGreat
