import Derived.Test.YtakaadcpaeiccabGreatC30
import Derived.Deep.RegionWith
set_option maxHeartbeats 8000000
set_option maxRecDepth 100000
namespace Go.Proofs.YtakaadcpaeiccabGreat
open Go.RowKit Go.Maps
@[reducible] def Rs (d q : Int) : Obj := .cells #[.int .u32 d, .int .u32 q] 237
theorem yf(c:Array Value):nS(.cells c 237(0,0)):=⟨fun c e=>(by cases e),fun c e=>(by cases e),fun c e=>(by cases e),fun c e=>(by cases e),fun c e=>(by cases e)⟩
theorem Rv {A:List Rt}(hA:Asc A) {fr d q:Int}(h:l9 A fr d=false):gm A fr d q=A:=by
 unfold gm;refine o7 hA fun y hy=> ?_;unfold l9 at h;rw [hy]at h;simp only [Option.any_some]at h;unfold bY;rw [h];rfl
theorem Uo {N B:Nat} {g:bA} {s:St} {TL:List Hp.Tm} {w:World}(n:Nd N B g s TL w)(fr d q:Int)(hd:bg d)(hq:bg q):
  Calls Tryz.prog 168 #[.pointer(some⟨g.x.T,0,none⟩),.int .u32 fr,.agg #[.int .u32 d,.int .u32 q]]w fun r w'=>r=.returned(.bool(l9 s.A fr d))∧lg N B g s {s with A:=gm s.A fr d q}TL w w'∧Fx(Ft N g s)w w':=by
 refine(UD s.me g.x.T _ s.A fr d q hd hq w n.tab).mono ?_;rintro r w'⟨rfl,h1,h2⟩;exact⟨rfl,n.vH(h1.ext _ _)h2,h2.mono fun k hk=> .inl(.inr(.inr hk))⟩
def Ex(N:Nat)(g:bA)(s:St)(ao:Option Addr):Prop:=∀b,ao=some b→¬Ft N g s b.block
theorem bu.fx {S:Nat→Prop} {W W':World} {ao:Option Addr} {L:List(Int×Int)}(h:bu W ao L)(hf:Fx S W W')(ha:0<L.length→∀b,ao=some b→¬S b.block):bu W' ao L:=by
 intro j hj;obtain⟨lb,lo,d,s,h1,h2,h3,h4,h5,h6,h7,h8,h9⟩:=h j hj;have hk:=hf.block lb h2(ha(Nat.lt_of_le_of_lt(Nat.zero_le _)hj)_ h1);refine⟨lb,lo,d,s,h1,Nat.lt_of_lt_of_le h2 hf.size,h3,h4,h5,h6,h7,?_,?_⟩
 ·unfold World.cell? at h8 ⊢;rw [show W'.heap[(⟨lb,lo+j * 2,none⟩:Addr).block]?=W.heap[lb]? from hk];exact h8
 ·unfold World.cell? at h9 ⊢;rw [show W'.heap[(⟨lb,lo+j * 2+1,none⟩:Addr).block]?=W.heap[lb]? from hk];exact h9
structure Il(N B:Nat)(g:bA)(s:St)(TL:List Hp.Tm)(ao:Option Addr)(L:List(Int×Int))(w:World)(k:Nat)(A:List Rt)(tl:List(Int×Int))(st:St)(g':bA)(lv:Value)(W:World):Prop where
 hst:Hid(({s with A:=A}:St)=st)
 nd:Nd N B g' st TL W
 up:Up B(Ft N g s)(Ft N g' st)w W
 tt:Hid(g'.x.T=g.x.T)
 row:W.ownsRow w.heap.size 237 2 lv tl.length(Bl tl)
 lst:bu W ao L
 nf:0<L.length→Ex N g' st ao
 old:0<L.length→∀b,ao=some b→b.block<w.heap.size
 nr:∀k',lv.ownBlock=some k'→¬Ft N g' st k'
 len:tl.length≤k
 ok:∀x∈tl,0≤x.1∧x.1<4294967296∧0≤x.2∧x.2<4294967296
theorem Up.row {B base e size n:Nat} {F F':Nat→Prop} {v:Value} {cs:List Value} {a b:World}(u:Up B F F' a b)(h:a.ownsRow base e size v n cs)(hn:∀k,v.ownBlock=some k→¬F k)(hA:∀c:Array Value,nS(.cells c e(0,0))):b.ownsRow base e size v n cs∧∀k,v.ownBlock=some k→¬F' k:=
 ⟨bD h fun k hk=>by
  obtain⟨c,hc⟩:=aP h hk;rw [hc];exact u.block k _ hc(hn k hk)(.inl(hA c)),fun k hk=>by
  obtain⟨c,hc⟩:=aP h hk;exact(u.keep hc(hn k hk)(hA c)).2⟩
theorem Il.later {N B:Nat} {g:bA} {s:St} {TL:List Hp.Tm} {ao:Option Addr} {L:List(Int×Int)} {w:World} {k:Nat} {A:List Rt} {tl:List(Int×Int)} {st:St} {g':bA} {lv:Value} {W W':World}(h:Il N B g s TL ao L w k A tl st g' lv W)(hb:Below W.heap.size W W'):Il N B g s TL ao L w k A tl st g' lv W':=
 ⟨h.hst,h.nd.later hb,h.up.trans(.below hb),h.tt,aM h.row hb,h.lst.below hb,h.nf,h.old,h.nr,h.len,h.ok⟩
theorem Il.up1 {N B:Nat} {g:bA} {s:St} {TL:List Hp.Tm} {ao:Option Addr} {L:List(Int×Int)} {w:World} {k:Nat} {A:List Rt} {tl:List(Int×Int)} {st:St} {g':bA} {lv:Value} {W:World}(h:Il N B g s TL ao L w k A tl st g' lv W):Il N B g s TL ao L w(k+1)A tl st g' lv W:=
 ⟨h.hst,h.nd,h.up,h.tt,h.row,h.lst,h.nf,h.old,h.nr,Nat.le_succ_of_le h.len,h.ok⟩
theorem Il.mi {N B:Nat} {g:bA} {s:St} {TL:List Hp.Tm} {ao:Option Addr} {L:List(Int×Int)} {w:World} {k:Nat} {A:List Rt} {tl:List(Int×Int)} {st:St} {g':bA} {lv:Value} {W:World}(h:Il N B g s TL ao L w k A tl st g' lv W)(fr d q:Int)(hd:bg d)(hq:bg q):
  Calls Tryz.prog 168 #[.pointer(some⟨g'.x.T,0,none⟩),.int .u32 fr,.agg #[.int .u32 d,.int .u32 q]]W fun r w'=>r=.returned(.bool(l9 A fr d))∧(∃st2 g2,Il N B g s TL ao L w k(gm A fr d q)tl st2 g2 lv w')∧Fx(Ft N g' st)W w':=by
 have hA:st.A=A:=by rw [←h.hst.out]
 refine(Uo h.nd fr d q hd hq).mono ?_;rintro r w'⟨rfl,⟨g2,n2,u2,t2⟩,hf⟩;rw [hA]at n2 u2 ⊢;refine⟨rfl,⟨_,g2,?_,n2,h.up.trans u2,t2.trans h.tt.out,?_,h.lst.fx hf h.nf,?_,h.old,?_,h.len,h.ok⟩,hf⟩
 ·show _=_;rw [←h.hst.out]
 ·exact(u2.row h.row h.nr yf).1
 ·intro hl b hb hk;rcases u2.sub _ hk with h1|⟨h1,_⟩
  ·exact h.nf hl b hb h1
  ·have h2:=h.old hl b hb;have h3:=h.up.size;omega
 ·exact(u2.row h.row h.nr yf).2
theorem Il.append {N B:Nat} {g:bA} {s:St} {TL:List Hp.Tm} {ao:Option Addr} {L:List(Int×Int)} {w:World} {k:Nat} {A:List Rt} {tl:List(Int×Int)} {st:St} {g':bA} {lv:Value} {W:World}(h:Il N B g s TL ao L w k A tl st g' lv W)(d q:Int) {v7:Value} {w7:World}(ho:w7.ownsRow w.heap.size 237 2 v7(tl.length+1)(Bl tl++Bl [(d,q)]))(hg:W.grownBy w7 lv.ownBlock)(hv:v7.ownBlock=lv.ownBlock∨v7.ownBlock=some W.heap.size)(hd:bg d)(hq:bg q):Il N B g s TL ao L w(k+1)A(tl++ [(d,q)])st g' v7 w7:=by
 have hge:∀j,lv.ownBlock=some j→w.heap.size≤j:=fun j hj=>(h.row.lt j hj).1;have hs:=h.up.size;refine⟨h.hst,⟨h.nd.nn.kept fun j hj=>hg.block j(h.nd.nn.lt hj)fun e=>h.nr j e.symm hj,h.nd.ac.kept fun j hj=>hg.block j(h.nd.ac.lt hj)fun e=> ?_,h.nd.now,h.nd.aZ⟩,⟨fun j hj=> ?_,hg.os.trans h.up.os,hg.tape.trans h.up.tape,hg.output.trans h.up.output,Nat.le_trans hs hg.size,fun j o hj hn hA=> ?_⟩,h.tt,?_,?_,h.nf,h.old,?_,?_,?_⟩
 ·obtain⟨c,hc⟩:=aP h.row e.symm;exact h.nd.ac.not hc(yf c)hj
 ·rcases h.up.sub j hj with h1|⟨h1,h2⟩
  ·exact .inl h1
  ·exact .inr⟨h1,Nat.lt_of_lt_of_le h2 hg.size⟩
 ·have h1:=h.up.block j o hj hn hA;exact(hg.block j(aD h1)fun e=>by have:=hge j e.symm;have:=aD hj;omega).trans h1
 ·rw [Ar,List.length_append];exact ho
 ·exact h.lst.fx(Fx.grown(S:=fun j=>w.heap.size≤j)hg hge)fun hl b hb=>by have:=h.old hl b hb;omega
 ·intro j hj;rcases hv with h1|h1
  ·exact h.nr j(h1.symm.trans hj)
  ·rw [h1]at hj;cases hj;exact h.nd.new(Nat.le_refl _)
 ·have:=h.len;simp;omega
 ·intro x hx;rcases List.mem_append.1 hx with h1|h1
  ·exact h.ok x h1
  ·cases List.mem_singleton.1 h1;unfold bg at hd hq;exact⟨hd.1,by have:=hd.2;omega,hq.1,by have:=hq.2;omega⟩
theorem Br {W:World} {base:Nat} {lv:Value} {tl:List(Int×Int)}(h:W.ownsRow base 237 2 lv tl.length(Bl tl))(ok:∀x∈tl,0≤x.1∧x.1<4294967296∧0≤x.2∧x.2<4294967296):∃ao c,lv=.slice ao tl.length c∧bu W ao tl:=by
 rcases h.2 with⟨rfl,h0⟩|⟨g,cap,cur,rfl,_⟩
 ·exact⟨none,0,by rw [h0],fun j hj=>by omega⟩
 ·exact⟨some⟨g,0,none⟩,cap,rfl,bu.Yv h ok⟩
@[reducible] def LB (N T C : Nat) (d q : Int) (W0 W : World) : Prop := (W.cell? ⟨N, 7, none⟩ = some (.pointer (some ⟨T, 0, none⟩)) ∧ W.cell? ⟨C, 0, none⟩ = some (.int .u32 d) ∧ W.cell? ⟨C, 1, none⟩ = some (.int .u32 q)) ∧ Below W0.heap.size W0 W
theorem LB.of {N B C:Nat} {g:bA} {s:St} {TL:List Hp.Tm} {d q:Int} {W0 W:World}(n:Nd N B g s TL W0)(hC:W0.heap[C]?=some(Rs d q))(hb:Below W0.heap.size W0 W):LB N g.x.T C d q W0 W:=by
 have h:=(hb.block C(aD hC)).trans hC;exact⟨⟨(n.later hb).nn.cr.nd.cell.2.2.2.2.1,cell_of_row W C 0 _ _ _ h,cell_of_row W C 1 _ _ _ h⟩,hb⟩
@[reducible] def LHc (N T C : Nat) (d q : Int) (W : World) : Prop := W.cell? ⟨N, 7, none⟩ = some (.pointer (some ⟨T, 0, none⟩)) ∧ W.cell? ⟨C, 0, none⟩ = some (.int .u32 d) ∧ W.cell? ⟨C, 1, none⟩ = some (.int .u32 q)
theorem BR {n k:Nat}(h:k<n):n - (intOf(.int .i64((k:Int)+1))).toNat<n - (intOf(.int .i64(k:Int))).toNat:=by
 show n - ((k:Int)+1).toNat<n - (k:Int).toNat;omega
theorem J4 {N B:Nat} {g:bA} {s:St} {TL:List Hp.Tm} {w:World}(n:Nd N B g s TL w)(fr:Int)(adD:bg fr)(p:ah)(hp:p.Wf)(L:List(Int×Int))(hL:eY w p L)(hap:Ex N g s p.la)(hfl:s.aH.length≤1000000)(hdl:s.aN.length≤1000000):
  Calls Tryz.prog 132 #[.pointer(some⟨N,0,none⟩),.pointer(some⟨B,0,none⟩),.int .u32 fr,p.val]w fun e w'=>e=.returned(.tuple #[])∧lg N B g s(s.gD fr L)TL w w':=by
 obtain⟨i0,hi,hz0,hz1,hz2⟩:=info_parts Lx;have hb0:Below w.heap.size w(w.alloc p.box):=(Below.refl _ _).alloc(Nat.le_refl _)_;have gp:=PB.new p w;have n0:=n.later hb0;obtain⟨s2,dA⟩:∃s2,s.gD fr L=s2:=⟨_,rfl⟩;rw [dA];replace dA:=hide dA;have hln:L.length=p.ln:=hL.1;have Og:=hp.ln1;have hI0:Il N B g s TL p.la L w 0 s.A []s g(.slice none 0 0)(w.alloc p.box):=
  ⟨rfl,n0,.below hb0,rfl,⟨rfl,.inl⟨rfl,rfl⟩⟩,(show bu w p.la L from hL.2).below hb0,fun _=>hap,fun hl b hb=>(by obtain⟨_,_,_,_,e1,e2,_⟩:=hL.2 0 hl;rw [hb]at e1;cases e1;exact e2),fun k hk=>(by cases hk),Nat.le_refl _,fun x hx=>(by cases hx)⟩
 dsimp only [ah.box]at hb0 n0 hI0;unfold PB at gp;dsimp only [ah.box]at gp;go_enter Tryz.func132,Tryz.ntmps132
 go_upto_region 3 with(fail)
 generalize World.alloc _ _=W1 at hb0 gp n0 hI0 ⊢;obtain⟨p0,p1,p2,p3,p4,p5,p6,p7,p8,p9,je,iX⟩:=PB.cell gp;replace hln:=hide hln;go_wp2_with fail
 clear p0 p1 p2 p3 p4 p5 p6 p7 p8 p9 je iX n0;go_loopw [8,9,16](fun ev lv i wr=>∃(k:Nat)(z:List Rt×Bool×List(Int×Int))(st:St)(g':bA),k≤p.ln∧i=.int .i64 k∧ev=.bool z.2.1∧Hid(z=(L.take k).foldl(St.FU fr)(s.A,false,[]))∧Il N B g s TL p.la L w k z.1 z.2.2 st g' lv wr)(fun _ _ i _=>p.ln - (intOf i).toNat)
 case atStart=>exact⟨0,(s.A,false,[]),s,g,Nat.zero_le _,rfl,rfl,rfl,hI0⟩
 case round=>
  clear hI0;obtain⟨k,z,st,g',hk,rfl,rfl,hz,hI⟩:=hrel;by_cases hlt:k<p.ln
  ·have hkL:k<L.length:=by rw [hln.out];exact hlt
   generalize p.la=la at hI ⊢;obtain⟨lb,lo,d,q,rfl,hlb,hds,hd0,hd1,hq0,hq1,hcd,hcq⟩:=hI.lst k hkL;have hb1:Below wr.heap.size wr(wr.alloc(.cells #[.int .u32 d,.int .u32 q]237)):=(Below.refl _ _).alloc(Nat.le_refl _)_;have hI1:=hI.later hb1;have lC:=heap_alloc_new wr(.cells #[.int .u32 d,.int .u32 q]237);have jS:=hI.nd.new(k:=wr.heap.size)(Nat.le_refl _);replace hds:=hide hds;replace hkL:=hide hkL;replace hI:=hide hI;go_wp2_with fail
   generalize World.alloc _ _=W1 at hb1 hI1 lC ⊢;generalize lm:wr.heap.size=C at lC jS ⊢;replace lm:=hide lm;obtain⟨us,hus⟩:∃b,wK st.A d=b:=⟨_,rfl⟩;obtain⟨bl,hbl⟩:∃b,l9 z.1 fr d=b:=⟨_,rfl⟩;have hd:bg d:=⟨hd0,by omega⟩;have hq:bg q:=⟨hq0,by omega⟩;have hS:LB N g'.x.T C d q W1 W1.drew:=LB.of hI1.nd lC(Below.refl _ _).drew;have hU:Hid(∀W5,Below W1.heap.size W1 W5→Calls Tryz.prog 167 #[.pointer(some⟨g'.x.T,0,none⟩),.int .u32 d]W5 fun e w'=>e=.returned(.bool us)∧w'=W5):=fun W5 h5=>by rw [←hus];exact abr(hI1.nd.later h5)d hd
   have hus:=hide hus;have hI2:=hI1.later((Below.refl _ _).drew:Below W1.heap.size W1 W1.drew);have hC2:W1.drew.heap[C]?=some(Rs d q):=lC;clear hcd hcq;go_region_held3(LB N g'.x.T C d q W1)(first|with_reducible exact hS|with_reducible assumption)((go_at_call 167;refine(hU.out _(And.right(by assumption))).mono ?_;rintro e w2⟨rfl,rfl⟩))
   rename_i iB;clear iB hS hU hI1 lC hb1;generalize World.drew _=W2 at hI2 hC2 ⊢;have ado:¬Ft N g' st C:=jS;have hS2:LHc N g'.x.T C d q W2.drew:=(LB.of hI2.nd hC2(Below.refl _ _).drew).1;have hW:Hid(Calls Tryz.prog 168 #[.pointer(some⟨g'.x.T,0,none⟩),.int .u32 fr,.agg #[.int .u32 d,.int .u32 q]]W2.drew fun r w'=>r=.returned(.bool bl)∧(∃st2 g2,Il N B g s TL(some⟨lb,lo,none⟩)L w k(gm z.1 fr d q)z.2.2 st2 g2 u9 w')∧w'.heap[C]?=some(Rs d q)∧LHc N g'.x.T C d q w'):=by
    rw [←hbl];refine((hI2.later(Below.refl _ _).drew).mi fr d q hd hq).mono ?_;rintro r w'⟨rfl,⟨st2,g2,h1⟩,h2⟩;have h6:=(h2.block C(aD hC2)ado).trans hC2;refine⟨rfl,⟨st2,g2,h1⟩,h6,?_⟩;have h7:=h1.nd.nn.cr.nd.cell.2.2.2.2.1;rw [h1.tt.out,←hI2.tt.out]at h7;exact⟨h7,cell_of_row w' C 0 _ _ _ h6,cell_of_row w' C 1 _ _ _ h6⟩
   have hwk:wrap64((k:Int)+1)=(k:Int)+1:=by unfold wrap64;omega
   have hzn:Hid((L.take(k+1)).foldl(St.FU fr)(s.A,false,[])=St.FU fr z(d,q)):=by
    show _=_;have hkl:=hkL.out;rw [List.take_add_one,hds.out,List.foldl_append,hz.out];rfl
   have hasc:Asc z.1:=by
    have:=hI2.nd.nn.cr.tb.wC;rw [←hI2.hst.out]at this;exact this
   have hA:Hid(st.A=z.1):=by
    show _=_;rw [←hI2.hst.out]
   have zz:Hid(p.ln - (intOf(.int .i64((k:Int)+1))).toNat<p.ln - (intOf(.int .i64(k:Int))).toNat):=BR hlt;have hn1:k+1≤p.ln:=hlt;clear hz hk hlt hds hkL hI hI2 hC2 ado jS hlb;go_wp2_with fail
   cases bl
   ·rw [Rv hasc hbl]at hW;have hzz:Hid(St.FU fr z(d,q)=z):=by
     show _=_;unfold St.FU;rw [hbl];rfl
    rw [hzz.out]at hzn;replace hbl:=hide hbl;go_region_held3(LHc N g'.x.T C d q)(first|with_reducible exact hS2|with_reducible assumption)((go_at_call 168;refine hW.out.mono ?_;rintro r w3⟨rfl,⟨st2,g2,h3⟩,h4,h5⟩))
    rename_i iB;clear iB h5 h4 hS2 hW;have hfin:=h3.up1;replace hfin:=hide hfin;clear h3;go_wp2
    exact⟨⟨k+1,z,st2,g2,hn1,by go_num,rfl,hide hzn.out.symm,hfin.out⟩,zz.out⟩
   ·have hzz:Hid(St.FU fr z(d,q)=(gm z.1 fr d q,true,if us then z.2.2++ [(d,dY(gm z.1 fr d q)d)]else z.2.2)):=by
     show _=_;have h1:wK z.1 d=us:=by
      have:=hus.out;rw [hA.out]at this;exact this
     rw [←h1];unfold St.FU;rw [hbl];rfl
    rw [hzz.out]at hzn;replace hbl:=hide hbl;clear hzz;go_region_held3(LHc N g'.x.T C d q)(first|with_reducible exact hS2|with_reducible assumption)((go_at_call 168;refine hW.out.mono ?_;rintro r w3⟨rfl,⟨st2,g2,h3⟩,h4,h5⟩))
    rename_i iB;clear iB hS2 hW;cases us
    ·clear h5 h4;have hfin:=h3.up1;replace hfin:=hide hfin;clear h3;go_wp2
     exact⟨⟨k+1,_,st2,g2,hn1,by go_num,rfl,hide hzn.out.symm,hfin.out⟩,zz.out⟩
    ·obtain⟨c0,c1⟩:=h5.2;have hNL:=BQ N g2.x h3.nd.nn.cr d hd;rw [show st2.A=gm z.1 fr d q by rw [←h3.hst.out]]at hNL;obtain⟨nq,hnq⟩:∃v,dY(gm z.1 fr d q)d=v:=⟨_,rfl⟩;rw [hnq]at hNL;rw [if_pos rfl,hnq]at hzn;have aew:bg nq:=by
      rw [←hnq];unfold dY;cases hl:aJ(gm z.1 fr d q)d with
      |none=>exact⟨by simp,by simp⟩
      |some y=>
       have h1:=h3.nd.nn.cr.tb.ok y;rw [show st2.A=gm z.1 fr d q by rw [←h3.hst.out]]at h1;exact(h1(bN hl).1).seq
     replace hnq:=hide hnq;replace hNL:=hide hNL;replace h3:=hide h3;clear h4 h5 c1;go_wp2_with fail
     refine hNL.out.mono ?_;rintro e w4⟨rfl,hb4⟩;have h9:=(h3.out.later hb4).later((Below.refl _ _).alloc(Nat.le_refl _)(.cells #[.int .u32 d,.int .u32 nq]237));have hrw:=hide h9.row;have hk1:Hid(z.2.2.length+1≤maxLen):=by
      have:=h9.len;unfold maxLen;show _≤_;omega
     have hk2:Hid((z.2.2.length+1)* 8≤140737488355328):=by
      have:=h9.len;show _≤_;omega
     have hbs:Hid(w.heap.size≤(w4.alloc(.cells #[.int .u32 d,.int .u32 nq]237)).heap.size):=h9.up.size;have hfin:Hid(∀v7 w7,w7.ownsRow w.heap.size 237 2 v7(z.2.2.length+1)(Bl z.2.2++Bl [(d,nq)])→(w4.alloc(.cells #[.int .u32 d,.int .u32 nq]237)).grownBy w7 u9.ownBlock→(v7.ownBlock=u9.ownBlock∨v7.ownBlock=some(w4.alloc(.cells #[.int .u32 d,.int .u32 nq]237)).heap.size)→Il N B g s TL(some⟨lb,lo,none⟩)L w(k+1)(gm z.1 fr d q)(z.2.2++ [(d,nq)])st2 g2 v7 w7):=fun v7 w7 a1 a2 a3=>h9.append d nq a1 a2 a3 hd aew;clear h3 hNL hb4 c0 h9;go_wp2_with(at_builtin;refine wpList_append_own_at _ rfl _ _ 71 rfl w.heap.size 237 i0(.agg #[.int .u32 0,.int .u32 0])2 8 Tryz.underlying71 hi hz0 hz1 hz2 rfl(by decide)u9 z.2.2.length(Bl z.2.2)rfl hrw.out⟨w4.heap.size,0,none⟩1 1(Bl [(d,nq)])rfl rfl(G5 w4 d nq)(Q6 d nq)hk1.out hk2.out hbs.out ?_)
     intro v7 w7 gP eu _ hv7;have pg:=hide(hfin.out v7 w7 gP eu(by rw [World.size_alloc];exact hv7));clear gP eu hv7 hfin hrw hbs;go_wp2
     exact⟨⟨k+1,_,st2,g2,hn1,by go_num,rfl,hide hzn.out.symm,pg.out⟩,zz.out⟩
  ·obtain rfl:k=p.ln:=by omega
   have hzL:Hid(L.foldl(St.FU fr)(s.A,false,[])=z):=by
    show _=_;rw [hz.out,←hln.out,List.take_length]
   have hst:=hI.hst;obtain⟨zA,ze,zt⟩:=z;clear hz hk hlt;have hse:Hid(s2=(if ze then st else st.drop 7).mi 0 zt):=by
    show _=_;rw [←dA.out];unfold St.gD;rw [hzL.out];dsimp only;rw [hst.out]
   have Gr:Hid(st.aH.length≤1000000):=by
    show _≤_;rw [←hst.out];exact hfl
   have aeP:Hid(st.aN.length≤1000000):=by
    show _≤_;rw [←hst.out];exact hdl
   have hLo:Hid(∀st' g2 W,Nd N B g2 st' TL W→W.ownsRow w.heap.size 237 2 u9 zt.length(Bl zt)→st'.aH.length≤1000000→Calls Tryz.prog 137 #[.pointer(some⟨B,0,none⟩),.int .u32 0,u9]W fun e w'=>e=.returned(.tuple #[])∧lg N B g2 st'(st'.mi 0 zt)TL W w'):=by
    intro st' g2 W h1 h2 h3;obtain⟨ao,c,h4,h5⟩:=Br h2 hI.ok;have h6:zt.length≤65536:=Nat.le_trans hI.len Og;rw [h4];exact Uq h1 0 ao c zt h6 h5 h3
   have hu:=hide hI.up;have ht:=hide hI.tt.out;have hn:=hide hI.nd;have hr:=hide hI.row;have hrn:=hide hI.nr;clear hI hst hzL dA;cases ze
   ·replace hse:Hid(s2=(st.drop 7).mi 0 zt):=hse;go_wp2_with fail
    refine(iU hn.out 7 aeP.out).mono ?_;rintro e w4⟨rfl,g4,n4,u4,t4⟩;have hr4:=(u4.row hr.out hrn.out yf).1;have hL4:=hide(hLo.out _ g4 w4 n4 hr4 Gr.out);have UV:=hide(hu.out.trans u4);have ht4:=hide(t4.trans ht.out);clear hr4 u4 t4 n4;go_wp2_with fail
    refine hL4.out.mono ?_;rintro e w5⟨rfl,g5,n5,u5,t5⟩;have hfin:Hid(lg N B g s s2 TL w w5):=by
     show lg N B g s s2 TL w w5;rw [hse.out];exact⟨g5,n5,UV.out.trans u5,t5.trans ht4.out⟩
    clear n5 u5 t5;go_wp2
    go_returns
    exact⟨rfl,hfin.out⟩
   ·replace hse:Hid(s2=st.mi 0 zt):=hse;have hL4:=hide(hLo.out _ g' wr hn.out hr.out Gr.out);go_wp2_with fail
    refine hL4.out.mono ?_;rintro e w5⟨rfl,g5,n5,u5,t5⟩;have hfin:Hid(lg N B g s s2 TL w w5):=by
     show lg N B g s s2 TL w w5;rw [hse.out];exact⟨g5,n5,hu.out.trans u5,t5.trans ht.out⟩
    clear n5 u5 t5;go_wp2
    go_returns
    exact⟨rfl,hfin.out⟩
@[reducible] def HN (N B T : Nat) (me ld now : Int) (W : World) : Prop := W.cell? ⟨N, 2, none⟩ = some (.int .u32 me) ∧ W.cell? ⟨N, 6, none⟩ = some (.int .u32 ld) ∧ W.cell? ⟨N, 7, none⟩ = some (.pointer (some ⟨T, 0, none⟩)) ∧ W.cell? ⟨B, 0, none⟩ = some (.int .u64 now)
@[reducible] def HO (N B T : Nat) (me ld now : Int) (W0 W : World) : Prop := HN N B T me ld now W ∧ Below W0.heap.size W0 W
theorem HN.of {N B:Nat} {g:bA} {s:St} {TL:List Hp.Tm} {W:World}(n:Nd N B g s TL W):HN N B g.x.T s.me s.eF s.now W:=by
 have h:=n.nn.cr.nd.more.2.1;rw [n.nn.eq.eF]at h;exact⟨n.cell.1,h,n.cell.2.2.2.1,n.cell.2.2.2.2⟩
theorem HO.mk' {N B:Nat} {g:bA} {s:St} {TL:List Hp.Tm} {W0 W:World}(n:Nd N B g s TL W0)(hb:Below W0.heap.size W0 W):HO N B g.x.T s.me s.eF s.now W0 W:=⟨HN.of(n.later hb),hb⟩
theorem HO.jO {N B T:Nat} {me ld now:Int} {W0 W:World} {o:Obj}(hk:Hid(∀W5,Below W0.heap.size W0 W5→HO N B T me ld now W0 W5))(h:Below W0.heap.size W0 W):HO N B T me ld now W0(W.alloc o):=hk.out _(h.alloc h.size _)
theorem HO.d_ {N B T:Nat} {me ld now:Int} {W0:World} {o:Obj}(hk:Hid(∀W5,Below W0.heap.size W0 W5→HO N B T me ld now W0 W5)):HO N B T me ld now W0(W0.alloc o).drew:=hk.out _((Below.refl _ _).alloc(Nat.le_refl _)_).drew
theorem HO.uL {N B T:Nat} {me ld now:Int} {W0 W:World} {v0 v1 v2 v3 v4 v5 v6:Value}(hk:Hid(∀W5,Below W0.heap.size W0 W5→HO N B T me ld now W0 W5))(h:Below W0.heap.size W0 W):HO N B T me ld now W0(((((((W.setCell⟨W0.heap.size,0,none⟩v0).setCell⟨W0.heap.size,1,none⟩v1).setCell⟨W0.heap.size,2,none⟩v2).setCell⟨W0.heap.size,3,none⟩v3).setCell⟨W0.heap.size,4,none⟩v4).setCell⟨W0.heap.size,5,none⟩v5).setCell⟨W0.heap.size,6,none⟩v6):=hk.out _(pF h(Nat.le_refl _)_ _ _ _ _ _ _)
theorem HN.next {N B:Nat} {g g':bA} {s s':St} {dO:List Hp.Tm} {W:World}(n:Nd N B g' s' dO W)(t:g'.x.T=g.x.T)(h1:s'.me=s.me)(h2:s'.eF=s.eF)(h3:s'.now=s.now):HN N B g.x.T s.me s.eF s.now W:=by
 have:=HN.of n;rw [t,h1,h2,h3]at this;exact this
@[reducible] def HNE (N B T E : Nat) (me ld now nx : Int) (W : World) : Prop := HN N B T me ld now W ∧ W.cell? ⟨E, 3, none⟩ = some (.int .u32 nx)
theorem XP {i d me:Int} {t:ByteArray}(hi:bg i)(hd:bg d)(hm:bg me)(ht:t.size≤16):(St.Ed i d me t).Wf:=by
 unfold bg at hi hd hm;constructor<;>(dsimp only [St.Ed];omega)
def Hf(N B:Nat)(g:bA)(s s':St)(dO:List Hp.Tm)(w w':World):Prop:=∃g',Nd N B g' s' dO w'∧Up B(Ft N g s)(Ft N g' s')w w'∧Hid(g'.x.T=g.x.T)∧Hid(g'.h=g.h∧g'.u=g.u)
theorem Hf.refl {N B:Nat} {g:bA} {s:St} {TL:List Hp.Tm} {w w':World}(n:Nd N B g s TL w)(hb:Below w.heap.size w w'):Hf N B g s s TL w w':=⟨g,n.later hb,.below hb,rfl,⟨rfl,rfl⟩⟩
theorem Mw {N B:Nat} {g:bA} {s:St} {TL:List Hp.Tm} {w:World}(n:Nd N B g s TL w)(t:Int)(p:ah)(hp:p.Wf)(L:List(Int×Int))(hL:eY w p L)(hd:s.aH.length≤1000000):
  Calls Tryz.prog 80 #[.pointer(some⟨B,0,none⟩),.int .u32 t,p.val]w fun e w'=>e=.returned(.tuple #[])∧Hf N B g s(s.send t p L)TL w w':=by
 refine(yL B(B+1)g.a s.a_ s.aH s.aR s.aN t p hp L w n.ac n.base hd hL).mono ?_;rintro e w'⟨v7,rfl,h1,h2⟩;obtain⟨p,q⟩:=n.act(s':=s.send t p L)h1 h2(sQ s t p L)n.now n.aZ;exact⟨rfl,_,p,q,rfl,rfl,rfl⟩
theorem abt {N B:Nat} {g:bA} {s:St} {TL:List Hp.Tm} {w:World}(n:Nd N B g s TL w)(d e:Int)(hd:bg d)(he:Af e):
  Calls Tryz.prog 81 #[.pointer(some⟨g.x.T,0,none⟩),.int .u32 d,.int .u64 e]w fun r w'=>r=.returned(.tuple #[])∧Hf N B g s {s with A:=iy s.A d e}TL w w':=by
 refine(Mk s.me g.x.T _ s.A d e hd he w n.tab).mono ?_;rintro r w'⟨rfl,h1,h2⟩;obtain⟨M',Tw,vY,p,q⟩:=n.table(h1.ext _ _)h2;exact⟨rfl,_,p,q,rfl,rfl,rfl⟩
theorem Ao {N B:Nat} {g:bA} {s:St} {TL:List Hp.Tm} {w:World}(n:Nd N B g s TL w)(d:Int)(hd:bg d)(t:ByteArray)(ht:t.size≤16)(hme:bg s.me)(fq:0≤s.now∧s.now≤4611686018427387904)(hfl:s.aH.length≤1000000):
  Calls Tryz.prog 53 #[.pointer(some⟨N,0,none⟩),.pointer(some⟨B,0,none⟩),.int .u32 d,.string t]w fun e w'=>e=.returned(.bool(bF s.A d s.now).2)∧Hf N B g s(s.aX d t)TL w w':=by
 obtain⟨⟨y,fd⟩,hy⟩:∃r,bF s.A d s.now=r:=⟨_,rfl⟩;obtain⟨s2,dA⟩:∃s2,s.aX d t=s2:=⟨_,rfl⟩;rw [dA,hy];unfold St.aX at dA;rw [hy]at dA;dsimp only at dA ⊢;have hs2:=hide dA;have HF:=hide(mY n d s.now hd hy);clear dA;replace hy:=hide hy;go_enter Tryz.func53,Tryz.ntmps53
 go_upto_region 1 with(fail)
 go_cut [9,10]from 11 to 24(nH y fd w)
 case first=>
  have hS:HO N B g.x.T s.me s.eF s.now w w.drew:=HO.mk' n(Below.refl _ _).drew;have hkB:=hide fun W5 h5=>HO.mk'(W:=W5)n h5;go_region_held3(HO N B g.x.T s.me s.eF s.now w)(first|with_reducible exact hS|with_reducible assumption|(with_reducible apply HO.uL hkB;assumption)|(with_reducible apply HO.jO hkB;assumption)|(with_reducible apply HO.d_ hkB)|(with_reducible apply hkB.out;assumption))((go_at_call 79;refine(HF.out _(And.right(by assumption))).mono ?_;rintro e w2⟨ao,c,rfl,hb2,hpr⟩;try((with_reducible have hD:=hpr bW(.slice none 0 0)(kP w));obtain⟨d0,d1,d2,d3,d4,d5,d6⟩:=hD.cell;have q0:=hD.free 0;have q1:=hD.free 1;have q2:=hD.free 2;have q3:=hD.free 3;have q4:=hD.free 4;have q5:=hD.free 5;have q6:=hD.free 6;have hD':Hid(dP w.heap.size bW(.slice none 0 0)w2):=hD;clear hD);clear hpr))
  all_goals
   go_wp2_with fail
   go_meet
   first|with_reducible exact gQ hb2|with_reducible exact jB hb2 hD'
 case rest=>
  obtain⟨E,ao,c,rfl,rfl,hE,hEl,hb2⟩:=hcut;have Xo:¬Ft N g s E:=n.new hEl;have qF:fd=true→bg y.next:=fun h=>by
   have:=n_ n.nn.cr.tb.ok d s.now;rw [hy.out]at this;rcases this with h1|h1
   ·exact h1.next
   ·rw [h]at h1;cases h1
  have n2:=n.later hb2;clear HF;cases fd
  ·have hs3:Hid(s=s2):=hs2;have hfin:Hid(Hf N B g s s2 TL w wc):=by
    show Hf N B g s s2 TL w wc;rw [←hs3.out];exact Hf.refl n hb2
   clear hs2 hE n2;go_wp2_with fail
   go_returns
   exact⟨rfl,hfin.out⟩
  ·have hyn:=qF rfl;rw [if_pos rfl]at hs2;obtain⟨c2,c6,c7,c0⟩:=HN.of n2;have f6:=n2.nn.cr.nd.free 6;go_upto_region 5 with(fail)
   have acA:bg((s.eF+1)%4294967296):=by unfold bg;omega
   generalize(s.eF+1)%4294967296=nl at hs2 acA ⊢;have hg1:wc.grownBy(wc.setCell⟨N,6,none⟩(.int .u32 nl))(some N):=aa(aC _(some N))6 _;obtain⟨e1,e2,e3,e4,e5,e6,e7,e8,e9⟩:=n2.nn.eq;obtain⟨n3,u3⟩:=n2.cells(s':={s with eF:=nl})(n2.nn.cr.nd.VT nl)(Fx.grown hg1 fun k e=>by cases e;rfl)⟨e1,e2,e3,e4,rfl,e6,e7,e8,e9⟩⟨rfl,rfl,rfl,rfl,rfl,rfl⟩⟨rfl,rfl,rfl,rfl,rfl,rfl,rfl,rfl,rfl⟩⟨rfl,rfl,rfl,rfl,rfl⟩;obtain⟨hE3,Ti⟩:=u3.keepR hE Xo;have PG:=(Up.below(B:=B)(F:=Ft N g s)hb2).trans u3;have t3:({g with x:={g.x with eF:=nl}}:bA).x.T=g.x.T:=rfl;have v3:({g with x:={g.x with eF:=nl}}:bA).h=g.h∧({g with x:={g.x with eF:=nl}}:bA).u=g.u:=⟨rfl,rfl⟩;generalize({g with x:={g.x with eF:=nl}}:bA)=g3 at n3 PG Ti t3 v3;replace t3:=hide t3;replace v3:=hide v3;obtain⟨s3,hs3⟩:∃z,({s with eF:=nl}:St)=z:=⟨_,rfl⟩;have h3:Hid(s3.now=s.now∧s3.me=s.me∧s3.eF=nl∧s3.aH=s.aH∧ {s3.send y.next(St.Ed nl d s3.me t) []with A:=iy(s3.send y.next(St.Ed nl d s3.me t) []).A d((s3.send y.next(St.Ed nl d s3.me t) []).now+3000)}=s2):=by
    show _∧_;rw [←hs3];exact⟨rfl,rfl,rfl,rfl,hs2.out⟩
   rw [hs3]at n3 PG Ti;have Sq:bg s3.me:=by rw [h3.out.2.1];exact hme
   have w_:0≤s3.now∧s3.now≤4611686018427387904:=by rw [h3.out.1];exact fq
   have hS0:=HN.of n3.drew;rw [h3.out.2.2.1]at hS0;clear hs3 u3 n2 hE hb2 hs2 c2 c6 c7 c0 f6 e1 e2 e3 e4 e5 e6 e7 e8 e9 hg1 qF Xo;generalize World.setCell _ _ _=W3 at n3 PG hE3 hS0 ⊢;have HS:=hide(Mw n3.drew y.next(St.Ed nl d s3.me t)(XP acA hd Sq ht) []⟨rfl,fun j hj=>by simp at hj⟩(by rw [h3.out.2.2.2.1];exact hfl));obtain⟨s4,hs4⟩:∃z,s3.send y.next(St.Ed nl d s3.me t) []=z:=⟨_,rfl⟩;have h4:Hid(s4.now=s3.now∧s4.me=s3.me∧s4.eF=nl∧ {s4 with A:=iy s4.A d(s4.now+3000)}=s2):=by
    show _∧_;have:=h3.out.2.2.2.2;rw [hs4]at this;refine⟨?_,?_,?_,this⟩
    ·rw [←hs4];rfl
    ·rw [←hs4];rfl
    ·rw [←hs4];exact h3.out.2.2.1
   rw [hs4]at HS;clear hs4;dsimp only [ah.val,St.Ed]at HS;have hS:HNE N B g3.x.T E s3.me nl s3.now y.next W3.drew:=⟨hS0,hE3.cell.2.2.2.1⟩;have Jv:dP E y(.slice ao y.bB.length c)W3.drew:=hE3;clear hS0;go_region_held3(HNE N B g3.x.T E s3.me nl s3.now y.next)(first|with_reducible exact hS|with_reducible assumption)((go_at_call 80;refine HS.out.mono ?_;rintro e w4⟨rfl,hN⟩;obtain⟨g4,n4,u4,t4,v4⟩:=hN;obtain⟨U4,afe⟩:=u4.keepR Jv Ti;have hk4:HNE N B g3.x.T E s3.me nl s3.now y.next w4:=⟨by have h9:=HN.next(s:=s4)n4 t4.out rfl rfl rfl;rw [h4.out.1,h4.out.2.1,h4.out.2.2.1]at h9;exact h9,U4.cell.2.2.2.1⟩))
   rename_i iB;clear iB hk4 hS;have pI:=(PG.trans(.below(Below.refl _ _).drew)).trans u4;have hn4:0≤s4.now∧s4.now≤4611686018427387904:=by rw [h4.out.1];exact w_
   have HV:Hid(∀t,t=s4.now+3000→Calls Tryz.prog 81 #[.pointer(some⟨g4.x.T,0,none⟩),.int .u32 d,.int .u64 t]w4.drew fun r w'=>r=.returned(.tuple #[])∧Hf N B g4 s4 s2 TL w4.drew w'):=by
    rintro _ rfl;have:=abt n4.drew d(s4.now+3000)hd(by unfold Af;omega);rw [h4.out.2.2.2]at this;exact this
   have hsm:Hid(s2.me=s4.me∧s2.eF=s4.eF∧s2.now=s4.now):=by
    show _∧_;rw [←h4.out.2.2.2];exact⟨rfl,rfl,rfl⟩
   have hS:HN N B g4.x.T s4.me s4.eF s4.now w4.drew:=HN.of n4.drew;clear HS h3 n3 u4 hE3 Jv U4 h4 PG;go_wp2_with fail
   go_region_held3(HN N B g4.x.T s4.me s4.eF s4.now)(first|with_reducible exact hS|with_reducible assumption)((go_at_call 81;refine(HV.out _(by first|rfl|exact lY hn4(by decide))).mono ?_;rintro e w9⟨rfl,hN⟩;obtain⟨g9,n9,u9,t9,v9⟩:=hN;have hk9:HN N B g4.x.T s4.me s4.eF s4.now w9:=HN.next n9 t9.out hsm.out.1 hsm.out.2.1 hsm.out.2.2))
   rename_i iB;clear iB hS hk9;have vG:=(pI.trans(.below(Below.refl _ _).drew)).trans u9;have hfin:Hid(Hf N B g s s2 TL w w9):=⟨g9,n9,vG,t9.out.trans(t4.out.trans t3.out),v9.out.1.trans(v4.out.1.trans v3.out.1),v9.out.2.trans(v4.out.2.trans v3.out.2)⟩;clear vG u9 n9 pI n4;go_wp2
   go_returns
   exact⟨rfl,hfin.out⟩
end Go.Proofs.YtakaadcpaeiccabGreat
