import Derived.Test.YtakaadcpaeiccabGreatV12
import Derived.Deep.RegionWith
set_option maxHeartbeats 8000000
set_option maxRecDepth 100000
namespace Go.Proofs.YtakaadcpaeiccabGreat
open Go.RowKit Go.Maps
variable{L tl:List (Int×Int)}{A:List Rt}{B N k n:Nat}{g':bI}{ao:Option Addr}{s st:St}{lv:Value}{W W' w:World}
@[reducible] def RI(d q : Int): Obj := .cells #[.int .u32 d, .int .u32 q] 237
theorem za(c:Array Value):oC (.cells c 237 (0,0)):=⟨λc e=>(by cases e),λc e=>(by cases e),λc e=>(by cases e),λc e=>(by cases e),λc e=>(by cases e)⟩
theorem RL(hA:Asc A){fr d q:Int}(h:mV A fr d=false):gN A fr d q=A:=by
 unfold gN;refine pz hA λy hy=> ?_;unfold mV at h;rw[hy]at h;simp only[Option.any_some]at h;unfold dD;rw[h];rfl
theorem Uy{g:bI}{TL:List Hp.Tm}(n:Nd N B g s TL w)(fr d q:Int)(hd:a_ d)(hq:a_ q):
  Calls Tryz.prog 168 #[.pointer (some ⟨g.x.T,0,none⟩),.int .u32 fr,.agg #[.int .u32 d,.int .u32 q]] w λr w'=>r=.returned (.bool (mV s.A fr d))∧lT N B g s {s with A:=gN s.A fr d q} TL w w'∧Fx (Ft N g s) w w':=by
 refine(UK s.me g.x.T _ s.A fr d q hd hq w n.tab).mono ?_;rintro r w' ⟨rfl,h1,h2⟩;exact⟨rfl,n.wI (h1.ext _ _) h2,h2.mono λk hk=> .inl (.inr (.inr hk))⟩
def FB(N:Nat)(g:bI)(s:St)(ao:Option Addr):Prop:=∀b,ao=some b->¬Ft N g s b.block
theorem bF.fx{S:Nat->Prop}(h:bF W ao L)(hf:Fx S W W')(ha:0<L.length->∀b,ao=some b->¬S b.block):bF W' ao L:=by
 intro j hj;obtain⟨lb,lo,d,s,h1,h2,h3,h4,h5,h6,h7,h8,h9⟩:=h j hj;have hk:=hf.block lb h2 (ha (Nat.lt_of_le_of_lt (dm _) hj) _ h1);refine⟨lb,lo,d,s,h1,fZ h2 hf.size,h3,h4,h5,h6,h7,?_,?_⟩
 ·unfold World.cell? at h8 ⊢;rw[show W'.heap[(⟨lb,lo+j * 2,none⟩:Addr).block]?=W.heap[lb]? from hk];exact h8
 ·unfold World.cell? at h9 ⊢;rw[show W'.heap[(⟨lb,lo+j * 2+1,none⟩:Addr).block]?=W.heap[lb]? from hk];exact h9
structure Ji(N B:Nat)(g:bI)(s:St)(TL:List Hp.Tm)(ao:Option Addr)(L:List (Int×Int))(w:World)(k:Nat)(A:List Rt)(tl:List (Int×Int))(st:St)(g':bI)(lv:Value)(W:World):Prop where
 hst:Hid (({s with A:=A}:St)=st)
 nd:Nd N B g' st TL W
 up:Up B (Ft N g s) (Ft N g' st) w W
 tt:Hid (g'.x.T=g.x.T)
 row:W.ownsRow w.heap.size 237 2 lv tl.length (Cr tl)
 lst:bF W ao L
 nf:0<L.length->FB N g' st ao
 old:0<L.length->∀b,ao=some b->b.block<w.heap.size
 nr:∀k',lv.ownBlock=some k'->¬Ft N g' st k'
 len:tl.length<=k
 ok:∀x∈tl,0<=x.1∧x.1<4294967296∧0<=x.2∧x.2<4294967296
theorem Up.row{base e size:Nat}{F F':Nat->Prop}{v:Value}{cs:List Value}{a b:World}(u:Up B F F' a b)(h:a.ownsRow base e size v n cs)(hn:∀k,v.ownBlock=some k->¬F k)(hA:∀c:Array Value,oC (.cells c e (0,0))):b.ownsRow base e size v n cs∧∀k,v.ownBlock=some k->¬F' k:=
 ⟨bQ h λk hk=>by
  obtain⟨c,hc⟩:=aS h hk;rw[hc];exact u.block k _ hc (hn k hk) (.inl (hA c)),λk hk=>by
  obtain⟨c,hc⟩:=aS h hk;exact(u.keep hc (hn k hk) (hA c)).2⟩
theorem Ji.later{g:bI}{TL:List Hp.Tm}(h:Ji N B g s TL ao L w k A tl st g' lv W)(hb:Below W.heap.size W W'):Ji N B g s TL ao L w k A tl st g' lv W':=
 ⟨h.hst,h.nd.later hb,h.up.trans (.below hb),h.tt,aN h.row hb,h.lst.below hb,h.nf,h.old,h.nr,h.len,h.ok⟩
theorem Ji.up1{g:bI}{TL:List Hp.Tm}(h:Ji N B g s TL ao L w k A tl st g' lv W):Ji N B g s TL ao L w (k+1) A tl st g' lv W:=
 ⟨h.hst,h.nd,h.up,h.tt,h.row,h.lst,h.nf,h.old,h.nr,Nat.le_succ_of_le h.len,h.ok⟩
theorem Ji.lose{g:bI}{TL:List Hp.Tm}(h:Ji N B g s TL ao L w k A tl st g' lv W)(fr d q:Int)(hd:a_ d)(hq:a_ q):
  Calls Tryz.prog 168 #[.pointer (some ⟨g'.x.T,0,none⟩),.int .u32 fr,.agg #[.int .u32 d,.int .u32 q]] W λr w'=>r=.returned (.bool (mV A fr d))∧(∃st2 g2,Ji N B g s TL ao L w k (gN A fr d q) tl st2 g2 lv w')∧Fx (Ft N g' st) W w':=by
 have hA:st.A=A:=by rw[<-h.hst.out]
 refine(Uy h.nd fr d q hd hq).mono ?_;rintro r w' ⟨rfl,⟨g2,n2,u2,t2⟩,hf⟩;rw[hA]at n2 u2 ⊢;refine⟨rfl,⟨_,g2,?_,n2,h.up.trans u2,t2.trans h.tt.out,?_,h.lst.fx hf h.nf,?_,h.old,?_,h.len,h.ok⟩,hf⟩
 ·show _=_;rw[<-h.hst.out]
 ·exact(u2.row h.row h.nr za).1
 ·intro hl b hb hk;rcases u2.sub _ hk with h1|⟨h1,_⟩
  ·exact h.nf hl b hb h1
  ·have h2:=h.old hl b hb;have h3:=h.up.size;omega
 ·exact(u2.row h.row h.nr za).2
theorem Ji.append{g:bI}{TL:List Hp.Tm}(h:Ji N B g s TL ao L w k A tl st g' lv W)(d q:Int){v7:Value}{w7:World}(ho:w7.ownsRow w.heap.size 237 2 v7 (tl.length+1) (Cr tl++Cr [(d,q)]))(hg:W.grownBy w7 lv.ownBlock)(hv:v7.ownBlock=lv.ownBlock∨v7.ownBlock=some W.heap.size)(hd:a_ d)(hq:a_ q):Ji N B g s TL ao L w (k+1) A (tl++ [(d,q)]) st g' v7 w7:=by
 have hge:∀j,lv.ownBlock=some j->w.heap.size<=j:=λj hj=>(h.row.lt j hj).1;have hs:=h.up.size;refine⟨h.hst,⟨h.nd.nn.kept λj hj=>hg.block j (h.nd.nn.lt hj) λe=>h.nr j e.symm hj,h.nd.ac.kept λj hj=>hg.block j (h.nd.ac.lt hj) λe=> ?_,h.nd.now,h.nd.bB⟩,⟨λj hj=> ?_,hg.os.trans h.up.os,hg.tape.trans h.up.tape,hg.output.trans h.up.output,dN hs hg.size,λj o hj hn hA=> ?_⟩,h.tt,?_,?_,h.nf,h.old,?_,?_,?_⟩
 ·obtain⟨c,hc⟩:=aS h.row e.symm;exact h.nd.ac.not hc (za c) hj
 ·rcases h.up.sub j hj with h1|⟨h1,h2⟩
  ·exact .inl h1
  ·exact .inr ⟨h1,fZ h2 hg.size⟩
 ·have h1:=h.up.block j o hj hn hA;exact(hg.block j (aG h1) λe=>by have:=hge j e.symm;have:=aG hj;omega).trans h1
 ·rw[Bu,bU];exact ho
 ·exact h.lst.fx (Fx.grown (S:=λj=>w.heap.size<=j) hg hge) λhl b hb=>by have:=h.old hl b hb;omega
 ·intro j hj;rcases hv with h1|h1
  ·exact h.nr j (h1.symm.trans hj)
  ·rw[h1]at hj;cases hj;exact h.nd.new (aB _)
 ·have:=h.len;simp;omega
 ·intro x hx;rcases fu.1 hx with h1|h1
  ·exact h.ok x h1
  ·cases fM.1 h1;unfold a_ at hd hq;exact⟨hd.1,by have:=hd.2;omega,hq.1,by have:=hq.2;omega⟩
theorem Cy{base:Nat}(h:W.ownsRow base 237 2 lv tl.length (Cr tl))(ok:∀x∈tl,0<=x.1∧x.1<4294967296∧0<=x.2∧x.2<4294967296):∃ao c,lv=.slice ao tl.length c∧bF W ao tl:=by
 rcases h.2 with⟨rfl,h0⟩|⟨g,cap,cur,rfl,_⟩
 ·exact⟨none,0,by rw[h0],λj hj=>by omega⟩
 ·exact⟨some ⟨g,0,none⟩,cap,rfl,bF.Yu h ok⟩
@[reducible] def LB(N T C : Nat)(d q : Int)(W0 W : World): Prop := (W.cell? ⟨N, 7, none⟩ = some (.pointer (some ⟨T, 0, none⟩)) ∧ W.cell? ⟨C, 0, none⟩ = some (.int .u32 d) ∧ W.cell? ⟨C, 1, none⟩ = some (.int .u32 q)) ∧ Below W0.heap.size W0 W
theorem LB.of{C:Nat}{g:bI}{TL:List Hp.Tm}{d q:Int}{W0:World}(n:Nd N B g s TL W0)(hC:W0.heap[C]?=some (RI d q))(hb:Below W0.heap.size W0 W):LB N g.x.T C d q W0 W:=by
 have h:=(hb.block C (aG hC)).trans hC;exact⟨⟨(n.later hb).nn.cr.nd.cell.2.2.2.2.1,aJ W C 0 _ _ _ h,aJ W C 1 _ _ _ h⟩,hb⟩
@[reducible] def LHc(N T C : Nat)(d q : Int)(W : World): Prop := W.cell? ⟨N, 7, none⟩ = some (.pointer (some ⟨T, 0, none⟩)) ∧ W.cell? ⟨C, 0, none⟩ = some (.int .u32 d) ∧ W.cell? ⟨C, 1, none⟩ = some (.int .u32 q)
theorem CZ(h:k<n):n - (intOf (.int .i64 ((k:Int)+1))).toNat<n - (intOf (.int .i64 (k:Int))).toNat:=by
 show n - ((k:Int)+1).toNat<n - (k:Int).toNat;omega
theorem KG{g:bI}{TL:List Hp.Tm}(n:Nd N B g s TL w)(fr:Int)(_hfrm:a_ fr)(p:aD)(hp:p.Wf)(L:List (Int×Int))(hL:fH w p L)(hap:FB N g s p.la)(hfl:s.aF.length<=1000000)(hdl:s.aP.length<=1000000):
  Calls Tryz.prog 132 #[.pointer (some ⟨N,0,none⟩),.pointer (some ⟨B,0,none⟩),.int .u32 fr,p.val] w λe w'=>e=.returned (.tuple #[])∧lT N B g s (s.iL fr L) TL w w':=by
 obtain⟨i0,hi,hz0,hz1,hz2⟩:=info_parts Ma;have hb0:Below w.heap.size w (w.alloc p.box):=bC;have gT:=PB.new p w;have n0:=n.later hb0;obtain⟨s2,dB⟩:∃s2,s.iL fr L=s2:=⟨_,rfl⟩;rw[dB];replace dB:=hide dB;have hln:L.length=p.ln:=hL.1;have ad9:=hp.ln1;have hI0:Ji N B g s TL p.la L w 0 s.A [] s g (.slice none 0 0) (w.alloc p.box):=
  ⟨rfl,n0,.below hb0,rfl,⟨rfl,.inl ⟨rfl,rfl⟩⟩,(show bF w p.la L from hL.2).below hb0,λ_=>hap,λhl b hb=>(by obtain⟨_,_,_,_,e1,e2,_⟩:=hL.2 0 hl;rw[hb]at e1;cases e1;exact e2),λk hk=>(by cases hk),aB _,λx hx=>(by cases hx)⟩
 dsimp only[aD.box]at hb0 n0 hI0;unfold PB at gT;dsimp only[aD.box]at gT;go_enter Tryz.func132,Tryz.ntmps132;go_upto_region 3 with(fail);generalize World.alloc _ _=W1 at hb0 gT n0 hI0 ⊢;obtain⟨p0,p1,p2,p3,p4,p5,p6,p7,p8,p9,iK,je⟩:=PB.cell gT;replace hln:=hide hln;go_wp2_with fail;clear p0 p1 p2 p3 p4 p5 p6 p7 p8 p9 iK je n0;go_loopw [8,9,16] (λev lv i wr=>∃(k:Nat) (z:List Rt×Bool×List (Int×Int)) (st:St) (g':bI),k<=p.ln∧i=.int .i64 k∧ev=.bool z.2.1∧Hid (z=(L.take k).foldl (St.GV fr) (s.A,false,[]))∧Ji N B g s TL p.la L w k z.1 z.2.2 st g' lv wr) (λ_ _ i _=>p.ln - (intOf i).toNat)
 case atStart=>exact⟨0,(s.A,false,[]),s,g,dm _,rfl,rfl,rfl,hI0⟩
 case round=>
  clear hI0;obtain⟨k,z,st,g',hk,rfl,rfl,hz,hI⟩:=hrel;by_cases hlt:k<p.ln
  ·have hkL:k<L.length:=by rw[hln.out];exact hlt
   generalize p.la=la at hI ⊢;obtain⟨lb,lo,d,q,rfl,hlb,hds,hd0,hd1,hq0,hq1,hcd,hcq⟩:=hI.lst k hkL;have hb1:Below wr.heap.size wr (wr.alloc (.cells #[.int .u32 d,.int .u32 q] 237)):=bC;have hI1:=hI.later hb1;have rf:=bV wr (.cells #[.int .u32 d,.int .u32 q] 237);have kJ:=hI.nd.new (k:=wr.heap.size) (aB _);replace hds:=hide hds;replace hkL:=hide hkL;replace hI:=hide hI;go_wp2_with fail;generalize World.alloc _ _=W1 at hb1 hI1 rf ⊢;generalize lZ:wr.heap.size=C at rf kJ ⊢;replace lZ:=hide lZ;obtain⟨us,hus⟩:∃b,xP st.A d=b:=⟨_,rfl⟩;obtain⟨bl,hbl⟩:∃b,mV z.1 fr d=b:=⟨_,rfl⟩;have hd:a_ d:=⟨hd0,by omega⟩;have hq:a_ q:=⟨hq0,by omega⟩;have hS:LB N g'.x.T C d q W1 W1.drew:=LB.of hI1.nd rf (aV _ _).drew;have hU:Hid (∀W5,Below W1.heap.size W1 W5->Calls Tryz.prog 167 #[.pointer (some ⟨g'.x.T,0,none⟩),.int .u32 d] W5 λe w'=>e=.returned (.bool us)∧w'=W5):=λW5 h5=>by rw[<-hus];exact abe (hI1.nd.later h5) d hd
   have hus:=hide hus;have hI2:=hI1.later ((aV _ _).drew:Below W1.heap.size W1 W1.drew);have hC2:W1.drew.heap[C]?=some (RI d q):=rf;clear hcd hcq;go_region_held3 (LB N g'.x.T C d q W1) (first|with_reducible exact hS|with_reducible assumption) ((go_at_call 167;refine(hU.out _ (And.right (by assumption))).mono ?_;rintro e w2 ⟨rfl,rfl⟩))
   rename_i iZ;clear iZ hS hU hI1 rf hb1;generalize World.drew _=W2 at hI2 hC2 ⊢;have acX:¬Ft N g' st C:=kJ;have hS2:LHc N g'.x.T C d q W2.drew:=(LB.of hI2.nd hC2 (aV _ _).drew).1;have hW:Hid (Calls Tryz.prog 168 #[.pointer (some ⟨g'.x.T,0,none⟩),.int .u32 fr,.agg #[.int .u32 d,.int .u32 q]] W2.drew λr w'=>r=.returned (.bool bl)∧(∃st2 g2,Ji N B g s TL (some ⟨lb,lo,none⟩) L w k (gN z.1 fr d q) z.2.2 st2 g2 u9 w')∧w'.heap[C]?=some (RI d q)∧LHc N g'.x.T C d q w'):=by
    rw[<-hbl];refine((hI2.later (aV _ _).drew).lose fr d q hd hq).mono ?_;rintro r w' ⟨rfl,⟨st2,g2,h1⟩,h2⟩;have h6:=(h2.block C (aG hC2) acX).trans hC2;refine⟨rfl,⟨st2,g2,h1⟩,h6,?_⟩;have h7:=h1.nd.nn.cr.nd.cell.2.2.2.2.1;rw[h1.tt.out,<-hI2.tt.out]at h7;exact⟨h7,aJ w' C 0 _ _ _ h6,aJ w' C 1 _ _ _ h6⟩
   have hwk:wrap64 ((k:Int)+1)=(k:Int)+1:=by unfold wrap64;omega
   have hzn:Hid ((L.take (k+1)).foldl (St.GV fr) (s.A,false,[])=St.GV fr z (d,q)):=by
    show _=_;have hkl:=hkL.out;rw[List.take_add_one,hds.out,List.foldl_append,hz.out];rfl
   have hasc:Asc z.1:=by
    have:=hI2.nd.nn.cr.tb.yE;rw[<-hI2.hst.out]at this;exact this
   have hA:Hid (st.A=z.1):=by
    show _=_;rw[<-hI2.hst.out]
   have Aq:Hid (p.ln - (intOf (.int .i64 ((k:Int)+1))).toNat<p.ln - (intOf (.int .i64 (k:Int))).toNat):=CZ hlt;have hn1:k+1<=p.ln:=hlt;clear hz hk hlt hds hkL hI hI2 hC2 acX kJ hlb;go_wp2_with fail;cases bl
   ·rw[RL hasc hbl]at hW;have hzz:Hid (St.GV fr z (d,q)=z):=by
     show _=_;unfold St.GV;rw[hbl];rfl
    rw[hzz.out]at hzn;replace hbl:=hide hbl;go_region_held3 (LHc N g'.x.T C d q) (first|with_reducible exact hS2|with_reducible assumption) ((go_at_call 168;refine hW.out.mono ?_;rintro r w3 ⟨rfl,⟨st2,g2,h3⟩,h4,h5⟩))
    rename_i iZ;clear iZ h5 h4 hS2 hW;have hfin:=h3.up1;replace hfin:=hide hfin;clear h3;go_wp2;exact⟨⟨k+1,z,st2,g2,hn1,by go_num,rfl,hide hzn.out.symm,hfin.out⟩,Aq.out⟩
   ·have hzz:Hid (St.GV fr z (d,q)=(gN z.1 fr d q,true,if us then z.2.2++ [(d,eP (gN z.1 fr d q) d)]else z.2.2)):=by
     show _=_;have h1:xP z.1 d=us:=by
      have:=hus.out;rw[hA.out]at this;exact this
     rw[<-h1];unfold St.GV;rw[hbl];rfl
    rw[hzz.out]at hzn;replace hbl:=hide hbl;clear hzz;go_region_held3 (LHc N g'.x.T C d q) (first|with_reducible exact hS2|with_reducible assumption) ((go_at_call 168;refine hW.out.mono ?_;rintro r w3 ⟨rfl,⟨st2,g2,h3⟩,h4,h5⟩))
    rename_i iZ;clear iZ hS2 hW;cases us
    ·clear h5 h4;have hfin:=h3.up1;replace hfin:=hide hfin;clear h3;go_wp2;exact⟨⟨k+1,_,st2,g2,hn1,by go_num,rfl,hide hzn.out.symm,hfin.out⟩,Aq.out⟩
    ·obtain⟨c0,c1⟩:=h5.2;have YM:=CY N g2.x h3.nd.nn.cr d hd;rw[show st2.A=gN z.1 fr d q by rw[<-h3.hst.out]]at YM;obtain⟨nq,hnq⟩:∃v,eP (gN z.1 fr d q) d=v:=⟨_,rfl⟩;rw[hnq]at YM;rw[aI rfl,hnq]at hzn;have ad2:a_ nq:=by
      rw[<-hnq];unfold eP;cases hl:aK (gN z.1 fr d q) d with
      |none=>exact⟨by simp,by simp⟩
      |some y=>
       have h1:=h3.nd.nn.cr.tb.ok y;rw[show st2.A=gN z.1 fr d q by rw[<-h3.hst.out]]at h1;exact(h1 (dA hl).1).seq
     replace hnq:=hide hnq;replace YM:=hide YM;replace h3:=hide h3;clear h4 h5 c1;go_wp2_with fail;refine YM.out.mono ?_;rintro e w4 ⟨rfl,hb4⟩;have h9:=(h3.out.later hb4).later ((aV _ _).alloc (aB _) (.cells #[.int .u32 d,.int .u32 nq] 237));have hrw:=hide h9.row;have hk1:Hid (z.2.2.length+1<=maxLen):=by
      have:=h9.len;unfold maxLen;show _<=_;omega
     have hk2:Hid ((z.2.2.length+1)* 8<=140737488355328):=by
      have:=h9.len;show _<=_;omega
     have hbs:Hid (w.heap.size<=(w4.alloc (.cells #[.int .u32 d,.int .u32 nq] 237)).heap.size):=h9.up.size;have hfin:Hid (∀v7 w7,w7.ownsRow w.heap.size 237 2 v7 (z.2.2.length+1) (Cr z.2.2++Cr [(d,nq)])->(w4.alloc (.cells #[.int .u32 d,.int .u32 nq] 237)).grownBy w7 u9.ownBlock->(v7.ownBlock=u9.ownBlock∨v7.ownBlock=some (w4.alloc (.cells #[.int .u32 d,.int .u32 nq] 237)).heap.size)->Ji N B g s TL (some ⟨lb,lo,none⟩) L w (k+1) (gN z.1 fr d q) (z.2.2++ [(d,nq)]) st2 g2 v7 w7):=λv7 w7 a1 a2 a3=>h9.append d nq a1 a2 a3 hd ad2;clear h3 YM hb4 c0 h9;go_wp2_with(at_builtin;refine wpList_append_own_at _ rfl _ _ 71 rfl w.heap.size 237 i0 (.agg #[.int .u32 0,.int .u32 0]) 2 8 Tryz.underlying71 hi hz0 hz1 hz2 rfl (by decide) u9 z.2.2.length (Cr z.2.2) rfl hrw.out ⟨w4.heap.size,0,none⟩ 1 1 (Cr [(d,nq)]) rfl rfl (Iz w4 d nq) (Rc d nq) hk1.out hk2.out hbs.out ?_);intro v7 w7 ig gQ _ hv7;have pJ:=hide (hfin.out v7 w7 ig gQ (by rw[World.size_alloc];exact hv7));clear ig gQ hv7 hfin hrw hbs;go_wp2;exact⟨⟨k+1,_,st2,g2,hn1,by go_num,rfl,hide hzn.out.symm,pJ.out⟩,Aq.out⟩
  ·obtain rfl:k=p.ln:=by omega
   have hzL:Hid (L.foldl (St.GV fr) (s.A,false,[])=z):=by
    show _=_;rw[hz.out,<-hln.out,List.take_length]
   have hst:=hI.hst;obtain⟨zA,ze,zt⟩:=z;clear hz hk hlt;have hse:Hid (s2=(if ze then st else st.drop 7).lose 0 zt):=by
    show _=_;rw[<-dB.out];unfold St.iL;rw[hzL.out];dsimp only;rw[hst.out]
   have Hw:Hid (st.aF.length<=1000000):=by
    show _<=_;rw[<-hst.out];exact hfl
   have aej:Hid (st.aP.length<=1000000):=by
    show _<=_;rw[<-hst.out];exact hdl
   have hLo:Hid (∀st' g2 W,Nd N B g2 st' TL W->W.ownsRow w.heap.size 237 2 u9 zt.length (Cr zt)->st'.aF.length<=1000000->Calls Tryz.prog 137 #[.pointer (some ⟨B,0,none⟩),.int .u32 0,u9] W λe w'=>e=.returned (.tuple #[])∧lT N B g2 st' (st'.lose 0 zt) TL W w'):=by
    intro st' g2 W h1 h2 h3;obtain⟨ao,c,h4,h5⟩:=Cy h2 hI.ok;have h6:zt.length<=65536:=dN hI.len ad9;rw[h4];exact Uz h1 0 ao c zt h6 h5 h3
   have hu:=hide hI.up;have ht:=hide hI.tt.out;have hn:=hide hI.nd;have hr:=hide hI.row;have hrn:=hide hI.nr;clear hI hst hzL dB;cases ze
   ·replace hse:Hid (s2=(st.drop 7).lose 0 zt):=hse;go_wp2_with fail;refine(jJ hn.out 7 aej.out).mono ?_;rintro e w4 ⟨rfl,g4,n4,u4,t4⟩;have hr4:=(u4.row hr.out hrn.out za).1;have hL4:=hide (hLo.out _ g4 w4 n4 hr4 Hw.out);have U1:=hide (hu.out.trans u4);have ht4:=hide (t4.trans ht.out);clear hr4 u4 t4 n4;go_wp2_with fail;refine hL4.out.mono ?_;rintro e w5 ⟨rfl,g5,n5,u5,t5⟩;have hfin:Hid (lT N B g s s2 TL w w5):=by
     show lT N B g s s2 TL w w5;rw[hse.out];exact⟨g5,n5,U1.out.trans u5,t5.trans ht4.out⟩
    clear n5 u5 t5;go_wp2;go_returns;exact⟨rfl,hfin.out⟩
   ·replace hse:Hid (s2=st.lose 0 zt):=hse;have hL4:=hide (hLo.out _ g' wr hn.out hr.out Hw.out);go_wp2_with fail;refine hL4.out.mono ?_;rintro e w5 ⟨rfl,g5,n5,u5,t5⟩;have hfin:Hid (lT N B g s s2 TL w w5):=by
     show lT N B g s s2 TL w w5;rw[hse.out];exact⟨g5,n5,hu.out.trans u5,t5.trans ht.out⟩
    clear n5 u5 t5;go_wp2;go_returns;exact⟨rfl,hfin.out⟩
variable{ld:Int}{B N T:Nat}{o:Obj}{s:St}{W W0 w:World}
@[reducible] def HN(N B T : Nat)(me ld now : Int)(W : World): Prop := W.cell? ⟨N, 2, none⟩ = some (.int .u32 me) ∧ W.cell? ⟨N, 6, none⟩ = some (.int .u32 ld) ∧ W.cell? ⟨N, 7, none⟩ = some (.pointer (some ⟨T, 0, none⟩)) ∧ W.cell? ⟨B, 0, none⟩ = some (.int .u64 now)
@[reducible] def HO(N B T : Nat)(me ld now : Int)(W0 W : World): Prop := HN N B T me ld now W ∧ Below W0.heap.size W0 W
theorem HN.of{g:bI}{TL:List Hp.Tm}(n:Nd N B g s TL W):HN N B g.x.T s.me s.eu s.now W:=by
 have h:=n.nn.cr.nd.more.2.1;rw[n.nn.eq.eu]at h;exact⟨n.cell.1,h,n.cell.2.2.2.1,n.cell.2.2.2.2⟩
theorem HO.mk'{g:bI}{TL:List Hp.Tm}(n:Nd N B g s TL W0)(hb:Below W0.heap.size W0 W):HO N B g.x.T s.me s.eu s.now W0 W:=⟨HN.of (n.later hb),hb⟩
theorem HO.kF{me now:Int}(hk:Hid (∀W5,Below W0.heap.size W0 W5->HO N B T me ld now W0 W5))(h:Below W0.heap.size W0 W):HO N B T me ld now W0 (W.alloc o):=hk.out _ (h.alloc h.size _)
theorem HO.eT{me now:Int}(hk:Hid (∀W5,Below W0.heap.size W0 W5->HO N B T me ld now W0 W5)):HO N B T me ld now W0 (W0.alloc o).drew:=hk.out _ (bC).drew
theorem HO.vK{me now:Int}{v0 v1 v2 v3 v4 v5 v6:Value}(hk:Hid (∀W5,Below W0.heap.size W0 W5->HO N B T me ld now W0 W5))(h:Below W0.heap.size W0 W):HO N B T me ld now W0 (((((((W.setCell ⟨W0.heap.size,0,none⟩ v0).setCell ⟨W0.heap.size,1,none⟩ v1).setCell ⟨W0.heap.size,2,none⟩ v2).setCell ⟨W0.heap.size,3,none⟩ v3).setCell ⟨W0.heap.size,4,none⟩ v4).setCell ⟨W0.heap.size,5,none⟩ v5).setCell ⟨W0.heap.size,6,none⟩ v6):=hk.out _ (uE h (aB _) _ _ _ _ _ _ _)
theorem HN.next{g g':bI}{s':St}{dX:List Hp.Tm}(n:Nd N B g' s' dX W)(t:g'.x.T=g.x.T)(h1:s'.me=s.me)(h2:s'.eu=s.eu)(h3:s'.now=s.now):HN N B g.x.T s.me s.eu s.now W:=by
 have:=HN.of n;rw[t,h1,h2,h3]at this;exact this
@[reducible] def HNE(N B T E : Nat)(me ld now nx : Int)(W : World): Prop := HN N B T me ld now W ∧ W.cell? ⟨E, 3, none⟩ = some (.int .u32 nx)
theorem XT{i d me:Int}{t:ByteArray}(hi:a_ i)(hd:a_ d)(hm:a_ me)(ht:t.size<=16):(St.Fa i d me t).Wf:=by
 unfold a_ at hi hd hm;constructor<;>(dsimp only[St.Fa];omega)
def IL(N B:Nat)(g:bI)(s s':St)(dX:List Hp.Tm)(w w':World):Prop:=∃g',Nd N B g' s' dX w'∧Up B (Ft N g s) (Ft N g' s') w w'∧Hid (g'.x.T=g.x.T)∧Hid (g'.h=g.h∧g'.u=g.u)
theorem IL.refl{g:bI}{TL:List Hp.Tm}{w':World}(n:Nd N B g s TL w)(hb:Below w.heap.size w w'):IL N B g s s TL w w':=⟨g,n.later hb,.below hb,rfl,⟨rfl,rfl⟩⟩
theorem M6{g:bI}{TL:List Hp.Tm}(n:Nd N B g s TL w)(t:Int)(p:aD)(hp:p.Wf)(L:List (Int×Int))(hL:fH w p L)(hd:s.aF.length<=1000000):
  Calls Tryz.prog 80 #[.pointer (some ⟨B,0,none⟩),.int .u32 t,p.val] w λe w'=>e=.returned (.tuple #[])∧IL N B g s (s.send t p L) TL w w':=by
 refine(zP B (B+1) g.a s.bg s.aF s.aO s.aP t p hp L w n.ac n.base hd hL).mono ?_;rintro e w' ⟨v7,rfl,h1,h2⟩;obtain⟨p,q⟩:=n.act (s':=s.send t p L) h1 h2 (tT s t p L) n.now n.bB;exact⟨rfl,_,p,q,rfl,rfl,rfl⟩
theorem abf{g:bI}{TL:List Hp.Tm}(n:Nd N B g s TL w)(d e:Int)(hd:a_ d)(he:Be e):
  Calls Tryz.prog 81 #[.pointer (some ⟨g.x.T,0,none⟩),.int .u32 d,.int .u64 e] w λr w'=>r=.returned (.tuple #[])∧IL N B g s {s with A:=gU s.A d e} TL w w':=by
 refine(MZ s.me g.x.T _ s.A d e hd he w n.tab).mono ?_;rintro r w' ⟨rfl,h1,h2⟩;obtain⟨M',TB,xB,p,q⟩:=n.table (h1.ext _ _) h2;exact⟨rfl,_,p,q,rfl,rfl,rfl⟩
theorem Bp{g:bI}{TL:List Hp.Tm}(n:Nd N B g s TL w)(d:Int)(hd:a_ d)(t:ByteArray)(ht:t.size<=16)(hme:a_ s.me)(di:0<=s.now∧s.now<=4611686018427387904)(hfl:s.aF.length<=1000000):
  Calls Tryz.prog 53 #[.pointer (some ⟨N,0,none⟩),.pointer (some ⟨B,0,none⟩),.int .u32 d,.string t] w λe w'=>e=.returned (.bool (bE s.A d s.now).2)∧IL N B g s (s.aZ d t) TL w w':=by
 obtain⟨⟨y,fd⟩,hy⟩:∃r,bE s.A d s.now=r:=⟨_,rfl⟩;obtain⟨s2,dB⟩:∃s2,s.aZ d t=s2:=⟨_,rfl⟩;rw[dB,hy];unfold St.aZ at dB;rw[hy]at dB;dsimp only at dB ⊢;have hs2:=hide dB;have HF:=hide (nT n d s.now hd hy);clear dB;replace hy:=hide hy;go_enter Tryz.func53,Tryz.ntmps53;go_upto_region 1 with(fail);go_cut [9,10]from 11 to 24 (og y fd w)
 case first=>
  have hS:HO N B g.x.T s.me s.eu s.now w w.drew:=HO.mk' n (aV _ _).drew;have hkB:=hide λW5 h5=>HO.mk' (W:=W5) n h5;go_region_held3 (HO N B g.x.T s.me s.eu s.now w) (first|with_reducible exact hS|with_reducible assumption|(with_reducible apply HO.vK hkB;assumption)|(with_reducible apply HO.kF hkB;assumption)|(with_reducible apply HO.eT hkB)|(with_reducible apply hkB.out;assumption)) ((go_at_call 79;refine(HF.out _ (And.right (by assumption))).mono ?_;rintro e w2 ⟨ao,c,rfl,hb2,hpr⟩;try ((with_reducible have hD:=hpr cZ (.slice none 0 0) (lG w));obtain⟨d0,d1,d2,d3,d4,d5,d6⟩:=hD.cell;have q0:=hD.free 0;have q1:=hD.free 1;have q2:=hD.free 2;have q3:=hD.free 3;have q4:=hD.free 4;have q5:=hD.free 5;have q6:=hD.free 6;have hD':Hid (eD w.heap.size cZ (.slice none 0 0) w2):=hD;clear hD);clear hpr))
  all_goals
   go_wp2_with fail;go_meet;first|with_reducible exact iw hb2|with_reducible exact j6 hb2 hD'
 case rest=>
  obtain⟨E,ao,c,rfl,rfl,hE,hEl,hb2⟩:=hcut;have Xu:¬Ft N g s E:=n.new hEl;have qU:fd=true->a_ y.next:=λh=>by
   have:=oM n.nn.cr.tb.ok d s.now;rw[hy.out]at this;rcases this with h1|h1
   ·exact h1.next
   ·rw[h]at h1;cases h1
  have n2:=n.later hb2;clear HF;cases fd
  ·have hs3:Hid (s=s2):=hs2;have hfin:Hid (IL N B g s s2 TL w wc):=by
    show IL N B g s s2 TL w wc;rw[<-hs3.out];exact IL.refl n hb2
   clear hs2 hE n2;go_wp2_with fail;go_returns;exact⟨rfl,hfin.out⟩
  ·have hyn:=qU rfl;rw[aI rfl]at hs2;obtain⟨c2,c6,c7,c0⟩:=HN.of n2;have f6:=n2.nn.cr.nd.free 6;go_upto_region 5 with(fail);have acr:a_ ((s.eu+1)%4294967296):=by unfold a_;omega
   generalize (s.eu+1)%4294967296=nl at hs2 acr ⊢;have hg1:wc.grownBy (wc.setCell ⟨N,6,none⟩ (.int .u32 nl)) (some N):=ah (aC _ (some N)) 6 _;obtain⟨e1,e2,e3,e4,e5,e6,e7,e8,e9⟩:=n2.nn.eq;obtain⟨n3,u3⟩:=n2.cells (s':={s with eu:=nl}) (n2.nn.cr.nd.VZ nl) (Fx.grown hg1 λk e=>by cases e;rfl) ⟨e1,e2,e3,e4,rfl,e6,e7,e8,e9⟩ ⟨rfl,rfl,rfl,rfl,rfl,rfl⟩ ⟨rfl,rfl,rfl,rfl,rfl,rfl,rfl,rfl,rfl⟩ ⟨rfl,rfl,rfl,rfl,rfl⟩;obtain⟨hE3,Tq⟩:=u3.keepR hE Xu;have PZ:=(Up.below (B:=B) (F:=Ft N g s) hb2).trans u3;have t3:({g with x:={g.x with eu:=nl}}:bI).x.T=g.x.T:=rfl;have v3:({g with x:={g.x with eu:=nl}}:bI).h=g.h∧({g with x:={g.x with eu:=nl}}:bI).u=g.u:=⟨rfl,rfl⟩;generalize ({g with x:={g.x with eu:=nl}}:bI)=g3 at n3 PZ Tq t3 v3;replace t3:=hide t3;replace v3:=hide v3;obtain⟨s3,hs3⟩:∃z,({s with eu:=nl}:St)=z:=⟨_,rfl⟩;have h3:Hid (s3.now=s.now∧s3.me=s.me∧s3.eu=nl∧s3.aF=s.aF∧ {s3.send y.next (St.Fa nl d s3.me t) []with A:=gU (s3.send y.next (St.Fa nl d s3.me t) []).A d ((s3.send y.next (St.Fa nl d s3.me t) []).now+3000)}=s2):=by
    show _∧_;rw[<-hs3];exact⟨rfl,rfl,rfl,rfl,hs2.out⟩
   rw[hs3]at n3 PZ Tq;have SK:a_ s3.me:=by rw[h3.out.2.1];exact hme
   have yg:0<=s3.now∧s3.now<=4611686018427387904:=by rw[h3.out.1];exact di
   have hS0:=HN.of n3.drew;rw[h3.out.2.2.1]at hS0;clear hs3 u3 n2 hE hb2 hs2 c2 c6 c7 c0 f6 e1 e2 e3 e4 e5 e6 e7 e8 e9 hg1 qU Xu;generalize World.setCell _ _ _=W3 at n3 PZ hE3 hS0 ⊢;have HS:=hide (M6 n3.drew y.next (St.Fa nl d s3.me t) (XT acr hd SK ht) [] ⟨rfl,λj hj=>by simp at hj⟩ (by rw[h3.out.2.2.2.1];exact hfl));obtain⟨s4,hs4⟩:∃z,s3.send y.next (St.Fa nl d s3.me t) []=z:=⟨_,rfl⟩;have h4:Hid (s4.now=s3.now∧s4.me=s3.me∧s4.eu=nl∧ {s4 with A:=gU s4.A d (s4.now+3000)}=s2):=by
    show _∧_;have:=h3.out.2.2.2.2;rw[hs4]at this;refine⟨?_,?_,?_,this⟩
    ·rw[<-hs4];rfl
    ·rw[<-hs4];rfl
    ·rw[<-hs4];exact h3.out.2.2.1
   rw[hs4]at HS;clear hs4;dsimp only[aD.val,St.Fa]at HS;have hS:HNE N B g3.x.T E s3.me nl s3.now y.next W3.drew:=⟨hS0,hE3.cell.2.2.2.1⟩;have J7:eD E y (.slice ao y.bL.length c) W3.drew:=hE3;clear hS0;go_region_held3 (HNE N B g3.x.T E s3.me nl s3.now y.next) (first|with_reducible exact hS|with_reducible assumption) ((go_at_call 80;refine HS.out.mono ?_;rintro e w4 ⟨rfl,hN⟩;obtain⟨g4,n4,u4,t4,v4⟩:=hN;obtain⟨U9,aeJ⟩:=u4.keepR J7 Tq;have hk4:HNE N B g3.x.T E s3.me nl s3.now y.next w4:=⟨by have h9:=HN.next (s:=s4) n4 t4.out rfl rfl rfl;rw[h4.out.1,h4.out.2.1,h4.out.2.2.1]at h9;exact h9,U9.cell.2.2.2.1⟩))
   rename_i iZ;clear iZ hk4 hS;have pW:=(PZ.trans (.below (aV _ _).drew)).trans u4;have hn4:0<=s4.now∧s4.now<=4611686018427387904:=by rw[h4.out.1];exact yg
   have HV:Hid (∀t,t=s4.now+3000->Calls Tryz.prog 81 #[.pointer (some ⟨g4.x.T,0,none⟩),.int .u32 d,.int .u64 t] w4.drew λr w'=>r=.returned (.tuple #[])∧IL N B g4 s4 s2 TL w4.drew w'):=by
    rintro _ rfl;have:=abf n4.drew d (s4.now+3000) hd (by unfold Be;omega);rw[h4.out.2.2.2]at this;exact this
   have hsm:Hid (s2.me=s4.me∧s2.eu=s4.eu∧s2.now=s4.now):=by
    show _∧_;rw[<-h4.out.2.2.2];exact⟨rfl,rfl,rfl⟩
   have hS:HN N B g4.x.T s4.me s4.eu s4.now w4.drew:=HN.of n4.drew;clear HS h3 n3 u4 hE3 J7 U9 h4 PZ;go_wp2_with fail;go_region_held3 (HN N B g4.x.T s4.me s4.eu s4.now) (first|with_reducible exact hS|with_reducible assumption) ((go_at_call 81;refine(HV.out _ (by first|rfl|exact mK hn4 (by decide))).mono ?_;rintro e w9 ⟨rfl,hN⟩;obtain⟨g9,n9,u9,t9,v9⟩:=hN;have hk9:HN N B g4.x.T s4.me s4.eu s4.now w9:=HN.next n9 t9.out hsm.out.1 hsm.out.2.1 hsm.out.2.2))
   rename_i iZ;clear iZ hS hk9;have wH:=(pW.trans (.below (aV _ _).drew)).trans u9;have hfin:Hid (IL N B g s s2 TL w w9):=⟨g9,n9,wH,t9.out.trans (t4.out.trans t3.out),v9.out.1.trans (v4.out.1.trans v3.out.1),v9.out.2.trans (v4.out.2.trans v3.out.2)⟩;clear wH u9 n9 pW n4;go_wp2;go_returns;exact⟨rfl,hfin.out⟩
variable{Q:List Sr}
theorem TA(hn:Q.Pairwise λa b=>a.dest≠b.dest){q:Sr}(hq:q∈Q):(Q.filter λz=>!decide (z.dest=q.dest)).length=Q.length - 1:=by
 induction Q with
 |nil=>cases hq
 |cons a Q ih=>
  rw[List.pairwise_cons]at hn;rcases fE.1 hq with rfl|h
  ·have h1:Q.filter (λz=>!decide (z.dest=q.dest))=Q:=List.filter_eq_self.2 λz hz=>by simpa using(hn.1 z hz).symm
   simp[h1]
  ·have h1:=ih hn.2 h;have h2:a.dest≠q.dest:=hn.1 q h;have h3:0<Q.length:=List.length_pos_of_mem h;rw[List.filter_cons_of_pos (by simpa using h2)];simp only[dZ];omega
theorem UD{N B:Nat}{g:bI}{s:St}{TL:List Hp.Tm}{w:World}(n:Nd N B g s TL w)(k:Int)(hk:oV k)(hl:TL.length<=1000000):
  Calls Tryz.prog 150 #[.pointer (some ⟨g.x.Tm,0,none⟩),.int .i64 k] w λe w'=>∃b h' v' dX,e=.returned (.bool b)∧Nd N B {g with hp:=h',tv:=v'} s dX w'∧Up B (Ft N g s) (Ft N {g with hp:=h',tv:=v'} s) w w'∧((∃x,x.2.1=k∧(x::dX).Perm TL)∨((∀x∈TL,x.2.1≠k)∧dX=TL)):=by
 have hr:=n.nn.rs;refine(KU 0 g.x.Tm g.Mt s.tl g.hp g.tv w hr.tm (by rw[hr.pm.length_eq];exact hl) hr.hpo k hk).mono ?_;rintro e w' ⟨h',v',h1,h2,h3,h4,h5⟩;have hnd:=n.nn.qM;simp only[List.nodup_cons,fE,List.not_mem_nil,or_false,not_or]at hnd;obtain⟨_,_,⟨d1,d2⟩,d3,_⟩:=hnd;have hin:∀k,k=g.x.Tm∨k=g.Mt∨g.tv.ownBlock=some k->kr g.x g.h g.u g.Mt g.tv s k:=λk hk=> .inr (.inr (hk.elim .inl λh=> .inr (h.elim .inl λh=> .inr (.inl h))));have hf:Fx (λk=>k=g.x.Tm∨k=g.Mt∨g.tv.ownBlock=some k) w w':=⟨h2.os,h2.tape,h2.output,h2.size,λk hk hn=>h2.block k hk (λe=>hn (.inl e)) (λe=>hn (.inr (.inl e))) (λe=>hn (.inr (.inr e.symm)))⟩;have hne:∀ {k:Nat} {o:Obj},w.heap[k]?=some o->k≠g.Mt->(∀c,o≠ .cells c 165 (0,0))->(∀c,o≠ .cells c 254 (0,0))->w'.heap[k]?=w.heap[k]?:=by
  intro k o ho hk c1 c2;refine hf.block k (aG ho) ?_;rintro(rfl|h|h)
  ·rw[show w.heap[g.x.Tm]?=_ from hr.tm.blk]at ho;exact c1 _ (Option.some.inj ho).symm
  ·exact hk h
  ·obtain⟨c,hc⟩:=aS hr.tm.row h;rw[hc]at ho;exact c2 _ (Option.some.inj ho).symm
 have hN:w'.heap[N]?=w.heap[N]?:=hne (n.nn.cr.nd) (λe=>by
  obtain⟨f,p1,_⟩:=hr.tm.map;obtain⟨es,cl,hm⟩:=p1.obj;rw[<-e,show w.heap[N]?=_ from n.nn.cr.nd]at hm;cases hm) (λc e=>by cases e) (λc e=>by cases e)
 have hS:xL g.x.qy g.h g.u s.Q w':=hr.sr.kept λk hk=>by
  obtain⟨o,ho,⟨rfl,_,_,rfl⟩|⟨c,rfl⟩|⟨c,rfl⟩⟩:=hr.sr.kind hk
  ·exact hne ho d3 (λc e=>by cases e) (λc e=>by cases e)
  ·refine hne ho ?_ (λc e=>by cases e) (λc e=>by cases e);rintro rfl;obtain⟨f,p1,_⟩:=hr.tm.map;obtain⟨es,cl,hm⟩:=p1.obj;rw[hm]at ho;cases ho
  ·refine hne ho ?_ (λc e=>by cases e) (λc e=>by cases e);rintro rfl;obtain⟨f,p1,_⟩:=hr.tm.map;obtain⟨es,cl,hm⟩:=p1.obj;rw[hm]at ho;cases ho
 have hM:xN g.x.Ms s.tn s.mem w':=hr.sn.block (by
  obtain⟨es,cl,hm⟩:=hr.sn.obj;exact hne hm d2 (λc e=>by cases e) (λc e=>by cases e))
 have hP:=bQ (W':=w') hr.pc λk hk=>(by
  obtain⟨c,hc⟩:=aS hr.pc hk;refine hne hc ?_ (λc e=>by cases e) (λc e=>by cases e);rintro rfl;obtain⟨f,p1,_⟩:=hr.tm.map;obtain⟨es,cl,hm⟩:=p1.obj;rw[hm]at hc;cases hc)
 obtain⟨p,u⟩:=n.rest (s':=s) (dX:=h') (n.nn.cr.nd.block hN) rfl rfl n.nn.eq (h':=g.h) (u':=g.u) (Fy:=g.Mt) (hp':=h') (tv':=v')
  ⟨hM,hS,h1,h4,.refl _,hP⟩ (hf.mono λk hk=> .inr (hin k hk)) (λk hk=> .inl (by unfold kr at hk ⊢;rw[h3]at hk;exact hk)) ⟨rfl,rfl,rfl⟩ ⟨rfl,rfl,rfl,rfl,rfl,rfl,rfl,rfl,rfl⟩
 rcases h5 with⟨x,hx,rfl,hpm⟩|⟨hno,rfl,rfl⟩
 ·exact⟨true,h',v',h',rfl,p,u,.inl ⟨x,hx,hpm.trans hr.pm⟩⟩
 ·obtain⟨p2,u2⟩:=n.rest (s':=s) (dX:=TL) (n.nn.cr.nd.block hN) rfl rfl n.nn.eq (h':=g.h) (u':=g.u) (Fy:=g.Mt) (hp':=g.hp) (tv':=v')
   ⟨hM,hS,h1,h4,hr.pm,hP⟩ (hf.mono λk hk=> .inr (hin k hk)) (λk hk=> .inl (by unfold kr at hk ⊢;rw[h3]at hk;exact hk)) ⟨rfl,rfl,rfl⟩ ⟨rfl,rfl,rfl,rfl,rfl,rfl,rfl,rfl,rfl⟩
  exact⟨false,g.hp,v',TL,rfl,p2,u2,.inr ⟨λx hx=>hno x (hr.pm.mem_iff.2 hx),rfl⟩⟩
theorem xL.del{Ms:Nat}{h:Int->Option Nat}{u:Int->Value}{W W':World}(r:xL Ms h u Q W){q:Sr}(hq:q∈Q)(hm:fG W' Ms (eY h q.dest none) (Q.length - 1))(he:∀k,II Ms h u Q k->k≠Ms->W'.heap[k]?=W.heap[k]?):xL Ms (eY h q.dest none) u (Q.filter λz=>!decide (z.dest=q.dest)) W':=by
 have U5:∀z∈Q,∀k,(h z.dest=some k∨(u z.dest).ownBlock=some k)->k≠Ms:=by
  rintro z hz k hk rfl;obtain⟨es,cl,hm0⟩:=r.map.obj;rcases hk with hk|hk
  ·obtain⟨B,h1,h2⟩:=r.ln z hz;rw[h1]at hk;cases hk;obtain⟨c,hc⟩:=h2.obj;rw[hc]at hm0;cases hm0
  ·obtain⟨c,hc⟩:=aS (r.row z hz) hk;rw[hc]at hm0;cases hm0
 have hmem:∀z,z∈Q.filter (λz=>!decide (z.dest=q.dest))->z∈Q∧z.dest≠q.dest:=λz hz=>by
  have:=List.mem_filter.1 hz;exact⟨this.1,by simpa using this.2⟩
 refine⟨by rw[TA r.qM hq];exact hm,r.qM.filter _,λz hz=>r.ok z (hmem z hz).1,λd B hd hB=> ?_,λz hz=> ?_,λz hz=> ?_,λa ha b hb=>r.apart a (hmem a ha).1 b (hmem b hb).1,dN (List.length_filter_le _ _) r.len⟩
 ·by_cases e:d=q.dest
  ·subst e;simp[eY]at hB
  ·simp[eY,e]at hB;obtain⟨z,hz,rfl⟩:=r.dom d B hd hB;exact⟨z,List.mem_filter.2 ⟨hz,by simpa using e⟩,rfl⟩
 ·obtain⟨hz1,hz2⟩:=hmem z hz;obtain⟨B,h1,h2⟩:=r.ln z hz1;exact⟨B,by simp[eY,hz2,h1],h2.block (he B (.inr ⟨z,hz1,.inl h1⟩) (U5 z hz1 B (.inl h1)))⟩
 ·obtain⟨hz1,hz2⟩:=hmem z hz;exact bQ (r.row z hz1) λk hk=>he k (.inr ⟨z,hz1,.inr hk⟩) (U5 z hz1 k (.inr hk))
variable{D:Int->Prop}{B N:Nat}{s:St}{W w w':World}
@[reducible] def HE(N Bq Tm Ms : Nat)(id d : Int)(W : World): Prop := W.cell? ⟨N, 14, none⟩ = some (.pointer (some ⟨Tm, 0, none⟩)) ∧ W.cell? ⟨N, 13, none⟩ = some (.map (some Ms)) ∧ W.cell? ⟨Bq, 4, none⟩ = some (.int .i64 id) ∧ W.cell? ⟨Bq, 0, none⟩ = some (.int .u32 d)
def Fh(k:Int)(TL dX:List Hp.Tm):Prop:=(∃x,x.2.1=k∧(x::dX).Perm TL)∨((∀x∈TL,x.2.1≠k)∧dX=TL)
theorem HE.of{g:bI}{TL:List Hp.Tm}(n:Nd N B g s TL W){q:Sr}(hq:q∈s.Q){Bq:Nat}(hB:g.h q.dest=some Bq):HE N Bq g.x.Tm g.x.qy q.id q.dest W:=by
 obtain⟨B',h1,h2⟩:=n.nn.rs.sr.ln q hq;rw[hB]at h1;cases h1;have h3:=n.nn.cr.nd.more;exact⟨h3.2.2.2.1,h3.2.2.1,h2.cell.2.2.2.2,h2.cell.1⟩
def FQ(N B:Nat)(g:bI)(s s':St)(dX:List Hp.Tm)(D:Int->Prop)(w w':World):Prop:=∃g',Nd N B g' s' dX w'∧Up B (Ft N g s) (Ft N g' s') w w'∧Hid (g'.x.T=g.x.T)∧Hid (∀z,¬D z->g'.h z=g.h z)
theorem FQ.toP{g:bI}{s':St}{dX:List Hp.Tm}(h:FQ N B g s s' dX D w w'):lT N B g s s' dX w w':=by
 obtain⟨g1,n1,u1,t1,_⟩:=h;exact⟨g1,n1,u1,t1⟩
theorem FQ.refl{g:bI}{TL:List Hp.Tm}(n:Nd N B g s TL w)(hb:Below w.heap.size w w'):FQ N B g s s TL D w w':=⟨g,n.later hb,.below hb,rfl,λ_ _=>rfl⟩
theorem Nd.aeT{g:bI}{TL:List Hp.Tm}{W':World}(n:Nd N B g s TL W)(q:Sr)(hq:q∈s.Q)(hm:fG W' g.x.qy (eY g.h q.dest none) (s.Q.length - 1))(hg:W.grownBy W' (some g.x.qy)):
  Nd N B {g with h:=eY g.h q.dest none} {s with Q:=s.Q.filter λz=>!decide (z.dest=q.dest)} TL W'∧Up B (Ft N g s) (Ft N {g with h:=eY g.h q.dest none} {s with Q:=s.Q.filter λz=>!decide (z.dest=q.dest)}) W W':=by
 have hr:=n.nn.rs;obtain⟨e1,e2,e3,e4,e5,e6,e7,e8,e9⟩:=n.nn.eq;have hnd:=n.nn.qM;simp only[List.nodup_cons,fE,List.not_mem_nil,or_false,not_or]at hnd;obtain⟨_,_,⟨d1,d2⟩,d3,_⟩:=hnd;have hk:∀ {k:Nat} {o:Obj},W.heap[k]?=some o->k≠g.x.qy->W'.heap[k]?=W.heap[k]?:=λho hn=>hg.block _ (aG ho) λe=>hn (Option.some.inj e);have hno:∀ {k:Nat} {o:Obj},W.heap[k]?=some o->(∀es cl,o≠ .map es cl)->W'.heap[k]?=W.heap[k]?:=by
  intro k o ho hc;refine hk ho ?_;rintro rfl;obtain⟨es,cl,hm0⟩:=hr.sr.map.obj;rw[hm0]at ho;exact hc _ _ (Option.some.inj ho).symm
 refine n.rest (hno n.nn.cr.nd (λ_ _ e=>by cases e)|>λh=>n.nn.cr.nd.block h) rfl rfl ⟨e1,e2,e3,e4,e5,e6,e7,e8,e9⟩ (h':=eY g.h q.dest none) (u':=g.u) (Fy:=g.Mt) (hp':=g.hp) (tv':=g.tv)
  ⟨hr.sn.block ?_,hr.sr.del hq hm λk hk1 hk2=> ?_,hr.tm.at (hno hr.tm.blk λ_ _ e=>by cases e) ?_ (λk hk1=> ?_),hr.hpo,hr.pm,bQ hr.pc λk hk1=> ?_⟩
  (Fx.grown hg λk e=>by cases e;exact .inr (.inr (.inl (.inl rfl)))) (λk hk1=> .inl ?_) ⟨rfl,rfl,rfl⟩ ⟨rfl,rfl,rfl,rfl,rfl,rfl,rfl,rfl,rfl⟩
 ·obtain⟨es,cl,hm0⟩:=hr.sn.obj;exact hk hm0 d1
 ·exact hg.block k (hr.sr.lt hk1) λe=>hk2 (Option.some.inj e)
 ·obtain⟨f,p1,_⟩:=hr.tm.map;exact hg.block _ p1.lt λe=>d3 (Option.some.inj e).symm
 ·obtain⟨c,hc⟩:=aS hr.tm.row hk1;exact hno hc λ_ _ e=>by cases e
 ·obtain⟨c,hc⟩:=aS hr.pc hk1;exact hno hc λ_ _ e=>by cases e
 ·rcases hk1 with h|h|h
  ·exact .inl h
  ·refine .inr (.inl ?_);rcases h with h|⟨z,hz,h⟩
   ·exact .inl h
   ·have h1:=List.mem_filter.1 hz;have h2:z.dest≠q.dest:=by simpa using h1.2
    refine .inr ⟨z,h1.1,h.imp (λh=> ?_) id⟩;simpa[eY,h2]using h
  ·exact .inr (.inr h)
theorem yF{g:bI}{TL:List Hp.Tm}(n:Nd N B g s TL w)(q:Sr)(hq:q∈s.Q)(Bq:Nat)(hB:g.h q.dest=some Bq)(hl:TL.length<=1000000):
  Calls Tryz.prog 115 #[.pointer (some ⟨N,0,none⟩),.pointer (some ⟨Bq,0,none⟩)] w λe w'=>e=.returned (.tuple #[])∧∃dX,FQ N B g s {s with Q:=s.Q.filter λz=>!decide (z.dest=q.dest)} dX (λz=>z=q.dest) w w'∧Fh q.id TL dX:=by
 have hok:=n.nn.rs.sr.ok q hq;have hS:HE N Bq g.x.Tm g.x.qy q.id q.dest w.drew:=HE.of n.drew hq hB;have HC:=hide (UD n.drew q.id (by have:=hok.id;unfold oV;omega) hl);go_enter Tryz.func115,Tryz.ntmps115;go_wp2_with fail;go_region_held3 (HE N Bq g.x.Tm g.x.qy q.id q.dest) (first|with_reducible exact hS|with_reducible assumption) ((go_at_call 150;refine HC.out.mono ?_;rintro e w2 ⟨b,h',v',dX,rfl,n2,u2,htk⟩;have hk2:HE N Bq g.x.Tm g.x.qy q.id q.dest w2:=HE.of n2 hq hB))
 rename_i iZ;clear iZ hk2 hS HC;have n2d:=n2.drew;have hS:HE N Bq g.x.Tm g.x.qy q.id q.dest w2.drew:=HE.of n2d hq hB;obtain⟨W',hrun,hm',hg'⟩:=n2d.nn.rs.sr.map.aeS hok.dest 0 (by rw[hB];rfl);obtain⟨n3,u3⟩:=n2d.aeT q hq hm' hg';have hS':HE N Bq g.x.Tm g.x.qy q.id q.dest W':=by
  have h3:=n3.nn.cr.nd.more;obtain⟨B',h1,h2⟩:=n2d.nn.rs.sr.ln q hq;rw[show({g with hp:=h',tv:=v'}:bI).h q.dest=some Bq from hB]at h1;cases h1;have hBq:qm Bq q (g.u q.dest) W':=h2.block (hg'.block Bq h2.lt λe=>by
   obtain⟨es,cl,hm0⟩:=n2d.nn.rs.sr.map.obj;have e1:g.x.qy=Bq:=(Option.some.inj e).symm;obtain⟨c,hc⟩:=h2.obj;rw[show({g with hp:=h',tv:=v'}:bI).x.qy=Bq from e1,hc]at hm0;cases hm0)
  exact⟨h3.2.2.2.1,h3.2.2.1,hBq.cell.2.2.2.2,hBq.cell.1⟩
 have hfin:Hid (FQ N B g s {s with Q:=s.Q.filter λz=>!decide (z.dest=q.dest)} dX (λz=>z=q.dest) w W'):=⟨_,n3,((Up.below (aV _ _).drew).trans u2).trans ((Up.below (aV _ _).drew).trans u3),rfl,λz hz=>by simp[eY,hz]⟩;replace htk:=hide htk;clear n2 n2d u2 n3 u3 hm' hg';go_wp2_with fail;go_region_held3 (HE N Bq g.x.Tm g.x.qy q.id q.dest) (first|with_reducible exact hS|with_reducible exact hS'|with_reducible assumption) (fail)
 rename_i iZ;clear iZ hS hS';go_wp2;go_returns;exact⟨rfl,dX,hfin.out,htk.out⟩
def SwP(N B:Nat)(g:bI)(s s2:St)(TL:List Hp.Tm)(so:Option Sr)(fd:Bool)(w w':World):Prop:=∃dX,FQ N B g s s2 dX (λz=>fd=true∧∃q,so=some q∧z=q.dest) w w'∧(∀q,so=some q->fd=true->Fh q.id TL dX)∧((so=none∨fd=false)->dX=TL)
theorem jM(s:St)(d:Int)(t:ByteArray):(s.aZ d t).Q=s.Q∧(s.aZ d t).me=s.me∧(s.aZ d t).now=s.now∧(s.aZ d t).aF.length<=s.aF.length+1:=by
 unfold St.aZ;split
 ·exact⟨rfl,rfl,rfl,by simp[St.send]⟩
 ·exact⟨rfl,rfl,rfl,Nat.le_succ _⟩
theorem zQ(d:Int)(l:List ByteArray)(s:St):(l.foldl (λs t=>s.aZ d t) s).Q=s.Q∧(l.foldl (λs t=>s.aZ d t) s).me=s.me∧(l.foldl (λs t=>s.aZ d t) s).now=s.now∧(l.foldl (λs t=>s.aZ d t) s).aF.length<=s.aF.length+l.length:=by
 induction l generalizing s with
 |nil=>exact⟨rfl,rfl,rfl,aB _⟩
 |cons t l ih=>
  obtain⟨h1,h2,h3,h4⟩:=ih (s.aZ d t);obtain⟨k1,k2,k3,k4⟩:=jM s d t;simp only[gZ,dZ];exact⟨h1.trans k1,h2.trans k2,h3.trans k3,by omega⟩
theorem tq{N B:Nat}{g:bI}{s:St}{TL:List Hp.Tm}{w:World}(n:Nd N B g s TL w)(d:Int)(hd:a_ d)(hme:a_ s.me)(di:0<=s.now∧s.now<=4611686018427387904)(hfl:s.aF.length<=999000)(hl:TL.length<=1000000):
  Calls Tryz.prog 78 #[.pointer (some ⟨N,0,none⟩),.pointer (some ⟨B,0,none⟩),.int .u32 d] w λe w'=>e=.returned (.bool ((St.jU s.Q d).isSome&&(bE s.A d s.now).2))∧SwP N B g s (s.sendAll d) TL (St.jU s.Q d) (bE s.A d s.now).2 w w':=by
 obtain⟨⟨y,fd⟩,hy⟩:∃r,bE s.A d s.now=r:=⟨_,rfl⟩;rw[hy];obtain⟨bo,Td⟩:∃b,g.h d=b:=⟨_,rfl⟩;have hlk:=n.nn.rs.sr.map.GZ hd;rw[Td]at hlk;obtain⟨s2,hs2⟩:∃s2,s.sendAll d=s2:=⟨_,rfl⟩;rw[hs2];unfold St.sendAll at hs2;rw[hy]at hs2;dsimp only at hs2 ⊢;obtain⟨so,hso⟩:∃o,St.jU s.Q d=o:=⟨_,rfl⟩;rw[hso]at hs2 ⊢;have hrel:Hid ((so=none∧bo=none)∨∃q Bq,so=some q∧bo=some Bq∧q∈s.Q∧q.dest=d∧g.h q.dest=some Bq):=by
  cases so with
  |none=>exact .inl ⟨rfl,Td.symm.trans (n.nn.rs.sr.off hd hso)⟩
  |some q=>
   obtain⟨h1,h2,Bq,h3,_⟩:=n.nn.rs.sr.at hso;exact .inr ⟨q,Bq,rfl,Td.symm.trans h3,h1,h2,by rw[h2];exact h3⟩
 replace hs2:=hide hs2;have HF:=hide (nT n d s.now hd hy);replace hy:=hide hy;replace hso:=hide hso;replace Td:=hide Td;have c13:=n.nn.cr.nd.more.2.2.1;go_enter Tryz.func78,Tryz.ntmps78;go_upto_region 2 with(fail);clear hlk c13;go_cut [9,10]from 22 to 35 (og y fd w)
 case first=>
  have hS:HO N B g.x.T s.me s.eu s.now w w.drew:=HO.mk' n (aV _ _).drew;have hkB:=hide λW5 h5=>HO.mk' (W:=W5) n h5;go_region_held3 (HO N B g.x.T s.me s.eu s.now w) (first|with_reducible exact hS|with_reducible assumption|(with_reducible apply HO.vK hkB;assumption)|(with_reducible apply HO.kF hkB;assumption)|(with_reducible apply HO.eT hkB)|(with_reducible apply hkB.out;assumption)) ((go_at_call 79;refine(HF.out _ (And.right (by assumption))).mono ?_;rintro e w2 ⟨ao,c,rfl,hb2,hpr⟩;try ((with_reducible have hD:=hpr cZ (.slice none 0 0) (lG w));obtain⟨d0,d1,d2,d3,d4,d5,d6⟩:=hD.cell;have q0:=hD.free 0;have q1:=hD.free 1;have q2:=hD.free 2;have q3:=hD.free 3;have q4:=hD.free 4;have q5:=hD.free 5;have q6:=hD.free 6;have hD':Hid (eD w.heap.size cZ (.slice none 0 0) w2):=hD;clear hD);clear hpr))
  all_goals
   go_wp2_with fail;go_meet;first|with_reducible exact iw hb2|with_reducible exact j6 hb2 hD'
 case rest=>
  obtain⟨E,ao,c,rfl,rfl,hE,hEl,hb2⟩:=hcut;clear HF hE hEl;have n2:=n.later hb2;rcases hrel.out with⟨rfl,rfl⟩|⟨q,Bq,rfl,rfl,hq,YA,hqB⟩
  ·have hfin:Hid (FQ N B g s s2 TL (λz=>fd=true∧∃q,(none:Option Sr)=some q∧z=q.dest) w wc):=by
    show FQ N B g s s2 TL _ w wc;rw[<-hs2.out];exact FQ.refl n hb2
   have hsw:Hid (SwP N B g s s2 TL none fd w wc):=⟨TL,hfin.out,λq h=>(by cases h),λ_=>rfl⟩;clear hs2 n2 hrel hfin;go_wp2_with fail;go_returns;exact⟨rfl,hsw.out⟩
  ·cases fd
   ·have hfin:Hid (FQ N B g s s2 TL (λz=>false=true∧∃q',some q=some q'∧z=q'.dest) w wc):=by
     show FQ N B g s s2 TL _ w wc;rw[<-hs2.out];exact FQ.refl n hb2
    have hsw:Hid (SwP N B g s s2 TL (some q) false w wc):=⟨TL,hfin.out,λq _ h=>(by cases h),λ_=>rfl⟩;clear hs2 n2 hrel hfin;go_wp2_with fail;go_returns;exact⟨rfl,hsw.out⟩
   ·replace hs2:Hid ({q.txt.foldl (λs t=>s.aZ d t) s with Q:=s.Q.filter λz=>!decide (z.dest=d)}=s2):=hs2;clear hrel;have hok:=n.nn.rs.sr.ok q hq;have hrow:=n.nn.rs.sr.row q hq;obtain⟨ta,tc,htv,_⟩:=ax hrow;have hBl:∀(g':bI) (st:St) (W:World),Nd N B g' st TL W->st.Q=s.Q->g'.h=g.h->g'.u=g.u->qm Bq q (.slice ta q.txt.length tc) W∧W.ownsRow 0 9 1 (.slice ta q.txt.length tc) q.txt.length (q.txt.map Value.string):=by
     intro g' st W n' e1 e2 e3;have hr':=n'.nn.rs.sr;rw[e1,e2,e3]at hr';obtain⟨B',h1,h2⟩:=hr'.ln q hq;rw[hqB]at h1;cases h1;have h3:=hr'.row q hq;rw[htv]at h2 h3;exact⟨h2,h3⟩
    obtain⟨b0,b1,_⟩:=(hBl g s wc n2 rfl rfl rfl).1.cell;have hBl:=hide hBl;have hln:q.txt.length<=4:=hok.txt;clear hrow htv;simp only[gJ];have n2:=hide n2;go_upto_region 5 with(fail);go_wp2_with fail;clear b0 b1;go_loopw [46] (λi wr=>∃(k:Nat) (st:St) (g':bI),k<=q.txt.length∧i=.int .i64 k∧Hid (st=(q.txt.take k).foldl (λs t=>s.aZ d t) s)∧Nd N B g' st TL wr∧Up B (Ft N g s) (Ft N g' st) w wr∧Hid (g'.x.T=g.x.T)∧Hid (g'.h=g.h∧g'.u=g.u)) (λi _=>q.txt.length - (intOf i).toNat)
    case atStart=>exact⟨0,s,g,dm _,rfl,rfl,n2.out,.below hb2,rfl,rfl,rfl⟩
    case round=>
     obtain⟨k,st,g',hk,rfl,hst,nk,uk,tk,vk⟩:=hrel;have hsm:=hide (zQ d (q.txt.take k) s);rw[<-hst.out]at hsm;obtain⟨b0,b1⟩:=hBl.out g' st wr nk hsm.out.1 vk.out.1 vk.out.2;by_cases hlt:k<q.txt.length
     ·obtain⟨t,ht⟩:∃t,q.txt[k]?=some t:=⟨_,bS hlt⟩;have htm:=iV ht;obtain⟨gq,cq,hvq,_⟩:=bZ b1 (by omega);cases hvq;have d0:=(b1.cellAt k (by simpa using hlt)).trans (by rw[l9,ht]);have hfr:st.aF.length<=1000000:=by have:=hsm.out.2.2.2;simp only[List.length_take]at this;omega
      have HT:=hide (Bp nk d hd t (hok.I_ t htm) (by rw[hsm.out.2.1];exact hme) (by rw[hsm.out.2.2.1];exact di) hfr);have hwk:wrap64 ((k:Int)+1)=(k:Int)+1:=by unfold wrap64;omega
      have Z5:Hid (st.aZ d t=(q.txt.take (k+1)).foldl (λs t=>s.aZ d t) s):=by
       show _=_;rw[List.take_add_one,ht,List.foldl_append,<-hst.out];rfl
      have Aq:Hid (q.txt.length - (intOf (.int .i64 ((k:Int)+1))).toNat<q.txt.length - (intOf (.int .i64 (k:Int))).toNat):=CZ hlt;have hn1:k+1<=q.txt.length:=hlt;replace ht:=hide ht;clear b0 b1 nk hst hsm hBl hk hlt;go_wp2_with fail;refine HT.out.mono ?_;rintro e w4 ⟨rfl,g4,n4,u4,t4,v4⟩;have hfin:Hid (Nd N B g4 (st.aZ d t) TL w4∧Up B (Ft N g s) (Ft N g4 (st.aZ d t)) w w4∧Hid (g4.x.T=g.x.T)∧Hid (g4.h=g.h∧g4.u=g.u)):=⟨n4,uk.trans u4,t4.out.trans tk.out,v4.out.1.trans vk.out.1,v4.out.2.trans vk.out.2⟩;clear n4 u4 d0 HT;go_wp2;exact⟨⟨k+1,_,g4,hn1,by go_num,Z5,hfin.out⟩,Aq.out⟩
     ·obtain rfl:k=q.txt.length:=by omega
      have hq':q∈st.Q:=by rw[hsm.out.1];exact hq
      have hB':g'.h q.dest=some Bq:=by rw[vk.out.1];exact hqB
      have HE:=hide (yF nk q hq' Bq hB' hl);have hfin:Hid (∀w5,(∃dX,FQ N B g' st {st with Q:=st.Q.filter λz=>!decide (z.dest=q.dest)} dX (λz=>z=q.dest) wr w5∧Fh q.id TL dX)->SwP N B g s s2 TL (some q) true w w5):=by
       rintro w5 ⟨dX,⟨g5,n5,u5,t5,y5⟩,h6⟩;have e1:({st with Q:=st.Q.filter λz=>!decide (z.dest=q.dest)}:St)=s2:=by
        rw[<-hs2.out,hsm.out.1,hst.out,List.take_length,YA]
       rw[e1]at n5 u5;exact⟨dX,⟨g5,n5,uk.trans u5,t5.out.trans tk.out,λz hz=>(y5.out z λe=>hz ⟨rfl,q,rfl,e⟩).trans (by rw[vk.out.1])⟩,λq' h _=>by cases h;exact h6,λh=>by rcases h with h|h<;>cases h⟩
      clear b0 b1 nk hst hsm hBl hk hlt uk hq' hB' hs2;go_wp2_with fail;refine HE.out.mono ?_;rintro e w5 ⟨rfl,h5⟩;have hsw:=hide (hfin.out w5 h5);clear h5 hfin HE;go_wp2;go_returns;exact⟨rfl,hsw.out⟩
variable{B N:Nat}{s:St}
def X_(d:Int)(s:St)(TL:List Hp.Tm)(s2:St)(dX:List Hp.Tm):Prop:=(dX=TL∧s2.Q=s.Q)∨∃q,St.jU s.Q d=some q∧Fh q.id TL dX∧s2.Q=s.Q.filter λz=>!decide (z.dest=d)
def YV(N B:Nat)(g:bI)(s s2:St)(TL:List Hp.Tm)(d:Int)(w w':World):Prop:=∃dX,lT N B g s s2 dX w w'∧X_ d s TL s2 dX
theorem F6(s:St)(d:Int):(s.sendAll d).aP=s.aP:=by
 have h1:∀(t:ByteArray) (s:St),(s.aZ d t).aP=s.aP:=by
  intro t s;unfold St.aZ;split<;>rfl
 have h2:∀(l:List ByteArray) (s:St),(l.foldl (λs t=>s.aZ d t) s).aP=s.aP:=by
  intro l
  induction l with
  |nil=>intro s;rfl
  |cons t l ih=>intro s;exact(ih _).trans (h1 t s)
 unfold St.sendAll;cases St.jU s.Q d with
 |none=>rfl
 |some q=>
  dsimp only;split
  ·exact h2 _ _
  ·rfl
theorem SwP.rp{g:bI}{TL:List Hp.Tm}{d:Int}{a b:World}(h:SwP N B g s (s.sendAll d) TL (St.jU s.Q d) (bE s.A d s.now).2 a b):∃dX,FQ N B g s (s.sendAll d) dX (λz=>z=d) a b∧X_ d s TL (s.sendAll d) dX:=by
 obtain⟨dX,⟨g1,n1,u1,t1,y1⟩,h2,h3⟩:=h;refine⟨dX,⟨g1,n1,u1,t1,λz hz=>y1.out z ?_⟩,?_⟩
 ·rintro⟨_,q,hq,rfl⟩;exact hz (jw hq).2
 unfold X_ St.sendAll;cases hs:St.jU s.Q d with
 |none=>exact .inl ⟨h3 (.inl hs),rfl⟩
 |some q=>
  cases hf:(bE s.A d s.now).2 with
  |false=>exact .inl ⟨h3 (.inr hf),by simp⟩
  |true=>exact .inr ⟨q,rfl,h2 q hs hf,by simp⟩
theorem Vn{a c:Int}(h:0<=a∧a<=4611686018427387904)(hc:0<=c∧c<=8589934592):IntKind.u64.wrap (a+IntKind.u64.wrap c)=a+c:=by
 simp only[IntKind.wrap,IntKind.signed,IntKind.bits];simp;omega
theorem IV{g:bI}{TL:List Hp.Tm}{w:World}(n:Nd N B g s TL w)(fr:Int)(OI:a_ fr)(p:aD)(hq:p.Hd)(hL:fH w p [])(hme:a_ s.me)(di:0<=s.now∧s.now<=4611686018427387904)(hfl:s.aF.length<=990000)(hdl:s.aP.length<=990000)(htl:TL.length<=1000000):
  Calls Tryz.prog 131 #[.pointer (some ⟨N,0,none⟩),.pointer (some ⟨B,0,none⟩),.int .u32 fr,p.val] w λe w'=>e=.returned (.tuple #[])∧YV N B g s (s.dM fr p) TL p.dest w w':=by
 have hp:=hq.wf;obtain⟨hid,hde,hds,hfr,hfs,hli⟩:=hp.num;have hb0:Below w.heap.size w (w.alloc p.box):=bC;have gT:=PB.new p w;have n0:=n.later hb0;obtain⟨s2,dB⟩:∃s2,s.dM fr p=s2:=⟨_,rfl⟩;rw[dB];have hs2:=hide dB;clear dB;dsimp only[aD.box]at hb0 n0;unfold PB at gT;dsimp only[aD.box]at gT;go_enter Tryz.func131,Tryz.ntmps131;go_upto_region 1 with(fail);generalize World.alloc _ _=W1 at hb0 gT n0 ⊢;have kJ:=n.new (k:=w.heap.size) (aB _);generalize lZ:w.heap.size=C at gT kJ ⊢;replace lZ:=hide lZ;have hS:HC N B g.x.T C s.me s.seq s.bN s.now p W1.drew:=HC.xH n0 gT;have hP1:PB p C W1.drew:=PB.below gT (aV _ _).drew;have n1:=n0.drew;have hb1:=hb0.drew;have hs3:=hs2.out;unfold St.dM at hs3;clear hs2 gT n0;by_cases hd1:p.dest=s.me
 ·have hbe:(p.dest==s.me)=true:=by simpa using hd1
  rw[aI hd1]at hs3;clear hd1;have HX:=hide (jJ n1 1 (by omega));rw[hs3]at HX;have hQ:Hid (s2.Q=s.Q):=by show _=_;rw[<-hs3];rfl
  clear hs3 hP1 n1;go_region_held3 (HC N B g.x.T C s.me s.seq s.bN s.now p) (first|with_reducible exact hS|with_reducible assumption) (fail)
  rename_i iZ;clear iZ hS;go_wp2_with fail;refine aU HX.out ?_;rintro e w9 ⟨rfl,hN⟩;have hfin:Hid (YV N B g s s2 TL p.dest w w9):=⟨TL,hN.pre hb1,.inl ⟨rfl,hQ.out⟩⟩;clear hN HX;go_wp2;go_returns;exact⟨rfl,hfin.out⟩
 ·have hbe:(p.dest==s.me)=false:=by simpa using hd1
  rw[ay hd1]at hs3;clear hd1;obtain⟨u,hu⟩:∃u,fA s.me s.A p.dest p.bA (St.far p.hops) fr (s.now+p.life)=u:=⟨_,rfl⟩;have HU:Hid (∀t,t=s.now+p.life->Calls Tryz.prog 161 #[.pointer (some ⟨g.x.T,0,none⟩),.int .u32 p.dest,.int .u32 p.bA,.int .i64 (St.far p.hops),.int .u32 fr,.int .u64 t] W1.drew.drew λr w'=>r=.returned (.int .i64 u.2)∧lT N B g s {s with A:=u.1} TL W1.drew.drew w'):=by
   rintro _ rfl;have:=IQ n1.drew p.dest p.bA (St.far p.hops) fr (s.now+p.life) hde hds (by have:=hq.hops;unfold oV St.far;omega) OI (by unfold a_ at hli;unfold Be;omega);rw[hu]at this;exact this
  rw[hu]at hs3;obtain⟨A2,E2⟩:=u;dsimp only at hs3 HU;clear hu;replace hs3:=hide hs3;have hl0:0<=p.life∧p.life<=8589934592:=by unfold a_ at hli;omega
  have hS2:HC N B g.x.T C s.me s.seq s.bN s.now p W1.drew.drew:=HC.xH n1 hP1;have hP2:PB p C W1.drew.drew:=PB.below hP1 (aV _ _).drew;clear hP1 n1;go_region_held3 (HC N B g.x.T C s.me s.seq s.bN s.now p) (first|with_reducible exact hS|with_reducible assumption) (fail)
  rename_i iZ;clear iZ hS;go_wp2_with fail;go_region_held3 (HC N B g.x.T C s.me s.seq s.bN s.now p) (first|with_reducible exact hS2|with_reducible assumption) (first
   |(go_at_call 162;refine(vQ p.hops hq.hops _).mono ?_;rintro e w3f ⟨rfl,rfl⟩)
   |(go_at_call 161;refine(HU.out _ (by first|rfl|exact Vn di hl0)).mono ?_;rintro e w4 ⟨rfl,hN⟩;obtain⟨g4,n4,u4,t4⟩:=hN;obtain⟨l_,qZ⟩:=u4.kE hP2 kJ;have hk4:HC N B g.x.T C s.me s.seq s.bN s.now p w4:=HC.next n4 l_ t4.out rfl rfl rfl rfl))
  rename_i iZ;clear iZ hS2 hk4;have pW:=(Up.below (B:=B) (F:=Ft N g s) (hb1.drew)).trans u4;obtain⟨s1,hs1⟩:∃z,({s with A:=A2}:St)=z:=⟨_,rfl⟩;have h1:Hid (s1.me=s.me∧s1.now=s.now∧s1.Q=s.Q∧s1.aF=s.aF∧s1.aP=s.aP∧s1.seq=s.seq∧s1.bN=s.bN):=by
   show _∧_;rw[<-hs1];exact⟨rfl,rfl,rfl,rfl,rfl,rfl,rfl⟩
  have hs4:Hid ((if E2=4 then s1.drop 2 else if p.aH=s1.me then(if E2=3 then(s1.sendAll p.dest).drop 7 else s1.sendAll p.dest)else if p.ttl=1 then s1.drop 4 else s1.iT fr p)=s2):=by
   rw[<-hs1];exact hs3
  replace hs3:=hs4;clear hs4;rw[hs1]at n4 pW qZ;clear hs1 u4 HU hP2 kJ;have acF:Hid (s1.aF.length<=990000):=by show _<=_;rw[h1.out.2.2.2.1];exact hfl
  have Xf:Hid (s1.aP.length<=990000):=by show _<=_;rw[h1.out.2.2.2.2.1];exact hdl
  by_cases h4:E2=4
  ·subst h4;replace hs3:Hid (s1.drop 2=s2):=hs3;have HX:=hide (jJ n4 2 (by have:=Xf.out;omega));rw[hs3.out]at HX;have hQ:Hid (s2.Q=s.Q):=by show _=_;rw[<-hs3.out];exact h1.out.2.2.1
   clear hs3 l_ n4;go_wp2_with fail;refine aU HX.out ?_;rintro e w9 ⟨rfl,g9,n9,u9,t9⟩;have hfin:Hid (YV N B g s s2 TL p.dest w w9):=⟨TL,⟨g9,n9,pW.trans u9,t9.out.trans t4.out⟩,.inl ⟨rfl,hQ.out⟩⟩;clear n9 u9 t9 HX;go_wp2;go_returns;exact⟨rfl,hfin.out⟩
  ·have b4:(E2==4)=false:=by simpa using h4
   replace hs3:=hide ((ay h4).symm.trans hs3.out);clear h4;have hS4:HC N B g4.x.T C s1.me s1.seq s1.bN s1.now p w4.drew:=HC.xH n4 l_;have xw:PB p C w4.drew:=PB.below l_ (aV _ _).drew;have n5:=n4.drew;have yH:=pW.trans (.below (aV _ _).drew:Up B (Ft N g4 s1) (Ft N g4 s1) w4 w4.drew);clear n4 l_ pW;go_wp2_with fail;by_cases hf:p.aH=s1.me
   ·have bf:(p.aH==s1.me)=true:=by simpa using hf
    replace hs3:=hide ((aI hf).symm.trans hs3.out);clear hf;obtain⟨sW,hsW⟩:∃z,s1.sendAll p.dest=z:=⟨_,rfl⟩;have hdW:Hid (sW.aP.length<=990000):=by show _<=_;rw[<-hsW,F6];exact Xf.out
    have HW:Hid (Calls Tryz.prog 78 #[.pointer (some ⟨N,0,none⟩),.pointer (some ⟨B,0,none⟩),.int .u32 p.dest] w4.drew λe w'=>(∃b,e=.returned (.bool b))∧∃dX,lT N B g4 s1 sW dX w4.drew w'∧X_ p.dest s TL sW dX):=by
     refine(tq n5 p.dest hde (by rw[h1.out.1];exact hme) (by rw[h1.out.2.1];exact di) (by have:=acF.out;omega) htl).mono ?_;rintro e w' ⟨rfl,h⟩;obtain⟨dX,a1,a2⟩:=h.rp;replace a1:=a1.toP;rw[hsW]at a1 a2;exact⟨⟨_,rfl⟩,dX,a1,by unfold X_ at a2 ⊢;rw[h1.out.2.2.1]at a2;exact a2⟩
    rw[hsW]at hs3;clear hsW n5;go_region_held3 (HC N B g4.x.T C s1.me s1.seq s1.bN s1.now p) (first|with_reducible exact hS4|with_reducible assumption) (fail)
    rename_i iZ;clear iZ hS4;obtain⟨_,_,_,_,_,p5,_⟩:=PB.cell xw;go_wp2_with fail;refine HW.out.mono ?_;rintro e w9 ⟨⟨b,rfl⟩,dX,⟨g9,n9,u9,t9⟩,htm⟩;replace htm:=hide htm;have wH:=yH.trans u9;have t9':Hid (g9.x.T=g.x.T):=t9.out.trans t4.out;clear u9 t9 HW p5 xw yH;by_cases h3:E2=3
    ·have b3:(E2==3)=true:=by simpa using h3
     replace hs3:=hide ((aI h3).symm.trans hs3.out);clear h3;have HX:=hide (jJ n9 7 (by have:=hdW.out;omega));rw[hs3.out]at HX;have adP:Hid (X_ p.dest s TL s2 dX):=by
      show X_ p.dest s TL s2 dX;rw[<-hs3.out];exact htm.out
     clear n9 hs3;go_wp2_with fail;refine aU HX.out ?_;rintro e Y5 ⟨rfl,g10,n10,u10,t10⟩;have hfin:Hid (YV N B g s s2 TL p.dest w Y5):=⟨dX,⟨g10,n10,wH.trans u10,t10.out.trans t9'.out⟩,adP.out⟩;clear n10 u10 t10 HX;go_wp2;go_returns;exact⟨rfl,hfin.out⟩
    ·have b3:(E2==3)=false:=by simpa using h3
     replace hs3:=hide ((ay h3).symm.trans hs3.out);clear h3;have hfin:Hid (YV N B g s s2 TL p.dest w w9):=by
      show YV N B g s s2 TL p.dest w w9;rw[<-hs3.out];exact⟨dX,⟨g9,n9,wH,t9'⟩,htm.out⟩
     clear n9 hs3;go_wp2;go_returns;exact⟨rfl,hfin.out⟩
   ·have bf:(p.aH==s1.me)=false:=by simpa using hf
    replace hs3:=hide ((ay hf).symm.trans hs3.out);clear hf;go_region_held3 (HC N B g4.x.T C s1.me s1.seq s1.bN s1.now p) (first|with_reducible exact hS4|with_reducible assumption) (fail)
    rename_i iZ;clear iZ hS4;obtain⟨p0,p1,p2,p3,p4,p5,p6,p7,p8,p9,iK,je⟩:=PB.cell xw;by_cases ht:p.ttl=1
    ·have bt:(p.ttl==1)=true:=by simpa using ht
     replace hs3:=hide ((aI ht).symm.trans hs3.out);clear ht;have HX:=hide (jJ n5 4 (by have:=Xf.out;omega));rw[hs3.out]at HX;have hQ:Hid (s2.Q=s.Q):=by show _=_;rw[<-hs3.out];exact h1.out.2.2.1
     clear hs3 xw n5;go_wp2_with fail;refine aU HX.out ?_;rintro e w9 ⟨rfl,g9,n9,u9,t9⟩;have hfin:Hid (YV N B g s s2 TL p.dest w w9):=⟨TL,⟨g9,n9,yH.trans u9,t9.out.trans t4.out⟩,.inl ⟨rfl,hQ.out⟩⟩;clear n9 u9 t9 HX;go_wp2;go_returns;exact⟨rfl,hfin.out⟩
    ·have bt:(p.ttl==1)=false:=by simpa using ht
     replace hs3:=hide ((ay ht).symm.trans hs3.out);clear ht;have HX:=hide (Pz n5 fr OI p hq hL.nil (by rw[h1.out.2.1];exact di) (by have:=acF.out;omega) (by have:=Xf.out;omega));rw[hs3.out]at HX;dsimp only[aD.val]at HX;have hQ:Hid (s2.Q=s.Q):=by
      show _=_;rw[<-hs3.out];unfold St.iT;split<;>exact h1.out.2.2.1
     clear hs3 xw n5;go_wp2_with fail;refine aU HX.out ?_;rintro e w9 ⟨rfl,g9,n9,u9,t9⟩;have hfin:Hid (YV N B g s s2 TL p.dest w w9):=⟨TL,⟨g9,n9,yH.trans u9,t9.out.trans t4.out⟩,.inl ⟨rfl,hQ.out⟩⟩;clear n9 u9 t9 HX;go_wp2;go_returns;exact⟨rfl,hfin.out⟩
open Go.WideElems
variable{q:Int}{f:Int->Option Int}{A:List Rt}{B N:Nat}{s:St}{W w:World}
structure St.Dom(s:St):Prop where
 mb:MB s.f
 on:∀d,(s.f d).isSome=true->∃y∈s.A,y.dest=d
 own:a_ s.own
theorem Rp{own:Int}(h:MB f)(hA:∀y∈A,y.Ok):MB (bK q own f A).1:=by
 have hg:∀(B:List Rt) (st:(Int->Option Int)×List (Bool×Int×Int)),(∀y∈B,y.Ok)->MB st.1->MB (B.foldl mP st).1:=by
  intro B
  induction B with
  |nil=>intro st _ h;exact h
  |cons y B ih=>
   intro st hB h;rw[gZ];refine ih _ (λz hz=>hB z (lU _ hz)) ?_;unfold mP;split
   ·intro d v hd;dsimp only[lX]at hd;split at hd
    ·rename_i e;have hy:=hB y jT;cases hd;exact⟨e▸hy.dest,hy.seq⟩
    ·exact h d v hd
   ·exact h
 exact hg A _ hA h
theorem Oh{own:Int}:∀y∈A,((bK q own f A).1 y.dest).isSome=true:=by
 have hk:∀(B:List Rt) (st:(Int->Option Int)×List (Bool×Int×Int)) (d:Int),(st.1 d).isSome=true->((B.foldl mP st).1 d).isSome=true:=by
  intro B
  induction B with
  |nil=>intro st d h;exact h
  |cons y B ih=>
   intro st d h;rw[gZ];refine ih _ d ?_;unfold mP;split
   ·dsimp only[lX];split
    ·rfl
    ·exact h
   ·exact h
 have hg:∀(B:List Rt) (st:(Int->Option Int)×List (Bool×Int×Int)),∀y∈B,((B.foldl mP st).1 y.dest).isSome=true:=by
  intro B
  induction B with
  |nil=>intro st y hy;cases hy
  |cons z B ih=>
   intro st y hy;rw[gZ];rcases fE.1 hy with rfl|hy
   ·refine hk B _ _ ?_;unfold mP;split
    ·simp[lX]
    ·rename_i hn;simp only[Al,Bool.or_eq_true,not_or]at hn;have h1:=hn.1;cases hq:st.1 y.dest with
     |none=>rw[hq]at h1;simp at h1
     |some _=>rfl
   ·exact ih _ y hy
 exact hg A _
theorem WK{own:Int}(hq:a_ q)(ho:a_ own):a_ (Jc q own):=by
 unfold Jc;split<;>assumption
theorem rR{own:Int}(h:∀d,(f d).isSome=true->∃y∈A,y.dest=d):∀d,((bK q own f A).1 d).isSome=true->∃y∈A,y.dest=d:=by
 have hg:∀(B:List Rt) (st:(Int->Option Int)×List (Bool×Int×Int)),(∀y∈B,y∈A)->(∀d,(st.1 d).isSome=true->∃y∈A,y.dest=d)->∀d,((B.foldl mP st).1 d).isSome=true->∃y∈A,y.dest=d:=by
  intro B
  induction B with
  |nil=>intro st _ h;exact h
  |cons y B ih=>
   intro st hB h;rw[gZ];refine ih _ (λz hz=>hB z (lU _ hz)) ?_;unfold mP;split
   ·intro d hd;dsimp only[lX]at hd;split at hd
    ·rename_i e;exact⟨y,hB y jT,e.symm⟩
    ·exact h d hd
   ·exact h
 exact hg A _ (λ_ h=>h) h
theorem Dl(h:s.Dom)(hA:∀y∈s.A,y.Ok)(hq:a_ s.seq):s.write.Dom:=⟨Rp h.mb hA,rR h.on,WK hq h.own⟩
theorem Fu.size_le{x:mX}{M:Nat}{ff:Int->Option Nat}{gg:Int->Value}{sz:Nat}(n:Fu N x M ff gg A f sz W)(h:∀d,(f d).isSome=true->∃y∈A,y.dest=d):sz<=8:=by
 refine dN (n.mo.size_le (A.map (·.dest)) λd _ hd=> ?_) (by rw[gY];exact n.tb.len);obtain⟨y,hy,rfl⟩:=h d hd;exact dW.2 ⟨y,hy,rfl⟩
theorem Nd.core{g:bI}{s':St}{TL:List Hp.Tm}{W':World}(n:Nd N B g s TL W){x':mX}{TB:Int->Option Nat}{xB:Int->Value}{sz':Nat}{a':qh}
  (h:Fu N x' g.M TB xB s'.A s'.f sz' W') (ha:jP B (B+1) a' s'.bg s'.aF s'.aO s'.aP W')
  (hf:Fx (λk=>yY N g.x g.M g.ff g.gg s.A k∨jL B g.a k) W W') (hin:∀k,yY N x' g.M TB xB s'.A k->yY N g.x g.M g.ff g.gg s.A k)
  (hx:x'.Mo=g.x.Mo∧x'.Ms=g.x.Ms∧x'.qy=g.x.qy∧x'.Tm=g.x.Tm∧x'.pc=g.x.pc) (he:NdE x' s')
  (hs:s'.mem=s.mem∧s'.tn=s.tn∧s'.Q=s.Q∧s'.tl=s.tl∧s'.pc=s.pc) (hz:sz'<=1000000) (h1:a'.now=s'.now) (h2:a'.bB=s'.bB):
  Nd N B {g with x:=x',ff:=TB,gg:=xB,sz:=sz',a:=a'} s' TL W'∧Up B (Ft N g s) (Ft N {g with x:=x',ff:=TB,gg:=xB,sz:=sz',a:=a'} s') W W':=by
 obtain⟨x1,x2,x3,x4,x5⟩:=hx;obtain⟨t1,t2,t3,t4,t5⟩:=hs;have hrs:=n.nn.rs.kept (W':=W') λk hk=>hf.block k (n.nn.rs.lt hk) λh=>h.elim (λh=>n.nn.apart hk h) λh=>n.ac.JM n.nn (.inr hk) h;have hR:∀k,kr x' g.h g.u g.Mt g.tv s' k->kr g.x g.h g.u g.Mt g.tv s k:=by
  intro k hk;unfold kr at hk ⊢;rw[x2,x3,x4,x5,t3]at hk;exact hk
 refine⟨⟨⟨h,he,⟨?_,?_,?_,hrs.hpo,hrs.pm,?_⟩,?_,hz⟩,ha,h1,h2⟩,.of hf (λk o hk ho=>hk.elim (λh=> .inl (.inl h)) λh=> .inr ⟨n.ac.kinds h ho,n.ac.ge h⟩) λk hk=> .inl (hk.imp (hin k) (hR k))⟩
 ·dsimp only;rw[x2,t1,t2];exact hrs.sn
 ·dsimp only;rw[x3,t3];exact hrs.sr
 ·dsimp only;rw[x4,t4];exact hrs.tm
 ·dsimp only;rw[x5,t5];exact hrs.pc
 ·dsimp only;rw[x1,x2,x3];exact n.nn.qM
theorem Ye{g:bI}{TL:List Hp.Tm}(n:Nd N B g s TL w)(hd:s.Dom)(hc:0<=s.cnt∧s.cnt<=1000000)(hw:s.bg.length<=90000):
  Calls Tryz.prog 71 #[.pointer (some ⟨N,0,none⟩),.pointer (some ⟨B,0,none⟩)] w λe w'=>e=.returned (.tuple #[])∧lT N B g s s.write TL w w':=by
 obtain⟨e1,e2,e3,e4,e5,e6,e7,e8,e9⟩:=n.nn.eq;refine(wG N B (B+1) g.x g.a g.M g.ff g.gg s.A s.f g.sz s.bg s.aF s.aO s.aP w n.nn.cr n.ac n.base (by rw[e8];exact hc) n.nn.I_ hw).mono ?_;rintro e w' ⟨v7,sz',rfl,h1,_,h3,h4⟩;have hn:bK g.x.seq g.x.own s.f s.A=bK s.seq s.own s.f s.A:=by rw[e2,e7]
 rw[hn]at h1 h3;have hz:sz'<=8:=h1.size_le (rR hd.on);obtain⟨p,q⟩:=n.core (s':=s.write) h1 h3 (h4.mono λk h=>by
  rcases h with rfl|rfl|h
  ·exact .inl (.inl rfl)
  ·exact .inl (.inr (.inl rfl))
  ·exact .inr h) (λk hk=>hk) ⟨rfl,rfl,rfl,rfl,rfl⟩ ⟨e1,e2,e3,e4,e5,e6,by dsimp only;rw[e2,e7];rfl,by dsimp only;rw[e8];rfl,e9⟩ ⟨rfl,rfl,rfl,rfl,rfl⟩ (by omega) n.now n.bB
 exact⟨rfl,_,p,q,rfl⟩
theorem zw{g:bI}{TL:List Hp.Tm}(n:Nn N g s TL w)(now:Int)(hd:s.Dom)(hc:0<=s.cnt∧s.cnt<=1000000):
  Calls Tryz.prog 51 #[.pointer (some ⟨N,0,none⟩),.int .u64 now] w λe w'=>∃g',e=.returned (.pointer (some ⟨w.heap.size,0,none⟩))∧Nd N w.heap.size g' (s.begin now) TL w'∧Up w.heap.size (Ft N g s) (Ft N g' (s.begin now)) w w'∧Fx (Ft N g s) w w'∧g'.x.T=g.x.T:=by
 obtain⟨e1,e2,e3,e4,e5,e6,e7,e8,e9⟩:=n.eq;refine(Pq N g.x now w n.cr (by rw[e8];exact hc) n.I_).mono ?_;rintro e w' ⟨xB,v7,sz',rfl,h1,_,h3,h4,h5⟩;have hn:bK g.x.seq g.x.own s.f (iF s.A now)=bK s.seq s.own s.f (iF s.A now):=by rw[e2,e7]
 rw[hn]at h1 h3;have hdom:∀d,((bK s.seq s.own s.f (iF s.A now)).1 d).isSome=true->∃y∈iF s.A now,y.dest=d:=rR λd hd'=>by
  obtain⟨y,hy,rfl⟩:=hd.on d hd';exact⟨sG now y,dW.2 ⟨y,hy,rfl⟩,mG now y⟩
 have hz:sz'<=8:=h1.size_le hdom;have hrs:=n.rs.kept (W':=w') λk hk=>h5.block k (n.rs.lt hk) λh=>n.apart hk h;have hF:∀k,Ft N {g with x:={g.x with own:=Jc g.x.seq g.x.own,cnt:=g.x.cnt+(bK s.seq s.own s.f (iF s.A now)).2.length},gg:=xB,sz:=sz',a:={FO now with nV:=v7}} (s.begin now) k->Ft N g s k:=λk hk=>hk.imp (h4 k) λh=>h;refine⟨{g with x:={g.x with own:=Jc g.x.seq g.x.own,cnt:=g.x.cnt+(bK s.seq s.own s.f (iF s.A now)).2.length},gg:=xB,sz:=sz',a:={FO now with nV:=v7}},rfl,⟨⟨h1,⟨e1,e2,e3,e4,e5,e6,by dsimp only;rw[e2,e7];rfl,by dsimp only;rw[e8];rfl,e9⟩,⟨hrs.sn,hrs.sr,hrs.tm,hrs.hpo,hrs.pm,hrs.pc⟩,n.qM,by dsimp only;omega⟩,?_,rfl,rfl⟩,.of h5 (λk o hk _=> .inl (.inl hk)) λk hk=> .inl (hF k hk),h5.mono λk h=> .inl h,rfl⟩;have e10:(s.begin now).bg=(bK s.seq s.own s.f (iF s.A now)).2:=List.nil_append _;rw[e10];exact h3
end Go.Proofs.YtakaadcpaeiccabGreat
