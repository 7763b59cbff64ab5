import Derived.Test.YtakaadcpaeiccabGreatC16
import Derived.Deep.RegionWith
set_option maxHeartbeats 8000000
set_option maxRecDepth 100000
namespace Go.Proofs.YtakaadcpaeiccabGreat
open Go.RowKit Go.Maps
variable{L tl:List (Int×Int)}{A:List Rt}{B N k n:Nat}{g':bI}{ao:Option Addr}{s st:St}{lv:Value}{W W' w:World}
@[reducible] def Ti(d q : Int): Obj := .cells #[.int .u32 d, .int .u32 q] 237
theorem zP(c:Array Value):oC (.cells c 237 (0,0)):=⟨λc e=>(by cases e),λc e=>(by cases e),λc e=>(by cases e),λc e=>(by cases e),λc e=>(by cases e)⟩
theorem Tn(hA:Asc A){fr d q:Int}(h:mR A fr d=false):gT A fr d q=A:=by
 unfold gT;refine pO hA λy hy=> ?_;unfold mR at h;rw[hy]at h;simp only[Option.any_some]at h;unfold bQ;rw[h];rfl
theorem Vw{g:bI}{TL:List Hp.Tm}(n:Nd N B g s TL w)(fr d q:Int)(hd:a_ d)(hq:a_ q):
  Calls Tryz.prog 168 #[.pointer (some ⟨g.x.T,0,none⟩),.int .u32 fr,.agg #[.int .u32 d,.int .u32 q]] w λr w'=>r=.returned (.bool (mR s.A fr d))∧lV N B g s {s with A:=gT s.A fr d q} TL w w'∧Fx (Ft N g s) w w':=by
 refine(VJ s.me g.x.T _ s.A fr d q hd hq w n.tab).mono ?_;rintro r w' ⟨rfl,h1,h2⟩;exact⟨rfl,n.wU (h1.ext _ _) h2,h2.mono λk hk=> .inl (.inr (.inr hk))⟩
def Gh(N:Nat)(g:bI)(s:St)(ao:Option Addr):Prop:=∀b,ao=some b->¬Ft N g s b.block
theorem bE.fx{S:Nat->Prop}(h:bE W ao L)(hf:Fx S W W')(ha:0<L.length->∀b,ao=some b->¬S b.block):bE W' ao L:=by
 intro j hj;obtain⟨lb,lo,d,s,h1,h2,h3,h4,h5,h6,h7,h8,h9⟩:=h j hj;have hk:=hf.block lb h2 (ha (Nat.lt_of_le_of_lt (b_ _) hj) _ h1);refine⟨lb,lo,d,s,h1,fO h2 hf.size,h3,h4,h5,h6,h7,?_,?_⟩
 ·unfold World.cell? at h8 ⊢;rw[show W'.heap[(⟨lb,lo+j * 2,none⟩:Addr).block]?=W.heap[lb]? from hk];exact h8
 ·unfold World.cell? at h9 ⊢;rw[show W'.heap[(⟨lb,lo+j * 2+1,none⟩:Addr).block]?=W.heap[lb]? from hk];exact h9
structure J4(N B:Nat)(g:bI)(s:St)(TL:List Hp.Tm)(ao:Option Addr)(L:List (Int×Int))(w:World)(k:Nat)(A:List Rt)(tl:List (Int×Int))(st:St)(g':bI)(lv:Value)(W:World):Prop where
 hst:Hid (({s with A:=A}:St)=st)
 nd:Nd N B g' st TL W
 up:Up B (Ft N g s) (Ft N g' st) w W
 tt:Hid (g'.x.T=g.x.T)
 row:W.ownsRow w.heap.size 237 2 lv tl.length (Df tl)
 lst:bE W ao L
 nf:0<L.length->Gh N g' st ao
 old:0<L.length->∀b,ao=some b->b.block<w.heap.size
 nr:∀k',lv.ownBlock=some k'->¬Ft N g' st k'
 len:tl.length<=k
 ok:∀x∈tl,0<=x.1∧x.1<4294967296∧0<=x.2∧x.2<4294967296
theorem Up.row{base e size:Nat}{F F':Nat->Prop}{v:Value}{cs:List Value}{a b:World}(u:Up B F F' a b)(h:a.ownsRow base e size v n cs)(hn:∀k,v.ownBlock=some k->¬F k)(hA:∀c:Array Value,oC (.cells c e (0,0))):b.ownsRow base e size v n cs∧∀k,v.ownBlock=some k->¬F' k:=
 ⟨bP h λk hk=>by
  obtain⟨c,hc⟩:=aS h hk;rw[hc];exact u.block k _ hc (hn k hk) (.inl (hA c)),λk hk=>by
  obtain⟨c,hc⟩:=aS h hk;exact(u.keep hc (hn k hk) (hA c)).2⟩
theorem J4.later{g:bI}{TL:List Hp.Tm}(h:J4 N B g s TL ao L w k A tl st g' lv W)(hb:Below W.heap.size W W'):J4 N B g s TL ao L w k A tl st g' lv W':=
 ⟨h.hst,h.nd.later hb,h.up.trans (.below hb),h.tt,aL h.row hb,h.lst.below hb,h.nf,h.old,h.nr,h.len,h.ok⟩
theorem J4.up1{g:bI}{TL:List Hp.Tm}(h:J4 N B g s TL ao L w k A tl st g' lv W):J4 N B g s TL ao L w (k+1) A tl st g' lv W:=
 ⟨h.hst,h.nd,h.up,h.tt,h.row,h.lst,h.nf,h.old,h.nr,Nat.le_succ_of_le h.len,h.ok⟩
theorem J4.lose{g:bI}{TL:List Hp.Tm}(h:J4 N B g s TL ao L w k A tl st g' lv W)(fr d q:Int)(hd:a_ d)(hq:a_ q):
  Calls Tryz.prog 168 #[.pointer (some ⟨g'.x.T,0,none⟩),.int .u32 fr,.agg #[.int .u32 d,.int .u32 q]] W λr w'=>r=.returned (.bool (mR A fr d))∧(∃st2 g2,J4 N B g s TL ao L w k (gT A fr d q) tl st2 g2 lv w')∧Fx (Ft N g' st) W w':=by
 have hA:st.A=A:=by rw[<-h.hst.out]
 refine(Vw h.nd fr d q hd hq).mono ?_;rintro r w' ⟨rfl,⟨g2,n2,u2,t2⟩,hf⟩;rw[hA]at n2 u2 ⊢;refine⟨rfl,⟨_,g2,?_,n2,h.up.trans u2,t2.trans h.tt.out,?_,h.lst.fx hf h.nf,?_,h.old,?_,h.len,h.ok⟩,hf⟩
 ·show _=_;rw[<-h.hst.out]
 ·exact(u2.row h.row h.nr zP).1
 ·intro hl b hb hk;rcases u2.sub _ hk with h1|⟨h1,_⟩
  ·exact h.nf hl b hb h1
  ·have h2:=h.old hl b hb;have h3:=h.up.size;omega
 ·exact(u2.row h.row h.nr zP).2
theorem J4.append{g:bI}{TL:List Hp.Tm}(h:J4 N B g s TL ao L w k A tl st g' lv W)(d q:Int){v7:Value}{w7:World}(ho:w7.ownsRow w.heap.size 237 2 v7 (tl.length+1) (Df tl++Df [(d,q)]))(hg:W.grownBy w7 lv.ownBlock)(hv:v7.ownBlock=lv.ownBlock∨v7.ownBlock=some W.heap.size)(hd:a_ d)(hq:a_ q):J4 N B g s TL ao L w (k+1) A (tl++ [(d,q)]) st g' v7 w7:=by
 have hge:∀j,lv.ownBlock=some j->w.heap.size<=j:=λj hj=>(h.row.lt j hj).1;have hs:=h.up.size;refine⟨h.hst,⟨h.nd.nn.kept λj hj=>hg.block j (h.nd.nn.lt hj) λe=>h.nr j e.symm hj,h.nd.ac.kept λj hj=>hg.block j (h.nd.ac.lt hj) λe=> ?_,h.nd.now,h.nd.bn⟩,⟨λj hj=> ?_,hg.os.trans h.up.os,hg.tape.trans h.up.tape,hg.output.trans h.up.output,dH hs hg.size,λj o hj hn hA=> ?_⟩,h.tt,?_,?_,h.nf,h.old,?_,?_,?_⟩
 ·obtain⟨c,hc⟩:=aS h.row e.symm;exact h.nd.ac.not hc (zP c) hj
 ·rcases h.up.sub j hj with h1|⟨h1,h2⟩
  ·exact .inl h1
  ·exact .inr ⟨h1,fO h2 hg.size⟩
 ·have h1:=h.up.block j o hj hn hA;exact(hg.block j (aF h1) λe=>by have:=hge j e.symm;have:=aF hj;omega).trans h1
 ·rw[Cn,dx];exact ho
 ·exact h.lst.fx (Fx.grown (S:=λj=>w.heap.size<=j) hg hge) λhl b hb=>by have:=h.old hl b hb;omega
 ·intro j hj;rcases hv with h1|h1
  ·exact h.nr j (h1.symm.trans hj)
  ·rw[h1]at hj;cases hj;exact h.nd.new (aB _)
 ·have:=h.len;simp;omega
 ·intro x hx;rcases dG.1 hx with h1|h1
  ·exact h.ok x h1
  ·cases dO.1 h1;unfold a_ at hd hq;exact⟨hd.1,by have:=hd.2;omega,hq.1,by have:=hq.2;omega⟩
theorem Dl{base:Nat}(h:W.ownsRow base 237 2 lv tl.length (Df tl))(ok:∀x∈tl,0<=x.1∧x.1<4294967296∧0<=x.2∧x.2<4294967296):∃ao c,lv=.slice ao tl.length c∧bE W ao tl:=by
 rcases h.2 with⟨rfl,h0⟩|⟨g,cap,cur,rfl,_⟩
 ·exact⟨none,0,by rw[h0],λj hj=>by omega⟩
 ·exact⟨some ⟨g,0,none⟩,cap,rfl,bE.ZA h ok⟩
@[reducible] def LB(N T C : Nat)(d q : Int)(W0 W : World): Prop := (W.cell? ⟨N, 7, none⟩ = some (.pointer (some ⟨T, 0, none⟩)) ∧ W.cell? ⟨C, 0, none⟩ = some (.int .u32 d) ∧ W.cell? ⟨C, 1, none⟩ = some (.int .u32 q)) ∧ Below W0.heap.size W0 W
theorem LB.of{C:Nat}{g:bI}{TL:List Hp.Tm}{d q:Int}{W0:World}(n:Nd N B g s TL W0)(hC:W0.heap[C]?=some (Ti d q))(hb:Below W0.heap.size W0 W):LB N g.x.T C d q W0 W:=by
 have h:=(hb.block C (aF hC)).trans hC;exact⟨⟨(n.later hb).nn.cr.nd.cell.2.2.2.2.1,aG W C 0 _ _ _ h,aG W C 1 _ _ _ h⟩,hb⟩
@[reducible] def LHc(N T C : Nat)(d q : Int)(W : World): Prop := W.cell? ⟨N, 7, none⟩ = some (.pointer (some ⟨T, 0, none⟩)) ∧ W.cell? ⟨C, 0, none⟩ = some (.int .u32 d) ∧ W.cell? ⟨C, 1, none⟩ = some (.int .u32 q)
theorem DT(h:k<n):n - (intOf (.int .i64 ((k:Int)+1))).toNat<n - (intOf (.int .i64 (k:Int))).toNat:=by
 show n - ((k:Int)+1).toNat<n - (k:Int).toNat;omega
theorem LM{g:bI}{TL:List Hp.Tm}(n:Nd N B g s TL w)(fr:Int)(_hfrm:a_ fr)(p:aD)(hp:p.Wf)(L:List (Int×Int))(hL:fI w p L)(hap:Gh N g s p.la)(hfl:s.aI.length<=1000000)(hdl:s.aQ.length<=1000000):
  Calls Tryz.prog 132 #[.pointer (some ⟨N,0,none⟩),.pointer (some ⟨B,0,none⟩),.int .u32 fr,p.val] w λe w'=>e=.returned (.tuple #[])∧lV N B g s (s.fC fr L) TL w w':=by
 obtain⟨i0,hi,hz0,hz1,hz2⟩:=info_parts Nq;have hb0:Below w.heap.size w (w.alloc p.box):=bC;have gX:=PB.new p w;have n0:=n.later hb0;obtain⟨s2,dB⟩:∃s2,s.fC fr L=s2:=⟨_,rfl⟩;rw[dB];replace dB:=hide dB;have hln:L.length=p.ln:=hL.1;have PK:=hp.ln1;have hI0:J4 N B g s TL p.la L w 0 s.A [] s g (.slice none 0 0) (w.alloc p.box):=
  ⟨rfl,n0,.below hb0,rfl,⟨rfl,.inl ⟨rfl,rfl⟩⟩,(show bE w p.la L from hL.2).below hb0,λ_=>hap,λhl b hb=>(by obtain⟨_,_,_,_,e1,e2,_⟩:=hL.2 0 hl;rw[hb]at e1;cases e1;exact e2),λk hk=>(by cases hk),aB _,λx hx=>(by cases hx)⟩
 dsimp only[aD.box]at hb0 n0 hI0;unfold PB at gX;dsimp only[aD.box]at gX;go_enter Tryz.func132,Tryz.ntmps132;go_upto_region 3 with(fail);generalize World.alloc _ _=W1 at hb0 gX n0 hI0 ⊢;obtain⟨p0,p1,p2,p3,p4,p5,p6,p7,p8,p9,jK,jE⟩:=PB.cell gX;replace hln:=hide hln;go_wp2_with fail;clear p0 p1 p2 p3 p4 p5 p6 p7 p8 p9 jK jE n0;go_loopw [8,9,16] (λev lv i wr=>∃(k:Nat) (z:List Rt×Bool×List (Int×Int)) (st:St) (g':bI),k<=p.ln∧i=.int .i64 k∧ev=.bool z.2.1∧Hid (z=(L.take k).foldl (St.Ff fr) (s.A,false,[]))∧J4 N B g s TL p.la L w k z.1 z.2.2 st g' lv wr) (λ_ _ i _=>p.ln - (intOf i).toNat)
 case atStart=>exact⟨0,(s.A,false,[]),s,g,b_ _,rfl,rfl,rfl,hI0⟩
 case round=>
  clear hI0;obtain⟨k,z,st,g',hk,rfl,rfl,hz,hI⟩:=hrel;by_cases hlt:k<p.ln
  ·have hkL:k<L.length:=by rw[hln.out];exact hlt
   generalize p.la=la at hI ⊢;obtain⟨lb,lo,d,q,rfl,hlb,hds,hd0,hd1,hq0,hq1,hcd,hcq⟩:=hI.lst k hkL;have hb1:Below wr.heap.size wr (wr.alloc (.cells #[.int .u32 d,.int .u32 q] 237)):=bC;have hI1:=hI.later hb1;have rG:=bS wr (.cells #[.int .u32 d,.int .u32 q] 237);have kK:=hI.nd.new (k:=wr.heap.size) (aB _);replace hds:=hide hds;replace hkL:=hide hkL;replace hI:=hide hI;go_wp2_with fail;generalize World.alloc _ _=W1 at hb1 hI1 rG ⊢;generalize lZ:wr.heap.size=C at rG kK ⊢;replace lZ:=hide lZ;obtain⟨us,hus⟩:∃b,yw st.A d=b:=⟨_,rfl⟩;obtain⟨bl,hbl⟩:∃b,mR z.1 fr d=b:=⟨_,rfl⟩;have hd:a_ d:=⟨hd0,by omega⟩;have hq:a_ q:=⟨hq0,by omega⟩;have hS:LB N g'.x.T C d q W1 W1.drew:=LB.of hI1.nd rG (aU _ _).drew;have hU:Hid (∀W5,Below W1.heap.size W1 W5->Calls Tryz.prog 167 #[.pointer (some ⟨g'.x.T,0,none⟩),.int .u32 d] W5 λe w'=>e=.returned (.bool us)∧w'=W5):=λW5 h5=>by rw[<-hus];exact acv (hI1.nd.later h5) d hd
   have hus:=hide hus;have hI2:=hI1.later ((aU _ _).drew:Below W1.heap.size W1 W1.drew);have hC2:W1.drew.heap[C]?=some (Ti d q):=rG;clear hcd hcq;go_region_held3 (LB N g'.x.T C d q W1) (first|with_reducible exact hS|with_reducible assumption) ((go_at_call 167;refine(hU.out _ (And.right (by assumption))).mono ?_;rintro e w2 ⟨rfl,rfl⟩))
   rename_i iV;clear iV hS hU hI1 rG hb1;generalize World.drew _=W2 at hI2 hC2 ⊢;have ad7:¬Ft N g' st C:=kK;have hS2:LHc N g'.x.T C d q W2.drew:=(LB.of hI2.nd hC2 (aU _ _).drew).1;have hW:Hid (Calls Tryz.prog 168 #[.pointer (some ⟨g'.x.T,0,none⟩),.int .u32 fr,.agg #[.int .u32 d,.int .u32 q]] W2.drew λr w'=>r=.returned (.bool bl)∧(∃st2 g2,J4 N B g s TL (some ⟨lb,lo,none⟩) L w k (gT z.1 fr d q) z.2.2 st2 g2 u9 w')∧w'.heap[C]?=some (Ti d q)∧LHc N g'.x.T C d q w'):=by
    rw[<-hbl];refine((hI2.later (aU _ _).drew).lose fr d q hd hq).mono ?_;rintro r w' ⟨rfl,⟨st2,g2,h1⟩,h2⟩;have h6:=(h2.block C (aF hC2) ad7).trans hC2;refine⟨rfl,⟨st2,g2,h1⟩,h6,?_⟩;have h7:=h1.nd.nn.cr.nd.cell.2.2.2.2.1;rw[h1.tt.out,<-hI2.tt.out]at h7;exact⟨h7,aG w' C 0 _ _ _ h6,aG w' C 1 _ _ _ h6⟩
   have hwk:wrap64 ((k:Int)+1)=(k:Int)+1:=by unfold wrap64;omega
   have hzn:Hid ((L.take (k+1)).foldl (St.Ff fr) (s.A,false,[])=St.Ff fr z (d,q)):=by
    show _=_;have hkl:=hkL.out;rw[List.take_add_one,hds.out,List.foldl_append,hz.out];rfl
   have hasc:Asc z.1:=by
    have:=hI2.nd.nn.cr.tb.y_;rw[<-hI2.hst.out]at this;exact this
   have hA:Hid (st.A=z.1):=by
    show _=_;rw[<-hI2.hst.out]
   have Bj:Hid (p.ln - (intOf (.int .i64 ((k:Int)+1))).toNat<p.ln - (intOf (.int .i64 (k:Int))).toNat):=DT hlt;have hn1:k+1<=p.ln:=hlt;clear hz hk hlt hds hkL hI hI2 hC2 ad7 kK hlb;go_wp2_with fail;cases bl
   ·rw[Tn hasc hbl]at hW;have hzz:Hid (St.Ff fr z (d,q)=z):=by
     show _=_;unfold St.Ff;rw[hbl];rfl
    rw[hzz.out]at hzn;replace hbl:=hide hbl;go_region_held3 (LHc N g'.x.T C d q) (first|with_reducible exact hS2|with_reducible assumption) ((go_at_call 168;refine hW.out.mono ?_;rintro r w3 ⟨rfl,⟨st2,g2,h3⟩,h4,h5⟩))
    rename_i iV;clear iV h5 h4 hS2 hW;have hfin:=h3.up1;replace hfin:=hide hfin;clear h3;go_wp2;exact⟨⟨k+1,z,st2,g2,hn1,by go_num,rfl,hide hzn.out.symm,hfin.out⟩,Bj.out⟩
   ·have hzz:Hid (St.Ff fr z (d,q)=(gT z.1 fr d q,true,if us then z.2.2++ [(d,eT (gT z.1 fr d q) d)]else z.2.2)):=by
     show _=_;have h1:yw z.1 d=us:=by
      have:=hus.out;rw[hA.out]at this;exact this
     rw[<-h1];unfold St.Ff;rw[hbl];rfl
    rw[hzz.out]at hzn;replace hbl:=hide hbl;clear hzz;go_region_held3 (LHc N g'.x.T C d q) (first|with_reducible exact hS2|with_reducible assumption) ((go_at_call 168;refine hW.out.mono ?_;rintro r w3 ⟨rfl,⟨st2,g2,h3⟩,h4,h5⟩))
    rename_i iV;clear iV hS2 hW;cases us
    ·clear h5 h4;have hfin:=h3.up1;replace hfin:=hide hfin;clear h3;go_wp2;exact⟨⟨k+1,_,st2,g2,hn1,by go_num,rfl,hide hzn.out.symm,hfin.out⟩,Bj.out⟩
    ·obtain⟨c0,c1⟩:=h5.2;have hNL:=DR N g2.x h3.nd.nn.cr d hd;rw[show st2.A=gT z.1 fr d q by rw[<-h3.hst.out]]at hNL;obtain⟨nq,hnq⟩:∃v,eT (gT z.1 fr d q) d=v:=⟨_,rfl⟩;rw[hnq]at hNL;rw[aM rfl,hnq]at hzn;have afb:a_ nq:=by
      rw[<-hnq];unfold eT;cases hl:aK (gT z.1 fr d q) d with
      |none=>exact⟨by simp,by simp⟩
      |some y=>
       have h1:=h3.nd.nn.cr.tb.ok y;rw[show st2.A=gT z.1 fr d q by rw[<-h3.hst.out]]at h1;exact(h1 (bU hl).1).seq
     replace hnq:=hide hnq;replace hNL:=hide hNL;replace h3:=hide h3;clear h4 h5 c1;go_wp2_with fail;refine hNL.out.mono ?_;rintro e w4 ⟨rfl,hb4⟩;have h9:=(h3.out.later hb4).later ((aU _ _).alloc (aB _) (.cells #[.int .u32 d,.int .u32 nq] 237));have hrw:=hide h9.row;have hk1:Hid (z.2.2.length+1<=maxLen):=by
      have:=h9.len;unfold maxLen;show _<=_;omega
     have hk2:Hid ((z.2.2.length+1)* 8<=140737488355328):=by
      have:=h9.len;show _<=_;omega
     have hbs:Hid (w.heap.size<=(w4.alloc (.cells #[.int .u32 d,.int .u32 nq] 237)).heap.size):=h9.up.size;have hfin:Hid (∀v7 w7,w7.ownsRow w.heap.size 237 2 v7 (z.2.2.length+1) (Df z.2.2++Df [(d,nq)])->(w4.alloc (.cells #[.int .u32 d,.int .u32 nq] 237)).grownBy w7 u9.ownBlock->(v7.ownBlock=u9.ownBlock∨v7.ownBlock=some (w4.alloc (.cells #[.int .u32 d,.int .u32 nq] 237)).heap.size)->J4 N B g s TL (some ⟨lb,lo,none⟩) L w (k+1) (gT z.1 fr d q) (z.2.2++ [(d,nq)]) st2 g2 v7 w7):=λv7 w7 a1 a2 a3=>h9.append d nq a1 a2 a3 hd afb;clear h3 hNL hb4 c0 h9;go_wp2_with(at_builtin;refine wpList_append_own_at _ rfl _ _ 71 rfl w.heap.size 237 i0 (.agg #[.int .u32 0,.int .u32 0]) 2 8 Tryz.underlying71 hi hz0 hz1 hz2 rfl (by decide) u9 z.2.2.length (Df z.2.2) rfl hrw.out ⟨w4.heap.size,0,none⟩ 1 1 (Df [(d,nq)]) rfl rfl (Jw w4 d nq) (SB d nq) hk1.out hk2.out hbs.out ?_);intro v7 w7 iy gW _ hv7;have pX:=hide (hfin.out v7 w7 iy gW (by rw[World.size_alloc];exact hv7));clear iy gW hv7 hfin hrw hbs;go_wp2;exact⟨⟨k+1,_,st2,g2,hn1,by go_num,rfl,hide hzn.out.symm,pX.out⟩,Bj.out⟩
  ·obtain rfl:k=p.ln:=by omega
   have hzL:Hid (L.foldl (St.Ff fr) (s.A,false,[])=z):=by
    show _=_;rw[hz.out,<-hln.out,List.take_length]
   have hst:=hI.hst;obtain⟨zA,ze,zt⟩:=z;clear hz hk hlt;have hse:Hid (s2=(if ze then st else st.drop 7).lose 0 zt):=by
    show _=_;rw[<-dB.out];unfold St.fC;rw[hzL.out];dsimp only;rw[hst.out]
   have I5:Hid (st.aI.length<=1000000):=by
    show _<=_;rw[<-hst.out];exact hfl
   have aft:Hid (st.aQ.length<=1000000):=by
    show _<=_;rw[<-hst.out];exact hdl
   have hLo:Hid (∀st' g2 W,Nd N B g2 st' TL W->W.ownsRow w.heap.size 237 2 u9 zt.length (Df zt)->st'.aI.length<=1000000->Calls Tryz.prog 137 #[.pointer (some ⟨B,0,none⟩),.int .u32 0,u9] W λe w'=>e=.returned (.tuple #[])∧lV N B g2 st' (st'.lose 0 zt) TL W w'):=by
    intro st' g2 W h1 h2 h3;obtain⟨ao,c,h4,h5⟩:=Dl h2 hI.ok;have h6:zt.length<=65536:=dH hI.len PK;rw[h4];exact Vx h1 0 ao c zt h6 h5 h3
   have hu:=hide hI.up;have ht:=hide hI.tt.out;have hn:=hide hI.nd;have hr:=hide hI.row;have hrn:=hide hI.nr;clear hI hst hzL dB;cases ze
   ·replace hse:Hid (s2=(st.drop 7).lose 0 zt):=hse;go_wp2_with fail;refine(jA hn.out 7 aft.out).mono ?_;rintro e w4 ⟨rfl,g4,n4,u4,t4⟩;have hr4:=(u4.row hr.out hrn.out zP).1;have hL4:=hide (hLo.out _ g4 w4 n4 hr4 I5.out);have V5:=hide (hu.out.trans u4);have ht4:=hide (t4.trans ht.out);clear hr4 u4 t4 n4;go_wp2_with fail;refine hL4.out.mono ?_;rintro e w5 ⟨rfl,g5,n5,u5,t5⟩;have hfin:Hid (lV N B g s s2 TL w w5):=by
     show lV N B g s s2 TL w w5;rw[hse.out];exact⟨g5,n5,V5.out.trans u5,t5.trans ht4.out⟩
    clear n5 u5 t5;go_wp2;go_returns;exact⟨rfl,hfin.out⟩
   ·replace hse:Hid (s2=st.lose 0 zt):=hse;have hL4:=hide (hLo.out _ g' wr hn.out hr.out I5.out);go_wp2_with fail;refine hL4.out.mono ?_;rintro e w5 ⟨rfl,g5,n5,u5,t5⟩;have hfin:Hid (lV N B g s s2 TL w w5):=by
     show lV N B g s s2 TL w w5;rw[hse.out];exact⟨g5,n5,hu.out.trans u5,t5.trans ht.out⟩
    clear n5 u5 t5;go_wp2;go_returns;exact⟨rfl,hfin.out⟩
variable{ld:Int}{B N T:Nat}{o:Obj}{s:St}{W W0 w:World}
@[reducible] def HN(N B T : Nat)(me ld now : Int)(W : World): Prop := W.cell? ⟨N, 2, none⟩ = some (.int .u32 me) ∧ W.cell? ⟨N, 6, none⟩ = some (.int .u32 ld) ∧ W.cell? ⟨N, 7, none⟩ = some (.pointer (some ⟨T, 0, none⟩)) ∧ W.cell? ⟨B, 0, none⟩ = some (.int .u64 now)
@[reducible] def HO(N B T : Nat)(me ld now : Int)(W0 W : World): Prop := HN N B T me ld now W ∧ Below W0.heap.size W0 W
theorem HN.of{g:bI}{TL:List Hp.Tm}(n:Nd N B g s TL W):HN N B g.x.T s.me s.eG s.now W:=by
 have h:=n.nn.cr.nd.more.2.1;rw[n.nn.eq.eG]at h;exact⟨n.cell.1,h,n.cell.2.2.2.1,n.cell.2.2.2.2⟩
theorem HO.mk'{g:bI}{TL:List Hp.Tm}(n:Nd N B g s TL W0)(hb:Below W0.heap.size W0 W):HO N B g.x.T s.me s.eG s.now W0 W:=⟨HN.of (n.later hb),hb⟩
theorem HO.kG{me now:Int}(hk:Hid (∀W5,Below W0.heap.size W0 W5->HO N B T me ld now W0 W5))(h:Below W0.heap.size W0 W):HO N B T me ld now W0 (W.alloc o):=hk.out _ (h.alloc h.size _)
theorem HO.eX{me now:Int}(hk:Hid (∀W5,Below W0.heap.size W0 W5->HO N B T me ld now W0 W5)):HO N B T me ld now W0 (W0.alloc o).drew:=hk.out _ (bC).drew
theorem HO.vP{me now:Int}{v0 v1 v2 v3 v4 v5 v6:Value}(hk:Hid (∀W5,Below W0.heap.size W0 W5->HO N B T me ld now W0 W5))(h:Below W0.heap.size W0 W):HO N B T me ld now W0 (((((((W.setCell ⟨W0.heap.size,0,none⟩ v0).setCell ⟨W0.heap.size,1,none⟩ v1).setCell ⟨W0.heap.size,2,none⟩ v2).setCell ⟨W0.heap.size,3,none⟩ v3).setCell ⟨W0.heap.size,4,none⟩ v4).setCell ⟨W0.heap.size,5,none⟩ v5).setCell ⟨W0.heap.size,6,none⟩ v6):=hk.out _ (uI h (aB _) _ _ _ _ _ _ _)
theorem HN.next{g g':bI}{s':St}{dW:List Hp.Tm}(n:Nd N B g' s' dW W)(t:g'.x.T=g.x.T)(h1:s'.me=s.me)(h2:s'.eG=s.eG)(h3:s'.now=s.now):HN N B g.x.T s.me s.eG s.now W:=by
 have:=HN.of n;rw[t,h1,h2,h3]at this;exact this
@[reducible] def HNE(N B T E : Nat)(me ld now nx : Int)(W : World): Prop := HN N B T me ld now W ∧ W.cell? ⟨E, 3, none⟩ = some (.int .u32 nx)
theorem YX{i d me:Int}{t:ByteArray}(hi:a_ i)(hd:a_ d)(hm:a_ me)(ht:t.size<=16):(St.C8 i d me t).Wf:=by
 unfold a_ at hi hd hm;constructor<;>(dsimp only[St.C8];omega)
def JE(N B:Nat)(g:bI)(s s':St)(dW:List Hp.Tm)(w w':World):Prop:=∃g',Nd N B g' s' dW w'∧Up B (Ft N g s) (Ft N g' s') w w'∧Hid (g'.x.T=g.x.T)∧Hid (g'.h=g.h∧g'.u=g.u)
theorem JE.refl{g:bI}{TL:List Hp.Tm}{w':World}(n:Nd N B g s TL w)(hb:Below w.heap.size w w'):JE N B g s s TL w w':=⟨g,n.later hb,.below hb,rfl,⟨rfl,rfl⟩⟩
theorem Og{g:bI}{TL:List Hp.Tm}(n:Nd N B g s TL w)(t:Int)(p:aD)(hp:p.Wf)(L:List (Int×Int))(hL:fI w p L)(hd:s.aI.length<=1000000):
  Calls Tryz.prog 80 #[.pointer (some ⟨B,0,none⟩),.int .u32 t,p.val] w λe w'=>e=.returned (.tuple #[])∧JE N B g s (s.send t p L) TL w w':=by
 refine(Ap B (B+1) g.a s.bg s.aI s.aR s.aQ t p hp L w n.ac n.base hd hL).mono ?_;rintro e w' ⟨v7,rfl,h1,h2⟩;obtain⟨p,q⟩:=n.act (s':=s.send t p L) h1 h2 (t_ s t p L) n.now n.bn;exact⟨rfl,_,p,q,rfl,rfl,rfl⟩
theorem acw{g:bI}{TL:List Hp.Tm}(n:Nd N B g s TL w)(d e:Int)(hd:a_ d)(he:BZ e):
  Calls Tryz.prog 81 #[.pointer (some ⟨g.x.T,0,none⟩),.int .u32 d,.int .u64 e] w λr w'=>r=.returned (.tuple #[])∧JE N B g s {s with A:=iO s.A d e} TL w w':=by
 refine(N9 s.me g.x.T _ s.A d e hd he w n.tab).mono ?_;rintro r w' ⟨rfl,h1,h2⟩;obtain⟨M',UL,xR,p,q⟩:=n.table (h1.ext _ _) h2;exact⟨rfl,_,p,q,rfl,rfl,rfl⟩
theorem Cj{g:bI}{TL:List Hp.Tm}(n:Nd N B g s TL w)(d:Int)(hd:a_ d)(t:ByteArray)(ht:t.size<=16)(hme:a_ s.me)(fK:0<=s.now∧s.now<=4611686018427387904)(hfl:s.aI.length<=1000000):
  Calls Tryz.prog 53 #[.pointer (some ⟨N,0,none⟩),.pointer (some ⟨B,0,none⟩),.int .u32 d,.string t] w λe w'=>e=.returned (.bool (bH s.A d s.now).2)∧JE N B g s (s.aN d t) TL w w':=by
 obtain⟨⟨y,fd⟩,hy⟩:∃r,bH s.A d s.now=r:=⟨_,rfl⟩;obtain⟨s2,dB⟩:∃s2,s.aN d t=s2:=⟨_,rfl⟩;rw[dB,hy];unfold St.aN at dB;rw[hy]at dB;dsimp only at dB ⊢;have hs2:=hide dB;have HF:=hide (nS n d s.now hd hy);clear dB;replace hy:=hide hy;go_enter Tryz.func53,Tryz.ntmps53;go_upto_region 1 with(fail);go_cut [9,10]from 11 to 24 (og y fd w)
 case first=>
  have hS:HO N B g.x.T s.me s.eG s.now w w.drew:=HO.mk' n (aU _ _).drew;have hkB:=hide λW5 h5=>HO.mk' (W:=W5) n h5;go_region_held3 (HO N B g.x.T s.me s.eG s.now w) (first|with_reducible exact hS|with_reducible assumption|(with_reducible apply HO.vP hkB;assumption)|(with_reducible apply HO.kG hkB;assumption)|(with_reducible apply HO.eX hkB)|(with_reducible apply hkB.out;assumption)) ((go_at_call 79;refine(HF.out _ (And.right (by assumption))).mono ?_;rintro e w2 ⟨ao,c,rfl,hb2,hpr⟩;try ((with_reducible have hD:=hpr di (.slice none 0 0) (lG w));obtain⟨d0,d1,d2,d3,d4,d5,d6⟩:=hD.cell;have q0:=hD.free 0;have q1:=hD.free 1;have q2:=hD.free 2;have q3:=hD.free 3;have q4:=hD.free 4;have q5:=hD.free 5;have q6:=hD.free 6;have hD':Hid (eu w.heap.size di (.slice none 0 0) w2):=hD;clear hD);clear hpr))
  all_goals
   go_wp2_with fail;go_meet;first|with_reducible exact iB hb2|with_reducible exact j3 hb2 hD'
 case rest=>
  obtain⟨E,ao,c,rfl,rfl,hE,hEl,hb2⟩:=hcut;have Yx:¬Ft N g s E:=n.new hEl;have ru:fd=true->a_ y.next:=λh=>by
   have:=oN n.nn.cr.tb.ok d s.now;rw[hy.out]at this;rcases this with h1|h1
   ·exact h1.next
   ·rw[h]at h1;cases h1
  have n2:=n.later hb2;clear HF;cases fd
  ·have hs3:Hid (s=s2):=hs2;have hfin:Hid (JE N B g s s2 TL w wc):=by
    show JE N B g s s2 TL w wc;rw[<-hs3.out];exact JE.refl n hb2
   clear hs2 hE n2;go_wp2_with fail;go_returns;exact⟨rfl,hfin.out⟩
  ·have hyn:=ru rfl;rw[aM rfl]at hs2;obtain⟨c2,c6,c7,c0⟩:=HN.of n2;have f6:=n2.nn.cr.nd.free 6;go_upto_region 5 with(fail);have adz:a_ ((s.eG+1)%4294967296):=by unfold a_;omega
   generalize (s.eG+1)%4294967296=nl at hs2 adz ⊢;have hg1:wc.grownBy (wc.setCell ⟨N,6,none⟩ (.int .u32 nl)) (some N):=ah (aC _ (some N)) 6 _;obtain⟨e1,e2,e3,e4,e5,e6,e7,e8,e9⟩:=n2.nn.eq;obtain⟨n3,u3⟩:=n2.cells (s':={s with eG:=nl}) (n2.nn.cr.nd.Xh nl) (Fx.grown hg1 λk e=>by cases e;rfl) ⟨e1,e2,e3,e4,rfl,e6,e7,e8,e9⟩ ⟨rfl,rfl,rfl,rfl,rfl,rfl⟩ ⟨rfl,rfl,rfl,rfl,rfl,rfl,rfl,rfl,rfl⟩ ⟨rfl,rfl,rfl,rfl,rfl⟩;obtain⟨hE3,UA⟩:=u3.keepR hE Yx;have Q7:=(Up.below (B:=B) (F:=Ft N g s) hb2).trans u3;have t3:({g with x:={g.x with eG:=nl}}:bI).x.T=g.x.T:=rfl;have v3:({g with x:={g.x with eG:=nl}}:bI).h=g.h∧({g with x:={g.x with eG:=nl}}:bI).u=g.u:=⟨rfl,rfl⟩;generalize ({g with x:={g.x with eG:=nl}}:bI)=g3 at n3 Q7 UA t3 v3;replace t3:=hide t3;replace v3:=hide v3;obtain⟨s3,hs3⟩:∃z,({s with eG:=nl}:St)=z:=⟨_,rfl⟩;have h3:Hid (s3.now=s.now∧s3.me=s.me∧s3.eG=nl∧s3.aI=s.aI∧ {s3.send y.next (St.C8 nl d s3.me t) []with A:=iO (s3.send y.next (St.C8 nl d s3.me t) []).A d ((s3.send y.next (St.C8 nl d s3.me t) []).now+3000)}=s2):=by
    show _∧_;rw[<-hs3];exact⟨rfl,rfl,rfl,rfl,hs2.out⟩
   rw[hs3]at n3 Q7 UA;have Ue:a_ s3.me:=by rw[h3.out.2.1];exact hme
   have yM:0<=s3.now∧s3.now<=4611686018427387904:=by rw[h3.out.1];exact fK
   have hS0:=HN.of n3.drew;rw[h3.out.2.2.1]at hS0;clear hs3 u3 n2 hE hb2 hs2 c2 c6 c7 c0 f6 e1 e2 e3 e4 e5 e6 e7 e8 e9 hg1 ru Yx;generalize World.setCell _ _ _=W3 at n3 Q7 hE3 hS0 ⊢;have HS:=hide (Og n3.drew y.next (St.C8 nl d s3.me t) (YX adz hd Ue ht) [] ⟨rfl,λj hj=>by simp at hj⟩ (by rw[h3.out.2.2.2.1];exact hfl));obtain⟨s4,hs4⟩:∃z,s3.send y.next (St.C8 nl d s3.me t) []=z:=⟨_,rfl⟩;have h4:Hid (s4.now=s3.now∧s4.me=s3.me∧s4.eG=nl∧ {s4 with A:=iO s4.A d (s4.now+3000)}=s2):=by
    show _∧_;have:=h3.out.2.2.2.2;rw[hs4]at this;refine⟨?_,?_,?_,this⟩
    ·rw[<-hs4];rfl
    ·rw[<-hs4];rfl
    ·rw[<-hs4];exact h3.out.2.2.1
   rw[hs4]at HS;clear hs4;dsimp only[aD.val,St.C8]at HS;have hS:HNE N B g3.x.T E s3.me nl s3.now y.next W3.drew:=⟨hS0,hE3.cell.2.2.2.1⟩;have KY:eu E y (.slice ao y.bN.length c) W3.drew:=hE3;clear hS0;go_region_held3 (HNE N B g3.x.T E s3.me nl s3.now y.next) (first|with_reducible exact hS|with_reducible assumption) ((go_at_call 80;refine HS.out.mono ?_;rintro e w4 ⟨rfl,hN⟩;obtain⟨g4,n4,u4,t4,v4⟩:=hN;obtain⟨Wh,afU⟩:=u4.keepR KY UA;have hk4:HNE N B g3.x.T E s3.me nl s3.now y.next w4:=⟨by have h9:=HN.next (s:=s4) n4 t4.out rfl rfl rfl;rw[h4.out.1,h4.out.2.1,h4.out.2.2.1]at h9;exact h9,Wh.cell.2.2.2.1⟩))
   rename_i iV;clear iV hk4 hS;have qf:=(Q7.trans (.below (aU _ _).drew)).trans u4;have hn4:0<=s4.now∧s4.now<=4611686018427387904:=by rw[h4.out.1];exact yM
   have HV:Hid (∀t,t=s4.now+3000->Calls Tryz.prog 81 #[.pointer (some ⟨g4.x.T,0,none⟩),.int .u32 d,.int .u64 t] w4.drew λr w'=>r=.returned (.tuple #[])∧JE N B g4 s4 s2 TL w4.drew w'):=by
    rintro _ rfl;have:=acw n4.drew d (s4.now+3000) hd (by unfold BZ;omega);rw[h4.out.2.2.2]at this;exact this
   have hsm:Hid (s2.me=s4.me∧s2.eG=s4.eG∧s2.now=s4.now):=by
    show _∧_;rw[<-h4.out.2.2.2];exact⟨rfl,rfl,rfl⟩
   have hS:HN N B g4.x.T s4.me s4.eG s4.now w4.drew:=HN.of n4.drew;clear HS h3 n3 u4 hE3 KY Wh h4 Q7;go_wp2_with fail;go_region_held3 (HN N B g4.x.T s4.me s4.eG s4.now) (first|with_reducible exact hS|with_reducible assumption) ((go_at_call 81;refine(HV.out _ (by first|rfl|exact mK hn4 (by decide))).mono ?_;rintro e w9 ⟨rfl,hN⟩;obtain⟨g9,n9,u9,t9,v9⟩:=hN;have hk9:HN N B g4.x.T s4.me s4.eG s4.now w9:=HN.next n9 t9.out hsm.out.1 hsm.out.2.1 hsm.out.2.2))
   rename_i iV;clear iV hS hk9;have wT:=(qf.trans (.below (aU _ _).drew)).trans u9;have hfin:Hid (JE N B g s s2 TL w w9):=⟨g9,n9,wT,t9.out.trans (t4.out.trans t3.out),v9.out.1.trans (v4.out.1.trans v3.out.1),v9.out.2.trans (v4.out.2.trans v3.out.2)⟩;clear wT u9 n9 qf n4;go_wp2;go_returns;exact⟨rfl,hfin.out⟩
variable{Q:List Sr}
theorem UK(hn:Q.Pairwise λa b=>a.dest≠b.dest){q:Sr}(hq:q∈Q):(Q.filter λz=>!decide (z.dest=q.dest)).length=Q.length - 1:=by
 induction Q with
 |nil=>cases hq
 |cons a Q ih=>
  rw[List.pairwise_cons]at hn;rcases eD.1 hq with rfl|h
  ·have h1:Q.filter (λz=>!decide (z.dest=q.dest))=Q:=List.filter_eq_self.2 λz hz=>by simpa using(hn.1 z hz).symm
   simp[h1]
  ·have h1:=ih hn.2 h;have h2:a.dest≠q.dest:=hn.1 q h;have h3:0<Q.length:=List.length_pos_of_mem h;rw[List.filter_cons_of_pos (by simpa using h2)];simp only[dY];omega
theorem VA{N B:Nat}{g:bI}{s:St}{TL:List Hp.Tm}{w:World}(n:Nd N B g s TL w)(k:Int)(hk:oW k)(hl:TL.length<=1000000):
  Calls Tryz.prog 150 #[.pointer (some ⟨g.x.Tm,0,none⟩),.int .i64 k] w λe w'=>∃b h' v' dW,e=.returned (.bool b)∧Nd N B {g with hp:=h',tv:=v'} s dW w'∧Up B (Ft N g s) (Ft N {g with hp:=h',tv:=v'} s) w w'∧((∃x,x.2.1=k∧(x::dW).Perm TL)∨((∀x∈TL,x.2.1≠k)∧dW=TL)):=by
 have hr:=n.nn.rs;refine(L8 0 g.x.Tm g.Mt s.tl g.hp g.tv w hr.tm (by rw[hr.pm.length_eq];exact hl) hr.hpo k hk).mono ?_;rintro e w' ⟨h',v',h1,h2,h3,h4,h5⟩;have hnd:=n.nn.qY;simp only[List.nodup_cons,eD,List.not_mem_nil,or_false,not_or]at hnd;obtain⟨_,_,⟨d1,d2⟩,d3,_⟩:=hnd;have hin:∀k,k=g.x.Tm∨k=g.Mt∨g.tv.ownBlock=some k->kg g.x g.h g.u g.Mt g.tv s k:=λk hk=> .inr (.inr (hk.elim .inl λh=> .inr (h.elim .inl λh=> .inr (.inl h))));have hf:Fx (λk=>k=g.x.Tm∨k=g.Mt∨g.tv.ownBlock=some k) w w':=⟨h2.os,h2.tape,h2.output,h2.size,λk hk hn=>h2.block k hk (λe=>hn (.inl e)) (λe=>hn (.inr (.inl e))) (λe=>hn (.inr (.inr e.symm)))⟩;have hne:∀ {k:Nat} {o:Obj},w.heap[k]?=some o->k≠g.Mt->(∀c,o≠ .cells c 165 (0,0))->(∀c,o≠ .cells c 254 (0,0))->w'.heap[k]?=w.heap[k]?:=by
  intro k o ho hk c1 c2;refine hf.block k (aF ho) ?_;rintro(rfl|h|h)
  ·rw[show w.heap[g.x.Tm]?=_ from hr.tm.blk]at ho;exact c1 _ (Option.some.inj ho).symm
  ·exact hk h
  ·obtain⟨c,hc⟩:=aS hr.tm.row h;rw[hc]at ho;exact c2 _ (Option.some.inj ho).symm
 have hN:w'.heap[N]?=w.heap[N]?:=hne (n.nn.cr.nd) (λe=>by
  obtain⟨f,p1,_⟩:=hr.tm.map;obtain⟨es,cl,hm⟩:=p1.obj;rw[<-e,show w.heap[N]?=_ from n.nn.cr.nd]at hm;cases hm) (λc e=>by cases e) (λc e=>by cases e)
 have hS:yh g.x.qK g.h g.u s.Q w':=hr.sr.kept λk hk=>by
  obtain⟨o,ho,⟨rfl,_,_,rfl⟩|⟨c,rfl⟩|⟨c,rfl⟩⟩:=hr.sr.kind hk
  ·exact hne ho d3 (λc e=>by cases e) (λc e=>by cases e)
  ·refine hne ho ?_ (λc e=>by cases e) (λc e=>by cases e);rintro rfl;obtain⟨f,p1,_⟩:=hr.tm.map;obtain⟨es,cl,hm⟩:=p1.obj;rw[hm]at ho;cases ho
  ·refine hne ho ?_ (λc e=>by cases e) (λc e=>by cases e);rintro rfl;obtain⟨f,p1,_⟩:=hr.tm.map;obtain⟨es,cl,hm⟩:=p1.obj;rw[hm]at ho;cases ho
 have hM:yo g.x.Ms s.tn s.mem w':=hr.sn.block (by
  obtain⟨es,cl,hm⟩:=hr.sn.obj;exact hne hm d2 (λc e=>by cases e) (λc e=>by cases e))
 have hP:=bP (W':=w') hr.pc λk hk=>(by
  obtain⟨c,hc⟩:=aS hr.pc hk;refine hne hc ?_ (λc e=>by cases e) (λc e=>by cases e);rintro rfl;obtain⟨f,p1,_⟩:=hr.tm.map;obtain⟨es,cl,hm⟩:=p1.obj;rw[hm]at hc;cases hc)
 obtain⟨p,u⟩:=n.rest (s':=s) (dW:=h') (n.nn.cr.nd.block hN) rfl rfl n.nn.eq (h':=g.h) (u':=g.u) (Gf:=g.Mt) (hp':=h') (tv':=v')
  ⟨hM,hS,h1,h4,.refl _,hP⟩ (hf.mono λk hk=> .inr (hin k hk)) (λk hk=> .inl (by unfold kg at hk ⊢;rw[h3]at hk;exact hk)) ⟨rfl,rfl,rfl⟩ ⟨rfl,rfl,rfl,rfl,rfl,rfl,rfl,rfl,rfl⟩
 rcases h5 with⟨x,hx,rfl,hpm⟩|⟨hno,rfl,rfl⟩
 ·exact⟨true,h',v',h',rfl,p,u,.inl ⟨x,hx,hpm.trans hr.pm⟩⟩
 ·obtain⟨p2,u2⟩:=n.rest (s':=s) (dW:=TL) (n.nn.cr.nd.block hN) rfl rfl n.nn.eq (h':=g.h) (u':=g.u) (Gf:=g.Mt) (hp':=g.hp) (tv':=v')
   ⟨hM,hS,h1,h4,hr.pm,hP⟩ (hf.mono λk hk=> .inr (hin k hk)) (λk hk=> .inl (by unfold kg at hk ⊢;rw[h3]at hk;exact hk)) ⟨rfl,rfl,rfl⟩ ⟨rfl,rfl,rfl,rfl,rfl,rfl,rfl,rfl,rfl⟩
  exact⟨false,g.hp,v',TL,rfl,p2,u2,.inr ⟨λx hx=>hno x (hr.pm.mem_iff.2 hx),rfl⟩⟩
theorem yh.del{Ms:Nat}{h:Int->Option Nat}{u:Int->Value}{W W':World}(r:yh Ms h u Q W){q:Sr}(hq:q∈Q)(hm:fH W' Ms (fA h q.dest none) (Q.length - 1))(he:∀k,JB Ms h u Q k->k≠Ms->W'.heap[k]?=W.heap[k]?):yh Ms (fA h q.dest none) u (Q.filter λz=>!decide (z.dest=q.dest)) W':=by
 have V9:∀z∈Q,∀k,(h z.dest=some k∨(u z.dest).ownBlock=some k)->k≠Ms:=by
  rintro z hz k hk rfl;obtain⟨es,cl,hm0⟩:=r.map.obj;rcases hk with hk|hk
  ·obtain⟨B,h1,h2⟩:=r.ln z hz;rw[h1]at hk;cases hk;obtain⟨c,hc⟩:=h2.obj;rw[hc]at hm0;cases hm0
  ·obtain⟨c,hc⟩:=aS (r.row z hz) hk;rw[hc]at hm0;cases hm0
 have hmem:∀z,z∈Q.filter (λz=>!decide (z.dest=q.dest))->z∈Q∧z.dest≠q.dest:=λz hz=>by
  have:=List.mem_filter.1 hz;exact⟨this.1,by simpa using this.2⟩
 refine⟨by rw[UK r.qY hq];exact hm,r.qY.filter _,λz hz=>r.ok z (hmem z hz).1,λd B hd hB=> ?_,λz hz=> ?_,λz hz=> ?_,λa ha b hb=>r.apart a (hmem a ha).1 b (hmem b hb).1,dH (List.length_filter_le _ _) r.len⟩
 ·by_cases e:d=q.dest
  ·subst e;simp[fA]at hB
  ·simp[fA,e]at hB;obtain⟨z,hz,rfl⟩:=r.dom d B hd hB;exact⟨z,List.mem_filter.2 ⟨hz,by simpa using e⟩,rfl⟩
 ·obtain⟨hz1,hz2⟩:=hmem z hz;obtain⟨B,h1,h2⟩:=r.ln z hz1;exact⟨B,by simp[fA,hz2,h1],h2.block (he B (.inr ⟨z,hz1,.inl h1⟩) (V9 z hz1 B (.inl h1)))⟩
 ·obtain⟨hz1,hz2⟩:=hmem z hz;exact bP (r.row z hz1) λk hk=>he k (.inr ⟨z,hz1,.inr hk⟩) (V9 z hz1 k (.inr hk))
variable{B N:Nat}{s:St}{W w w':World}
@[reducible] def HE(N Bq Tm Ms : Nat)(id d : Int)(W : World): Prop := W.cell? ⟨N, 14, none⟩ = some (.pointer (some ⟨Tm, 0, none⟩)) ∧ W.cell? ⟨N, 13, none⟩ = some (.map (some Ms)) ∧ W.cell? ⟨Bq, 4, none⟩ = some (.int .i64 id) ∧ W.cell? ⟨Bq, 0, none⟩ = some (.int .u32 d)
def F6(k:Int)(TL dW:List Hp.Tm):Prop:=(∃x,x.2.1=k∧(x::dW).Perm TL)∨((∀x∈TL,x.2.1≠k)∧dW=TL)
theorem HE.of{g:bI}{TL:List Hp.Tm}(n:Nd N B g s TL W){q:Sr}(hq:q∈s.Q){Bq:Nat}(hB:g.h q.dest=some Bq):HE N Bq g.x.Tm g.x.qK q.id q.dest W:=by
 obtain⟨B',h1,h2⟩:=n.nn.rs.sr.ln q hq;rw[hB]at h1;cases h1;have h3:=n.nn.cr.nd.more;exact⟨h3.2.2.2.1,h3.2.2.1,h2.cell.2.2.2.2,h2.cell.1⟩
def Gv(N B:Nat)(g:bI)(s s':St)(dW:List Hp.Tm)(D:Int->Prop)(w w':World):Prop:=∃g',Nd N B g' s' dW w'∧Up B (Ft N g s) (Ft N g' s') w w'∧Hid (g'.x.T=g.x.T)∧Hid (∀z,¬D z->g'.h z=g.h z)
theorem Gv.toP{g:bI}{s':St}{dW:List Hp.Tm}{D:Int->Prop}(h:Gv N B g s s' dW D w w'):lV N B g s s' dW w w':=by
 obtain⟨g1,n1,u1,t1,_⟩:=h;exact⟨g1,n1,u1,t1⟩
theorem Gv.refl{g:bI}{TL:List Hp.Tm}{D:Int->Prop}(n:Nd N B g s TL w)(hb:Below w.heap.size w w'):Gv N B g s s TL D w w':=⟨g,n.later hb,.below hb,rfl,λ_ _=>rfl⟩
theorem Nd.af5{g:bI}{TL:List Hp.Tm}{W':World}(n:Nd N B g s TL W)(q:Sr)(hq:q∈s.Q)(hm:fH W' g.x.qK (fA g.h q.dest none) (s.Q.length - 1))(hg:W.grownBy W' (some g.x.qK)):
  Nd N B {g with h:=fA g.h q.dest none} {s with Q:=s.Q.filter λz=>!decide (z.dest=q.dest)} TL W'∧Up B (Ft N g s) (Ft N {g with h:=fA g.h q.dest none} {s with Q:=s.Q.filter λz=>!decide (z.dest=q.dest)}) W W':=by
 have hr:=n.nn.rs;obtain⟨e1,e2,e3,e4,e5,e6,e7,e8,e9⟩:=n.nn.eq;have hnd:=n.nn.qY;simp only[List.nodup_cons,eD,List.not_mem_nil,or_false,not_or]at hnd;obtain⟨_,_,⟨d1,d2⟩,d3,_⟩:=hnd;have hk:∀ {k:Nat} {o:Obj},W.heap[k]?=some o->k≠g.x.qK->W'.heap[k]?=W.heap[k]?:=λho hn=>hg.block _ (aF ho) λe=>hn (Option.some.inj e);have hno:∀ {k:Nat} {o:Obj},W.heap[k]?=some o->(∀es cl,o≠ .map es cl)->W'.heap[k]?=W.heap[k]?:=by
  intro k o ho hc;refine hk ho ?_;rintro rfl;obtain⟨es,cl,hm0⟩:=hr.sr.map.obj;rw[hm0]at ho;exact hc _ _ (Option.some.inj ho).symm
 refine n.rest (hno n.nn.cr.nd (λ_ _ e=>by cases e)|>λh=>n.nn.cr.nd.block h) rfl rfl ⟨e1,e2,e3,e4,e5,e6,e7,e8,e9⟩ (h':=fA g.h q.dest none) (u':=g.u) (Gf:=g.Mt) (hp':=g.hp) (tv':=g.tv)
  ⟨hr.sn.block ?_,hr.sr.del hq hm λk hk1 hk2=> ?_,hr.tm.at (hno hr.tm.blk λ_ _ e=>by cases e) ?_ (λk hk1=> ?_),hr.hpo,hr.pm,bP hr.pc λk hk1=> ?_⟩
  (Fx.grown hg λk e=>by cases e;exact .inr (.inr (.inl (.inl rfl)))) (λk hk1=> .inl ?_) ⟨rfl,rfl,rfl⟩ ⟨rfl,rfl,rfl,rfl,rfl,rfl,rfl,rfl,rfl⟩
 ·obtain⟨es,cl,hm0⟩:=hr.sn.obj;exact hk hm0 d1
 ·exact hg.block k (hr.sr.lt hk1) λe=>hk2 (Option.some.inj e)
 ·obtain⟨f,p1,_⟩:=hr.tm.map;exact hg.block _ p1.lt λe=>d3 (Option.some.inj e).symm
 ·obtain⟨c,hc⟩:=aS hr.tm.row hk1;exact hno hc λ_ _ e=>by cases e
 ·obtain⟨c,hc⟩:=aS hr.pc hk1;exact hno hc λ_ _ e=>by cases e
 ·rcases hk1 with h|h|h
  ·exact .inl h
  ·refine .inr (.inl ?_);rcases h with h|⟨z,hz,h⟩
   ·exact .inl h
   ·have h1:=List.mem_filter.1 hz;have h2:z.dest≠q.dest:=by simpa using h1.2
    refine .inr ⟨z,h1.1,h.imp (λh=> ?_) id⟩;simpa[fA,h2]using h
  ·exact .inr (.inr h)
theorem zh{g:bI}{TL:List Hp.Tm}(n:Nd N B g s TL w)(q:Sr)(hq:q∈s.Q)(Bq:Nat)(hB:g.h q.dest=some Bq)(hl:TL.length<=1000000):
  Calls Tryz.prog 115 #[.pointer (some ⟨N,0,none⟩),.pointer (some ⟨Bq,0,none⟩)] w λe w'=>e=.returned (.tuple #[])∧∃dW,Gv N B g s {s with Q:=s.Q.filter λz=>!decide (z.dest=q.dest)} dW (λz=>z=q.dest) w w'∧F6 q.id TL dW:=by
 have hok:=n.nn.rs.sr.ok q hq;have hS:HE N Bq g.x.Tm g.x.qK q.id q.dest w.drew:=HE.of n.drew hq hB;have HC:=hide (VA n.drew q.id (by have:=hok.id;unfold oW;omega) hl);go_enter Tryz.func115,Tryz.ntmps115;go_wp2_with fail;go_region_held3 (HE N Bq g.x.Tm g.x.qK q.id q.dest) (first|with_reducible exact hS|with_reducible assumption) ((go_at_call 150;refine HC.out.mono ?_;rintro e w2 ⟨b,h',v',dW,rfl,n2,u2,htk⟩;have hk2:HE N Bq g.x.Tm g.x.qK q.id q.dest w2:=HE.of n2 hq hB))
 rename_i iV;clear iV hk2 hS HC;have n2d:=n2.drew;have hS:HE N Bq g.x.Tm g.x.qK q.id q.dest w2.drew:=HE.of n2d hq hB;obtain⟨W',hrun,hm',hg'⟩:=n2d.nn.rs.sr.map.af4 hok.dest 0 (by rw[hB];rfl);obtain⟨n3,u3⟩:=n2d.af5 q hq hm' hg';have hS':HE N Bq g.x.Tm g.x.qK q.id q.dest W':=by
  have h3:=n3.nn.cr.nd.more;obtain⟨B',h1,h2⟩:=n2d.nn.rs.sr.ln q hq;rw[show({g with hp:=h',tv:=v'}:bI).h q.dest=some Bq from hB]at h1;cases h1;have hBq:qG Bq q (g.u q.dest) W':=h2.block (hg'.block Bq h2.lt λe=>by
   obtain⟨es,cl,hm0⟩:=n2d.nn.rs.sr.map.obj;have e1:g.x.qK=Bq:=(Option.some.inj e).symm;obtain⟨c,hc⟩:=h2.obj;rw[show({g with hp:=h',tv:=v'}:bI).x.qK=Bq from e1,hc]at hm0;cases hm0)
  exact⟨h3.2.2.2.1,h3.2.2.1,hBq.cell.2.2.2.2,hBq.cell.1⟩
 have hfin:Hid (Gv N B g s {s with Q:=s.Q.filter λz=>!decide (z.dest=q.dest)} dW (λz=>z=q.dest) w W'):=⟨_,n3,((Up.below (aU _ _).drew).trans u2).trans ((Up.below (aU _ _).drew).trans u3),rfl,λz hz=>by simp[fA,hz]⟩;replace htk:=hide htk;clear n2 n2d u2 n3 u3 hm' hg';go_wp2_with fail;go_region_held3 (HE N Bq g.x.Tm g.x.qK q.id q.dest) (first|with_reducible exact hS|with_reducible exact hS'|with_reducible assumption) (fail)
 rename_i iV;clear iV hS hS';go_wp2;go_returns;exact⟨rfl,dW,hfin.out,htk.out⟩
def SwP(N B:Nat)(g:bI)(s s2:St)(TL:List Hp.Tm)(so:Option Sr)(fd:Bool)(w w':World):Prop:=∃dW,Gv N B g s s2 dW (λz=>fd=true∧∃q,so=some q∧z=q.dest) w w'∧(∀q,so=some q->fd=true->F6 q.id TL dW)∧((so=none∨fd=false)->dW=TL)
theorem fq(s:St)(d:Int)(t:ByteArray):(s.aN d t).Q=s.Q∧(s.aN d t).me=s.me∧(s.aN d t).now=s.now∧(s.aN d t).aI.length<=s.aI.length+1:=by
 unfold St.aN;split
 ·exact⟨rfl,rfl,rfl,by simp[St.send]⟩
 ·exact⟨rfl,rfl,rfl,Nat.le_succ _⟩
theorem Aq(d:Int)(l:List ByteArray)(s:St):(l.foldl (λs t=>s.aN d t) s).Q=s.Q∧(l.foldl (λs t=>s.aN d t) s).me=s.me∧(l.foldl (λs t=>s.aN d t) s).now=s.now∧(l.foldl (λs t=>s.aN d t) s).aI.length<=s.aI.length+l.length:=by
 induction l generalizing s with
 |nil=>exact⟨rfl,rfl,rfl,aB _⟩
 |cons t l ih=>
  obtain⟨h1,h2,h3,h4⟩:=ih (s.aN d t);obtain⟨k1,k2,k3,k4⟩:=fq s d t;simp only[fP,dY];exact⟨h1.trans k1,h2.trans k2,h3.trans k3,by omega⟩
theorem tK{N B:Nat}{g:bI}{s:St}{TL:List Hp.Tm}{w:World}(n:Nd N B g s TL w)(d:Int)(hd:a_ d)(hme:a_ s.me)(fK:0<=s.now∧s.now<=4611686018427387904)(hfl:s.aI.length<=999000)(hl:TL.length<=1000000):
  Calls Tryz.prog 78 #[.pointer (some ⟨N,0,none⟩),.pointer (some ⟨B,0,none⟩),.int .u32 d] w λe w'=>e=.returned (.bool ((St.j6 s.Q d).isSome&&(bH s.A d s.now).2))∧SwP N B g s (s.sendAll d) TL (St.j6 s.Q d) (bH s.A d s.now).2 w w':=by
 obtain⟨⟨y,fd⟩,hy⟩:∃r,bH s.A d s.now=r:=⟨_,rfl⟩;rw[hy];obtain⟨bo,Yh⟩:∃b,g.h d=b:=⟨_,rfl⟩;have hlk:=n.nn.rs.sr.map.Iu hd;rw[Yh]at hlk;obtain⟨s2,hs2⟩:∃s2,s.sendAll d=s2:=⟨_,rfl⟩;rw[hs2];unfold St.sendAll at hs2;rw[hy]at hs2;dsimp only at hs2 ⊢;obtain⟨so,hso⟩:∃o,St.j6 s.Q d=o:=⟨_,rfl⟩;rw[hso]at hs2 ⊢;have hrel:Hid ((so=none∧bo=none)∨∃q Bq,so=some q∧bo=some Bq∧q∈s.Q∧q.dest=d∧g.h q.dest=some Bq):=by
  cases so with
  |none=>exact .inl ⟨rfl,Yh.symm.trans (n.nn.rs.sr.off hd hso)⟩
  |some q=>
   obtain⟨h1,h2,Bq,h3,_⟩:=n.nn.rs.sr.at hso;exact .inr ⟨q,Bq,rfl,Yh.symm.trans h3,h1,h2,by rw[h2];exact h3⟩
 replace hs2:=hide hs2;have HF:=hide (nS n d s.now hd hy);replace hy:=hide hy;replace hso:=hide hso;replace Yh:=hide Yh;have c13:=n.nn.cr.nd.more.2.2.1;go_enter Tryz.func78,Tryz.ntmps78;go_upto_region 2 with(fail);clear hlk c13;go_cut [9,10]from 22 to 35 (og y fd w)
 case first=>
  have hS:HO N B g.x.T s.me s.eG s.now w w.drew:=HO.mk' n (aU _ _).drew;have hkB:=hide λW5 h5=>HO.mk' (W:=W5) n h5;go_region_held3 (HO N B g.x.T s.me s.eG s.now w) (first|with_reducible exact hS|with_reducible assumption|(with_reducible apply HO.vP hkB;assumption)|(with_reducible apply HO.kG hkB;assumption)|(with_reducible apply HO.eX hkB)|(with_reducible apply hkB.out;assumption)) ((go_at_call 79;refine(HF.out _ (And.right (by assumption))).mono ?_;rintro e w2 ⟨ao,c,rfl,hb2,hpr⟩;try ((with_reducible have hD:=hpr di (.slice none 0 0) (lG w));obtain⟨d0,d1,d2,d3,d4,d5,d6⟩:=hD.cell;have q0:=hD.free 0;have q1:=hD.free 1;have q2:=hD.free 2;have q3:=hD.free 3;have q4:=hD.free 4;have q5:=hD.free 5;have q6:=hD.free 6;have hD':Hid (eu w.heap.size di (.slice none 0 0) w2):=hD;clear hD);clear hpr))
  all_goals
   go_wp2_with fail;go_meet;first|with_reducible exact iB hb2|with_reducible exact j3 hb2 hD'
 case rest=>
  obtain⟨E,ao,c,rfl,rfl,hE,hEl,hb2⟩:=hcut;clear HF hE hEl;have n2:=n.later hb2;rcases hrel.out with⟨rfl,rfl⟩|⟨q,Bq,rfl,rfl,hq,Nu,hqB⟩
  ·have hfin:Hid (Gv N B g s s2 TL (λz=>fd=true∧∃q,(none:Option Sr)=some q∧z=q.dest) w wc):=by
    show Gv N B g s s2 TL _ w wc;rw[<-hs2.out];exact Gv.refl n hb2
   have hsw:Hid (SwP N B g s s2 TL none fd w wc):=⟨TL,hfin.out,λq h=>(by cases h),λ_=>rfl⟩;clear hs2 n2 hrel hfin;go_wp2_with fail;go_returns;exact⟨rfl,hsw.out⟩
  ·cases fd
   ·have hfin:Hid (Gv N B g s s2 TL (λz=>false=true∧∃q',some q=some q'∧z=q'.dest) w wc):=by
     show Gv N B g s s2 TL _ w wc;rw[<-hs2.out];exact Gv.refl n hb2
    have hsw:Hid (SwP N B g s s2 TL (some q) false w wc):=⟨TL,hfin.out,λq _ h=>(by cases h),λ_=>rfl⟩;clear hs2 n2 hrel hfin;go_wp2_with fail;go_returns;exact⟨rfl,hsw.out⟩
   ·replace hs2:Hid ({q.txt.foldl (λs t=>s.aN d t) s with Q:=s.Q.filter λz=>!decide (z.dest=d)}=s2):=hs2;clear hrel;have hok:=n.nn.rs.sr.ok q hq;have hrow:=n.nn.rs.sr.row q hq;obtain⟨ta,tc,htv,_⟩:=ay hrow;have hBl:∀(g':bI) (st:St) (W:World),Nd N B g' st TL W->st.Q=s.Q->g'.h=g.h->g'.u=g.u->qG Bq q (.slice ta q.txt.length tc) W∧W.ownsRow 0 9 1 (.slice ta q.txt.length tc) q.txt.length (q.txt.map Value.string):=by
     intro g' st W n' e1 e2 e3;have hr':=n'.nn.rs.sr;rw[e1,e2,e3]at hr';obtain⟨B',h1,h2⟩:=hr'.ln q hq;rw[hqB]at h1;cases h1;have h3:=hr'.row q hq;rw[htv]at h2 h3;exact⟨h2,h3⟩
    obtain⟨b0,b1,_⟩:=(hBl g s wc n2 rfl rfl rfl).1.cell;have hBl:=hide hBl;have hln:q.txt.length<=4:=hok.txt;clear hrow htv;simp only[gH];have n2:=hide n2;go_upto_region 5 with(fail);go_wp2_with fail;clear b0 b1;go_loopw [46] (λi wr=>∃(k:Nat) (st:St) (g':bI),k<=q.txt.length∧i=.int .i64 k∧Hid (st=(q.txt.take k).foldl (λs t=>s.aN d t) s)∧Nd N B g' st TL wr∧Up B (Ft N g s) (Ft N g' st) w wr∧Hid (g'.x.T=g.x.T)∧Hid (g'.h=g.h∧g'.u=g.u)) (λi _=>q.txt.length - (intOf i).toNat)
    case atStart=>exact⟨0,s,g,b_ _,rfl,rfl,n2.out,.below hb2,rfl,rfl,rfl⟩
    case round=>
     obtain⟨k,st,g',hk,rfl,hst,nk,uk,tk,vk⟩:=hrel;have hsm:=hide (Aq d (q.txt.take k) s);rw[<-hst.out]at hsm;obtain⟨b0,b1⟩:=hBl.out g' st wr nk hsm.out.1 vk.out.1 vk.out.2;by_cases hlt:k<q.txt.length
     ·obtain⟨t,ht⟩:∃t,q.txt[k]?=some t:=⟨_,cK hlt⟩;have htm:=gI ht;obtain⟨gq,cq,hvq,_⟩:=bY b1 (by omega);cases hvq;have d0:=(b1.cellAt k (by simpa using hlt)).trans (by rw[jQ,ht]);have hfr:st.aI.length<=1000000:=by have:=hsm.out.2.2.2;simp only[List.length_take]at this;omega
      have HT:=hide (Cj nk d hd t (hok.JS t htm) (by rw[hsm.out.2.1];exact hme) (by rw[hsm.out.2.2.1];exact fK) hfr);have hwk:wrap64 ((k:Int)+1)=(k:Int)+1:=by unfold wrap64;omega
      have aa6:Hid (st.aN d t=(q.txt.take (k+1)).foldl (λs t=>s.aN d t) s):=by
       show _=_;rw[List.take_add_one,ht,List.foldl_append,<-hst.out];rfl
      have Bj:Hid (q.txt.length - (intOf (.int .i64 ((k:Int)+1))).toNat<q.txt.length - (intOf (.int .i64 (k:Int))).toNat):=DT hlt;have hn1:k+1<=q.txt.length:=hlt;replace ht:=hide ht;clear b0 b1 nk hst hsm hBl hk hlt;go_wp2_with fail;refine HT.out.mono ?_;rintro e w4 ⟨rfl,g4,n4,u4,t4,v4⟩;have hfin:Hid (Nd N B g4 (st.aN d t) TL w4∧Up B (Ft N g s) (Ft N g4 (st.aN d t)) w w4∧Hid (g4.x.T=g.x.T)∧Hid (g4.h=g.h∧g4.u=g.u)):=⟨n4,uk.trans u4,t4.out.trans tk.out,v4.out.1.trans vk.out.1,v4.out.2.trans vk.out.2⟩;clear n4 u4 d0 HT;go_wp2;exact⟨⟨k+1,_,g4,hn1,by go_num,aa6,hfin.out⟩,Bj.out⟩
     ·obtain rfl:k=q.txt.length:=by omega
      have hq':q∈st.Q:=by rw[hsm.out.1];exact hq
      have hB':g'.h q.dest=some Bq:=by rw[vk.out.1];exact hqB
      have HE:=hide (zh nk q hq' Bq hB' hl);have hfin:Hid (∀w5,(∃dW,Gv N B g' st {st with Q:=st.Q.filter λz=>!decide (z.dest=q.dest)} dW (λz=>z=q.dest) wr w5∧F6 q.id TL dW)->SwP N B g s s2 TL (some q) true w w5):=by
       rintro w5 ⟨dW,⟨g5,n5,u5,t5,y5⟩,h6⟩;have e1:({st with Q:=st.Q.filter λz=>!decide (z.dest=q.dest)}:St)=s2:=by
        rw[<-hs2.out,hsm.out.1,hst.out,List.take_length,Nu]
       rw[e1]at n5 u5;exact⟨dW,⟨g5,n5,uk.trans u5,t5.out.trans tk.out,λz hz=>(y5.out z λe=>hz ⟨rfl,q,rfl,e⟩).trans (by rw[vk.out.1])⟩,λq' h _=>by cases h;exact h6,λh=>by rcases h with h|h<;>cases h⟩
      clear b0 b1 nk hst hsm hBl hk hlt uk hq' hB' hs2;go_wp2_with fail;refine HE.out.mono ?_;rintro e w5 ⟨rfl,h5⟩;have hsw:=hide (hfin.out w5 h5);clear h5 hfin HE;go_wp2;go_returns;exact⟨rfl,hsw.out⟩
end Go.Proofs.YtakaadcpaeiccabGreat
