import Derived.Test.YtakaadcpaeiccabGreatO26
set_option maxHeartbeats 4000000
set_option maxRecDepth 100000
namespace Go.Proofs.YtakaadcpaeiccabGreat
open Go.RowKit Go.Maps
theorem Vu(nodes:Int)(hn0:-9223372036854775808<=nodes∧nodes<=9223372036854775807)(ao:Option Addr)(N c:Nat)(L:List Op)(hN:L.length=N)(w:World)(hL:gM w ao (OpC L)):
  Calls Tryz.prog 5 #[.int .i64 nodes,.slice ao N c] w λe w'=>e=.returned (.bool true)∧Below w.heap.size w w':=by
 obtain⟨n,hn2,hn6,hpk,hpw⟩:=ac8 (c:=nodes);have HP:=hide (Sg nodes 5 hn0.1 hn0.2 (by decide) (by decide) w);have HR:=hide (Xo n ⟨by omega,hn6⟩ w);go_enter Tryz.func5,Tryz.ntmps5;go_upto_region 2 with(go_at_call 9;refine HP.out.mono ?_;rintro e w2 ⟨rfl,hw2⟩;have hw3:=hw2.symm;subst hw3;clear hw2);clear HP hpk hpw;go_upto_region 3 with(go_at_call 10;refine HR.out.mono ?_;rintro e w3 ⟨y,rfl,hq⟩);replace hq:=hide hq;have hb3:=hq.out.bl;clear HR;by_cases h4:250<N
 ·have e1:decide (250<(N:Int))=true:=gu (by omega);clear hq hL;go_wp2;go_ret;exact⟨rfl,hb3⟩
 have e1:decide (250<(N:Int))=false:=fE (by omega);have hmk:=λW=>Pw N (by omega) W;obtain⟨G,hG⟩:∃G,y.G=G:=⟨_,rfl⟩;have NJ:=hide (aaI hn6 hq.out L);rw[hG,hN]at NJ;rw[hG];obtain⟨z0,hz0⟩:∃z,(qw N []).toArray=z:=⟨_,rfl⟩;rw[hz0]at NJ hmk;replace hN:=hide hN;clear hq hb3 hG hz0;go_wp2_with fail;clear hmk;generalize World.alloc _ _=W4 at NJ ⊢;generalize w3.heap.size=B at NJ ⊢;go_loopw [8] (λi wr=>∃(k:Nat),k<=N∧i=.int .i64 k∧Hid (OS w n G B L k wr)) (λi _=>N - (intOf i).toNat)
 case atStart=>exact⟨0,b_ _,rfl,NJ⟩
 case round=>
  clear NJ;obtain⟨k,hk,rfl,hq⟩:=hrel;by_cases hlt:k<N
  ·have hki:(k:Int)<(N:Int):=by omega
   obtain⟨o,ho⟩:∃o,L[k]?=some o:=⟨_,cK (by rw[hN.out];omega)⟩;obtain⟨g,f,hao,hgl,d0,d1,d2,d3,d4,d5⟩:=Vt (hL.below hq.out.below) ho;subst hao;have hwk:=hide (acP (h:=k) (by omega));by_cases hsk:o.dK=6∨o.dK=8
   ·have hgo:Hid (∀W',Below wr.heap.size wr W'->∃(k':Nat),k'<=N∧(.int .i64 ((k:Int)+1):Value)=.int .i64 k'∧Hid (OS w n G B L k' W')):=hide λW' hb=>⟨k+1,by omega,by simp,hide (hq.out.skip.later hb)⟩;have hbX:Below wr.heap.size wr (wr.alloc (.cells #[.int .i64 o.dK,.int .i64 o.a,.int .i64 o.b,.int .i64 o.n,.bool o.on,.string o.txt] 28)):=bC;have hg2:=hide (hgo.out _ hbX);clear hgo hq hbX;obtain⟨dK,a,b,num,on,txt⟩:=o;dsimp only at d0 d1 d2 d3 d4 d5 hsk hg2;rcases hsk with rfl|rfl;all_goals
     go_wp2;go_roundw
     case rel=>exact hg2.out
     case measure=>exact pR hlt
   ·have e6:(o.dK==6)=false:=by simp;omega
    have e8:(o.dK==8)=false:=by simp;omega
    go_upto_region 11 with(fail);have hbX:Below wr.heap.size wr (wr.alloc (.cells #[.int .i64 o.dK,.int .i64 o.a,.int .i64 o.b,.int .i64 o.n,.bool o.on,.string o.txt] 28)):=bC;have hX:=bS wr (.cells #[.int .i64 o.dK,.int .i64 o.a,.int .i64 o.b,.int .i64 o.n,.bool o.on,.string o.txt] 28);generalize World.alloc _ _=wX at hbX hX ⊢;obtain⟨X,V8⟩:∃X,wr.heap.size=X:=⟨_,rfl⟩;rw[V8]at hX ⊢;have p0:=aF _ _ 0 _ _ _ hX;have p1:=aF _ _ 1 _ _ _ hX;have p2:=aF _ _ 2 _ _ _ hX;have p3:=aF _ _ 3 _ _ _ hX;have p4:=aF _ _ 4 _ _ _ hX;have p5:=aF _ _ 5 _ _ _ hX;simp only[List.getElem?_toArray,List.getElem?_cons_succ,List.getElem?_cons_zero]at p0 p1 p2 p3 p4 p5;have f5:=lX _ _ 5 _ _ hX;have hw8:IntKind.u8.wrap (k:Int)=(k:Int):=by simp only[IntKind.wrap,IntKind.signed,IntKind.bits];simp;omega
    have hcv:=Y3 wX k (by omega);have hXl:=aD hX;have hbu:Below wX.heap.size wX (wX.alloc (.cells #[.int .u8 (k:Int)] 5)):=bC;have hXu:=(hbu.block X hXl).trans hX;have q5:=aF _ _ 5 _ _ _ hXu;simp only[List.getElem?_toArray,List.getElem?_cons_succ,List.getElem?_cons_zero]at q5;have g5:=lX _ _ 5 _ _ hXu;have hXs:=heap_setCell_same wX X 5 _ _ (.string (rY k)) hX;have hbs:Below wr.heap.size wr (wX.setCell ⟨X,5,none⟩ (.string (rY k))):=hbX.setCell (p:=⟨X,5,none⟩) (by rw[<-V8];exact aA _) _;have hbY:=hbs.alloc hbs.size (.cells #[.int .u8 (k:Int)] 5);have Yl:=(((aU _ (wX.setCell ⟨X,5,none⟩ (.string (rY k)))).alloc (aA _) (.cells #[.int .u8 (k:Int)] 5)).block X (aD hXs)).trans hXs;replace V8:=hide V8;clear d0 d1 d2 d3 d4 d5;go_upto_region 12 with(fail);clear p0 p1 p2 p3 p4 p5 q5 f5 g5 hw8 hcv hX hXu hbu hbX hXl hXs hbs;generalize World.alloc _ _=wY at hbY Yl ⊢;simp only[List.setIfInBounds_toArray,List.set_cons_succ,List.set_cons_zero]at Yl;have p0:=aF _ _ 0 _ _ _ Yl;have p1:=aF _ _ 1 _ _ _ Yl;have p2:=aF _ _ 2 _ _ _ Yl;have p3:=aF _ _ 3 _ _ _ Yl;have p4:=aF _ _ 4 _ _ _ Yl;have p5:=aF _ _ 5 _ _ _ Yl;simp only[List.getElem?_toArray,List.getElem?_cons_succ,List.getElem?_cons_zero]at p0 p1 p2 p3 p4 p5;obtain⟨c1,y1,m,ev,hck,hG,hs,hcb,hcm,hBw⟩:=hq.out.later hbY;obtain⟨G1,g0,g1,adR⟩:=id hcb.cm;have HD:=hide (agb hs (by omega) (o.tx k) (λh=>absurd h (by show ¬o.dK=8;omega)) adR.few);rw[hG]at HD;have hB1:=hcb.step (by omega) (λf hf=>(hs.fk.1 f hf).2.1) ho (by omega) (by omega);have ZK:=hide (And.intro hs.mm (And.intro hcm (And.intro hBw hB1)));have hG1:=hide hG;obtain⟨dK,a,b,num,on,txt⟩:=o;unfold V4 Op.tx at HD;dsimp only at p0 p1 p2 p3 p4 p5 e6 e8 HD;clear hs hcb hcm hB1 adR hG hq Yl hbY hsk;go_upto_region 13 with(go_at_call 11;refine HD.out.mono ?_;rintro e w4 ⟨v,Lv,y',rfl,hLv,hev,hG',hmu,hs⟩);obtain⟨hmm,hcm,_,hoc⟩:=ZK.out;have hG2:=hide hG';obtain⟨m',hm'⟩:∃m',(m.step ⟨dK,a,b,num,on,rY k⟩).1=m':=⟨_,rfl⟩;have adS:=hcm.turn hmm hmu;unfold Op.tx at hoc;dsimp only at hoc;rw[<-hLv,hm']at hoc;rw[hm']at hs;replace hoc:=hide hoc;have hES:Hid (ES w n (c1+1) B N wY.heap.size y' m' v Lv ev 0 0 w4):=hide ⟨hs,hev,by rw[Zk,<-hN.out];exact adS,hBw⟩;obtain⟨bb,hbb⟩:∃bb,wY.heap.size=bb:=⟨_,rfl⟩;rw[hbb]at hES;have afB:=hs.bl;have hvf:∃av cv,v=.slice av Lv.length cv:=by
     obtain⟨av,cv,e,_⟩:=ay hev.row;exact⟨av,cv,e⟩
    obtain⟨av,cv,rfl⟩:=hvf;have afA:c1+1<=k+1:=by omega
    clear hs hev hLv hmu HD ZK p0 p1 p2 p3 p4 p5 e6 e8 hG' hG1 ho hm' hmm hcm adS hbb hck V8 hgl afB;go_wp2_with fail;go_loopw [11] (λi wr=>∃(j:Nat),j<=Lv.length∧i=.int .i64 j∧Hid (ES w n (c1+1) B N bb y' m' (.slice av Lv.length cv) Lv ev j 0 wr)) (λi _=>Lv.length - (intOf i).toNat)
    case atStart=>exact⟨0,b_ _,rfl,hES⟩
    case round=>
     clear hES;obtain⟨j,hj,rfl,hE⟩:=hrel;by_cases hjl:j<Lv.length
     ·have agH:(j:Int)<(Lv.length:Int):=by omega
      have hj9:j<9223372036854775807:=by have:=MH hE.out.2.1.row;omega
      obtain⟨gv,cv',x,ac,ca,hv,hx,_⟩:=Jl hE.out.2.1 hjl;cases hv;have hcs:rR (Lv.map (·.1)) j=x.o.aR:=by unfold rR;rw[hx]
      have hxm:=gH hx;go_wp2_with fail;go_loopw [12] (λi wr=>∃(q:Nat),q<=x.o.aR.length∧i=.int .i64 q∧Hid (ES w n (c1+1) B N bb y' m' (.slice (some ⟨gv,0,none⟩) Lv.length cv) Lv ev j q wr)) (λi _=>x.o.aR.length - (intOf i).toNat)
      case atStart=>exact⟨0,b_ _,rfl,hE⟩
      case round=>
       clear hE;obtain⟨q,hq,rfl,hE⟩:=hrel;obtain⟨gv',cv',x',ac,ca,hv,hx',kn,kcm,kq⟩:=Jl hE.out.2.1 hjl;cases hv;rw[hx]at hx';cases hx';by_cases hql:q<x.o.aR.length
       ·have hqi:(q:Int)<(x.o.aR.length:Int):=by omega
        have hq9:x.o.aR.length<=9223372036854775807:=by
         obtain⟨p,hp,rfl⟩:=dh.1 hxm;exact MH (hE.out.2.1.out p hp).bL
        obtain⟨⟨cf,ct⟩,hc⟩:∃c,x.o.aR[q]?=some c:=⟨_,cK hql⟩;obtain⟨ga,hac,kf,kt⟩:=kq q _ hc;subst hac;obtain⟨bt,o',hb1,hb2,hb3,hb4,hb5,hb6,JX⟩:=hoc.out.came (List.mem_append_right ev hxm) (gH hc);dsimp only at hb1 hb5 kf kt;subst hb1 hb5;obtain⟨kk,hkk⟩:∃kk,bt.toNat=kk:=⟨_,rfl⟩;rw[hkk]at hb2;have htx:(⟨#[bt]⟩:ByteArray)=rY kk:=by rw[aag,hkk]
        have hkN:kk<N:=by rw[<-hN.out];exact(fA.1 hb2).1
        have hc':(rR (Lv.map (·.1)) j)[q]?=some (10 * o'.a+10,(⟨#[bt]⟩:ByteArray)):=by rw[hcs];exact hc
        have h0:Lf (PO ev (Lv.map (·.1)) j q) kk=0:=by
         have h1:=hoc.out.one (acr (ev:=ev) (q:=q+1) (by rw[iK];exact hjl)) kk;rw[Oe hc']at h1;unfold Lf at h1 ⊢;rw[List.countP_append,List.countP_singleton,htx]at h1;simp at h1;simpa using h1
        obtain⟨k1,k2,k3⟩:=Y7 hE.out.2.2.1 hkN;rw[h0]at k1;have hgo:Hid (∀W',Below wr.heap.size wr W'->∃(q':Nat),q'<=x.o.aR.length∧(.int .i64 ((q:Int)+1):Value)=.int .i64 q'∧Hid (ES w n (c1+1) B N bb y' m' (.slice (some ⟨gv,0,none⟩) Lv.length cv) Lv ev j q' (W'.setCell ⟨B,kk,none⟩ (.int .i64 1)))):=hide λW' hb=>⟨q+1,by omega,by simp,hide ((hE.out.later hb).cell (by omega) hkN hc' htx h0)⟩;obtain⟨g2,f2,afD,Yf,d0,d1,d2,_,_,_⟩:=Vt (hL.below hE.out.1.bl) hb2;cases afD;obtain⟨na,hna⟩:=Int.eq_ofNat_of_zero_le hb6;rw[hna]at kf d1 JX;rw[hb3]at d0;rw[hb4]at kn;have afc:na<6:=by omega
        have hw:=GY afc;have hbX:Below wr.heap.size wr (wr.alloc (.cells #[.int .u32 (10 * (na:Int)+10),.string ⟨#[bt]⟩] 56)):=bC;have hX:=bS wr (.cells #[.int .u32 (10 * (na:Int)+10),.string ⟨#[bt]⟩] 56);have agF:(kk:Int)<(N:Int):=by omega
        replace hkk:=hide hkk;clear htx h0 hc' hcs hb3 hb4 hna hx;have adI:=World.block_lt_of_cell? _ _ kn;go_upto_region 20 with(fail);generalize World.alloc _ _=wX at hbX hX ⊢;obtain⟨X,V8⟩:∃X,wr.heap.size=X:=⟨_,rfl⟩;rw[V8]at hX ⊢;replace V8:=hide V8;have p0:=aF _ _ 0 _ _ _ hX;have p1:=aF _ _ 1 _ _ _ hX;simp only[List.getElem?_toArray,List.getElem?_cons_succ,List.getElem?_cons_zero]at p0 p1;replace kn:=cell_later kn hbX adI;replace d0:=cell_later d0 hbX Yf;replace d1:=cell_later d1 hbX Yf;replace d2:=cell_later d2 hbX Yf;replace k1:=cell_later k1 hbX k3;clear kf kt kcm hE kq hc hxm hb2;go_upto_region 23 with(fail);have afm:=hkk.out;clear hkk;subst afm;have hkv:∀h,wrap64 ((GetElem.getElem (⟨#[bt]⟩:ByteArray) (0:Nat) h).toNat:Int)=(bt.toNat:Int):=λh=>by
         show wrap64 (bt.toNat:Int)=_;have:=bt.toNat_lt;unfold wrap64;omega
        simp only[hkv];clear hkv;have e7:decide (N<=bt.toNat)=false:=fE (by omega);have e8:decide ((N:Int)<=(bt.toNat:Int))=false:=fE (by omega);have hfr:wX.frozen? ⟨B,bt.toNat,none⟩=false:=(hbX.frozen (p:=⟨B,bt.toNat,none⟩) k3).trans k2;have hBl:=fP k3 hbX.size;have hst:Hid (∀z W,wX.drewN z=W->W.cell? ⟨B,bt.toNat,none⟩=some (.int .i64 0)∧W.frozen? ⟨B,bt.toNat,none⟩=false∧(W.setCell ⟨B,bt.toNat,none⟩ (.int .i64 1)).cell? ⟨B,bt.toNat,none⟩=some (.int .i64 1)∧∃(q':Nat),q'<=x.o.aR.length∧(.int .i64 ((q:Int)+1):Value)=.int .i64 q'∧Hid (ES w n (c1+1) B N bb y' m' (.slice (some ⟨gv,0,none⟩) Lv.length cv) Lv ev j q' (W.setCell ⟨B,bt.toNat,none⟩ (.int .i64 1)))):=hide λz W hW=>by
         subst hW;have hc:=cell_later k1 (below_drewN (aU _ wX) z) hBl;refine⟨hc,hfr,World.cell?_setCell_same _ _ _ hc,hgo.out _ (below_drewN hbX z)⟩
        clear hgo hbX hX V8 k2 k3 Yf adI;go_quiet (fail);generalize hg:World.drewN _ _=W3;obtain⟨s1,s2,s3,s4⟩:=hst.out _ _ hg;replace s4:=hide s4;clear hg hst kn d0 d1 d2 p0 p1 hw k1 hfr hBl;go_wp2_with fail;exact⟨s4.out,pR hql⟩
       ·obtain rfl:q=x.o.aR.length:=by omega
        have hgo:Hid (∃(j':Nat),j'<=Lv.length∧(.int .i64 ((j:Int)+1):Value)=.int .i64 j'∧Hid (ES w n (c1+1) B N bb y' m' (.slice (some ⟨gv,0,none⟩) Lv.length cv) Lv ev j' 0 wr)):=hide ⟨j+1,by omega,by simp,by
         have h:=hE.out;rw[<-hcs]at h;obtain⟨h1,h2,h3,h4⟩:=h;rw[Zl hx]at h3;exact hide ⟨h1,h2,h3,h4⟩⟩
        clear hE kq hcs hx hxm hq;go_wp2;go_roundw
        case rel=>exact hgo.out
        case measure=>exact pR hjl
     ·obtain rfl:j=Lv.length:=by omega
      have hgo:Hid (∃(k':Nat),k'<=N∧(.int .i64 ((k:Int)+1):Value)=.int .i64 k'∧Hid (OS w n G B L k' wr)):=hide ⟨k+1,by omega,by simp,by
       obtain⟨h1,h2,h3,h4⟩:=hE.out;have h5:=acs ev (Lv.map (·.1));rw[iK]at h5;rw[h5,<-hN.out]at h3;exact hide ⟨c1+1,y',m',_,afA,hG2.out,h1,hoc.out,h3,h4⟩⟩
      clear hE hj hn0 hn2 hn6 h4 e1 hk hki hoc;go_wp2;go_roundw
      case rel=>rw[hwk.out];exact hgo.out
      case measure=>rw[hwk.out];exact pR hlt
  ·obtain rfl:k=N:=by omega
   have hfin:=hq.out.below;clear hq hL;go_wp2;go_ret;exact⟨rfl,hfin⟩
end Go.Proofs.YtakaadcpaeiccabGreat
