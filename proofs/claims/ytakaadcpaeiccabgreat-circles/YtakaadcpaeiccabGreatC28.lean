import Derived.Test.YtakaadcpaeiccabGreatC27
set_option maxHeartbeats 8000000
set_option maxRecDepth 100000
namespace Go.Proofs.YtakaadcpaeiccabGreat
open Go.RowKit Go.Maps
def uy(φ:aS->Int×ByteArray->aS×List Ev)(z:aS×List Ev)(f:Int×ByteArray):aS×List Ev:=((φ z.1 f).1,z.2++(φ z.1 f).2)
def jI(φ:aS->Int×ByteArray->aS×List Ev)(m:aS)(i:Nat)(o:Ot)(k:Nat):aS×List Ev:=(o.aL.take k).foldl (uy φ) (m.put i ((m.at' i).write o).1,[⟨i,0,o⟩])
theorem Dr(φ:aS->Int×ByteArray->aS×List Ev)(m:aS)(i:Nat)(o:Ot){k:Nat}{f:Int×ByteArray}(h:o.aL[k]?=some f):jI φ m i o (k+1)=uy φ (jI φ m i o k) f:=by
 unfold jI;rw[List.take_add_one,h,List.foldl_append];rfl
theorem AZ{φ:aS->Int×ByteArray->aS×List Ev}(hφ:∀m f,(φ m f).2.length<=1)(m:aS)(i:Nat)(o:Ot):∀k,k<=o.aL.length->(jI φ m i o k).2.length<=1+k
 |0,_=>by
  unfold jI;simp
 |k+1,hk=>by
  rw[Dr φ m i o (cZ (by omega))];have h1:=AZ hφ m i o k (by omega);have h2:=hφ (jI φ m i o k).1 o.aL[k];unfold uy;rw[dw];omega
theorem vP(φ:aS->Int×ByteArray->aS×List Ev)(m:aS)(i:Nat)(o:Ot)(h1:o.idle=false)(h2:((m.at' i).write o).2=true):m.jH φ i o=jI φ m i o o.aL.length:=by
 unfold aS.jH jI;rw[aM (by simp[h1]),aQ h2,List.take_length];rfl
theorem EA(o:Ot):o.idle=(decide (o.bA=[])&&!o.bC&&decide (o.aL.length+o.aY.length+o.aT.length=0)):=by
 unfold Ot.idle;cases o.bA<;>cases o.aL<;>cases o.aY<;>cases o.aT<;>cases o.bC<;>simp
theorem Yj{b:Nat}{aL aY:List (Int×ByteArray)}{aT:List Int}{a:Option Addr}{n c:Nat}{bP bQ:Value}{W:World}(h:iG b aL aY aT (.slice a n c) bP bQ W)(hn:n=aL.length){k:Nat}{f:Int×ByteArray}(hf:aL[k]?=some f):∃g,a=some ⟨g,0,none⟩∧W.cell? ⟨g,k * 2,none⟩=some (.int .u32 f.1)∧W.cell? ⟨g,k * 2+1,none⟩=some (.string f.2):=by
 subst hn;have hk:=(eB.1 hf).1;obtain⟨g,cap,e,_⟩:=bV h.aK (by omega);cases e;have hat:∀i u,i<2->([.int .u32 f.1,.string f.2]:List Value)[i]?=some u->(uE aL)[k * 2+i]?=some u:=λi u hi hu=>(kM (λx:Int×ByteArray=>([Value.int .u32 x.1,Value.string x.2]:List Value)) 2 (by decide) (λ_=>rfl) aL k i hi hf).trans hu;exact⟨g,rfl,(h.aK.cellAt (k * 2) (by omega)).trans (hat 0 _ (by decide) rfl),(h.aK.cellAt (k * 2+1) (by omega)).trans (hat 1 _ (by decide) rfl)⟩
theorem ZO{y:MG}{m:aS}{w:World}(h:MM y m w)(i:Nat)(hi:i<m.S.length)(_:m.S.length<=6)(φ:aS->Int×ByteArray->aS×List Ev)(o:Ot)(aK bP bQ:Value)(b:Nat)(hor:iG b o.aL o.aY o.aT aK bP bQ w)(hb:b<=w.heap.size)
  (hbd:qx o.bA) (hnw:o.bA.length<=50000) (hfr:o.aL.length<=100000∧o.aY.length<=100000∧o.aT.length<=100000) (hjl:(m.at' i).bn.length<=1000000) (hwh:0<=(m.at' i).whole) (hφ:∀m f,(φ m f).2.length<=1)
  (HS:∀k f,o.aL[k]?=some f->o.idle=false->((m.at' i).write o).2=true->∀y1 w1,MM y1 (jI φ m i o k).1 w1->Calls Tryz.prog 67 #[.pointer (some ⟨y1.G,0,none⟩),.int .i64 i,.agg #[.int .u32 f.1,.string f.2]] w1 (jD y1 (jI φ m i o k).1 (φ (jI φ m i o k).1 f).1 (φ (jI φ m i o k).1 f).2 w1.heap.size w1)):
  Calls Tryz.prog 36 #[.pointer (some ⟨y.G,0,none⟩),.int .i64 i,iY (strOfNums (bE o.bA)) o.bC aK bP bQ] w (jD y m (m.jH φ i o).1 (m.jH φ i o).2 b w):=by
 obtain⟨i0,hi0,hz0,hz1,hz2⟩:=info_parts MQ;obtain⟨af,kf,rfl,_⟩:=ak hor.aK;obtain⟨ac,kc,rfl,_⟩:=ak hor.bP;obtain⟨ad,kd,rfl,_⟩:=ak hor.bQ;obtain⟨j1,j2⟩:=Hf hbd;obtain⟨j,hj⟩:∃j,strOfNums (bE o.bA)=j:=⟨_,rfl⟩;have hidle:=EA o;have hjz:decide (o.bA=[])=decide (j.size=0):=by
  rw[<-hj,j2];cases o.bA<;>simp
 rw[hjz]at hidle;rw[hj];have hb0:Below w.heap.size w (w.alloc (.cells #[.string j,.bool o.bC,.slice af o.aL.length kf,.slice ac o.aY.length kc,.slice ad o.aT.length kd] 52)):=bq;have hC:=bS w (.cells #[.string j,.bool o.bC,.slice af o.aL.length kf,.slice ac o.aY.length kc,.slice ad o.aT.length kd] 52);have h1:=h.later hb0;have ho1:=hor.later hb0;unfold iY;go_enter Tryz.func36,Tryz.ntmps36;go_upto_region 1 with(fail);generalize World.alloc _ _=W1 at hb0 hC h1 ho1 ⊢;have HN:=hide (BX j o.bC af ac ad o.aL.length kf o.aY.length kc o.aT.length kd (by omega) W1);rw[<-hidle]at HN;unfold iY at HN;have hlow:=hb0.size;obtain⟨C,l8⟩:∃C,w.heap.size=C:=⟨_,rfl⟩;have hC0:w.heap.size<=C:=by omega
 rw[l8]at hC;have t0:W1.cell? ⟨C,0,none⟩=some (.string j):=aH _ _ 0 _ _ _ hC;have t1:W1.cell? ⟨C,1,none⟩=some (.bool o.bC):=aH _ _ 1 _ _ _ hC;have t2:W1.cell? ⟨C,2,none⟩=some (.slice af o.aL.length kf):=aH _ _ 2 _ _ _ hC;have t3:W1.cell? ⟨C,3,none⟩=some (.slice ac o.aY.length kc):=aH _ _ 3 _ _ _ hC;have t4:W1.cell? ⟨C,4,none⟩=some (.slice ad o.aT.length kd):=aH _ _ 4 _ _ _ hC;rw[l8];clear l8 h hor;go_wp2_with fail;refine aU HN.out ?_;rintro e w2 ⟨rfl,hb2⟩;have h2:=h1.later hb2;have ho2:=ho1.later hb2;have hC2:=(hb2.block _ (aG hC)).trans hC;have hbb:=hb0.trans (hb2.mono hb0.size);have agb:=hbb.size;clear HN h1 ho1 hC t0 t1 t2 t3 t4 hb0 hb2 hlow;cases hid:o.idle
 ·have t0:w2.cell? ⟨C,0,none⟩=some (.string j):=aH _ _ 0 _ _ _ hC2;have t1:w2.cell? ⟨C,1,none⟩=some (.bool o.bC):=aH _ _ 1 _ _ _ hC2;have t2:w2.cell? ⟨C,2,none⟩=some (.slice af o.aL.length kf):=aH _ _ 2 _ _ _ hC2;have t3:w2.cell? ⟨C,3,none⟩=some (.slice ac o.aY.length kc):=aH _ _ 3 _ _ _ hC2;have t4:w2.cell? ⟨C,4,none⟩=some (.slice ad o.aT.length kd):=aH _ _ 4 _ _ _ hC2;obtain⟨x,s,g,c,e1,e2,e3,e4,p0⟩:=h2.get hi;have q1:=h2.cell.2.1;rw[e4]at q1;have hin:(i:Int)<(m.S.length:Int):=by omega
  rw[e3]at hjl hwh HS;have hall:=vP φ m i o hid;have hno:(s.write o).2=false->m.jH φ i o=(m.put i (s.write o).1,[⟨i,0,Ot.none⟩]):=λe=>by
   unfold aS.jH;rw[aM (by simp[hid]),aM (by rw[e3,e];simp),e3]
  rw[e3]at hall;have hd1:Below w2.heap.size w2 w2.drew:=(aV _ _).drew;have hmd:=h2.later hd1;have HW:=IU (hmd.st i x s e1 e2) o (.slice af o.aL.length kf) (.slice ac o.aY.length kc) (.slice ad o.aT.length kd) hbd hnw hjl hwh;rw[hj]at HW;have HW2:Hid (Calls Tryz.prog 62 #[.pointer (some ⟨x.B,0,none⟩),.agg #[.string j,.bool o.bC,.slice af o.aL.length kf,.slice ac o.aY.length kc,.slice ad o.aT.length kd]] w2.drew λe w'=>e=.returned (.bool (s.write o).2)∧∃y',MM y' (m.put i (s.write o).1) w'∧MU y m y' (m.put i (s.write o).1) w w'∧iG b o.aL o.aY o.aT (.slice af o.aL.length kf) (.slice ac o.aY.length kc) (.slice ad o.aT.length kd) w'∧w'.heap[C]?=some (.cells #[.string j,.bool o.bC,.slice af o.aL.length kf,.slice ac o.aY.length kc,.slice ad o.aT.length kd] 52)):=by
   refine HW.mono ?_;rintro e w' ⟨rfl,hp⟩;obtain⟨y',hm',hu'⟩:=hmd.Z8 e1 e2 hp;exact⟨rfl,y',hm',((MU.refl y m w).post hbb).trans (hu'.pre hd1),(ho2.later hd1).mesh hmd hu'.fx,(hu'.fx.block C (aG hC2) (hmd.not hC2 (by decide))).trans hC2⟩
  obtain⟨s1,hs1⟩:∃s1,(s.write o).1=s1:=⟨_,rfl⟩;obtain⟨ok,hok⟩:∃ok,(s.write o).2=ok:=⟨_,rfl⟩;rw[hs1,hok]at HW2 hno;rw[hok]at HS hall;have XL:Hid (jI φ m i o 0=(m.put i s1,[⟨i,0,o⟩])):=by
   show _=_;unfold jI;rw[e3,hs1];rfl
  clear HW hs1 hok e1 e2 e3 e4 h2 ho2 hd1 hmd hjl hwh hbd hnw j1 j2 hjz hidle hbb;go_upto_region 3 with(fail);go_cut [21]from 12 to 21 (λv W=>v=.bool (!ok)∧∃y',MM y' (m.put i s1) W∧MU y m y' (m.put i s1) w W∧iG b o.aL o.aY o.aT (.slice af o.aL.length kf) (.slice ac o.aY.length kc) (.slice ad o.aT.length kd) W∧W.heap[C]?=some (.cells #[.string j,.bool o.bC,.slice af o.aL.length kf,.slice ac o.aY.length kc,.slice ad o.aT.length kd] 52))
  case first=>
   clear HS hno hall XL hC2;go_region_with(go_at_call 62;refine HW2.out.mono ?_;rintro e w3 ⟨rfl,hfin⟩)
   all_goals
    clear HW2;go_wp2_with fail;go_meet;exact⟨by cases ok<;>rfl,hfin⟩
  case rest=>
   obtain⟨rfl,y',hm,hu,ho,Dj⟩:=hcut;clear HW2 hC2 t0 t1 t2 t3 t4 p0 q1;have adp:w.heap.size<=wc.heap.size:=hu.fx.size;cases ok
   ·have hev:=EY (b:=b) (W:=wc) (x:=(⟨i,0,Ot.none⟩,⟨.slice none 0 0,.slice none 0 0,.slice none 0 0⟩)) (by omega) ⟨⟨rfl,.inl ⟨rfl,rfl⟩⟩,⟨rfl,.inl ⟨rfl,rfl⟩⟩,⟨rfl,.inl ⟨rfl,rfl⟩⟩⟩;have hb5:Below wc.heap.size wc (wc.alloc (.cells (AQ (⟨i,0,Ot.none⟩,⟨.slice none 0 0,.slice none 0 0,.slice none 0 0⟩)).toArray 54)):=bq;have hfin:jD y m (m.jH φ i o).1 (m.jH φ i o).2 b w (.returned (.slice (some ⟨wc.heap.size,0,none⟩) 1 1)) (wc.alloc (.cells (AQ (⟨i,0,Ot.none⟩,⟨.slice none 0 0,.slice none 0 0,.slice none 0 0⟩)).toArray 54)):=by
     rw[hno rfl];exact⟨_,_,rfl,rfl,hev,y',hm.later hb5,hu.post hb5⟩
    have nH:(AQ (⟨i,0,Ot.none⟩,⟨.slice none 0 0,.slice none 0 0,.slice none 0 0⟩)).toArray=#[.int .i64 i,.int .i64 0,.string ⟨#[]⟩,.bool false,.slice none 0 0,.slice none 0 0,.slice none 0 0]:=rfl;rw[nH]at hfin;clear hev hb5 hno HS hall XL hm hu ho Dj nH;go_wp2;go_ret;exact hfin
   ·have hev:=EY (b:=b) (W:=wc) (x:=(⟨i,0,o⟩,⟨.slice af o.aL.length kf,.slice ac o.aY.length kc,.slice ad o.aT.length kd⟩)) (by omega) ho;have nH:(AQ (⟨i,0,o⟩,⟨.slice af o.aL.length kf,.slice ac o.aY.length kc,.slice ad o.aT.length kd⟩)).toArray=#[.int .i64 i,.int .i64 0,.string j,.bool o.bC,.slice af o.aL.length kf,.slice ac o.aY.length kc,.slice ad o.aT.length kd]:=by
     rw[<-hj];rfl
    rw[nH]at hev;have hb5:Below wc.heap.size wc (wc.alloc (.cells #[.int .i64 i,.int .i64 0,.string j,.bool o.bC,.slice af o.aL.length kf,.slice ac o.aY.length kc,.slice ad o.aT.length kd] 54)):=bq;have rf:Hid (∃y' L,MM y' (jI φ m i o 0).1 (wc.alloc (.cells #[.int .i64 i,.int .i64 0,.string j,.bool o.bC,.slice af o.aL.length kf,.slice ac o.aY.length kc,.slice ad o.aT.length kd] 54))∧MU y m y' (jI φ m i o 0).1 w (wc.alloc (.cells #[.int .i64 i,.int .i64 0,.string j,.bool o.bC,.slice af o.aL.length kf,.slice ac o.aY.length kc,.slice ad o.aT.length kd] 54))∧gY b (.slice (some ⟨wc.heap.size,0,none⟩) 1 1) L (wc.alloc (.cells #[.int .i64 i,.int .i64 0,.string j,.bool o.bC,.slice af o.aL.length kf,.slice ac o.aY.length kc,.slice ad o.aT.length kd] 54))∧L.map (·.1)=(jI φ m i o 0).2∧(wc.alloc (.cells #[.int .i64 i,.int .i64 0,.string j,.bool o.bC,.slice af o.aL.length kf,.slice ac o.aY.length kc,.slice ad o.aT.length kd] 54)).ownsRow w.heap.size 54 7 (.slice (some ⟨wc.heap.size,0,none⟩) 1 1) L.length (EvC L)∧iG b o.aL o.aY o.aT (.slice af o.aL.length kf) (.slice ac o.aY.length kc) (.slice ad o.aT.length kd) (wc.alloc (.cells #[.int .i64 i,.int .i64 0,.string j,.bool o.bC,.slice af o.aL.length kf,.slice ac o.aY.length kc,.slice ad o.aT.length kd] 54))):=by
     show ∃y' L,_;rw[XL.out];refine⟨y',_,hm.later hb5,hu.post hb5,hev,rfl,⟨rfl,.inr ⟨wc.heap.size,1,_,rfl,adp,bS _ _,aD _,by decide,rfl,?_⟩⟩,ho.later hb5⟩;rw[<-hj];rfl
    have t0:wc.cell? ⟨C,0,none⟩=some (.string j):=aH _ _ 0 _ _ _ Dj;have t1:wc.cell? ⟨C,1,none⟩=some (.bool o.bC):=aH _ _ 1 _ _ _ Dj;have t2:wc.cell? ⟨C,2,none⟩=some (.slice af o.aL.length kf):=aH _ _ 2 _ _ _ Dj;have t3:wc.cell? ⟨C,3,none⟩=some (.slice ac o.aY.length kc):=aH _ _ 3 _ _ _ Dj;have t4:wc.cell? ⟨C,4,none⟩=some (.slice ad o.aT.length kd):=aH _ _ 4 _ _ _ Dj;have Zv:=hide (hall rfl);have HS2:=hide (λk f hf=>HS k f hf hid rfl);clear hev hb5 hno HS hall XL hm hu ho Dj nH hj hid;have u2:(wc.alloc (.cells #[.int .i64 i,.int .i64 0,.string j,.bool o.bC,.slice af o.aL.length kf,.slice ac o.aY.length kc,.slice ad o.aT.length kd] 54)).cell? ⟨C,2,none⟩=some (.slice af o.aL.length kf):=((bq:Below wc.heap.size wc _).cell (World.block_lt_of_cell? _ _ t2)).trans t2;go_upto_region 6 with(fail);generalize World.alloc _ _=W5 at rf u2 ⊢;generalize wc.heap.size=E at rf ⊢;clear t0 t1 t2 t3 t4;go_wp2_with fail;go_loopw [7,32] (λev iv wr=>∃k:Nat,k<=o.aL.length∧iv=.int .i64 k∧Hid (∃y' L,MM y' (jI φ m i o k).1 wr∧MU y m y' (jI φ m i o k).1 w wr∧gY b ev L wr∧L.map (·.1)=(jI φ m i o k).2∧wr.ownsRow w.heap.size 54 7 ev L.length (EvC L)∧iG b o.aL o.aY o.aT (.slice af o.aL.length kf) (.slice ac o.aY.length kc) (.slice ad o.aT.length kd) wr)) (λ_ iv _=>o.aL.length - (intOf iv).toNat)
    case atStart=>exact⟨0,dh _,rfl,rf⟩
    case round=>
     clear rf;obtain⟨k,hk,rfl,hr⟩:=hrel;by_cases hkl:k<o.aL.length
     ·have hki:(k:Int)<(o.aL.length:Int):=by omega
      obtain⟨y1,L,hm,hu,hev,hL,hrw,ho⟩:=hr.out;obtain⟨f,hf⟩:∃f,o.aL[k]?=some f:=⟨_,cZ hkl⟩;obtain⟨g5,rfl,d0,d1⟩:=Yj ho rfl hf;have hbx:Below wr.heap.size wr (wr.alloc (.cells #[.int .u32 f.1,.string f.2] 77)):=bq;have hm1:=hm.later hbx;have hHS:=HS2.out k f hf y1 _ hm1;rw[hu.G]at hHS;have hlen:=AZ hφ m i o k hk;rw[<-hL,iK]at hlen;have aeE:=hφ (jI φ m i o k).1 f;have hsucc:=Dr φ m i o hf;have adz:=hev.later hbx;have ho1:=ho.later hbx;have hu1:=hu.post hbx;have abx:Hid (Calls Tryz.prog 67 #[.pointer (some ⟨y.G,0,none⟩),.int .i64 i,.agg #[.int .u32 f.1,.string f.2]] (wr.alloc (.cells #[.int .u32 f.1,.string f.2] 77)) λe w3=>∃v2 L2 n2,e=.returned v2∧L2.length=n2∧n2<=1∧w3.ownsRow w.heap.size 54 7 u7 L.length (EvC L)∧w3.ownsRow wr.heap.size 54 7 v2 n2 (EvC L2)∧(∀u∈EvC L2,u.oneCell'=true)∧w.heap.size<=w3.heap.size∧∀v' w',w'.ownsRow w.heap.size 54 7 v' (L.length+n2) (EvC L++EvC L2)->w3.grownBy w' u7.ownBlock->∃y' L,MM y' (jI φ m i o (k+1)).1 w'∧MU y m y' (jI φ m i o (k+1)).1 w w'∧gY b v' L w'∧L.map (·.1)=(jI φ m i o (k+1)).2∧w'.ownsRow w.heap.size 54 7 v' L.length (EvC L)∧iG b o.aL o.aY o.aT (.slice (some ⟨g5,0,none⟩) o.aL.length kf) (.slice ac o.aY.length kc) (.slice ad o.aT.length kd) w'):=by
       refine hHS.mono ?_;rintro e w3 ⟨v2,L2,rfl,hL2,nH,y2,hm2,hu2⟩;have hl2:L2.length<=1:=by
        have:=congrArg List.length hL2;rw[iK]at this;omega
       have abb:=adz.mesh hm1 hu2.fx;have how:=ho1.mesh hm1 hu2.fx;have hz1:=hbx.size;have hz2:=hu2.fx.size;have hz3:=(hu1.trans hu2).fx.size;have hz0:=hu.fx.size;have hrw3:w3.ownsRow w.heap.size 54 7 u7 L.length (EvC L):=bK (bK hrw λk5 hk5=>hbx.block k5 (hrw.lt k5 hk5).2) λk5 hk5=>by
        obtain⟨cc,O9⟩:=aR hrw hk5;have hc6:=(hbx.block k5 (aG O9)).trans O9;exact hu2.fx.block k5 (aG hc6) (hm1.notE (by decide) hc6)
       refine⟨v2,L2,_,rfl,rfl,hl2,hrw3,(nH.lower hz1).row,nH.one,hz3,λv' w' ho' hg'=> ?_⟩;have hbE:∀k5,oZ y2 (φ (jI φ m i o k).1 f).1 k5->w'.heap[k5]?=w3.heap[k5]?:=λk5 hk5=>hg'.block k5 (hm2.lt hk5) λe5=>by
        obtain⟨cc,O9⟩:=aR abb.row e5.symm;exact hm2.notE (by decide) O9 hk5
       rw[hsucc];refine⟨y2,L++L2,hm2.kept hbE,⟨aW (hu1.trans hu2).fx hg' (λj5 hj5 e5=> ?_),λk5 hk5=>((hu1.trans hu2).sub k5 hk5).imp_right λh=>⟨h.1,fZ h.2 hg'.size⟩,(hu1.trans hu2).G,(hu1.trans hu2).n,(hu1.trans hu2).sv,(hu1.trans hu2).B⟩,?_,?_,by rw[dw,BF];exact ho',how.at λk5 c5 t5 ht5 hk5=>hg'.block k5 (aG hk5) λe5=> ?_⟩
       ·have:=(hrw.lt j5 e5).1;omega
       ·exact abb.append nH (by omega) (λx hx k5 hk5=>by have:=(hev.out x hx).lt hk5;omega) (ownsRow_base_a ho' hb) hg'
       ·rw[List.map_append,hL,hL2];rfl
       ·obtain⟨cc,O9⟩:=aR abb.row e5.symm;rw[hk5]at O9;cases O9;exact absurd ht5 (by decide)
      have Hz:Hid (∀n2,n2<=1->L.length+n2<=maxLen∧(L.length+n2)* 112<=140737488355328):=λn2 h2=>by unfold maxLen;omega
      have hme:=jM hkl;have hk1:k+1<=o.aL.length:=by omega
      have hw64:wrap64 ((k:Int)+1)=(k:Int)+1:=by unfold wrap64;omega
      obtain⟨f1,f2⟩:=f;dsimp only at d0 d1 abx;clear hr hm hu hev hL ho hm1 hHS hlen aeE hsucc adz ho1 hu1 hf hbx hrw hfr hb;go_wp2_with fail;refine aU abx.out ?_;rintro e w3 ⟨v2,L2,n2,rfl,hn2,ae7,hr1,hr2,h1c,hbw,hnx⟩;replace hnx:=hide hnx;replace hn2:=hide hn2;obtain⟨aa3,aa2⟩:=Hz.out n2 ae7;clear abx Hz;go_wp2_with(at_builtin;refine tC rfl _ _ 29 rfl w.heap.size 54 i0 (.agg #[.int .i64 0,.int .i64 0,.string ⟨#[]⟩,.bool false,.slice none 0 0,.slice none 0 0,.slice none 0 0]) 7 112 Tryz.underlying29 hi0 hz0 hz1 hz2 rfl (by decide) u7 L.length (EvC L) rfl hr1 wr.heap.size v2 n2 (EvC L2) rfl hr2 h1c aa3 aa2 hbw ?_);intro v7 w7 iy gP;have y_:=hide (hnx.out v7 w7 iy gP);clear hnx iy gP hr1 hr2 h1c d0 d1;go_wp2;try rw[hw64]
      go_roundw
      case rel=>
       first
        |exact⟨k+1,hk1,by go_num,y_⟩
        |exact⟨_,_,⟨k+1,hk1,by go_num,y_⟩,rfl⟩
        |((repeat apply Exists.intro);refine⟨⟨k+1,hk1,by go_num,y_⟩,rfl⟩)
      case measure=>exact hme
     ·obtain rfl:k=o.aL.length:=by omega
      obtain⟨y1,L,hm,hu,hev,hL,hrw,ho⟩:=hr.out;have hfin:jD y m (m.jH φ i o).1 (m.jH φ i o).2 b w (.returned u7) wr:=by
       rw[Zv.out];exact⟨u7,L,rfl,hL,hev,y1,hm,hu⟩
      clear hr hm hu hev hL ho HS2 Zv hrw;go_wp2;go_ret;exact hfin
 ·have hfin:jD y m (m.jH φ i o).1 (m.jH φ i o).2 b w (.returned (.slice none 0 0)) w2:=by
   unfold aS.jH;rw[aQ (by rw[hid])];exact⟨_,[],rfl,rfl,gY.nil _ _,y,h2,(MU.refl y m w).post hbb⟩
  clear h2 ho2 hC2 HS hbb;go_wp2;go_ret;exact hfin
variable{c:sF}{k now' κ VS:Int}{m:aS}{φ:aS->Int×ByteArray->aS×List Ev}{d i n q q':Nat}{s s':St}
theorem Ky(h:Pr c s s'):s'.cnt - s'.bA.length=s.cnt - s.bA.length∧s'.bC=s.bC:=by
 cases h with
 |yI h=>rw[h.cnt,h.bA,h.bC];exact⟨rfl,rfl⟩
 |tab _=>exact⟨rfl,rfl⟩
 |aK _ _ _ _ _=>exact⟨rfl,rfl⟩
 |grw=>exact⟨rfl,rfl⟩
 |mx _ _ _ _=>exact⟨rfl,rfl⟩
 |wr=>
  refine⟨?_,rfl⟩;show s.cnt+((bL s.seq s.own s.f s.A).2.length:Int) - ((s.bA++(bL s.seq s.own s.f s.A).2).length:Int)=_;rw[dw];omega
theorem Nj(h:fQ c n s s'):s'.cnt - s'.bA.length=s.cnt - s.bA.length∧s'.bC=s.bC:=by
 induction h with
 |nil=>exact⟨rfl,rfl⟩
 |snoc _ k ih=>
  have h2:=Ky k;exact⟨h2.1.trans ih.1,h2.2.trans ih.2⟩
structure Lc(c0:Int)(s:St):Prop where
 no:s.bC=false->s.cnt=c0+s.bA.length
 yes:s.bC=true->s.cnt=s.bA.length∧0<s.bA.length
theorem A8{c0:Int}(h1:s.cnt - s.bA.length=c0)(h2:s.bC=false∨(c0=0∧0<s.write.bA.length)):Lc c0 s.finish:=by
 have hw:=Ky (c:=none) (.wr:Pr none s s.write);unfold St.finish;split
 ·refine⟨λh=> ?_,λ_=>⟨rfl,?_⟩⟩
  ·cases h
  ·have:=zi s.write;dsimp only;omega
 ·refine⟨λ_=>by omega,λh=> ?_⟩;have hr:s.bC=true:=by rw[<-hw.2];exact h
  rcases h2 with h2|⟨h2,h3⟩
  ·rw[h2]at hr;cases hr
  ·exact⟨by omega,h3⟩
theorem PG(s:St)(now:Int):(s.begin now).cnt - (s.begin now).bA.length=s.cnt∧(s.begin now).bC=false:=by
 have hw:=Ky (c:=none) (.wr:Pr none {s with now:=now,A:=iZ s.A now,bA:=[],aL:=[],aY:=[],aT:=[],bC:=false} ({s with now:=now,A:=iZ s.A now,bA:=[],aL:=[],aY:=[],aT:=[],bC:=false}:St).write);refine⟨?_,hw.2⟩;have:=hw.1;simp only[List.length_nil]at this;show({s with now:=now,A:=iZ s.A now,bA:=[],aL:=[],aY:=[],aT:=[],bC:=false}:St).write.cnt - _=_;have h2:(s.begin now)=({s with now:=now,A:=iZ s.A now,bA:=[],aL:=[],aY:=[],aT:=[],bC:=false}:St).write:=rfl;rw[h2];omega
theorem vQ{now:Int}(h:fQ c n (s.locked.begin now) s'):Lc s.cnt s'.finish.freed:=by
 have h1:=PG s.locked now;have h2:=Nj h;have h3:=A8 (c0:=s.cnt) (s:=s') (by rw[h2.1];exact h1.1) (.inl (h2.2.trans h1.2));exact⟨h3.no,h3.yes⟩
theorem Ff(s:St)(now d_:Int):∃s',fQ none 2 (s.locked.begin now) s'∧s.brk now d_=s'.finish.freed:=by
 refine⟨_,fQ.trans (n:=1) (k:=1) (.one (.tab (.brk d_))) (u_ none _ 0 (oh d_ (s.locked.begin now).A) ?_),rfl⟩;intro x hx;obtain⟨y,hy,e⟩:=List.mem_filterMap.1 hx;unfold Ci at e;split at e
 ·rename_i hc;cases e;simp only[fF]at hc;refine .inr ⟨bY d_ 0 y,di.2 ⟨y,hy,rfl⟩,eG _ _ y,?_,.inl (Int.le_max_right _ _)⟩;unfold bY;rw[aQ (by simp[hc.1.1,hc.1.2])];exact eY _
 ·cases e
theorem Sw{y:Rt}(h:y.Ok){fr q:Int}(hq:bB q):(bY fr q y).Ok:=by
 unfold bY;split
 ·exact vN h hq
 ·exact h
theorem ZJ(s:St)(now d_:Int):(s.brk now d_).A=(iZ s.A now).map (bY d_ 0):=(aP _).A
theorem Np(s:St)(now d_:Int):∀f∈(s.brk now d_).aL,f.1=0:=by
 intro f hf;have e:(s.brk now d_).aL=Qr 0 (oh d_ (s.locked.begin now).A):=(aP _).aL;rw[e]at hf;unfold Qr at hf;split at hf
 ·cases hf
 ·rw[eZ]at hf;rw[hf]
theorem YH(h:s.Inv k)(hA:∀y∈s.A,y.Ok)(hl:s.A.length<=8)(now d_:Int)(hn:s.now<=now∧now<=4611686018427387904):(s.brk now d_).Inv (k+1)∧(∀y∈(s.brk now d_).A,y.Ok)∧(s.brk now d_).A.length<=8:=by
 have hm:=(qU h).2 now hn hA hl;have hA':∀y∈(iZ s.A now).map (bY d_ 0),y.Ok:=λy hy=>by
  obtain⟨z,hz,rfl⟩:=di.1 hy;exact Sw (Nc hA now z hz) (by simp[bB])
 have hl':((iZ s.A now).map (bY d_ 0)).length<=8:=by rw[iK];unfold iZ;rw[iK];exact hl
 have e1:=qj (s.locked.begin now) (A:=(s.locked.begin now).A.map (bY d_ 0)) (λy hy=>⟨_,di.2 ⟨y,hy,rfl⟩,eG _ _ y⟩);have e2:=e1.trans (rG _ 0 (oh d_ (s.locked.begin now).A));have hm2:=vw hm e2;refine⟨mJ hm2 (by omega) hA' hl',?_,?_⟩
 ·rw[ZJ];exact hA'
 ·rw[ZJ];exact hl'
theorem Ba(s:St)(now d_:Int):(s.brk now d_).me=s.me∧(s.brk now d_).now=now∧(s.brk now d_).Q=s.Q:=⟨(aP _).me,(aP _).now,(aP _).Q⟩
theorem YI(s:St)(now d_:Int):Lc s.cnt (s.brk now d_):=by
 obtain⟨s',h1,h2⟩:=Ff s now d_;rw[h2];exact vQ h1
structure Y0(κ:Int)(q:Nat)(now:Int)(s:bJ)(z:St):Prop where
 inv:z.Inv κ
 pos:z.Pos
 me:z.me=s.addr
 nw:z.now<=now
 ql:z.Q.length<=q
 ok:∀y∈z.A,y.Ok
 len:z.A.length<=8
structure Cj(κ:Int)(q:Nat)(now:Int)(s:bJ):Prop where
 addr:bB s.addr
 a0:s.addr≠0
 jb:∀x∈s.bn,0<=x∧x<=255
 jl:s.bn.length<=2000
 wh:0<=s.whole
 nd:∀z,s.nd=some z->Y0 κ q now s z
 jn:∀z,s.nd=some z->(s.bn.length:Int)=13 * z.cnt∧0<z.cnt
structure IW(κ:Int)(q:Nat)(now:Int)(s:bJ)(z:St):Prop where
 addr:bB s.addr
 a0:s.addr≠0
 jb:∀x∈s.bn,0<=x∧x<=255
 jl:s.bn.length<=2000
 wh:0<=s.whole
 hz:s.nd=some z
 nd:Y0 κ q now s z
 no:z.bC=false->13 * z.cnt=s.bn.length+13 * z.bA.length
 yes:z.bC=true->z.cnt=z.bA.length
 pos:0<z.cnt
structure iT(κ:Int)(q:Nat)(m:aS):Prop where
 n:m.S.length<=6
 bO:m.bO.length<=48
 now:0<=m.now∧m.now<=4611686018427387904
 st:∀s∈m.S,Cj κ q m.now s
theorem SV{k':Int}(h:s.Inv k)(hk:k<=k'):s.Inv k':=
 ⟨h.me,h.seq,h.now,h.mem,h.dom,h.cnt,by have:=h.tn;omega,by have:=h.tl;omega,h.lk,h.BJ,h.z_,h.Aa,h.D7,h.bd,h.nwl,h.frl,h.cml,h.drl⟩
theorem Y0.up{now:Int}{s s':bJ}{z:St}(h:Y0 κ q now s z)(h1:κ<=VS)(h2:q<=q')(h3:now<=now')(h4:s'.addr=s.addr):Y0 VS q' now' s' z:=
 ⟨SV h.inv h1,h.pos,h.me.trans h4.symm,by have:=h.nw;omega,by have:=h.ql;omega,h.ok,h.len⟩
theorem Cj.up{now:Int}{s:bJ}(h:Cj κ q now s)(h1:κ<=VS)(h2:q<=q')(h3:now<=now'):Cj VS q' now' s:=
 ⟨h.addr,h.a0,h.jb,h.jl,h.wh,λz hz=>(h.nd z hz).up h1 h2 h3 rfl,h.jn⟩
theorem iT.up(h:iT κ q m)(h1:κ<=VS)(h2:q<=q'):iT VS q' m:=⟨h.n,h.bO,h.now,λs hs=>(h.st s hs).up h1 h2 (eY _)⟩
theorem IW.nwl{now:Int}{s:bJ}{z:St}(h:IW κ q now s z):z.bA.length<=24:=by
 have hc:=h.nd.inv.cnt;cases hr:z.bC
 ·have:=h.no hr;omega
 ·have:=h.yes hr;omega
theorem IW.write{now:Int}{s:bJ}{z:St}(h:IW κ q now s z):Cj κ q now (s.write z.ot).1:=by
 have hn:=h.nwl;have hc:=h.nd.inv.cnt;have hbd:=EW h.nd.inv.bd;have hfl:=iF z.bA;have hjl:=h.jl;by_cases h1:z.bA≠ []∨z.bC=true
 ·cases ht:s.tears
  ·rw[bJ.jY (o:=z.ot) h1 ht];show Cj κ q now {s with bn:=(if z.bC then []else s.bn)++bE z.bA};have hlen:(((if z.bC then []else s.bn)++bE z.bA).length:Int)=13 * z.cnt:=by
    cases hr:z.bC
    ·have:=h.no hr;simp only[Bool.false_eq_true,if_false,dw,hfl];omega
    ·have:=h.yes hr;simp only[if_true,List.nil_append,hfl];omega
   refine⟨h.addr,h.a0,λx hx=> ?_,?_,h.wh,λu hu=> ?_,λu hu=> ?_⟩
   ·rcases eu.1 hx with hx|hx
    ·split at hx
     ·cases hx
     ·exact h.jb x hx
    ·exact hbd x hx
   ·dsimp only;omega
   ·have hu':s.nd=some u:=hu;rw[h.hz]at hu';cases hu';exact h.nd.up (eY _) (aD _) (eY _) rfl
   ·have hu':s.nd=some u:=hu;rw[h.hz]at hu';cases hu';exact⟨hlen,h.pos⟩
  ·rw[bJ.o7 (o:=z.ot) h1 ht];show Cj κ q now ({s with bn:=if z.bC then s.bn else s.bn++(bE z.bA).take s.whole.toNat}:bJ).stop;refine⟨h.addr,h.a0,λx hx=> ?_,?_,eY _,λu hu=>(by cases hu),λu hu=>(by cases hu)⟩
   ·have hx':x∈(if z.bC then s.bn else s.bn++(bE z.bA).take s.whole.toNat):=hx;split at hx'
    ·exact h.jb x hx'
    ·rcases eu.1 hx' with hx'|hx'
     ·exact h.jb x hx'
     ·exact hbd x (List.mem_of_mem_take hx')
   ·show(if z.bC then s.bn else s.bn++(bE z.bA).take s.whole.toNat).length<=2000;cases hr:z.bC
    ·have h5:=h.no hr;simp only[Bool.false_eq_true,if_false,dw,List.length_take,hfl];omega
    ·simp only[if_true];exact hjl
 ·simp only[not_or,Classical.not_not]at h1;obtain⟨h1,h2⟩:=h1;have h2':z.bC=false:=by simpa using h2
  rw[bJ.oq (o:=z.ot) h1 h2'];have h5:=h.no h2';rw[h1]at h5;simp only[List.length_nil]at h5;exact⟨h.addr,h.a0,h.jb,h.jl,h.wh,λu hu=>by rw[h.hz]at hu;cases hu;exact h.nd,λu hu=>by
   rw[h.hz]at hu;cases hu;refine⟨?_,h.pos⟩;show(s.bn.length:Int)=13 * z.cnt;omega⟩
theorem Cj.call{now:Int}{s:bJ}{z z':St}(h:Cj κ q now s)(hz:s.nd=some z)(hc:Lc z.cnt z')(hn:Y0 κ q now s z'):IW κ q now {s with nd:=some z'} z':=
 ⟨h.addr,h.a0,h.jb,h.jl,h.wh,rfl,hn.up (eY _) (aD _) (eY _) rfl,λhr=>by
  have h1:=hc.no hr;have h2:=(h.jn z hz).1;show 13 * z'.cnt=(s.bn.length:Int)+13 * z'.bA.length;omega,λhr=>(hc.yes hr).1,by
  have h3:=(h.jn z hz).2;cases hr:z'.bC
  ·have:=hc.no hr;omega
  ·have:=hc.yes hr;omega⟩
structure Cq(κ:Int)(q:Nat)(m:aS)(i:Nat)(z:St):Prop where
 n:m.S.length<=6
 bO:m.bO.length<=48
 now:0<=m.now∧m.now<=4611686018427387904
 st:∀j s,m.S[j]?=some s->j≠i->Cj κ q m.now s
 pre:∃s,m.S[i]?=some s∧IW κ q m.now s z
theorem ic(m:aS)(i:Nat)(s:bJ):(m.put i s).S=m.S.set i s∧(m.put i s).now=m.now∧(m.put i s).bO=m.bO:=⟨rfl,rfl,rfl⟩
theorem Cq.write{z:St}(h:Cq κ q m i z):iT κ q (m.put i ((m.at' i).write z.ot).1):=by
 obtain⟨s,h1,h2⟩:=h.pre;rw[eX h1];refine⟨by rw[(ic _ _ _).1,List.length_set];exact h.n,h.bO,h.now,λu hu=> ?_⟩;rw[(ic _ _ _).1]at hu;obtain⟨j,hj⟩:=List.getElem?_of_mem hu;rcases b_ hj with⟨_,rfl⟩|⟨hne,hj⟩
 ·exact h2.write
 ·exact h.st j u hj hne
theorem iT.at(h:iT κ q m){i:Nat}{s:bJ}(hs:m.S[i]?=some s):Cj κ q m.now s:=h.st s (gG hs)
theorem iT.bU(h:iT κ q m)(i:Nat)(f:Int×ByteArray):iT κ q (m.bU i f):=by
 have hS:=oF m i f m.S.length;have ha:=zM m i f m.S.length h.bO;rw[pu]at hS ha;exact⟨by rw[hS.1];exact h.n,ha,by rw[hS.2];exact h.now,λs hs=>by rw[hS.2];rw[hS.1]at hs;exact h.st s hs⟩
theorem iT.called(h:iT κ q m)(Hu:κ<=VS)(hq:q<=q'){i:Nat}{s:bJ}{z z':St}(hs:m.S[i]?=some s)(hz:s.nd=some z)(hc:Lc z.cnt z')(hn:Y0 VS q' m.now s z'):Cq VS q' (m.put i {s with nd:=some z'}) i z':=by
 refine⟨by rw[(ic _ _ _).1,List.length_set];exact h.n,h.bO,h.now,λj u hj hne=> ?_,?_⟩
 ·rw[(ic _ _ _).1]at hj;rcases b_ hj with⟨e,_⟩|⟨_,hj⟩
  ·exact absurd e hne
  ·exact(h.at hj).up Hu hq (eY _)
 ·refine⟨_,?_,((h.at hs).up Hu hq (eY _)).call hz hc hn⟩;rw[(ic _ _ _).1,List.getElem?_set_self (eB.1 hs).1]
theorem iT.broken(h:iT κ q m){i:Nat}{s:bJ}{z:St}(hs:m.S[i]?=some s)(hz:s.nd=some z)(t:Int):Cq (κ+1) q (m.put i {s with nd:=some (z.brk m.now t)}) i (z.brk m.now t):=by
 have hn:=(h.at hs).nd z hz;obtain⟨h1,h2,h3⟩:=YH hn.inv hn.ok hn.len m.now t ⟨hn.nw,h.now.2⟩;obtain⟨e1,e2,e3⟩:=Ba z m.now t;refine h.called (by omega) (aD _) hs hz (YI z m.now t) ⟨h1,λu hu=> ?_,e1.trans hn.me,by rw[e2];exact eY _,by rw[e3];exact hn.ql,h2,h3⟩;rw[e3]at hu;exact hn.pos u hu
theorem Cq.toM{z:St}(h:Cq κ q m i z)(hi:z.ot.idle=true):iT κ q m:=by
 obtain⟨s,h1,h2⟩:=h.pre;have hw:=h.write;rw[EA]at hi;simp only[fF,jg,Bool.not_eq_true']at hi;rw[eX h1,bJ.oq hi.1.1 hi.1.2]at hw;refine⟨h.n,h.bO,h.now,λu hu=> ?_⟩;obtain⟨j,hj⟩:=List.getElem?_of_mem hu;by_cases e:j=i
 ·subst e;rw[h1]at hj;cases hj;refine hw.at (i:=j) ?_;rw[(ic _ _ _).1,List.getElem?_set_self (eB.1 h1).1]
 ·exact h.st j u hj e
theorem Im(hφ:∀κ m f,iT κ q m->iT (κ+d) q (φ m f).1):∀(L:List (Int×ByteArray)) (κ:Int) (z:aS×List Ev),iT κ q z.1->iT (κ+d * L.length) q (L.foldl (uy φ) z).1
 | [],κ,z,h=>by simpa using h
 |f::L,κ,z,h=>by
  rw[gH];have h1:=Im hφ L (κ+d) (uy φ z f) (hφ κ z.1 f h);refine h1.up ?_ (aD _);rw[dU,Int.natCast_add,Int.mul_add];omega
theorem E_(hφ:∀κ m f,iT κ q m->iT (κ+d) q (φ m f).1){κ:Int}{m:aS}{i:Nat}{z:St}(h:Cq κ q m i z)(k:Nat)(hk:k<=z.aL.length):iT (κ+d * k) q (jI φ m i z.ot k).1:=by
 have h1:=Im hφ (z.aL.take k) κ (m.put i ((m.at' i).write z.ot).1,[⟨i,0,z.ot⟩]) h.write;rw[List.length_take,Nat.min_eq_left hk]at h1;exact h1
theorem Ni(hφ:∀κ m f,iT κ q m->iT (κ+d) q (φ m f).1){κ:Int}{m:aS}{i:Nat}{z:St}(h:Cq κ q m i z):iT (κ+d * z.aL.length) q (m.jH φ i z.ot).1:=by
 cases hi:z.ot.idle
 ·cases hw:((m.at' i).write z.ot).2
  ·unfold aS.jH;rw[aM (by simp[hi]),aM (by simp[hw])];exact h.write.up (by have:=Int.mul_nonneg (Int.natCast_nonneg d) (Int.natCast_nonneg z.aL.length);omega) (aD _)
  ·rw[vP φ m i z.ot hi hw];exact E_ hφ h z.aL.length (aD _)
 ·unfold aS.jH;rw[aQ hi];exact(h.toM hi).up (by have:=Int.mul_nonneg (Int.natCast_nonneg d) (Int.natCast_nonneg z.aL.length);omega) (aD _)
theorem L_(i:Nat):∀(κ:Int) (m:aS) (f:Int×ByteArray),iT κ q m->iT (κ+(0:Nat)) q (m.nX i f).1:=λκ m f h=>(h.bU i f).up (by omega) (aD _)
theorem RN(i:Nat)(m:aS)(f:Int×ByteArray):(m.nX i f).2.length<=1:=dh _
theorem IE(hφ:∀m f,(φ m f).2=[]):∀(L:List (Int×ByteArray)) (z:aS×List Ev),(L.foldl (uy φ) z).2=z.2
 | [],_=>rfl
 |f::L,z=>by
  rw[gH,IE hφ L];unfold uy;rw[hφ,iD]
theorem Uz(m:aS)(i:Nat)(o:Ot):(m.Ch i o).2.length<=1:=by
 unfold aS.Ch aS.jH;split
 ·exact dh _
 ·split
  ·rw[show(λ(z:aS×List Ev) (f:Int×ByteArray)=>((aS.nX i z.1 f).1,z.2++(aS.nX i z.1 f).2))=uy (aS.nX i)from rfl,IE (λ_ _=>rfl)];exact aD _
  ·exact aD _
theorem Gw(i:Nat)(m:aS)(f:Int×ByteArray):(m.jo i f).2.length<=1:=by
 unfold aS.jo;split
 ·exact dh _
 ·split
  ·exact dh _
  ·exact Uz _ _ _
theorem L9(i:Nat):∀(κ:Int) (m:aS) (f:Int×ByteArray),iT κ q m->iT (κ+(1:Nat)) q (m.jo i f).1:=by
 intro κ m f h;have hf:=h.bU i f;unfold aS.jo;split
 ·exact hf.up (by omega) (aD _)
 ·split
  ·exact hf.up (by omega) (aD _)
  ·rename_i s hs;have hS:=(oF m i f m.S.length);rw[pu]at hS;obtain⟨u,hu⟩:∃u,(m.bU i f).S[i]?=some u:=by
    cases hu:(m.bU i f).S[i]? with
    |some u=>exact⟨u,rfl⟩
    |none=>
     unfold aS.at' at hs;rw[List.getD_eq_getElem?_getD,hu]at hs;cases hs
   rw[eX hu]at hs ⊢;have hb:=hf.broken hu hs f.1;rw[hS.2]at hb;have:=Ni (L_ i) hb;exact this.up (by omega) (aD _)
variable{κ:Int}{y:MG}{m:aS}{i q:Nat}{w:World}
theorem Cq.pre'{z:St}(h:Cq κ q m i z):∃s,m.S[i]?=some s∧m.at' i=s∧IW κ q m.now s z:=by
 obtain⟨s,h1,h2⟩:=h.pre;exact⟨s,h1,eX h1,h2⟩
theorem iT.node(h:iT κ q m){i:Nat}(hi:i<m.S.length){z:St}(hz:(m.at' i).nd=some z):Y0 κ q m.now (m.at' i) z:=by
 have hs:m.S[i]?=some m.S[i]:=cZ hi;rw[eX hs]at hz ⊢;exact(h.at hs).nd z hz
theorem Kw(φ:aS->Int×ByteArray->aS×List Ev)(hφ:∀m f,(φ m f).1.S.length=m.S.length)(m:aS)(i:Nat)(o:Ot)(k:Nat):(jI φ m i o k).1.S.length=m.S.length:=by
 have hg:∀(L:List (Int×ByteArray)) (z:aS×List Ev),(L.foldl (uy φ) z).1.S.length=z.1.S.length:=by
  intro L
  induction L with
  |nil=>intro z;rfl
  |cons f L ih=>
   intro z;rw[gH,ih];exact hφ z.1 f
 unfold jI;rw[hg,(ic _ _ _).1,List.length_set]
theorem jk(m:aS)(i:Nat)(f:Int×ByteArray):(m.bU i f).S=m.S∧(m.bU i f).now=m.now:=by
 have:=oF m i f m.S.length;rw[pu]at this;exact this
theorem Uy(φ:aS->Int×ByteArray->aS×List Ev)(hφ:∀m f,(φ m f).1.S.length=m.S.length)(m:aS)(i:Nat)(o:Ot):(m.jH φ i o).1.S.length=m.S.length:=by
 cases hi:o.idle
 ·cases hw:((m.at' i).write o).2
  ·unfold aS.jH;rw[aM (by simp[hi]),aM (by simp[hw])];rw[(ic _ _ _).1,List.length_set]
  ·rw[vP φ m i o hi hw];exact Kw φ hφ m i o _
 ·unfold aS.jH;rw[aQ hi]
theorem RO(i:Nat)(m:aS)(f:Int×ByteArray):(m.nX i f).1.S.length=m.S.length:=by
 show(m.bU i f).S.length=_;rw[(jk m i f).1]
theorem RJ(i:Nat)(m:aS)(f:Int×ByteArray):(m.jo i f).1.S.length=m.S.length:=by
 unfold aS.jo;split
 ·dsimp only;rw[(jk m i f).1]
 ·split
  ·dsimp only;rw[(jk m i f).1]
  ·unfold aS.Ch;rw[Uy _ (RO i),(ic _ _ _).1,List.length_set,(jk m i f).1]
theorem acr(h:MM y m w){κ:Int}{q:Nat}{i:Nat}{z:St}(hd:Cq κ q m i z)(h0:∀f∈z.aL,f.1=0)(aK bP bQ:Value)(b:Nat)(hor:iG b z.aL z.aY z.aT aK bP bQ w)(hb:b<=w.heap.size):
  Calls Tryz.prog 36 #[.pointer (some ⟨y.G,0,none⟩),.int .i64 i,iY z.bn z.bC aK bP bQ] w (jD y m (m.Ch i z.ot).1 (m.Ch i z.ot).2 b w):=by
 obtain⟨s,h1,h2,h3⟩:=hd.pre';have hi:=(eB.1 h1).1;have hI:=h3.nd.inv;have hnw:=h3.nwl;refine ZO h i hi hd.n (aS.nX i) z.ot aK bP bQ b hor hb hI.bd (by show z.bA.length<=_;omega) ⟨hI.frl,hI.cml,hI.drl⟩ (by rw[h2];have:=h3.jl;omega) (by rw[h2];exact h3.wh) (RN i) ?_;intro k f hf _ _ y1 w1 hm1;have hk:=(eB.1 hf).1;have hok:=E_ (L_ i) hd k (Nat.le_of_lt hk);have hS:=Kw (aS.nX i) (RO i) m i z.ot k;have hf0:=h0 f (gG hf);have e:aS.jo i (jI (aS.nX i) m i z.ot k).1 f=aS.nX i (jI (aS.nX i) m i z.ot k).1 f:=by
  unfold aS.jo;rw[aQ (.inr hf0)];rfl
 rw[<-e];exact yB hm1 i (by rw[hS];exact hi) hok.n hok.bO f (λu hu=>⟨_,(hok.node (by rw[hS];exact hi) hu).inv,(hok.node (by rw[hS];exact hi) hu).nw⟩) hok.now.2 (λhne=>absurd hf0 hne)
theorem Fz(h:MM y m w){κ:Int}{q:Nat}{i:Nat}{z:St}(hd:Cq κ q m i z)(aK bP bQ:Value)(b:Nat)(hor:iG b z.aL z.aY z.aT aK bP bQ w)(hb:b<=w.heap.size):
  Calls Tryz.prog 36 #[.pointer (some ⟨y.G,0,none⟩),.int .i64 i,iY z.bn z.bC aK bP bQ] w (jD y m (m.did i z.ot).1 (m.did i z.ot).2 b w):=by
 obtain⟨s,h1,h2,h3⟩:=hd.pre';have hi:=(eB.1 h1).1;have hI:=h3.nd.inv;have hnw:=h3.nwl;refine ZO h i hi hd.n (aS.jo i) z.ot aK bP bQ b hor hb hI.bd (by show z.bA.length<=_;omega) ⟨hI.frl,hI.cml,hI.drl⟩ (by rw[h2];have:=h3.jl;omega) (by rw[h2];exact h3.wh) (Gw i) ?_;intro k f hf _ _ y1 w1 hm1;have hk:=(eB.1 hf).1;have hok:=E_ (L9 i) hd k (Nat.le_of_lt hk);have hS:=Kw (aS.jo i) (RJ i) m i z.ot k;refine yB hm1 i (by rw[hS];exact hi) hok.n hok.bO f (λu hu=>⟨_,(hok.node (by rw[hS];exact hi) hu).inv,(hok.node (by rw[hS];exact hi) hu).nw⟩) hok.now.2 ?_;intro _ u hu y2 w2 b2 afS afZ afU hm2 hb2 hor2;have hsf:=hok.bU i f;obtain⟨eS,eN⟩:=jk (jI (aS.jo i) m i z.ot k).1 i f;obtain⟨v,hv⟩:∃v,((jI (aS.jo i) m i z.ot k).1.bU i f).S[i]?=some v:=⟨_,cZ (by rw[eS,hS];exact hi)⟩;rw[eX hv]at hu hm2 ⊢;have hbk:=hsf.broken hv hu f.1;rw[eN]at hbk;exact acr hm2 hbk (Np u _ _) afS afZ afU b2 hor2 hb2
theorem E9{z:St}(hd:Cq κ q m i z):iT (κ+100000) q (m.did i z.ot).1:=by
 have h:=Ni (L9 i) hd;obtain⟨s,_,_,h3⟩:=hd.pre';have:=h3.nd.inv.frl;exact h.up (by omega) (aD _)
variable{q:Sr}{s:St}
theorem Ir(A:List Rt)(now:Int):∀y∈iZ A now,y.valid=true->now<y.exp:=by
 intro y hy hv;obtain⟨z,hz,rfl⟩:=di.1 hy;unfold oP at hv ⊢;split at hv
 ·cases hv
 ·rename_i h;rw[aM h];unfold Kv at h;simp only[fF,jg,not_and]at h;have:=h hv;omega
theorem Gn(s:St)(fr:Int)(p:aF)(L:List (Int×Int))(hk:p.kind=1∨p.kind=2∨p.kind=3∨p.kind=9)(h4:∀q∈s.Q,q.txt.length<=4)(hx:∀y∈s.A,y.valid=true->s.now<y.exp):fQ (some (fr,p,L)) (L.length+15) s (s.gT fr p L):=by
 unfold St.gT;split
 ·exact(zY _ s fr p).up (by omega)
 ·split
  ·rename_i h;exact(yG s fr p L h).up (by omega)
  ·split
   ·rename_i h;exact(BS s fr p L h h4).up (by omega)
   ·split
    ·exact(D9 s fr p L).up (by omega)
    ·rename_i h1 h2 h3;have h9:p.kind=9:=by
      rcases hk with h|h|h|h
      ·exact absurd h h1
      ·exact absurd h h2
      ·exact absurd h h3
      ·exact h
     exact(D_ s fr p L h9 hx).up (by omega)
theorem Ec(x0 x1 x2 x4:Int)(r:List Int):(iX x0 x1 x2 x4 r).kind=x1:=by
 unfold iX;split
 ·rename_i h;exact h.symm
 ·split
  ·rename_i h;exact h.symm
  ·split
   ·rename_i h;exact h.symm
   ·split
    ·rename_i h;exact h.symm
    ·rfl
theorem JR{xs:List Int}(h:vG xs=true):(iX (xs.getD 0 0) (xs.getD 1 0) (xs.getD 2 0) (xs.getD 4 0) (xs.drop 5)).kind=xs.getD 1 0∧(xs.getD 1 0=1∨xs.getD 1 0=2∨xs.getD 1 0=3∨xs.getD 1 0=9):=by
 refine⟨Ec _ _ _ _ _,?_⟩
 match xs,h with
 |x0::x1::x2::x3::x4::r,h=>
  simp only[vG,fF]at h;have hk:=(eT h.2).2.2.2.2.2.2;rw[Ec]at hk;show x1=1∨x1=2∨x1=3∨x1=9;rcases hk with h|h|h|h
  ·exact .inl h
  ·exact .inr (.inl h)
  ·exact .inr (.inr (.inr h))
  ·exact .inr (.inr (.inl h.1))
def MS(fr:Int)(xs:List Int):sF:=some (fr,iX (xs.getD 0 0) (xs.getD 1 0) (xs.getD 2 0) (xs.getD 4 0) (xs.drop 5),nC (xs.getD 1 0) (xs.getD 4 0) (xs.drop 5))
theorem Gp(s:St)(fr:Int)(xs:List Int)(h4:∀q∈s.Q,q.txt.length<=4)(hx:∀y∈s.A,y.valid=true->s.now<y.exp):fQ (MS fr xs) ((nC (xs.getD 1 0) (xs.getD 4 0) (xs.drop 5)).length+15) s (s.hear fr xs):=by
 unfold St.hear;split
 ·exact(fJ _ s 0).up (by omega)
 ·rename_i h;simp only[not_or]at h;have hF:vG xs=true:=by simpa using h.1
  obtain⟨h1,h2⟩:=JR hF;exact Gn s fr _ _ (by rw[h1];exact h2) h4 hx
theorem LW(s:St)(now fr:Int)(xs:List Int)(h4:∀q∈s.Q,q.txt.length<=4):∃n s',fQ (MS fr xs) n (s.locked.begin now) s'∧s.rcv now fr xs=s'.finish.freed:=
 ⟨_,_,Gp _ fr xs h4 (Ir s.A now),rfl⟩
theorem LJ(s:St)(now d:Int)(t:ByteArray):∃n s',fQ none n (s.locked.begin now) s'∧s.snd now d t=s'.finish.freed:=by
 unfold St.snd St.sends;dsimp only;split
 ·exact⟨_,_,pI none _ d t,rfl⟩
 ·exact⟨_,_,CR none _ d t,rfl⟩
def mg(s:St):Prop:=∀q∈s.Q,q.txt.length<=4∧1<=q.ttl∧q.ttl<=8
theorem uX(h:mg s)(hq:q.txt.length<=4∧1<=q.ttl∧q.ttl<=8):mg (s.ask q):=by
 intro z hz;obtain⟨o,h1,_⟩:∃o,(s.ask q).Q=_∧True:=⟨(),rfl,trivial⟩;unfold St.ask at hz;split at hz
 ·rcases fI hz with rfl|⟨k1,_⟩
  ·exact hq
  ·exact h z k1
 ·split at hz
  ·rcases fI hz with rfl|⟨k1,_⟩
   ·exact hq
   ·exact h z k1
  ·rcases fI hz with rfl|⟨k1,_⟩
   ·exact hq
   ·exact h z k1
theorem Gl(h:mg s)(d:Int):mg (s.sendAll d):=λz hz=>h z ((CO s d).1 z hz)
theorem Gj(h:mg s)(hq:q.txt.length<=4∧1<=q.ttl∧q.ttl<=8):mg (s.step q):=by
 unfold St.step;split
 ·exact Gl h _
 ·split
  ·unfold St.widen;split
   ·exact uX h ⟨hq.1,by dsimp only;omega⟩
   ·split
    ·exact uX h ⟨hq.1,by dsimp only;omega⟩
    ·split
     ·exact uX h hq
     ·exact λz hz=>h z (List.mem_filter.1 hz).1
  ·exact uX h hq
theorem CQ:∀(D:List Sr) (s:St),(∀q∈D,q.txt.length<=4∧1<=q.ttl∧q.ttl<=8)->mg s->fQ none (13 * D.length) s (D.foldl St.step s)
 | [],s,_,_=> .nil _ _
 |q::D,s,hD,h=>by
  rw[gH,dU];have hq:=hD q iJ;exact((Rw none s q ⟨hq.2.1,hq.2.2⟩ (λz hz=>(h z hz).1)).trans (CQ D (s.step q) (λz hz=>hD z (jR _ hz)) (Gj h hq))).up (by omega)
theorem Iy{Q:List Sr}{now:Int}(h:q∈St.kS Q now):q∈Q:=by
 unfold St.kS at h;exact(List.mem_filter.1 ((List.mergeSort_perm _ _).mem_iff.1 h)).1
theorem Uw(Q:List Sr)(now:Int):(St.kS Q now).length<=Q.length:=by
 unfold St.kS;rw[(List.mergeSort_perm _ _).length_eq];exact List.length_filter_le _ _
theorem DK(s:St)(now:Int)(h:mg s):∃s',fQ none (13 * (St.kS s.Q now).length) (s.locked.begin now) s'∧s.kU now=s'.finish.freed:=
 ⟨_,CQ (St.kS s.Q now) (s.locked.begin now) (λq hq=>h q (Iy hq)) h,rfl⟩
theorem Yr(s:St):s.finish.freed.me=s.me∧s.finish.freed.now=s.now∧s.finish.freed.Q=s.Q:=⟨(aP s).me,(aP s).now,(aP s).Q⟩
theorem zX{c:sF}{n:Nat}{s':St}{now:Int}(h:fQ c n (s.locked.begin now) s'):s'.finish.freed.me=s.me∧s'.finish.freed.now=now:=by
 obtain⟨h1,h2,_⟩:=Yr s';exact⟨h1.trans h.me,h2.trans h.now⟩
theorem Bc(s:St)(q:Sr):(s.ask q).Q.length=s.Q.length:=by
 obtain⟨o,h1,_⟩:=IL s q;rw[h1,oD]
theorem tT(s:St)(d:Int):(s.sendAll d).Q.length<=s.Q.length:=by
 unfold St.sendAll;split
 ·exact aD _
 ·split
  ·exact List.length_filter_le _ _
  ·exact aD _
theorem Wy(s:St)(q:Sr):(s.step q).Q.length<=s.Q.length:=by
 unfold St.step;split
 ·exact tT _ _
 ·split
  ·unfold St.widen;split
   ·rw[Bc];exact aD _
   ·split
    ·rw[Bc];exact aD _
    ·split
     ·rw[Bc];exact aD _
     ·exact List.length_filter_le _ _
  ·rw[Bc];exact aD _
theorem F3:∀(D:List Sr) (s:St),(D.foldl St.step s).Q.length<=s.Q.length
 | [],_=>aD _
 |q::D,s=>by
  rw[gH];exact dH (F3 D _) (Wy s q)
theorem Z4(s:St)(now:Int):(s.kU now).Q.length<=s.Q.length:=by
 show((St.kS s.Q now).foldl St.step (s.locked.begin now)).finish.Q.length<=_;rw[(aP _).Q];exact F3 _ _
theorem aae(s:St)(now d:Int)(t:ByteArray):(s.snd now d t).Q.length<=s.Q.length+1:=by
 show(if (bN (s.locked.begin now).A d (s.locked.begin now).now).2 then(s.locked.begin now).bg d t else(s.locked.begin now).await d t).finish.Q.length<=_;rw[(aP _).Q];split
 ·rw[(gK _ _ _).1];exact Nat.le_succ _
 ·unfold St.await;split
  ·unfold St.hold;split<;>(dsimp only;rw[oD];exact Nat.le_succ _)
  ·rw[Bc];show((s.locked.begin now).Q++ [_]).length<=_;rw[dw];exact aD _
theorem vT(s:St)(p:aF):(s.answer p).Q=s.Q:=by unfold St.answer;split<;>rfl
theorem n_(s:St)(fr:Int)(p:aF):(s.dJ fr p).Q=s.Q:=by
 have ha:∀s:St,(s.asked p).Q=s.Q:=λs=>by
  unfold St.asked;split
  ·unfold St.ja;rw[vT]
  ·split
   ·unfold St.iC;rw[vT]
   ·split<;>rfl
 unfold St.dJ;split
 ·rfl
 ·unfold St.learn;split
  ·rfl
  ·split
   ·rw[ha]
   ·rw[ha]
theorem Sq(s:St)(t:Int)(L:List (Int×Int)):(s.lose t L).Q=s.Q:=rfl
theorem XR(s:St)(fr:Int)(xs:List Int):(s.hear fr xs).Q.length<=s.Q.length:=by
 unfold St.hear;split
 ·exact aD _
 ·unfold St.gT;split
  ·unfold St.eP;split<;>exact aD _
  ·split
   ·rw[n_];exact aD _
   ·split
    ·unfold St.fE;split
     ·exact aD _
     ·dsimp only;split
      ·exact aD _
      ·split
       ·split
        ·exact tT _ _
        ·exact tT _ _
       ·split
        ·exact aD _
        ·unfold St.iM;split<;>exact aD _
    ·split
     ·unfold St.gW;dsimp only;rw[Sq];split<;>exact aD _
     ·unfold St.fO;split
      ·exact aD _
      ·split
       ·exact aD _
       ·split<;>exact aD _
theorem acH(s:St)(now fr:Int)(xs:List Int):(s.rcv now fr xs).Q.length<=s.Q.length:=by
 show((s.locked.begin now).hear fr xs).finish.Q.length<=_;rw[(aP _).Q];exact XR _ _ _
theorem WX(h:s.Pos)(now fr:Int)(xs:List Int)(hb:∀x∈xs,0<=x∧x<=255)(h4:∀q∈s.Q,q.txt.length<=4):(s.rcv now fr xs).Pos:=by
 intro q hq;have hq':q∈((s.locked.begin now).hear fr xs).Q:=by
  have e:=(aP ((s.locked.begin now).hear fr xs)).Q;rw[<-e];exact hq
 exact h q ((AV (s.locked.begin now) fr xs hb h4).qs q hq')
end Go.Proofs.YtakaadcpaeiccabGreat
