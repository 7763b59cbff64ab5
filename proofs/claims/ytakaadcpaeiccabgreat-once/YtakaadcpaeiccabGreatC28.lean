import Derived.Test.YtakaadcpaeiccabGreatC27
set_option maxHeartbeats 8000000
set_option maxRecDepth 100000
namespace Go.Proofs.YtakaadcpaeiccabGreat
open Go.RowKit Go.Maps
def uH(φ:aP->Int×ByteArray->aP×List Ev)(z:aP×List Ev)(f:Int×ByteArray):aP×List Ev:=((φ z.1 f).1,z.2++(φ z.1 f).2)
def jH(φ:aP->Int×ByteArray->aP×List Ev)(m:aP)(i:Nat)(o:Ot)(k:Nat):aP×List Ev:=(o.aI.take k).foldl (uH φ) (m.put i ((m.at' i).write o).1,[⟨i,0,o⟩])
theorem Ec(φ:aP->Int×ByteArray->aP×List Ev)(m:aP)(i:Nat)(o:Ot){k:Nat}{f:Int×ByteArray}(h:o.aI[k]?=some f):jH φ m i o (k+1)=uH φ (jH φ m i o k) f:=by
 unfold jH;rw[List.take_add_one,h,List.foldl_append];rfl
theorem BN{φ:aP->Int×ByteArray->aP×List Ev}(hφ:∀m f,(φ m f).2.length<=1)(m:aP)(i:Nat)(o:Ot):∀k,k<=o.aI.length->(jH φ m i o k).2.length<=1+k
 |0,_=>by
  unfold jH;simp
 |k+1,hk=>by
  rw[Ec φ m i o (cK (by omega))];have h1:=BN hφ m i o k (by omega);have h2:=hφ (jH φ m i o k).1 o.aI[k];unfold uH;rw[dx];omega
theorem vY(φ:aP->Int×ByteArray->aP×List Ev)(m:aP)(i:Nat)(o:Ot)(h1:o.idle=false)(h2:((m.at' i).write o).2=true):m.jG φ i o=jH φ m i o o.aI.length:=by
 unfold aP.jG jH;rw[aH (by simp[h1]),aM h2,List.take_length];rfl
theorem Fj(o:Ot):o.idle=(decide (o.bg=[])&&!o.bn&&decide (o.aI.length+o.aR.length+o.aQ.length=0)):=by
 unfold Ot.idle;cases o.bg<;>cases o.aI<;>cases o.aR<;>cases o.aQ<;>cases o.bn<;>simp
theorem YG{b:Nat}{aI aR:List (Int×ByteArray)}{aQ:List Int}{a:Option Addr}{n c:Nat}{bL bO:Value}{W:World}(h:iH b aI aR aQ (.slice a n c) bL bO W)(hn:n=aI.length){k:Nat}{f:Int×ByteArray}(hf:aI[k]?=some f):∃g,a=some ⟨g,0,none⟩∧W.cell? ⟨g,k * 2,none⟩=some (.int .u32 f.1)∧W.cell? ⟨g,k * 2+1,none⟩=some (.string f.2):=by
 subst hn;have hk:=(fu.1 hf).1;obtain⟨g,cap,e,_⟩:=bY h.aJ (by omega);cases e;have hat:∀i u,i<2->([.int .u32 f.1,.string f.2]:List Value)[i]?=some u->(uL aI)[k * 2+i]?=some u:=λi u hi hu=>(jh (λx:Int×ByteArray=>([Value.int .u32 x.1,Value.string x.2]:List Value)) 2 (by decide) (λ_=>rfl) aI k i hi hf).trans hu;exact⟨g,rfl,(h.aJ.cellAt (k * 2) (by omega)).trans (hat 0 _ (by decide) rfl),(h.aJ.cellAt (k * 2+1) (by omega)).trans (hat 1 _ (by decide) rfl)⟩
theorem aad{y:MG}{m:aP}{w:World}(h:MM y m w)(i:Nat)(hi:i<m.S.length)(hn:m.S.length<=6)(φ:aP->Int×ByteArray->aP×List Ev)(o:Ot)(aJ bL bO:Value)(b:Nat)(hor:iH b o.aI o.aR o.aQ aJ bL bO w)(hb:b<=w.heap.size)
  (hbd:qx o.bg) (hnw:o.bg.length<=50000) (hfr:o.aI.length<=100000∧o.aR.length<=100000∧o.aQ.length<=100000) (hjl:(m.at' i).aZ.length<=1000000) (hwh:0<=(m.at' i).whole) (hφ:∀m f,(φ m f).2.length<=1)
  (HS:∀k f,o.aI[k]?=some f->o.idle=false->((m.at' i).write o).2=true->∀y1 w1,MM y1 (jH φ m i o k).1 w1->Calls Tryz.prog 67 #[.pointer (some ⟨y1.G,0,none⟩),.int .i64 i,.agg #[.int .u32 f.1,.string f.2]] w1 (jB y1 (jH φ m i o k).1 (φ (jH φ m i o k).1 f).1 (φ (jH φ m i o k).1 f).2 w1.heap.size w1)):
  Calls Tryz.prog 36 #[.pointer (some ⟨y.G,0,none⟩),.int .i64 i,iZ (strOfNums (bB o.bg)) o.bn aJ bL bO] w (jB y m (m.jG φ i o).1 (m.jG φ i o).2 b w):=by
 obtain⟨i0,hi0,hz0,hz1,hz2⟩:=info_parts Nr;obtain⟨af,kf,rfl,_⟩:=ay hor.aJ;obtain⟨ac,kc,rfl,_⟩:=ay hor.bL;obtain⟨ad,kd,rfl,_⟩:=ay hor.bO;obtain⟨j1,j2⟩:=IE hbd;obtain⟨j,hj⟩:∃j,strOfNums (bB o.bg)=j:=⟨_,rfl⟩;have hidle:=Fj o;have hjz:decide (o.bg=[])=decide (j.size=0):=by
  rw[<-hj,j2];cases o.bg<;>simp
 rw[hjz]at hidle;rw[hj];have hb0:Below w.heap.size w (w.alloc (.cells #[.string j,.bool o.bn,.slice af o.aI.length kf,.slice ac o.aR.length kc,.slice ad o.aQ.length kd] 52)):=bC;have hC:=bS w (.cells #[.string j,.bool o.bn,.slice af o.aI.length kf,.slice ac o.aR.length kc,.slice ad o.aQ.length kd] 52);have h1:=h.later hb0;have ho1:=hor.later hb0;unfold iZ;go_enter Tryz.func36,Tryz.ntmps36;go_upto_region 1 with(fail);generalize World.alloc _ _=W1 at hb0 hC h1 ho1 ⊢;have HN:=hide (CP j o.bn af ac ad o.aI.length kf o.aR.length kc o.aQ.length kd (by omega) W1);rw[<-hidle]at HN;unfold iZ at HN;have hlow:=hb0.size;obtain⟨C,lZ⟩:∃C,w.heap.size=C:=⟨_,rfl⟩;have hC0:w.heap.size<=C:=by omega
 rw[lZ]at hC;have t0:W1.cell? ⟨C,0,none⟩=some (.string j):=aG _ _ 0 _ _ _ hC;have t1:W1.cell? ⟨C,1,none⟩=some (.bool o.bn):=aG _ _ 1 _ _ _ hC;have t2:W1.cell? ⟨C,2,none⟩=some (.slice af o.aI.length kf):=aG _ _ 2 _ _ _ hC;have t3:W1.cell? ⟨C,3,none⟩=some (.slice ac o.aR.length kc):=aG _ _ 3 _ _ _ hC;have t4:W1.cell? ⟨C,4,none⟩=some (.slice ad o.aQ.length kd):=aG _ _ 4 _ _ _ hC;rw[lZ];clear lZ h hor;go_wp2_with fail;refine aT HN.out ?_;rintro e w2 ⟨rfl,hb2⟩;have h2:=h1.later hb2;have ho2:=ho1.later hb2;have hC2:=(hb2.block _ (aF hC)).trans hC;have hbb:=hb0.trans (hb2.mono hb0.size);have agl:=hbb.size;clear HN h1 ho1 hC t0 t1 t2 t3 t4 hb0 hb2 hlow;cases hid:o.idle
 ·have t0:w2.cell? ⟨C,0,none⟩=some (.string j):=aG _ _ 0 _ _ _ hC2;have t1:w2.cell? ⟨C,1,none⟩=some (.bool o.bn):=aG _ _ 1 _ _ _ hC2;have t2:w2.cell? ⟨C,2,none⟩=some (.slice af o.aI.length kf):=aG _ _ 2 _ _ _ hC2;have t3:w2.cell? ⟨C,3,none⟩=some (.slice ac o.aR.length kc):=aG _ _ 3 _ _ _ hC2;have t4:w2.cell? ⟨C,4,none⟩=some (.slice ad o.aQ.length kd):=aG _ _ 4 _ _ _ hC2;obtain⟨x,s,g,c,e1,e2,e3,e4,p0⟩:=h2.get hi;have q1:=h2.cell.2.1;rw[e4]at q1;have hin:(i:Int)<(m.S.length:Int):=by omega
  rw[e3]at hjl hwh HS;have hall:=vY φ m i o hid;have hno:(s.write o).2=false->m.jG φ i o=(m.put i (s.write o).1,[⟨i,0,Ot.none⟩]):=λe=>by
   unfold aP.jG;rw[aH (by simp[hid]),aH (by rw[e3,e];simp),e3]
  rw[e3]at hall;have hd1:Below w2.heap.size w2 w2.drew:=(aU _ _).drew;have hmd:=h2.later hd1;have HW:=JA (hmd.st i x s e1 e2) o (.slice af o.aI.length kf) (.slice ac o.aR.length kc) (.slice ad o.aQ.length kd) hbd hnw hjl hwh;rw[hj]at HW;have HW2:Hid (Calls Tryz.prog 62 #[.pointer (some ⟨x.B,0,none⟩),.agg #[.string j,.bool o.bn,.slice af o.aI.length kf,.slice ac o.aR.length kc,.slice ad o.aQ.length kd]] w2.drew λe w'=>e=.returned (.bool (s.write o).2)∧∃y',MM y' (m.put i (s.write o).1) w'∧MU y m y' (m.put i (s.write o).1) w w'∧iH b o.aI o.aR o.aQ (.slice af o.aI.length kf) (.slice ac o.aR.length kc) (.slice ad o.aQ.length kd) w'∧w'.heap[C]?=some (.cells #[.string j,.bool o.bn,.slice af o.aI.length kf,.slice ac o.aR.length kc,.slice ad o.aQ.length kd] 52)):=by
   refine HW.mono ?_;rintro e w' ⟨rfl,hp⟩;obtain⟨y',hm',hu'⟩:=hmd.stp e1 e2 hp;exact⟨rfl,y',hm',((MU.refl y m w).post hbb).trans (hu'.pre hd1),(ho2.later hd1).mesh hmd hu'.fx,(hu'.fx.block C (aF hC2) (hmd.not hC2 (by decide))).trans hC2⟩
  obtain⟨s1,hs1⟩:∃s1,(s.write o).1=s1:=⟨_,rfl⟩;obtain⟨ok,hok⟩:∃ok,(s.write o).2=ok:=⟨_,rfl⟩;rw[hs1,hok]at HW2 hno;rw[hok]at HS hall;have X_:Hid (jH φ m i o 0=(m.put i s1,[⟨i,0,o⟩])):=by
   show _=_;unfold jH;rw[e3,hs1];rfl
  clear HW hs1 hok e1 e2 e3 e4 h2 ho2 hd1 hmd hjl hwh hbd hnw j1 j2 hjz hidle hbb;go_upto_region 3 with(fail);go_cut [21]from 12 to 21 (λv W=>v=.bool (!ok)∧∃y',MM y' (m.put i s1) W∧MU y m y' (m.put i s1) w W∧iH b o.aI o.aR o.aQ (.slice af o.aI.length kf) (.slice ac o.aR.length kc) (.slice ad o.aQ.length kd) W∧W.heap[C]?=some (.cells #[.string j,.bool o.bn,.slice af o.aI.length kf,.slice ac o.aR.length kc,.slice ad o.aQ.length kd] 52))
  case first=>
   clear HS hno hall X_ hC2;go_region_with(go_at_call 62;refine HW2.out.mono ?_;rintro e w3 ⟨rfl,hfin⟩)
   all_goals
    clear HW2;go_wp2_with fail;go_meet;exact⟨by cases ok<;>rfl,hfin⟩
  case rest=>
   obtain⟨rfl,y',hm,hu,ho,D6⟩:=hcut;clear HW2 hC2 t0 t1 t2 t3 t4 p0 q1;have adE:w.heap.size<=wc.heap.size:=hu.fx.size;cases ok
   ·have hev:=FR (b:=b) (W:=wc) (x:=(⟨i,0,Ot.none⟩,⟨.slice none 0 0,.slice none 0 0,.slice none 0 0⟩)) (by omega) ⟨⟨rfl,.inl ⟨rfl,rfl⟩⟩,⟨rfl,.inl ⟨rfl,rfl⟩⟩,⟨rfl,.inl ⟨rfl,rfl⟩⟩⟩;have hb5:Below wc.heap.size wc (wc.alloc (.cells (xV (⟨i,0,Ot.none⟩,⟨.slice none 0 0,.slice none 0 0,.slice none 0 0⟩)).toArray 54)):=bC;have hfin:jB y m (m.jG φ i o).1 (m.jG φ i o).2 b w (.returned (.slice (some ⟨wc.heap.size,0,none⟩) 1 1)) (wc.alloc (.cells (xV (⟨i,0,Ot.none⟩,⟨.slice none 0 0,.slice none 0 0,.slice none 0 0⟩)).toArray 54)):=by
     rw[hno rfl];exact⟨_,_,rfl,rfl,hev,y',hm.later hb5,hu.post hb5⟩
    have ny:(xV (⟨i,0,Ot.none⟩,⟨.slice none 0 0,.slice none 0 0,.slice none 0 0⟩)).toArray=#[.int .i64 i,.int .i64 0,.string ⟨#[]⟩,.bool false,.slice none 0 0,.slice none 0 0,.slice none 0 0]:=rfl;rw[ny]at hfin;clear hev hb5 hno HS hall X_ hm hu ho D6 ny;go_wp2;go_ret;exact hfin
   ·have hev:=FR (b:=b) (W:=wc) (x:=(⟨i,0,o⟩,⟨.slice af o.aI.length kf,.slice ac o.aR.length kc,.slice ad o.aQ.length kd⟩)) (by omega) ho;have ny:(xV (⟨i,0,o⟩,⟨.slice af o.aI.length kf,.slice ac o.aR.length kc,.slice ad o.aQ.length kd⟩)).toArray=#[.int .i64 i,.int .i64 0,.string j,.bool o.bn,.slice af o.aI.length kf,.slice ac o.aR.length kc,.slice ad o.aQ.length kd]:=by
     rw[<-hj];rfl
    rw[ny]at hev;have hb5:Below wc.heap.size wc (wc.alloc (.cells #[.int .i64 i,.int .i64 0,.string j,.bool o.bn,.slice af o.aI.length kf,.slice ac o.aR.length kc,.slice ad o.aQ.length kd] 54)):=bC;have rC:Hid (∃y' L,MM y' (jH φ m i o 0).1 (wc.alloc (.cells #[.int .i64 i,.int .i64 0,.string j,.bool o.bn,.slice af o.aI.length kf,.slice ac o.aR.length kc,.slice ad o.aQ.length kd] 54))∧MU y m y' (jH φ m i o 0).1 w (wc.alloc (.cells #[.int .i64 i,.int .i64 0,.string j,.bool o.bn,.slice af o.aI.length kf,.slice ac o.aR.length kc,.slice ad o.aQ.length kd] 54))∧gP b (.slice (some ⟨wc.heap.size,0,none⟩) 1 1) L (wc.alloc (.cells #[.int .i64 i,.int .i64 0,.string j,.bool o.bn,.slice af o.aI.length kf,.slice ac o.aR.length kc,.slice ad o.aQ.length kd] 54))∧L.map (·.1)=(jH φ m i o 0).2∧(wc.alloc (.cells #[.int .i64 i,.int .i64 0,.string j,.bool o.bn,.slice af o.aI.length kf,.slice ac o.aR.length kc,.slice ad o.aQ.length kd] 54)).ownsRow w.heap.size 54 7 (.slice (some ⟨wc.heap.size,0,none⟩) 1 1) L.length (EvC L)∧iH b o.aI o.aR o.aQ (.slice af o.aI.length kf) (.slice ac o.aR.length kc) (.slice ad o.aQ.length kd) (wc.alloc (.cells #[.int .i64 i,.int .i64 0,.string j,.bool o.bn,.slice af o.aI.length kf,.slice ac o.aR.length kc,.slice ad o.aQ.length kd] 54))):=by
     show ∃y' L,_;rw[X_.out];refine⟨y',_,hm.later hb5,hu.post hb5,hev,rfl,⟨rfl,.inr ⟨wc.heap.size,1,_,rfl,adE,bS _ _,aB _,by decide,rfl,?_⟩⟩,ho.later hb5⟩;rw[<-hj];rfl
    have t0:wc.cell? ⟨C,0,none⟩=some (.string j):=aG _ _ 0 _ _ _ D6;have t1:wc.cell? ⟨C,1,none⟩=some (.bool o.bn):=aG _ _ 1 _ _ _ D6;have t2:wc.cell? ⟨C,2,none⟩=some (.slice af o.aI.length kf):=aG _ _ 2 _ _ _ D6;have t3:wc.cell? ⟨C,3,none⟩=some (.slice ac o.aR.length kc):=aG _ _ 3 _ _ _ D6;have t4:wc.cell? ⟨C,4,none⟩=some (.slice ad o.aQ.length kd):=aG _ _ 4 _ _ _ D6;have ZT:=hide (hall rfl);have HS2:=hide (λk f hf=>HS k f hf hid rfl);clear hev hb5 hno HS hall X_ hm hu ho D6 ny hj hid;have u2:(wc.alloc (.cells #[.int .i64 i,.int .i64 0,.string j,.bool o.bn,.slice af o.aI.length kf,.slice ac o.aR.length kc,.slice ad o.aQ.length kd] 54)).cell? ⟨C,2,none⟩=some (.slice af o.aI.length kf):=((bC:Below wc.heap.size wc _).cell (World.block_lt_of_cell? _ _ t2)).trans t2;go_upto_region 6 with(fail);generalize World.alloc _ _=W5 at rC u2 ⊢;generalize wc.heap.size=E at rC ⊢;clear t0 t1 t2 t3 t4;go_wp2_with fail;go_loopw [7,32] (λev iv wr=>∃k:Nat,k<=o.aI.length∧iv=.int .i64 k∧Hid (∃y' L,MM y' (jH φ m i o k).1 wr∧MU y m y' (jH φ m i o k).1 w wr∧gP b ev L wr∧L.map (·.1)=(jH φ m i o k).2∧wr.ownsRow w.heap.size 54 7 ev L.length (EvC L)∧iH b o.aI o.aR o.aQ (.slice af o.aI.length kf) (.slice ac o.aR.length kc) (.slice ad o.aQ.length kd) wr)) (λ_ iv _=>o.aI.length - (intOf iv).toNat)
    case atStart=>exact⟨0,b_ _,rfl,rC⟩
    case round=>
     clear rC;obtain⟨k,hk,rfl,hr⟩:=hrel;by_cases hkl:k<o.aI.length
     ·have hki:(k:Int)<(o.aI.length:Int):=by omega
      obtain⟨y1,L,hm,hu,hev,hL,hrw,ho⟩:=hr.out;obtain⟨f,hf⟩:∃f,o.aI[k]?=some f:=⟨_,cK hkl⟩;obtain⟨g5,rfl,d0,d1⟩:=YG ho rfl hf;have hbx:Below wr.heap.size wr (wr.alloc (.cells #[.int .u32 f.1,.string f.2] 77)):=bC;have hm1:=hm.later hbx;have hHS:=HS2.out k f hf y1 _ hm1;rw[hu.G]at hHS;have hlen:=BN hφ m i o k hk;rw[<-hL,iL]at hlen;have aeH:=hφ (jH φ m i o k).1 f;have hsucc:=Ec φ m i o hf;have adO:=hev.later hbx;have ho1:=ho.later hbx;have hu1:=hu.post hbx;have abO:Hid (Calls Tryz.prog 67 #[.pointer (some ⟨y.G,0,none⟩),.int .i64 i,.agg #[.int .u32 f.1,.string f.2]] (wr.alloc (.cells #[.int .u32 f.1,.string f.2] 77)) λe w3=>∃v2 L2 n2,e=.returned v2∧L2.length=n2∧n2<=1∧w3.ownsRow w.heap.size 54 7 u7 L.length (EvC L)∧w3.ownsRow wr.heap.size 54 7 v2 n2 (EvC L2)∧(∀u∈EvC L2,u.oneCell'=true)∧w.heap.size<=w3.heap.size∧∀v' w',w'.ownsRow w.heap.size 54 7 v' (L.length+n2) (EvC L++EvC L2)->w3.grownBy w' u7.ownBlock->∃y' L,MM y' (jH φ m i o (k+1)).1 w'∧MU y m y' (jH φ m i o (k+1)).1 w w'∧gP b v' L w'∧L.map (·.1)=(jH φ m i o (k+1)).2∧w'.ownsRow w.heap.size 54 7 v' L.length (EvC L)∧iH b o.aI o.aR o.aQ (.slice (some ⟨g5,0,none⟩) o.aI.length kf) (.slice ac o.aR.length kc) (.slice ad o.aQ.length kd) w'):=by
       refine hHS.mono ?_;rintro e w3 ⟨v2,L2,rfl,hL2,ny,y2,hm2,hu2⟩;have hl2:L2.length<=1:=by
        have:=congrArg List.length hL2;rw[iL]at this;omega
       have abw:=adO.mesh hm1 hu2.fx;have how:=ho1.mesh hm1 hu2.fx;have hz1:=hbx.size;have hz2:=hu2.fx.size;have hz3:=(hu1.trans hu2).fx.size;have hz0:=hu.fx.size;have hrw3:w3.ownsRow w.heap.size 54 7 u7 L.length (EvC L):=bP (bP hrw λk5 hk5=>hbx.block k5 (hrw.lt k5 hk5).2) λk5 hk5=>by
        obtain⟨cc,PY⟩:=aS hrw hk5;have hc6:=(hbx.block k5 (aF PY)).trans PY;exact hu2.fx.block k5 (aF hc6) (hm1.notE (by decide) hc6)
       refine⟨v2,L2,_,rfl,rfl,hl2,hrw3,(ny.lower hz1).row,ny.one,hz3,λv' w' ho' hg'=> ?_⟩;have hbE:∀k5,uP y2 (φ (jH φ m i o k).1 f).1 k5->w'.heap[k5]?=w3.heap[k5]?:=λk5 hk5=>hg'.block k5 (hm2.lt hk5) λe5=>by
        obtain⟨cc,PY⟩:=aS abw.row e5.symm;exact hm2.notE (by decide) PY hk5
       rw[hsucc];refine⟨y2,L++L2,hm2.kept hbE,⟨aV (hu1.trans hu2).fx hg' (λj5 hj5 e5=> ?_),λk5 hk5=>((hu1.trans hu2).sub k5 hk5).imp_right λh=>⟨h.1,fO h.2 hg'.size⟩,(hu1.trans hu2).G,(hu1.trans hu2).n,(hu1.trans hu2).sv,(hu1.trans hu2).B⟩,?_,?_,by rw[dx,Cr];exact ho',how.at λk5 c5 t5 ht5 hk5=>hg'.block k5 (aF hk5) λe5=> ?_⟩
       ·have:=(hrw.lt j5 e5).1;omega
       ·exact abw.append ny (by omega) (λx hx k5 hk5=>by have:=(hev.out x hx).lt hk5;omega) (ownsRow_base_a ho' hb) hg'
       ·rw[List.map_append,hL,hL2];rfl
       ·obtain⟨cc,PY⟩:=aS abw.row e5.symm;rw[hk5]at PY;cases PY;exact absurd ht5 (by decide)
      have IW:Hid (∀n2,n2<=1->L.length+n2<=maxLen∧(L.length+n2)* 112<=140737488355328):=λn2 h2=>by unfold maxLen;omega
      have hme:=pQ hkl;have hk1:k+1<=o.aI.length:=by omega
      have hw64:wrap64 ((k:Int)+1)=(k:Int)+1:=by unfold wrap64;omega
      obtain⟨f1,f2⟩:=f;dsimp only at d0 d1 abO;clear hr hm hu hev hL ho hm1 hHS hlen aeH hsucc adO ho1 hu1 hf hbx hrw hfr hb;go_wp2_with fail;refine aT abO.out ?_;rintro e w3 ⟨v2,L2,n2,rfl,hn2,afd,hr1,hr2,h1c,hbw,hnx⟩;replace hnx:=hide hnx;replace hn2:=hide hn2;obtain⟨abp,abo⟩:=IW.out n2 afd;clear abO IW;go_wp2_with(at_builtin;refine tN rfl _ _ 29 rfl w.heap.size 54 i0 (.agg #[.int .i64 0,.int .i64 0,.string ⟨#[]⟩,.bool false,.slice none 0 0,.slice none 0 0,.slice none 0 0]) 7 112 Tryz.underlying29 hi0 hz0 hz1 hz2 rfl (by decide) u7 L.length (EvC L) rfl hr1 wr.heap.size v2 n2 (EvC L2) rfl hr2 h1c abp abo hbw ?_);intro v7 w7 iy gW;have Bg:=hide (hnx.out v7 w7 iy gW);clear hnx iy gW hr1 hr2 h1c d0 d1;go_wp2;try rw[hw64]
      go_roundw
      case rel=>
       first
        |exact⟨k+1,hk1,by go_num,Bg⟩
        |exact⟨_,_,⟨k+1,hk1,by go_num,Bg⟩,rfl⟩
        |((repeat apply Exists.intro);refine⟨⟨k+1,hk1,by go_num,Bg⟩,rfl⟩)
      case measure=>exact hme
     ·obtain rfl:k=o.aI.length:=by omega
      obtain⟨y1,L,hm,hu,hev,hL,hrw,ho⟩:=hr.out;have hfin:jB y m (m.jG φ i o).1 (m.jG φ i o).2 b w (.returned u7) wr:=by
       rw[ZT.out];exact⟨u7,L,rfl,hL,hev,y1,hm,hu⟩
      clear hr hm hu hev hL ho HS2 ZT hrw;go_wp2;go_ret;exact hfin
 ·have hfin:jB y m (m.jG φ i o).1 (m.jG φ i o).2 b w (.returned (.slice none 0 0)) w2:=by
   unfold aP.jG;rw[aM (by rw[hid])];exact⟨_,[],rfl,rfl,gP.nil _ _,y,h2,(MU.refl y m w).post hbb⟩
  clear h2 ho2 hC2 HS hbb;go_wp2;go_ret;exact hfin
variable{c:sN}{k now' κ Wn:Int}{m:aP}{φ:aP->Int×ByteArray->aP×List Ev}{d i n q q':Nat}{s s':St}
theorem K_(h:Pr c s s'):s'.cnt - s'.bg.length=s.cnt - s.bg.length∧s'.bn=s.bn:=by
 cases h with
 |zw h=>rw[h.cnt,h.bg,h.bn];exact⟨rfl,rfl⟩
 |tab _=>exact⟨rfl,rfl⟩
 |aJ _ _ _ _ _=>exact⟨rfl,rfl⟩
 |grw=>exact⟨rfl,rfl⟩
 |mx _ _ _ _=>exact⟨rfl,rfl⟩
 |wr=>
  refine⟨?_,rfl⟩;show s.cnt+((bJ s.seq s.own s.f s.A).2.length:Int) - ((s.bg++(bJ s.seq s.own s.f s.A).2).length:Int)=_;rw[dx];omega
theorem NT(h:fU c n s s'):s'.cnt - s'.bg.length=s.cnt - s.bg.length∧s'.bn=s.bn:=by
 induction h with
 |nil=>exact⟨rfl,rfl⟩
 |snoc _ k ih=>
  have h2:=K_ k;exact⟨h2.1.trans ih.1,h2.2.trans ih.2⟩
structure L6(c0:Int)(s:St):Prop where
 no:s.bn=false->s.cnt=c0+s.bg.length
 yes:s.bn=true->s.cnt=s.bg.length∧0<s.bg.length
theorem BP{c0:Int}(h1:s.cnt - s.bg.length=c0)(h2:s.bn=false∨(c0=0∧0<s.write.bg.length)):L6 c0 s.finish:=by
 have hw:=K_ (c:=none) (.wr:Pr none s s.write);unfold St.finish;split
 ·refine⟨λh=> ?_,λ_=>⟨rfl,?_⟩⟩
  ·cases h
  ·have:=zU s.write;dsimp only;omega
 ·refine⟨λ_=>by omega,λh=> ?_⟩;have hr:s.bn=true:=by rw[<-hw.2];exact h
  rcases h2 with h2|⟨h2,h3⟩
  ·rw[h2]at hr;cases hr
  ·exact⟨by omega,h3⟩
theorem Qs(s:St)(now:Int):(s.begin now).cnt - (s.begin now).bg.length=s.cnt∧(s.begin now).bn=false:=by
 have hw:=K_ (c:=none) (.wr:Pr none {s with now:=now,A:=iW s.A now,bg:=[],aI:=[],aR:=[],aQ:=[],bn:=false} ({s with now:=now,A:=iW s.A now,bg:=[],aI:=[],aR:=[],aQ:=[],bn:=false}:St).write);refine⟨?_,hw.2⟩;have:=hw.1;simp only[List.length_nil]at this;show({s with now:=now,A:=iW s.A now,bg:=[],aI:=[],aR:=[],aQ:=[],bn:=false}:St).write.cnt - _=_;have h2:(s.begin now)=({s with now:=now,A:=iW s.A now,bg:=[],aI:=[],aR:=[],aQ:=[],bn:=false}:St).write:=rfl;rw[h2];omega
theorem vZ{now:Int}(h:fU c n (s.locked.begin now) s'):L6 s.cnt s'.finish.freed:=by
 have h1:=Qs s.locked now;have h2:=NT h;have h3:=BP (c0:=s.cnt) (s:=s') (by rw[h2.1];exact h1.1) (.inl (h2.2.trans h1.2));exact⟨h3.no,h3.yes⟩
theorem F4(s:St)(now d_:Int):∃s',fU none 2 (s.locked.begin now) s'∧s.brk now d_=s'.finish.freed:=by
 refine⟨_,fU.trans (n:=1) (k:=1) (.one (.tab (.brk d_))) (vE none _ 0 (nC d_ (s.locked.begin now).A) ?_),rfl⟩;intro x hx;obtain⟨y,hy,e⟩:=List.mem_filterMap.1 hx;unfold C9 at e;split at e
 ·rename_i hc;cases e;simp only[eF]at hc;refine .inr ⟨bQ d_ 0 y,dh.2 ⟨y,hy,rfl⟩,eU _ _ y,?_,.inl (Int.le_max_right _ _)⟩;unfold bQ;rw[aM (by simp[hc.1.1,hc.1.2])];exact fo _
 ·cases e
theorem Tp{y:Rt}(h:y.Ok){fr q:Int}(hq:a_ q):(bQ fr q y).Ok:=by
 unfold bQ;split
 ·exact vW h hq
 ·exact h
theorem Z8(s:St)(now d_:Int):(s.brk now d_).A=(iW s.A now).map (bQ d_ 0):=(aO _).A
theorem NW(s:St)(now d_:Int):∀f∈(s.brk now d_).aI,f.1=0:=by
 intro f hf;have e:(s.brk now d_).aI=Pw 0 (nC d_ (s.locked.begin now).A):=(aO _).aI;rw[e]at hf;unfold Pw at hf;split at hf
 ·cases hf
 ·rw[dO]at hf;rw[hf]
theorem Y6(h:s.Inv k)(hA:∀y∈s.A,y.Ok)(hl:s.A.length<=8)(now d_:Int)(hn:s.now<=now∧now<=4611686018427387904):(s.brk now d_).Inv (k+1)∧(∀y∈(s.brk now d_).A,y.Ok)∧(s.brk now d_).A.length<=8:=by
 have hm:=(qZ h).2 now hn hA hl;have hA':∀y∈(iW s.A now).map (bQ d_ 0),y.Ok:=λy hy=>by
  obtain⟨z,hz,rfl⟩:=dh.1 hy;exact Tp (NN hA now z hz) (by simp[a_])
 have hl':((iW s.A now).map (bQ d_ 0)).length<=8:=by rw[iL];unfold iW;rw[iL];exact hl
 have e1:=qi (s.locked.begin now) (A:=(s.locked.begin now).A.map (bQ d_ 0)) (λy hy=>⟨_,dh.2 ⟨y,hy,rfl⟩,eU _ _ y⟩);have e2:=e1.trans (rP _ 0 (nC d_ (s.locked.begin now).A));have hm2:=vK hm e2;refine⟨mH hm2 (by omega) hA' hl',?_,?_⟩
 ·rw[Z8];exact hA'
 ·rw[Z8];exact hl'
theorem wm(s:St)(now d_:Int):(s.brk now d_).me=s.me∧(s.brk now d_).now=now∧(s.brk now d_).Q=s.Q:=⟨(aO _).me,(aO _).now,(aO _).Q⟩
theorem Y7(s:St)(now d_:Int):L6 s.cnt (s.brk now d_):=by
 obtain⟨s',h1,h2⟩:=F4 s now d_;rw[h2];exact vZ h1
structure Zn(κ:Int)(q:Nat)(now:Int)(s:bG)(z:St):Prop where
 inv:z.Inv κ
 pos:z.Pos
 me:z.me=s.addr
 nw:z.now<=now
 ql:z.Q.length<=q
 ok:∀y∈z.A,y.Ok
 len:z.A.length<=8
structure C_(κ:Int)(q:Nat)(now:Int)(s:bG):Prop where
 addr:a_ s.addr
 a0:s.addr≠0
 jb:∀x∈s.aZ,0<=x∧x<=255
 jl:s.aZ.length<=2000
 wh:0<=s.whole
 nd:∀z,s.nd=some z->Zn κ q now s z
 jn:∀z,s.nd=some z->(s.aZ.length:Int)=13 * z.cnt∧0<z.cnt
structure JC(κ:Int)(q:Nat)(now:Int)(s:bG)(z:St):Prop where
 addr:a_ s.addr
 a0:s.addr≠0
 jb:∀x∈s.aZ,0<=x∧x<=255
 jl:s.aZ.length<=2000
 wh:0<=s.whole
 hz:s.nd=some z
 nd:Zn κ q now s z
 no:z.bn=false->13 * z.cnt=s.aZ.length+13 * z.bg.length
 yes:z.bn=true->z.cnt=z.bg.length
 pos:0<z.cnt
structure iX(κ:Int)(q:Nat)(m:aP):Prop where
 n:m.S.length<=6
 bD:m.bD.length<=48
 now:0<=m.now∧m.now<=4611686018427387904
 st:∀s∈m.S,C_ κ q m.now s
theorem TI{k':Int}(h:s.Inv k)(hk:k<=k'):s.Inv k':=
 ⟨h.me,h.seq,h.now,h.mem,h.dom,h.cnt,by have:=h.tn;omega,by have:=h.tl;omega,h.lk,h.Cv,h.AR,h.AU,h.EF,h.bd,h.nwl,h.frl,h.cml,h.drl⟩
theorem Zn.up{now:Int}{s s':bG}{z:St}(h:Zn κ q now s z)(h1:κ<=Wn)(h2:q<=q')(h3:now<=now')(h4:s'.addr=s.addr):Zn Wn q' now' s' z:=
 ⟨TI h.inv h1,h.pos,h.me.trans h4.symm,by have:=h.nw;omega,by have:=h.ql;omega,h.ok,h.len⟩
theorem C_.up{now:Int}{s:bG}(h:C_ κ q now s)(h1:κ<=Wn)(h2:q<=q')(h3:now<=now'):C_ Wn q' now' s:=
 ⟨h.addr,h.a0,h.jb,h.jl,h.wh,λz hz=>(h.nd z hz).up h1 h2 h3 rfl,h.jn⟩
theorem iX.up(h:iX κ q m)(h1:κ<=Wn)(h2:q<=q'):iX Wn q' m:=⟨h.n,h.bD,h.now,λs hs=>(h.st s hs).up h1 h2 (fo _)⟩
theorem JC.nwl{now:Int}{s:bG}{z:St}(h:JC κ q now s z):z.bg.length<=24:=by
 have hc:=h.nd.inv.cnt;cases hr:z.bn
 ·have:=h.no hr;omega
 ·have:=h.yes hr;omega
theorem JC.write{now:Int}{s:bG}{z:St}(h:JC κ q now s z):C_ κ q now (s.write z.ot).1:=by
 have hn:=h.nwl;have hc:=h.nd.inv.cnt;have hbd:=FP h.nd.inv.bd;have hfl:=iF z.bg;have hjl:=h.jl;by_cases h1:z.bg≠ []∨z.bn=true
 ·cases ht:s.tears
  ·rw[bG.jX (o:=z.ot) h1 ht];show C_ κ q now {s with aZ:=(if z.bn then []else s.aZ)++bB z.bg};have hlen:(((if z.bn then []else s.aZ)++bB z.bg).length:Int)=13 * z.cnt:=by
    cases hr:z.bn
    ·have:=h.no hr;simp only[Bool.false_eq_true,if_false,dx,hfl];omega
    ·have:=h.yes hr;simp only[if_true,List.nil_append,hfl];omega
   refine⟨h.addr,h.a0,λx hx=> ?_,?_,h.wh,λu hu=> ?_,λu hu=> ?_⟩
   ·rcases dG.1 hx with hx|hx
    ·split at hx
     ·cases hx
     ·exact h.jb x hx
    ·exact hbd x hx
   ·dsimp only;omega
   ·have hu':s.nd=some u:=hu;rw[h.hz]at hu';cases hu';exact h.nd.up (fo _) (aB _) (fo _) rfl
   ·have hu':s.nd=some u:=hu;rw[h.hz]at hu';cases hu';exact⟨hlen,h.pos⟩
  ·rw[bG.o5 (o:=z.ot) h1 ht];show C_ κ q now ({s with aZ:=if z.bn then s.aZ else s.aZ++(bB z.bg).take s.whole.toNat}:bG).stop;refine⟨h.addr,h.a0,λx hx=> ?_,?_,fo _,λu hu=>(by cases hu),λu hu=>(by cases hu)⟩
   ·have hx':x∈(if z.bn then s.aZ else s.aZ++(bB z.bg).take s.whole.toNat):=hx;split at hx'
    ·exact h.jb x hx'
    ·rcases dG.1 hx' with hx'|hx'
     ·exact h.jb x hx'
     ·exact hbd x (List.mem_of_mem_take hx')
   ·show(if z.bn then s.aZ else s.aZ++(bB z.bg).take s.whole.toNat).length<=2000;cases hr:z.bn
    ·have h5:=h.no hr;simp only[Bool.false_eq_true,if_false,dx,List.length_take,hfl];omega
    ·simp only[if_true];exact hjl
 ·simp only[not_or,Classical.not_not]at h1;obtain⟨h1,h2⟩:=h1;have h2':z.bn=false:=by simpa using h2
  rw[bG.oh (o:=z.ot) h1 h2'];have h5:=h.no h2';rw[h1]at h5;simp only[List.length_nil]at h5;exact⟨h.addr,h.a0,h.jb,h.jl,h.wh,λu hu=>by rw[h.hz]at hu;cases hu;exact h.nd,λu hu=>by
   rw[h.hz]at hu;cases hu;refine⟨?_,h.pos⟩;show(s.aZ.length:Int)=13 * z.cnt;omega⟩
theorem C_.call{now:Int}{s:bG}{z z':St}(h:C_ κ q now s)(hz:s.nd=some z)(hc:L6 z.cnt z')(hn:Zn κ q now s z'):JC κ q now {s with nd:=some z'} z':=
 ⟨h.addr,h.a0,h.jb,h.jl,h.wh,rfl,hn.up (fo _) (aB _) (fo _) rfl,λhr=>by
  have h1:=hc.no hr;have h2:=(h.jn z hz).1;show 13 * z'.cnt=(s.aZ.length:Int)+13 * z'.bg.length;omega,λhr=>(hc.yes hr).1,by
  have h3:=(h.jn z hz).2;cases hr:z'.bn
  ·have:=hc.no hr;omega
  ·have:=hc.yes hr;omega⟩
structure Dh(κ:Int)(q:Nat)(m:aP)(i:Nat)(z:St):Prop where
 n:m.S.length<=6
 bD:m.bD.length<=48
 now:0<=m.now∧m.now<=4611686018427387904
 st:∀j s,m.S[j]?=some s->j≠i->C_ κ q m.now s
 pre:∃s,m.S[i]?=some s∧JC κ q m.now s z
theorem gQ(m:aP)(i:Nat)(s:bG):(m.put i s).S=m.S.set i s∧(m.put i s).now=m.now∧(m.put i s).bD=m.bD:=⟨rfl,rfl,rfl⟩
theorem Dh.write{z:St}(h:Dh κ q m i z):iX κ q (m.put i ((m.at' i).write z.ot).1):=by
 obtain⟨s,h1,h2⟩:=h.pre;rw[dX h1];refine⟨by rw[(gQ _ _ _).1,List.length_set];exact h.n,h.bD,h.now,λu hu=> ?_⟩;rw[(gQ _ _ _).1]at hu;obtain⟨j,hj⟩:=List.getElem?_of_mem hu;rcases cO hj with⟨_,rfl⟩|⟨hne,hj⟩
 ·exact h2.write
 ·exact h.st j u hj hne
theorem iX.at(h:iX κ q m){i:Nat}{s:bG}(hs:m.S[i]?=some s):C_ κ q m.now s:=h.st s (gI hs)
theorem iX.bK(h:iX κ q m)(i:Nat)(f:Int×ByteArray):iX κ q (m.bK i f):=by
 have hS:=ou m i f m.S.length;have ha:=Ao m i f m.S.length h.bD;rw[pq]at hS ha;exact⟨by rw[hS.1];exact h.n,ha,by rw[hS.2];exact h.now,λs hs=>by rw[hS.2];rw[hS.1]at hs;exact h.st s hs⟩
theorem iX.called(h:iX κ q m)(IQ:κ<=Wn)(hq:q<=q'){i:Nat}{s:bG}{z z':St}(hs:m.S[i]?=some s)(hz:s.nd=some z)(hc:L6 z.cnt z')(hn:Zn Wn q' m.now s z'):Dh Wn q' (m.put i {s with nd:=some z'}) i z':=by
 refine⟨by rw[(gQ _ _ _).1,List.length_set];exact h.n,h.bD,h.now,λj u hj hne=> ?_,?_⟩
 ·rw[(gQ _ _ _).1]at hj;rcases cO hj with⟨e,_⟩|⟨_,hj⟩
  ·exact absurd e hne
  ·exact(h.at hj).up IQ hq (fo _)
 ·refine⟨_,?_,((h.at hs).up IQ hq (fo _)).call hz hc hn⟩;rw[(gQ _ _ _).1,List.getElem?_set_self (fu.1 hs).1]
theorem iX.broken(h:iX κ q m){i:Nat}{s:bG}{z:St}(hs:m.S[i]?=some s)(hz:s.nd=some z)(t:Int):Dh (κ+1) q (m.put i {s with nd:=some (z.brk m.now t)}) i (z.brk m.now t):=by
 have hn:=(h.at hs).nd z hz;obtain⟨h1,h2,h3⟩:=Y6 hn.inv hn.ok hn.len m.now t ⟨hn.nw,h.now.2⟩;obtain⟨e1,e2,e3⟩:=wm z m.now t;refine h.called (by omega) (aB _) hs hz (Y7 z m.now t) ⟨h1,λu hu=> ?_,e1.trans hn.me,by rw[e2];exact fo _,by rw[e3];exact hn.ql,h2,h3⟩;rw[e3]at hu;exact hn.pos u hu
theorem Dh.toM{z:St}(h:Dh κ q m i z)(hi:z.ot.idle=true):iX κ q m:=by
 obtain⟨s,h1,h2⟩:=h.pre;have hw:=h.write;rw[Fj]at hi;simp only[eF,iM,Bool.not_eq_true']at hi;rw[dX h1,bG.oh hi.1.1 hi.1.2]at hw;refine⟨h.n,h.bD,h.now,λu hu=> ?_⟩;obtain⟨j,hj⟩:=List.getElem?_of_mem hu;by_cases e:j=i
 ·subst e;rw[h1]at hj;cases hj;refine hw.at (i:=j) ?_;rw[(gQ _ _ _).1,List.getElem?_set_self (fu.1 h1).1]
 ·exact h.st j u hj e
theorem Jd(hφ:∀κ m f,iX κ q m->iX (κ+d) q (φ m f).1):∀(L:List (Int×ByteArray)) (κ:Int) (z:aP×List Ev),iX κ q z.1->iX (κ+d * L.length) q (L.foldl (uH φ) z).1
 | [],κ,z,h=>by simpa using h
 |f::L,κ,z,h=>by
  rw[fP];have h1:=Jd hφ L (κ+d) (uH φ z f) (hφ κ z.1 f h);refine h1.up ?_ (aB _);rw[dY,Int.natCast_add,Int.mul_add];omega
theorem FX(hφ:∀κ m f,iX κ q m->iX (κ+d) q (φ m f).1){κ:Int}{m:aP}{i:Nat}{z:St}(h:Dh κ q m i z)(k:Nat)(hk:k<=z.aI.length):iX (κ+d * k) q (jH φ m i z.ot k).1:=by
 have h1:=Jd hφ (z.aI.take k) κ (m.put i ((m.at' i).write z.ot).1,[⟨i,0,z.ot⟩]) h.write;rw[List.length_take,Nat.min_eq_left hk]at h1;exact h1
theorem NS(hφ:∀κ m f,iX κ q m->iX (κ+d) q (φ m f).1){κ:Int}{m:aP}{i:Nat}{z:St}(h:Dh κ q m i z):iX (κ+d * z.aI.length) q (m.jG φ i z.ot).1:=by
 cases hi:z.ot.idle
 ·cases hw:((m.at' i).write z.ot).2
  ·unfold aP.jG;rw[aH (by simp[hi]),aH (by simp[hw])];exact h.write.up (by have:=Int.mul_nonneg (Int.natCast_nonneg d) (Int.natCast_nonneg z.aI.length);omega) (aB _)
  ·rw[vY φ m i z.ot hi hw];exact FX hφ h z.aI.length (aB _)
 ·unfold aP.jG;rw[aM hi];exact(h.toM hi).up (by have:=Int.mul_nonneg (Int.natCast_nonneg d) (Int.natCast_nonneg z.aI.length);omega) (aB _)
theorem MR(i:Nat):∀(κ:Int) (m:aP) (f:Int×ByteArray),iX κ q m->iX (κ+(0:Nat)) q (m.nU i f).1:=λκ m f h=>(h.bK i f).up (by omega) (aB _)
theorem Sw(i:Nat)(m:aP)(f:Int×ByteArray):(m.nU i f).2.length<=1:=b_ _
theorem Js(hφ:∀m f,(φ m f).2=[]):∀(L:List (Int×ByteArray)) (z:aP×List Ev),(L.foldl (uH φ) z).2=z.2
 | [],_=>rfl
 |f::L,z=>by
  rw[fP,Js hφ L];unfold uH;rw[hφ,gU]
theorem UX(m:aP)(i:Nat)(o:Ot):(m.CZ i o).2.length<=1:=by
 unfold aP.CZ aP.jG;split
 ·exact b_ _
 ·split
  ·rw[show(λ(z:aP×List Ev) (f:Int×ByteArray)=>((aP.nU i z.1 f).1,z.2++(aP.nU i z.1 f).2))=uH (aP.nU i)from rfl,Js (λ_ _=>rfl)];exact aB _
  ·exact aB _
theorem Hz(i:Nat)(m:aP)(f:Int×ByteArray):(m.jg i f).2.length<=1:=by
 unfold aP.jg;split
 ·exact b_ _
 ·split
  ·exact b_ _
  ·exact UX _ _ _
theorem MQ(i:Nat):∀(κ:Int) (m:aP) (f:Int×ByteArray),iX κ q m->iX (κ+(1:Nat)) q (m.jg i f).1:=by
 intro κ m f h;have hf:=h.bK i f;unfold aP.jg;split
 ·exact hf.up (by omega) (aB _)
 ·split
  ·exact hf.up (by omega) (aB _)
  ·rename_i s hs;have hS:=(ou m i f m.S.length);rw[pq]at hS;obtain⟨u,hu⟩:∃u,(m.bK i f).S[i]?=some u:=by
    cases hu:(m.bK i f).S[i]? with
    |some u=>exact⟨u,rfl⟩
    |none=>
     unfold aP.at' at hs;rw[List.getD_eq_getElem?_getD,hu]at hs;cases hs
   rw[dX hu]at hs ⊢;have hb:=hf.broken hu hs f.1;rw[hS.2]at hb;have:=NS (MR i) hb;exact this.up (by omega) (aB _)
variable{κ:Int}{y:MG}{m:aP}{i q:Nat}{w:World}
theorem Dh.pre'{z:St}(h:Dh κ q m i z):∃s,m.S[i]?=some s∧m.at' i=s∧JC κ q m.now s z:=by
 obtain⟨s,h1,h2⟩:=h.pre;exact⟨s,h1,dX h1,h2⟩
theorem iX.node(h:iX κ q m){i:Nat}(hi:i<m.S.length){z:St}(hz:(m.at' i).nd=some z):Zn κ q m.now (m.at' i) z:=by
 have hs:m.S[i]?=some m.S[i]:=cK hi;rw[dX hs]at hz ⊢;exact(h.at hs).nd z hz
theorem K9(φ:aP->Int×ByteArray->aP×List Ev)(hφ:∀m f,(φ m f).1.S.length=m.S.length)(m:aP)(i:Nat)(o:Ot)(k:Nat):(jH φ m i o k).1.S.length=m.S.length:=by
 have hg:∀(L:List (Int×ByteArray)) (z:aP×List Ev),(L.foldl (uH φ) z).1.S.length=z.1.S.length:=by
  intro L
  induction L with
  |nil=>intro z;rfl
  |cons f L ih=>
   intro z;rw[fP,ih];exact hφ z.1 f
 unfold jH;rw[hg,(gQ _ _ _).1,List.length_set]
theorem iQ(m:aP)(i:Nat)(f:Int×ByteArray):(m.bK i f).S=m.S∧(m.bK i f).now=m.now:=by
 have:=ou m i f m.S.length;rw[pq]at this;exact this
theorem UW(φ:aP->Int×ByteArray->aP×List Ev)(hφ:∀m f,(φ m f).1.S.length=m.S.length)(m:aP)(i:Nat)(o:Ot):(m.jG φ i o).1.S.length=m.S.length:=by
 cases hi:o.idle
 ·cases hw:((m.at' i).write o).2
  ·unfold aP.jG;rw[aH (by simp[hi]),aH (by simp[hw])];rw[(gQ _ _ _).1,List.length_set]
  ·rw[vY φ m i o hi hw];exact K9 φ hφ m i o _
 ·unfold aP.jG;rw[aM hi]
theorem Sy(i:Nat)(m:aP)(f:Int×ByteArray):(m.nU i f).1.S.length=m.S.length:=by
 show(m.bK i f).S.length=_;rw[(iQ m i f).1]
theorem Sq(i:Nat)(m:aP)(f:Int×ByteArray):(m.jg i f).1.S.length=m.S.length:=by
 unfold aP.jg;split
 ·dsimp only;rw[(iQ m i f).1]
 ·split
  ·dsimp only;rw[(iQ m i f).1]
  ·unfold aP.CZ;rw[UW _ (Sy i),(gQ _ _ _).1,List.length_set,(iQ m i f).1]
theorem acL(h:MM y m w){κ:Int}{q:Nat}{i:Nat}{z:St}(hd:Dh κ q m i z)(h0:∀f∈z.aI,f.1=0)(aJ bL bO:Value)(b:Nat)(hor:iH b z.aI z.aR z.aQ aJ bL bO w)(hb:b<=w.heap.size):
  Calls Tryz.prog 36 #[.pointer (some ⟨y.G,0,none⟩),.int .i64 i,iZ z.aZ z.bn aJ bL bO] w (jB y m (m.CZ i z.ot).1 (m.CZ i z.ot).2 b w):=by
 obtain⟨s,h1,h2,h3⟩:=hd.pre';have hi:=(fu.1 h1).1;have hI:=h3.nd.inv;have hnw:=h3.nwl;refine aad h i hi hd.n (aP.nU i) z.ot aJ bL bO b hor hb hI.bd (by show z.bg.length<=_;omega) ⟨hI.frl,hI.cml,hI.drl⟩ (by rw[h2];have:=h3.jl;omega) (by rw[h2];exact h3.wh) (Sw i) ?_;intro k f hf _ _ y1 w1 hm1;have hk:=(fu.1 hf).1;have hok:=FX (MR i) hd k (Nat.le_of_lt hk);have hS:=K9 (aP.nU i) (Sy i) m i z.ot k;have hf0:=h0 f (gI hf);have e:aP.jg i (jH (aP.nU i) m i z.ot k).1 f=aP.nU i (jH (aP.nU i) m i z.ot k).1 f:=by
  unfold aP.jg;rw[aM (.inr hf0)];rfl
 rw[<-e];exact zi hm1 i (by rw[hS];exact hi) hok.n hok.bD f (λu hu=>⟨_,(hok.node (by rw[hS];exact hi) hu).inv,(hok.node (by rw[hS];exact hi) hu).nw⟩) hok.now.2 (λhne=>absurd hf0 hne)
theorem Gg(h:MM y m w){κ:Int}{q:Nat}{i:Nat}{z:St}(hd:Dh κ q m i z)(aJ bL bO:Value)(b:Nat)(hor:iH b z.aI z.aR z.aQ aJ bL bO w)(hb:b<=w.heap.size):
  Calls Tryz.prog 36 #[.pointer (some ⟨y.G,0,none⟩),.int .i64 i,iZ z.aZ z.bn aJ bL bO] w (jB y m (m.did i z.ot).1 (m.did i z.ot).2 b w):=by
 obtain⟨s,h1,h2,h3⟩:=hd.pre';have hi:=(fu.1 h1).1;have hI:=h3.nd.inv;have hnw:=h3.nwl;refine aad h i hi hd.n (aP.jg i) z.ot aJ bL bO b hor hb hI.bd (by show z.bg.length<=_;omega) ⟨hI.frl,hI.cml,hI.drl⟩ (by rw[h2];have:=h3.jl;omega) (by rw[h2];exact h3.wh) (Hz i) ?_;intro k f hf _ _ y1 w1 hm1;have hk:=(fu.1 hf).1;have hok:=FX (MQ i) hd k (Nat.le_of_lt hk);have hS:=K9 (aP.jg i) (Sq i) m i z.ot k;refine zi hm1 i (by rw[hS];exact hi) hok.n hok.bD f (λu hu=>⟨_,(hok.node (by rw[hS];exact hi) hu).inv,(hok.node (by rw[hS];exact hi) hu).nw⟩) hok.now.2 ?_;intro _ u hu y2 w2 b2 af0 af8 af3 hm2 hb2 hor2;have hsf:=hok.bK i f;obtain⟨eS,eN⟩:=iQ (jH (aP.jg i) m i z.ot k).1 i f;obtain⟨v,hv⟩:∃v,((jH (aP.jg i) m i z.ot k).1.bK i f).S[i]?=some v:=⟨_,cK (by rw[eS,hS];exact hi)⟩;rw[dX hv]at hu hm2 ⊢;have hbk:=hsf.broken hv hu f.1;rw[eN]at hbk;exact acL hm2 hbk (NW u _ _) af0 af8 af3 b2 hor2 hb2
theorem FW{z:St}(hd:Dh κ q m i z):iX (κ+100000) q (m.did i z.ot).1:=by
 have h:=NS (MQ i) hd;obtain⟨s,_,_,h3⟩:=hd.pre';have:=h3.nd.inv.frl;exact h.up (by omega) (aB _)
variable{q:Sr}{s:St}
theorem Ji(A:List Rt)(now:Int):∀y∈iW A now,y.valid=true->now<y.exp:=by
 intro y hy hv;obtain⟨z,hz,rfl⟩:=dh.1 hy;unfold n_ at hv ⊢;split at hv
 ·cases hv
 ·rename_i h;rw[aH h];unfold K8 at h;simp only[eF,iM,not_and]at h;have:=h hv;omega
theorem Hg(s:St)(fr:Int)(p:aD)(L:List (Int×Int))(hk:p.kind=1∨p.kind=2∨p.kind=3∨p.kind=9)(h4:∀q∈s.Q,q.txt.length<=4)(hx:∀y∈s.A,y.valid=true->s.now<y.exp):fU (some (fr,p,L)) (L.length+15) s (s.gF fr p L):=by
 unfold St.gF;split
 ·exact(AL _ s fr p).up (by omega)
 ·split
  ·rename_i h;exact(zq s fr p L h).up (by omega)
  ·split
   ·rename_i h;exact(CG s fr p L h h4).up (by omega)
   ·split
    ·exact(EH s fr p L).up (by omega)
    ·rename_i h1 h2 h3;have h9:p.kind=9:=by
      rcases hk with h|h|h|h
      ·exact absurd h h1
      ·exact absurd h h2
      ·exact absurd h h3
      ·exact h
     exact(EI s fr p L h9 hx).up (by omega)
theorem EK(x0 x1 x2 x4:Int)(r:List Int):(iY x0 x1 x2 x4 r).kind=x1:=by
 unfold iY;split
 ·rename_i h;exact h.symm
 ·split
  ·rename_i h;exact h.symm
  ·split
   ·rename_i h;exact h.symm
   ·split
    ·rename_i h;exact h.symm
    ·rfl
theorem AP{xs:List Int}(h:qB xs=true):(iY (xs.getD 0 0) (xs.getD 1 0) (xs.getD 2 0) (xs.getD 4 0) (xs.drop 5)).kind=xs.getD 1 0∧(xs.getD 1 0=1∨xs.getD 1 0=2∨xs.getD 1 0=3∨xs.getD 1 0=9):=by
 refine⟨EK _ _ _ _ _,?_⟩
 match xs,h with
 |x0::x1::x2::x3::x4::r,h=>
  simp only[qB,eF]at h;have hk:=(eY h.2).2.2.2.2.2.2;rw[EK]at hk;show x1=1∨x1=2∨x1=3∨x1=9;rcases hk with h|h|h|h
  ·exact .inl h
  ·exact .inr (.inl h)
  ·exact .inr (.inr (.inr h))
  ·exact .inr (.inr (.inl h.1))
def Nt(fr:Int)(xs:List Int):sN:=some (fr,iY (xs.getD 0 0) (xs.getD 1 0) (xs.getD 2 0) (xs.getD 4 0) (xs.drop 5),m_ (xs.getD 1 0) (xs.getD 4 0) (xs.drop 5))
theorem Hl(s:St)(fr:Int)(xs:List Int)(h4:∀q∈s.Q,q.txt.length<=4)(hx:∀y∈s.A,y.valid=true->s.now<y.exp):fU (Nt fr xs) ((m_ (xs.getD 1 0) (xs.getD 4 0) (xs.drop 5)).length+15) s (s.hear fr xs):=by
 unfold St.hear;split
 ·exact(fJ _ s 0).up (by omega)
 ·rename_i h;simp only[not_or]at h;have hF:qB xs=true:=by simpa using h.1
  obtain⟨h1,h2⟩:=AP hF;exact Hg s fr _ _ (by rw[h1];exact h2) h4 hx
theorem ED(s:St)(now fr:Int)(xs:List Int)(h4:∀q∈s.Q,q.txt.length<=4):∃n s',fU (Nt fr xs) n (s.locked.begin now) s'∧s.rcv now fr xs=s'.finish.freed:=
 ⟨_,_,Hl _ fr xs h4 (Ji s.A now),rfl⟩
theorem Es(s:St)(now d:Int)(t:ByteArray):∃n s',fU none n (s.locked.begin now) s'∧s.snd now d t=s'.finish.freed:=by
 unfold St.snd St.sends;dsimp only;split
 ·exact⟨_,_,pG none _ d t,rfl⟩
 ·exact⟨_,_,DI none _ d t,rfl⟩
def l8(s:St):Prop:=∀q∈s.Q,q.txt.length<=4∧1<=q.ttl∧q.ttl<=8
theorem vB(h:l8 s)(hq:q.txt.length<=4∧1<=q.ttl∧q.ttl<=8):l8 (s.ask q):=by
 intro z hz;obtain⟨o,h1,_⟩:∃o,(s.ask q).Q=_∧True:=⟨(),rfl,trivial⟩;unfold St.ask at hz;split at hz
 ·rcases fB hz with rfl|⟨k1,_⟩
  ·exact hq
  ·exact h z k1
 ·split at hz
  ·rcases fB hz with rfl|⟨k1,_⟩
   ·exact hq
   ·exact h z k1
  ·rcases fB hz with rfl|⟨k1,_⟩
   ·exact hq
   ·exact h z k1
theorem He(h:l8 s)(d:Int):l8 (s.sendAll d):=λz hz=>h z ((xw s d).1 z hz)
theorem G_(h:l8 s)(hq:q.txt.length<=4∧1<=q.ttl∧q.ttl<=8):l8 (s.step q):=by
 unfold St.step;split
 ·exact He h _
 ·split
  ·unfold St.widen;split
   ·exact vB h ⟨hq.1,by dsimp only;omega⟩
   ·split
    ·exact vB h ⟨hq.1,by dsimp only;omega⟩
    ·split
     ·exact vB h hq
     ·exact λz hz=>h z (List.mem_filter.1 hz).1
  ·exact vB h hq
theorem DC:∀(D:List Sr) (s:St),(∀q∈D,q.txt.length<=4∧1<=q.ttl∧q.ttl<=8)->l8 s->fU none (13 * D.length) s (D.foldl St.step s)
 | [],s,_,_=> .nil _ _
 |q::D,s,hD,h=>by
  rw[fP,dY];have hq:=hD q gm;exact((R9 none s q ⟨hq.2.1,hq.2.2⟩ (λz hz=>(h z hz).1)).trans (DC D (s.step q) (λz hz=>hD z (iJ _ hz)) (G_ h hq))).up (by omega)
theorem BM{Q:List Sr}{now:Int}(h:q∈St.j_ Q now):q∈Q:=by
 unfold St.j_ at h;exact(List.mem_filter.1 ((List.mergeSort_perm _ _).mem_iff.1 h)).1
theorem UR(Q:List Sr)(now:Int):(St.j_ Q now).length<=Q.length:=by
 unfold St.j_;rw[(List.mergeSort_perm _ _).length_eq];exact List.length_filter_le _ _
theorem zM(s:St)(now:Int)(h:l8 s):∃s',fU none (13 * (St.j_ s.Q now).length) (s.locked.begin now) s'∧s.jY now=s'.finish.freed:=
 ⟨_,DC (St.j_ s.Q now) (s.locked.begin now) (λq hq=>h q (BM hq)) h,rfl⟩
theorem YO(s:St):s.finish.freed.me=s.me∧s.finish.freed.now=s.now∧s.finish.freed.Q=s.Q:=⟨(aO s).me,(aO s).now,(aO s).Q⟩
theorem oz{c:sN}{n:Nat}{s':St}{now:Int}(h:fU c n (s.locked.begin now) s'):s'.finish.freed.me=s.me∧s'.finish.freed.now=now:=by
 obtain⟨h1,h2,_⟩:=YO s';exact⟨h1.trans h.me,h2.trans h.now⟩
theorem BS(s:St)(q:Sr):(s.ask q).Q.length=s.Q.length:=by
 obtain⟨o,h1,_⟩:=Ef s q;rw[h1,oq]
theorem tZ(s:St)(d:Int):(s.sendAll d).Q.length<=s.Q.length:=by
 unfold St.sendAll;split
 ·exact aB _
 ·split
  ·exact List.length_filter_le _ _
  ·exact aB _
theorem WZ(s:St)(q:Sr):(s.step q).Q.length<=s.Q.length:=by
 unfold St.step;split
 ·exact tZ _ _
 ·split
  ·unfold St.widen;split
   ·rw[BS];exact aB _
   ·split
    ·rw[BS];exact aB _
    ·split
     ·rw[BS];exact aB _
     ·exact List.length_filter_le _ _
  ·rw[BS];exact aB _
theorem GI:∀(D:List Sr) (s:St),(D.foldl St.step s).Q.length<=s.Q.length
 | [],_=>aB _
 |q::D,s=>by
  rw[fP];exact dH (GI D _) (WZ s q)
theorem aal(s:St)(now:Int):(s.jY now).Q.length<=s.Q.length:=by
 show((St.j_ s.Q now).foldl St.step (s.locked.begin now)).finish.Q.length<=_;rw[(aO _).Q];exact GI _ _
theorem aat(s:St)(now d:Int)(t:ByteArray):(s.snd now d t).Q.length<=s.Q.length+1:=by
 show(if (bH (s.locked.begin now).A d (s.locked.begin now).now).2 then(s.locked.begin now).aN d t else(s.locked.begin now).await d t).finish.Q.length<=_;rw[(aO _).Q];split
 ·rw[(fq _ _ _).1];exact Nat.le_succ _
 ·unfold St.await;split
  ·unfold St.hold;split<;>(dsimp only;rw[oq];exact Nat.le_succ _)
  ·rw[BS];show((s.locked.begin now).Q++ [_]).length<=_;rw[dx];exact aB _
theorem wz(s:St)(p:aD):(s.answer p).Q=s.Q:=by unfold St.answer;split<;>rfl
theorem nX(s:St)(fr:Int)(p:aD):(s.bV fr p).Q=s.Q:=by
 have ha:∀s:St,(s.asked p).Q=s.Q:=λs=>by
  unfold St.asked;split
  ·unfold St.iG;rw[wz]
  ·split
   ·unfold St.gK;rw[wz]
   ·split<;>rfl
 unfold St.bV;split
 ·rfl
 ·unfold St.learn;split
  ·rfl
  ·split
   ·rw[ha]
   ·rw[ha]
theorem Tk(s:St)(t:Int)(L:List (Int×Int)):(s.lose t L).Q=s.Q:=rfl
theorem Yf(s:St)(fr:Int)(xs:List Int):(s.hear fr xs).Q.length<=s.Q.length:=by
 unfold St.hear;split
 ·exact aB _
 ·unfold St.gF;split
  ·unfold St.dA;split<;>exact aB _
  ·split
   ·rw[nX];exact aB _
   ·split
    ·unfold St.dN;split
     ·exact aB _
     ·dsimp only;split
      ·exact aB _
      ·split
       ·split
        ·exact tZ _ _
        ·exact tZ _ _
       ·split
        ·exact aB _
        ·unfold St.iD;split<;>exact aB _
    ·split
     ·unfold St.fC;dsimp only;rw[Tk];split<;>exact aB _
     ·unfold St.dU;split
      ·exact aB _
      ·split
       ·exact aB _
       ·split<;>exact aB _
theorem ac2(s:St)(now fr:Int)(xs:List Int):(s.rcv now fr xs).Q.length<=s.Q.length:=by
 show((s.locked.begin now).hear fr xs).finish.Q.length<=_;rw[(aO _).Q];exact Yf _ _ _
theorem Xq(h:s.Pos)(now fr:Int)(xs:List Int)(hb:∀x∈xs,0<=x∧x<=255)(h4:∀q∈s.Q,q.txt.length<=4):(s.rcv now fr xs).Pos:=by
 intro q hq;have hq':q∈((s.locked.begin now).hear fr xs).Q:=by
  have e:=(aO ((s.locked.begin now).hear fr xs)).Q;rw[<-e];exact hq
 exact h q ((BJ (s.locked.begin now) fr xs hb h4).qs q hq')
end Go.Proofs.YtakaadcpaeiccabGreat
