import Derived.Test.YtakaadcpaeiccabGreatC53
set_option maxHeartbeats 8000000
set_option maxRecDepth 100000
namespace Go.Proofs.YtakaadcpaeiccabGreat
open Go.RowKit Go.Maps
def tL(φ:aK→Int×ByteArray→aK×List Ev)(z:aK×List Ev)(f:Int×ByteArray):aK×List Ev:=((φ z.1 f).1,z.2++(φ z.1 f).2)
def ja(φ:aK→Int×ByteArray→aK×List Ev)(m:aK)(i:Nat)(o:Ot)(k:Nat):aK×List Ev:=(o.aH.take k).foldl(tL φ)(m.put i((m.at' i).write o).1,[⟨i,0,o⟩])
theorem Cm(φ:aK→Int×ByteArray→aK×List Ev)(m:aK)(i:Nat)(o:Ot) {k:Nat} {f:Int×ByteArray}(h:o.aH[k]?=some f):ja φ m i o(k+1)=tL φ(ja φ m i o k)f:=by
 unfold ja;rw [List.take_add_one,h,List.foldl_append];rfl
theorem zW {φ:aK→Int×ByteArray→aK×List Ev}(hφ:∀m f,(φ m f).2.length≤1)(m:aK)(i:Nat)(o:Ot):∀k,k≤o.aH.length→(ja φ m i o k).2.length≤1+k
 |0,_=>by
  unfold ja;simp
 |k+1,hk=>by
  rw [Cm φ m i o(List.getElem?_eq_getElem(by omega))];have h1:=zW hφ m i o k(by omega);have h2:=hφ(ja φ m i o k).1 o.aH[k];unfold tL;rw [List.length_append];omega
theorem uX(φ:aK→Int×ByteArray→aK×List Ev)(m:aK)(i:Nat)(o:Ot)(h1:o.idle=false)(h2:((m.at' i).write o).2=true):m.iZ φ i o=ja φ m i o o.aH.length:=by
 unfold aK.iZ ja;rw [if_neg(by simp [h1]),if_pos h2,List.take_length];rfl
theorem Dy(o:Ot):o.idle=(decide(o.a_=[])&&!o.aZ&&decide(o.aH.length+o.aR.length+o.aN.length=0)):=by
 unfold Ot.idle;cases o.a_<;>cases o.aH<;>cases o.aR<;>cases o.aN<;>cases o.aZ<;>simp
theorem Xx {b:Nat} {aH aR:List(Int×ByteArray)} {aN:List Int} {a:Option Addr} {n c:Nat} {bH bI:Value} {W:World}(h:h_ b aH aR aN(.slice a n c)bH bI W)(hn:n=aH.length) {k:Nat} {f:Int×ByteArray}(hf:aH[k]?=some f):∃g,a=some⟨g,0,none⟩∧W.cell?⟨g,k * 2,none⟩=some(.int .u32 f.1)∧W.cell?⟨g,k * 2+1,none⟩=some(.string f.2):=by
 subst hn;have hk:=(List.getElem?_eq_some_iff.1 hf).1;obtain⟨g,cap,e,_⟩:=bS h.aI(by omega);cases e;have hat:∀i u,i<2→([.int .u32 f.1,.string f.2]:List Value)[i]?=some u→(tT aH)[k * 2+i]?=some u:=fun i u hi hu=>(jT(fun x:Int×ByteArray=>([Value.int .u32 x.1,Value.string x.2]:List Value))2(by decide)(fun _=>rfl)aH k i hi hf).trans hu;exact⟨g,rfl,(h.aI.cellAt(k * 2)(by omega)).trans(hat 0 _(by decide)rfl),(h.aI.cellAt(k * 2+1)(by omega)).trans(hat 1 _(by decide)rfl)⟩
theorem Y7 {y:MG} {m:aK} {w:World}(h:MM y m w)(i:Nat)(hi:i<m.S.length)(hn:m.S.length≤6)(φ:aK→Int×ByteArray→aK×List Ev)(o:Ot)(aI bH bI:Value)(b:Nat)(hor:h_ b o.aH o.aR o.aN aI bH bI w)(hb:b≤w.heap.size)
  (hbd:pW o.a_)(hnw:o.a_.length≤50000)(hfr:o.aH.length≤100000∧o.aR.length≤100000∧o.aN.length≤100000)(hjl:(m.at' i).aY.length≤1000000)(hwh:0≤(m.at' i).whole)(hφ:∀m f,(φ m f).2.length≤1)
  (HS:∀k f,o.aH[k]?=some f→o.idle=false→((m.at' i).write o).2=true→∀y1 w1,MM y1(ja φ m i o k).1 w1→Calls Tryz.prog 67 #[.pointer(some⟨y1.G,0,none⟩),.int .i64 i,.agg #[.int .u32 f.1,.string f.2]]w1(iV y1(ja φ m i o k).1(φ(ja φ m i o k).1 f).1(φ(ja φ m i o k).1 f).2 w1.heap.size w1)):
  Calls Tryz.prog 36 #[.pointer(some⟨y.G,0,none⟩),.int .i64 i,iE(strOfNums(bn o.a_))o.aZ aI bH bI]w(iV y m(m.iZ φ i o).1(m.iZ φ i o).2 b w):=by
 obtain⟨i0,hi0,hz0,hz1,hz2⟩:=info_parts LA;obtain⟨af,kf,rfl,_⟩:=ak hor.aI;obtain⟨ac,kc,rfl,_⟩:=ak hor.bH;obtain⟨ad,kd,rfl,_⟩:=ak hor.bI;obtain⟨j1,j2⟩:=F9 hbd;obtain⟨j,hj⟩:∃j,strOfNums(bn o.a_)=j:=⟨_,rfl⟩;have hidle:=Dy o;have hjz:decide(o.a_=[])=decide(j.size=0):=by
  rw [←hj,j2];cases o.a_<;>simp
 rw [hjz]at hidle;rw [hj];have hb0:Below w.heap.size w(w.alloc(.cells #[.string j,.bool o.aZ,.slice af o.aH.length kf,.slice ac o.aR.length kc,.slice ad o.aN.length kd]52)):=(Below.refl _ _).alloc(Nat.le_refl _)_;have hC:=heap_alloc_new w(.cells #[.string j,.bool o.aZ,.slice af o.aH.length kf,.slice ac o.aR.length kc,.slice ad o.aN.length kd]52);have h1:=h.later hb0;have ho1:=hor.later hb0;unfold iE;go_enter Tryz.func36,Tryz.ntmps36
 go_upto_region 1 with(fail)
 generalize World.alloc _ _=W1 at hb0 hC h1 ho1 ⊢;have HN:=hide(AZ j o.aZ af ac ad o.aH.length kf o.aR.length kc o.aN.length kd(by omega)W1);rw [←hidle]at HN;unfold iE at HN;have hlow:=hb0.size;obtain⟨C,lm⟩:∃C,w.heap.size=C:=⟨_,rfl⟩;have hC0:w.heap.size≤C:=by omega
 rw [lm]at hC;have t0:W1.cell?⟨C,0,none⟩=some(.string j):=cell_of_row _ _ 0 _ _ _ hC;have t1:W1.cell?⟨C,1,none⟩=some(.bool o.aZ):=cell_of_row _ _ 1 _ _ _ hC;have t2:W1.cell?⟨C,2,none⟩=some(.slice af o.aH.length kf):=cell_of_row _ _ 2 _ _ _ hC;have t3:W1.cell?⟨C,3,none⟩=some(.slice ac o.aR.length kc):=cell_of_row _ _ 3 _ _ _ hC;have t4:W1.cell?⟨C,4,none⟩=some(.slice ad o.aN.length kd):=cell_of_row _ _ 4 _ _ _ hC;rw [lm];clear lm h hor;go_wp2_with fail
 refine Calls.mono HN.out ?_;rintro e w2⟨rfl,hb2⟩;have h2:=h1.later hb2;have ho2:=ho1.later hb2;have hC2:=(hb2.block _(aD hC)).trans hC;have hbb:=hb0.trans(hb2.mono hb0.size);have afC:=hbb.size;clear HN h1 ho1 hC t0 t1 t2 t3 t4 hb0 hb2 hlow;cases hid:o.idle
 ·have t0:w2.cell?⟨C,0,none⟩=some(.string j):=cell_of_row _ _ 0 _ _ _ hC2;have t1:w2.cell?⟨C,1,none⟩=some(.bool o.aZ):=cell_of_row _ _ 1 _ _ _ hC2;have t2:w2.cell?⟨C,2,none⟩=some(.slice af o.aH.length kf):=cell_of_row _ _ 2 _ _ _ hC2;have t3:w2.cell?⟨C,3,none⟩=some(.slice ac o.aR.length kc):=cell_of_row _ _ 3 _ _ _ hC2;have t4:w2.cell?⟨C,4,none⟩=some(.slice ad o.aN.length kd):=cell_of_row _ _ 4 _ _ _ hC2;obtain⟨x,s,g,c,e1,e2,e3,e4,p0⟩:=h2.get hi;have q1:=h2.cell.2.1;rw [e4]at q1;have hin:(i:Int)<(m.S.length:Int):=by omega
  rw [e3]at hjl hwh HS;have hall:=uX φ m i o hid;have hno:(s.write o).2=false→m.iZ φ i o=(m.put i(s.write o).1,[⟨i,0,Ot.none⟩]):=fun e=>by
   unfold aK.iZ;rw [if_neg(by simp [hid]),if_neg(by rw [e3,e];simp),e3]
  rw [e3]at hall;have hd1:Below w2.heap.size w2 w2.drew:=(Below.refl _ _).drew;have hmd:=h2.later hd1;have HW:=G8(hmd.st i x s e1 e2)o(.slice af o.aH.length kf)(.slice ac o.aR.length kc)(.slice ad o.aN.length kd)hbd hnw hjl hwh;rw [hj]at HW;have HW2:Hid(Calls Tryz.prog 62 #[.pointer(some⟨x.B,0,none⟩),.agg #[.string j,.bool o.aZ,.slice af o.aH.length kf,.slice ac o.aR.length kc,.slice ad o.aN.length kd]]w2.drew fun e w'=>e=.returned(.bool(s.write o).2)∧∃y',MM y'(m.put i(s.write o).1)w'∧MU y m y'(m.put i(s.write o).1)w w'∧h_ b o.aH o.aR o.aN(.slice af o.aH.length kf)(.slice ac o.aR.length kc)(.slice ad o.aN.length kd)w'∧w'.heap[C]?=some(.cells #[.string j,.bool o.aZ,.slice af o.aH.length kf,.slice ac o.aR.length kc,.slice ad o.aN.length kd]52)):=by
   refine HW.mono ?_;rintro e w'⟨rfl,hp⟩;obtain⟨y',hm',hu'⟩:=hmd.Zm e1 e2 hp;exact⟨rfl,y',hm',((MU.refl y m w).post hbb).trans(hu'.pre hd1),(ho2.later hd1).mesh hmd hu'.fx,(hu'.fx.block C(aD hC2)(hmd.not hC2(by decide))).trans hC2⟩
  obtain⟨s1,hs1⟩:∃s1,(s.write o).1=s1:=⟨_,rfl⟩;obtain⟨ok,hok⟩:∃ok,(s.write o).2=ok:=⟨_,rfl⟩;rw [hs1,hok]at HW2 hno;rw [hok]at HS hall;have WU:Hid(ja φ m i o 0=(m.put i s1,[⟨i,0,o⟩])):=by
   show _=_;unfold ja;rw [e3,hs1];rfl
  clear HW hs1 hok e1 e2 e3 e4 h2 ho2 hd1 hmd hjl hwh hbd hnw j1 j2 hjz hidle hbb;go_upto_region 3 with(fail)
  go_cut [21]from 12 to 21(fun v W=>v=.bool(!ok)∧∃y',MM y'(m.put i s1)W∧MU y m y'(m.put i s1)w W∧h_ b o.aH o.aR o.aN(.slice af o.aH.length kf)(.slice ac o.aR.length kc)(.slice ad o.aN.length kd)W∧W.heap[C]?=some(.cells #[.string j,.bool o.aZ,.slice af o.aH.length kf,.slice ac o.aR.length kc,.slice ad o.aN.length kd]52))
  case first=>
   clear HS hno hall WU hC2;go_region_with(go_at_call 62;refine HW2.out.mono ?_;rintro e w3⟨rfl,hfin⟩)
   all_goals
    clear HW2;go_wp2_with fail
    go_meet
    exact⟨by cases ok<;>rfl,hfin⟩
  case rest=>
   obtain⟨rfl,y',hm,hu,ho,Ce⟩:=hcut;clear HW2 hC2 t0 t1 t2 t3 t4 p0 q1;have acF:w.heap.size≤wc.heap.size:=hu.fx.size;cases ok
   ·have hev:=D8(b:=b)(W:=wc)(x:=(⟨i,0,Ot.none⟩,⟨.slice none 0 0,.slice none 0 0,.slice none 0 0⟩))(by omega)⟨⟨rfl,.inl⟨rfl,rfl⟩⟩,⟨rfl,.inl⟨rfl,rfl⟩⟩,⟨rfl,.inl⟨rfl,rfl⟩⟩⟩;have hb5:Below wc.heap.size wc(wc.alloc(.cells(zP(⟨i,0,Ot.none⟩,⟨.slice none 0 0,.slice none 0 0,.slice none 0 0⟩)).toArray 54)):=(Below.refl _ _).alloc(Nat.le_refl _)_;have hfin:iV y m(m.iZ φ i o).1(m.iZ φ i o).2 b w(.returned(.slice(some⟨wc.heap.size,0,none⟩)1 1))(wc.alloc(.cells(zP(⟨i,0,Ot.none⟩,⟨.slice none 0 0,.slice none 0 0,.slice none 0 0⟩)).toArray 54)):=by
     rw [hno rfl];exact⟨_,_,rfl,rfl,hev,y',hm.later hb5,hu.post hb5⟩
    have mD:(zP(⟨i,0,Ot.none⟩,⟨.slice none 0 0,.slice none 0 0,.slice none 0 0⟩)).toArray=#[.int .i64 i,.int .i64 0,.string⟨#[]⟩,.bool false,.slice none 0 0,.slice none 0 0,.slice none 0 0]:=rfl;rw [mD]at hfin;clear hev hb5 hno HS hall WU hm hu ho Ce mD;go_wp2
    go_ret
    exact hfin
   ·have hev:=D8(b:=b)(W:=wc)(x:=(⟨i,0,o⟩,⟨.slice af o.aH.length kf,.slice ac o.aR.length kc,.slice ad o.aN.length kd⟩))(by omega)ho;have mD:(zP(⟨i,0,o⟩,⟨.slice af o.aH.length kf,.slice ac o.aR.length kc,.slice ad o.aN.length kd⟩)).toArray=#[.int .i64 i,.int .i64 0,.string j,.bool o.aZ,.slice af o.aH.length kf,.slice ac o.aR.length kc,.slice ad o.aN.length kd]:=by
     rw [←hj];rfl
    rw [mD]at hev;have hb5:Below wc.heap.size wc(wc.alloc(.cells #[.int .i64 i,.int .i64 0,.string j,.bool o.aZ,.slice af o.aH.length kf,.slice ac o.aR.length kc,.slice ad o.aN.length kd]54)):=(Below.refl _ _).alloc(Nat.le_refl _)_;have qH:Hid(∃y' L,MM y'(ja φ m i o 0).1(wc.alloc(.cells #[.int .i64 i,.int .i64 0,.string j,.bool o.aZ,.slice af o.aH.length kf,.slice ac o.aR.length kc,.slice ad o.aN.length kd]54))∧MU y m y'(ja φ m i o 0).1 w(wc.alloc(.cells #[.int .i64 i,.int .i64 0,.string j,.bool o.aZ,.slice af o.aH.length kf,.slice ac o.aR.length kc,.slice ad o.aN.length kd]54))∧gH b(.slice(some⟨wc.heap.size,0,none⟩)1 1)L(wc.alloc(.cells #[.int .i64 i,.int .i64 0,.string j,.bool o.aZ,.slice af o.aH.length kf,.slice ac o.aR.length kc,.slice ad o.aN.length kd]54))∧L.map(·.1)=(ja φ m i o 0).2∧(wc.alloc(.cells #[.int .i64 i,.int .i64 0,.string j,.bool o.aZ,.slice af o.aH.length kf,.slice ac o.aR.length kc,.slice ad o.aN.length kd]54)).ownsRow w.heap.size 54 7(.slice(some⟨wc.heap.size,0,none⟩)1 1)L.length(EvC L)∧h_ b o.aH o.aR o.aN(.slice af o.aH.length kf)(.slice ac o.aR.length kc)(.slice ad o.aN.length kd)(wc.alloc(.cells #[.int .i64 i,.int .i64 0,.string j,.bool o.aZ,.slice af o.aH.length kf,.slice ac o.aR.length kc,.slice ad o.aN.length kd]54))):=by
     show ∃y' L,_;rw [WU.out];refine⟨y',_,hm.later hb5,hu.post hb5,hev,rfl,⟨rfl,.inr⟨wc.heap.size,1,_,rfl,acF,heap_alloc_new _ _,Nat.le_refl _,by decide,rfl,?_⟩⟩,ho.later hb5⟩;rw [←hj];rfl
    have t0:wc.cell?⟨C,0,none⟩=some(.string j):=cell_of_row _ _ 0 _ _ _ Ce;have t1:wc.cell?⟨C,1,none⟩=some(.bool o.aZ):=cell_of_row _ _ 1 _ _ _ Ce;have t2:wc.cell?⟨C,2,none⟩=some(.slice af o.aH.length kf):=cell_of_row _ _ 2 _ _ _ Ce;have t3:wc.cell?⟨C,3,none⟩=some(.slice ac o.aR.length kc):=cell_of_row _ _ 3 _ _ _ Ce;have t4:wc.cell?⟨C,4,none⟩=some(.slice ad o.aN.length kd):=cell_of_row _ _ 4 _ _ _ Ce;have YN:=hide(hall rfl);have HS2:=hide(fun k f hf=>HS k f hf hid rfl);clear hev hb5 hno HS hall WU hm hu ho Ce mD hj hid;have u2:(wc.alloc(.cells #[.int .i64 i,.int .i64 0,.string j,.bool o.aZ,.slice af o.aH.length kf,.slice ac o.aR.length kc,.slice ad o.aN.length kd]54)).cell?⟨C,2,none⟩=some(.slice af o.aH.length kf):=(((Below.refl _ _).alloc(Nat.le_refl _)_:Below wc.heap.size wc _).cell(World.block_lt_of_cell? _ _ t2)).trans t2;go_upto_region 6 with(fail)
    generalize World.alloc _ _=W5 at qH u2 ⊢;generalize wc.heap.size=E at qH ⊢;clear t0 t1 t2 t3 t4;go_wp2_with fail
    go_loopw [7,32](fun ev iv wr=>∃k:Nat,k≤o.aH.length∧iv=.int .i64 k∧Hid(∃y' L,MM y'(ja φ m i o k).1 wr∧MU y m y'(ja φ m i o k).1 w wr∧gH b ev L wr∧L.map(·.1)=(ja φ m i o k).2∧wr.ownsRow w.heap.size 54 7 ev L.length(EvC L)∧h_ b o.aH o.aR o.aN(.slice af o.aH.length kf)(.slice ac o.aR.length kc)(.slice ad o.aN.length kd)wr))(fun _ iv _=>o.aH.length - (intOf iv).toNat)
    case atStart=>exact⟨0,Nat.zero_le _,rfl,qH⟩
    case round=>
     clear qH;obtain⟨k,hk,rfl,hr⟩:=hrel;by_cases hkl:k<o.aH.length
     ·have hki:(k:Int)<(o.aH.length:Int):=by omega
      obtain⟨y1,L,hm,hu,hev,hL,hrw,ho⟩:=hr.out;obtain⟨f,hf⟩:∃f,o.aH[k]?=some f:=⟨_,List.getElem?_eq_getElem hkl⟩;obtain⟨g5,rfl,d0,d1⟩:=Xx ho rfl hf;have hbx:Below wr.heap.size wr(wr.alloc(.cells #[.int .u32 f.1,.string f.2]77)):=(Below.refl _ _).alloc(Nat.le_refl _)_;have hm1:=hm.later hbx;have hHS:=HS2.out k f hf y1 _ hm1;rw [hu.G]at hHS;have hlen:=zW hφ m i o k hk;rw [←hL,List.length_map]at hlen;have ad4:=hφ(ja φ m i o k).1 f;have hsucc:=Cm φ m i o hf;have acO:=hev.later hbx;have ho1:=ho.later hbx;have hu1:=hu.post hbx;have aaQ:Hid(Calls Tryz.prog 67 #[.pointer(some⟨y.G,0,none⟩),.int .i64 i,.agg #[.int .u32 f.1,.string f.2]](wr.alloc(.cells #[.int .u32 f.1,.string f.2]77))fun e w3=>∃v2 L2 n2,e=.returned v2∧L2.length=n2∧n2≤1∧w3.ownsRow w.heap.size 54 7 u7 L.length(EvC L)∧w3.ownsRow wr.heap.size 54 7 v2 n2(EvC L2)∧(∀u∈EvC L2,u.oneCell'=true)∧w.heap.size≤w3.heap.size∧∀v' w',w'.ownsRow w.heap.size 54 7 v'(L.length+n2)(EvC L++EvC L2)→w3.grownBy w' u7.ownBlock→∃y' L,MM y'(ja φ m i o(k+1)).1 w'∧MU y m y'(ja φ m i o(k+1)).1 w w'∧gH b v' L w'∧L.map(·.1)=(ja φ m i o(k+1)).2∧w'.ownsRow w.heap.size 54 7 v' L.length(EvC L)∧h_ b o.aH o.aR o.aN(.slice(some⟨g5,0,none⟩)o.aH.length kf)(.slice ac o.aR.length kc)(.slice ad o.aN.length kd)w'):=by
       refine hHS.mono ?_;rintro e w3⟨v2,L2,rfl,hL2,mD,y2,hm2,hu2⟩;have hl2:L2.length≤1:=by
        have:=congrArg List.length hL2;rw [List.length_map]at this;omega
       have aay:=acO.mesh hm1 hu2.fx;have how:=ho1.mesh hm1 hu2.fx;have hz1:=hbx.size;have hz2:=hu2.fx.size;have hz3:=(hu1.trans hu2).fx.size;have hz0:=hu.fx.size;have hrw3:w3.ownsRow w.heap.size 54 7 u7 L.length(EvC L):=bD(bD hrw fun k5 hk5=>hbx.block k5(hrw.lt k5 hk5).2)fun k5 hk5=>by
        obtain⟨cc,Oq⟩:=aP hrw hk5;have hc6:=(hbx.block k5(aD Oq)).trans Oq;exact hu2.fx.block k5(aD hc6)(hm1.notE(by decide)hc6)
       refine⟨v2,L2,_,rfl,rfl,hl2,hrw3,(mD.lower hz1).row,mD.one,hz3,fun v' w' ho' hg'=> ?_⟩;have hbE:∀k5,oz y2(φ(ja φ m i o k).1 f).1 k5→w'.heap[k5]?=w3.heap[k5]?:=fun k5 hk5=>hg'.block k5(hm2.lt hk5)fun e5=>by
        obtain⟨cc,Oq⟩:=aP aay.row e5.symm;exact hm2.notE(by decide)Oq hk5
       rw [hsucc];refine⟨y2,L++L2,hm2.kept hbE,⟨aT(hu1.trans hu2).fx hg'(fun j5 hj5 e5=> ?_),fun k5 hk5=>((hu1.trans hu2).sub k5 hk5).dh fun h=>⟨h.1,Nat.lt_of_lt_of_le h.2 hg'.size⟩,(hu1.trans hu2).G,(hu1.trans hu2).n,(hu1.trans hu2).sv,(hu1.trans hu2).B⟩,?_,?_,by rw [List.length_append,Aw];exact ho',how.at fun k5 c5 t5 ht5 hk5=>hg'.block k5(aD hk5)fun e5=> ?_⟩
       ·have:=(hrw.lt j5 e5).1;omega
       ·exact aay.append mD(by omega)(fun x hx k5 hk5=>by have:=(hev.out x hx).lt hk5;omega)(ownsRow_base_a ho' hb)hg'
       ·rw [List.map_append,hL,hL2];rfl
       ·obtain⟨cc,Oq⟩:=aP aay.row e5.symm;rw [hk5]at Oq;cases Oq;exact absurd ht5(by decide)
      have Gj:Hid(∀n2,n2≤1→L.length+n2≤maxLen∧(L.length+n2)* 112≤140737488355328):=fun n2 h2=>by unfold maxLen;omega
      have hme:=jg hkl;have hk1:k+1≤o.aH.length:=by omega
      have hw64:wrap64((k:Int)+1)=(k:Int)+1:=by unfold wrap64;omega
      obtain⟨f1,f2⟩:=f;dsimp only at d0 d1 aaQ;clear hr hm hu hev hL ho hm1 hHS hlen ad4 hsucc acO ho1 hu1 hf hbx hrw hfr hb;go_wp2_with fail
      refine Calls.mono aaQ.out ?_;rintro e w3⟨v2,L2,n2,rfl,hn2,aex,hr1,hr2,h1c,hbw,hnx⟩;replace hnx:=hide hnx;replace hn2:=hide hn2;obtain⟨aar,aaq⟩:=Gj.out n2 aex;clear aaQ Gj;go_wp2_with(at_builtin;refine sF rfl _ _ 29 rfl w.heap.size 54 i0(.agg #[.int .i64 0,.int .i64 0,.string⟨#[]⟩,.bool false,.slice none 0 0,.slice none 0 0,.slice none 0 0])7 112 Tryz.underlying29 hi0 hz0 hz1 hz2 rfl(by decide)u7 L.length(EvC L)rfl hr1 wr.heap.size v2 n2(EvC L2)rfl hr2 h1c aar aaq hbw ?_)
      intro v7 w7 gP eu;have pO:=hide(hnx.out v7 w7 gP eu);clear hnx gP eu hr1 hr2 h1c d0 d1;go_wp2
      try rw [hw64]
      go_roundw
      case rel=>
       first
        |exact⟨k+1,hk1,by go_num,pO⟩
        |exact⟨_,_,⟨k+1,hk1,by go_num,pO⟩,rfl⟩
        |(repeat apply Exists.intro
         refine⟨⟨k+1,hk1,by go_num,pO⟩,rfl⟩)
        |trace_state
      case measure=>exact hme
     ·obtain rfl:k=o.aH.length:=by omega
      obtain⟨y1,L,hm,hu,hev,hL,hrw,ho⟩:=hr.out;have hfin:iV y m(m.iZ φ i o).1(m.iZ φ i o).2 b w(.returned u7)wr:=by
       rw [YN.out];exact⟨u7,L,rfl,hL,hev,y1,hm,hu⟩
      clear hr hm hu hev hL ho HS2 YN hrw;go_wp2
      go_ret
      exact hfin
 ·have hfin:iV y m(m.iZ φ i o).1(m.iZ φ i o).2 b w(.returned(.slice none 0 0))w2:=by
   unfold aK.iZ;rw [if_pos(by rw [hid])];exact⟨_,[],rfl,rfl,gH.nil _ _,y,h2,(MU.refl y m w).post hbb⟩
  clear h2 ho2 hC2 HS hbb;go_wp2
  go_ret
  exact hfin
end Go.Proofs.YtakaadcpaeiccabGreat
