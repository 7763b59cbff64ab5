import Derived.Test.YtakaadcpaeiccabGreatC58
set_option maxHeartbeats 8000000
set_option maxRecDepth 100000
namespace Go.Proofs.YtakaadcpaeiccabGreat
open Go.RowKit Go.Maps
@[reducible] def tQ (G g a b BA BB N z : Nat) (now ad : Int) (sv : Value) (W : World) : Prop :=
 (W.cell?⟨G,0,none⟩=some(.int .u64 now)∧W.cell?⟨G,1,none⟩=some sv∧W.cell?⟨g,a,none⟩=some(.pointer(some⟨BA,0,none⟩))∧W.cell?⟨BA,2,none⟩=some(.pointer(some⟨N,0,none⟩))∧W.cell?⟨g,b,none⟩=some(.pointer(some⟨BB,0,none⟩))∧W.cell?⟨BB,0,none⟩=some(.int .u32 ad))∧G<z∧g<z∧BA<z∧BB<z∧z≤W.heap.size
theorem tQ.keep {G g a b BA BB N z:Nat} {now ad:Int} {sv:Value} {W W':World}(h:tQ G g a b BA BB N z now ad sv W)(hz:z≤W'.heap.size)(hb:∀k,k=G∨k=g∨k=BA∨k=BB→W'.heap[k]?=W.heap[k]?):tQ G g a b BA BB N z now ad sv W':=by
 obtain⟨⟨c0,c1,c2,c3,c4,c5⟩,h1,h2,h3,h4,_⟩:=h;exact⟨⟨(World.cell?_of_block(a:=⟨G,0,none⟩)(hb _(.inl rfl))).trans c0,(World.cell?_of_block(a:=⟨G,1,none⟩)(hb _(.inl rfl))).trans c1,(World.cell?_of_block(a:=⟨g,a,none⟩)(hb _(.inr(.inl rfl)))).trans c2,(World.cell?_of_block(a:=⟨BA,2,none⟩)(hb _(.inr(.inr(.inl rfl))))).trans c3,(World.cell?_of_block(a:=⟨g,b,none⟩)(hb _(.inr(.inl rfl)))).trans c4,(World.cell?_of_block(a:=⟨BB,0,none⟩)(hb _(.inr(.inr(.inr rfl))))).trans c5⟩,h1,h2,h3,h4,hz⟩
theorem tQ.low {G g a b BA BB N z:Nat} {now ad:Int} {sv:Value} {W W':World}(h:tQ G g a b BA BB N z now ad sv W)(hb:Below z W W'):tQ G g a b BA BB N z now ad sv W':=by
 have h':=h;obtain⟨_,h1,h2,h3,h4,h5⟩:=h;exact h'.keep(Nat.le_trans h5 hb.size)fun k hk=>hb.block k(by rcases hk with rfl|rfl|rfl|rfl<;>assumption)
theorem tQ.drew {G g a b BA BB N z:Nat} {now ad:Int} {sv:Value} {W:World}(h:tQ G g a b BA BB N z now ad sv W):tQ G g a b BA BB N z now ad sv W.drew:=h.keep h.2.2.2.2.2 fun _ _=>rfl
theorem tQ.jO {G g a b BA BB N z:Nat} {now ad:Int} {sv:Value} {W:World} {o:Obj}(h:tQ G g a b BA BB N z now ad sv W):tQ G g a b BA BB N z now ad sv(W.alloc o):=h.low((Below.refl _ _).alloc h.2.2.2.2.2 _)
theorem tQ.d_ {G g a b BA BB N z:Nat} {now ad:Int} {sv:Value} {W:World} {o:Obj}(h:tQ G g a b BA BB N z now ad sv W.drew):tQ G g a b BA BB N z now ad sv(W.alloc o).drew:=by
 have h':tQ G g a b BA BB N z now ad sv W:=⟨h.1,h.2⟩;exact h'.jO.drew
theorem tQ.RG {G g a b BA BB N z:Nat} {now ad:Int} {sv:Value} {W:World} {v0 v1 v2 v3 v4:Value}(h:tQ G g a b BA BB N z now ad sv W):tQ G g a b BA BB N z now ad sv(((((W.setCell⟨z,0,none⟩v0).setCell⟨z,1,none⟩v1).setCell⟨z,2,none⟩v2).setCell⟨z,3,none⟩v3).setCell⟨z,4,none⟩v4):=h.low(tO(Below.refl _ _)(Nat.le_refl _)_ _ _ _ _)
structure wH(p:Prop)(y:MG)(m m':aK)(w:World)(aH aR:List(Int×ByteArray))(aN:List Int)(aI bH bI:Value)(W:World):Prop where
 mp:MP y m m' w W
 out:h_ w.heap.size aH aR aN aI bH bI W
 p:p
theorem wH.alloc {p:Prop} {y:MG} {m m':aK} {w:World} {aH aR:List(Int×ByteArray)} {aN:List Int} {aI bH bI:Value} {W:World}(h:wH p y m m' w aH aR aN aI bH bI W)(o:Obj):wH p y m m' w aH aR aN aI bH bI(W.alloc o):=
 ⟨h.mp.post((Below.refl _ _).alloc(Nat.le_refl _)_),h.out.later((Below.refl _ _).alloc(Nat.le_refl _)_),h.p⟩
theorem wH.set {p:Prop} {y:MG} {m m':aK} {w:World} {aH aR:List(Int×ByteArray)} {aN:List Int} {aI bH bI:Value} {W W':World}(h:wH p y m m' w aH aR aN aI bH bI W) {D:Nat} {c:Array Value}(hD:W.heap[D]?=some(.cells c 52(0,0)))(hDl:w.heap.size≤D)(hg:W.grownBy W'(some D)):wH p y m m' w aH aR aN aI bH bI W':=by
 obtain⟨⟨y',hm,hu⟩,ho,hp⟩:=h;refine⟨⟨y',hm.kept fun k hk=>hg.block k(hm.lt hk)fun e=> ?_,⟨aT hu.fx hg(fun j hj e=> ?_),fun k hk=>(hu.sub k hk).dh fun h=>⟨h.1,Nat.lt_of_lt_of_le h.2 hg.size⟩,hu.G,hu.n,hu.sv,hu.B⟩⟩,ho.at fun k c' t ht hk=>hg.block k(aD hk)fun e=> ?_,hp⟩
 ·cases e;exact hm.not hD(by decide)hk
 ·cases e;omega
 ·cases e;rw [hD]at hk;cases hk;exact absurd ht(by decide)
def abo(p:Prop)(y:MG)(m m':aK)(w:World)(j:ByteArray)(aZ:Bool)(aH aR:List(Int×ByteArray))(aN:List Int)(r:Int)(nv ov:Value)(W:World):Prop:=∃af kf ac kc ad kd D,nv=.pointer(some⟨D,0,none⟩)∧ov=.int .i64 r∧pG D j aZ(.slice af aH.length kf)(.slice ac aR.length kc)(.slice ad aN.length kd)W∧wH p y m m' w aH aR aN(.slice af aH.length kf)(.slice ac aR.length kc)(.slice ad aN.length kd)W
theorem M0 {p:Prop} {y:MG} {m m':aK} {w w2:World} {j:ByteArray} {aZ:Bool} {aH aR:List(Int×ByteArray)} {aN:List Int} {r:Int} {af ac ad:Option Addr} {kf kc kd:Nat}(h:wH p y m m' w aH aR aN(.slice af aH.length kf)(.slice ac aR.length kc)(.slice ad aN.length kd)w2):abo p y m m' w j aZ aH aR aN r(.pointer(some⟨w2.heap.size,0,none⟩))(.int .i64 r)(w2.alloc(.cells #[.string j,.bool aZ,.slice af aH.length kf,.slice ac aR.length kc,.slice ad aN.length kd]52)):=
 ⟨af,kf,ac,kc,ad,kd,_,rfl,rfl,heap_alloc_new _ _,h.alloc _⟩
theorem VJ {p:Prop} {y:MG} {m m':aK} {w w2:World} {j:ByteArray} {aZ:Bool} {aH aR:List(Int×ByteArray)} {aN:List Int} {r:Int} {af ac ad:Option Addr} {kf kc kd:Nat} {j0:ByteArray} {r0:Bool} {f0 c0 d0:Value}(h:wH p y m m' w aH aR aN(.slice af aH.length kf)(.slice ac aR.length kc)(.slice ad aN.length kd)w2)(hD:Hid(pG w.heap.size j0 r0 f0 c0 d0 w2)):abo p y m m' w j aZ aH aR aN r(.pointer(some⟨w.heap.size,0,none⟩))(.int .i64 r)(((((w2.setCell⟨w.heap.size,0,none⟩(.string j)).setCell⟨w.heap.size,1,none⟩(.bool aZ)).setCell⟨w.heap.size,2,none⟩(.slice af aH.length kf)).setCell⟨w.heap.size,3,none⟩(.slice ac aR.length kc)).setCell⟨w.heap.size,4,none⟩(.slice ad aN.length kd)):=
 ⟨af,kf,ac,kc,ad,kd,_,rfl,rfl,hD.out.M4,h.set hD.out(Nat.le_refl _)(tJ _ _ _ _ _ _ _)⟩
theorem MP.size {y:MG} {m m':aK} {w w':World}(h:MP y m m' w w'):w.heap.size≤w'.heap.size:=by
 obtain⟨_,_,hu⟩:=h;exact hu.fx.size
theorem vM {p:Prop} {y:MG} {m m' md:aK} {w:World} {evs:List Ev}(h:MM y m w)(a b:Nat)(ha:a<m.S.length)(hb:b<m.S.length)(t:ByteArray)(r:Int)(hr:r=0∨r=6∨r=2)(j:ByteArray)(aZ:Bool)(aH aR:List(Int×ByteArray))(aN:List Int) {z:St}(hnd:(m.at' a).nd=some z)
  (HC:∀x s,y.L[a]?=some x→m.S[a]?=some s→∀W5,Below w.heap.size w W5→Calls Tryz.prog 21 #[.pointer(some⟨x.N,0,none⟩),.int .u64 m.now,.int .u32(m.at' b).addr,.string t]W5 fun e w2=>∃af kf ac kc ad kd,e=.returned(.tuple #[.agg #[.string j,.bool aZ,.slice af aH.length kf,.slice ac aR.length kc,.slice ad aN.length kd],.int .i64 r])∧Fx(Ft x.N x.g z)W5 w2∧wH p y m m' w aH aR aN(.slice af aH.length kf)(.slice ac aR.length kc)(.slice ad aN.length kd)w2)
  (HD:r=0→∀aI bH bI W,wH p y m m' w aH aR aN aI bH bI W→Calls Tryz.prog 36 #[.pointer(some⟨y.G,0,none⟩),.int .i64 a,.agg #[.string j,.bool aZ,aI,bH,bI]]W(iV y m md evs w.heap.size w))
  (HE:r≠0→md=m'∧evs=[⟨a,r,Ot.none⟩]):
  Calls Tryz.prog 30 #[.pointer(some⟨y.G,0,none⟩),.int .i64 a,.int .i64 b,.string t]w fun e w'=>iV y m md evs w.heap.size w e w'∧p:=by
 obtain⟨xa,sa,g,c,e1,e2,e3,e4,p0⟩:=h.get ha;obtain⟨xb,sb,g',c',f1,f2,f3,f4,p1⟩:=h.get hb;obtain⟨q0,q1,_,_⟩:=h.cell;have hgg:g'=g∧c'=c:=by
  rw [f4]at e4;injection e4 with h5 _ h6;injection h5 with h5;injection h5 with h5 _ _;exact⟨h5,h6⟩
 obtain⟨rfl,rfl⟩:=hgg;have hst:=h.st a xa sa e1 e2;have c2:=hst.cell.2.2.1;rw [e3]at hnd;rw [hnd]at c2;unfold Lg at c2;have ca:=(h.st b xb sb f1 f2).cell.1;rw [e4]at q1;obtain⟨nn,_⟩:=hst.nd z hnd;have hin:(a:Int)<(m.S.length:Int):=by omega
 have hjn:(b:Int)<(m.S.length:Int):=by omega
 have YS:=aD h.blk;have hgl:g'<w.heap.size:=World.block_lt_of_cell? _ _ p0;have hAl:=aD hst.blk;have hBl:=aD(h.st b xb sb f1 f2).blk;have hgI:oz y m g':=.inr(.inl(by rw [e4];rfl));have hnF:∀k,k=y.G∨k=g'∨k=xa.B∨k=xb.B→¬Ft xa.N xa.g z k:=by
  intro k hk hF;obtain⟨o,ho,hK⟩:=nn.kind hF;rcases hk with rfl|rfl|rfl|rfl
  ·rw [h.blk]at ho;cases ho;exact hK.not(by decide)
  ·obtain⟨cc,hc⟩:=aP h.yD(k:=k)(by rw [e4];rfl);rw [hc]at ho;cases ho;exact hK.not(by decide)
  ·rw [hst.blk]at ho;cases ho;exact hK.not(by decide)
  ·rw [(h.st b xb sb f1 f2).blk]at ho;cases ho;exact hK.not(by decide)
 rw [f3]at HC;have hS0:tQ y.G g' a b xa.B xb.B xa.N w.heap.size m.now sb.addr(.slice(some⟨g',0,none⟩)m.S.length c')w:=⟨⟨q0,q1,p0,c2,p1,ca⟩,YS,hgl,hAl,hBl,Nat.le_refl _⟩;have HC2:Hid(∀W5,Below w.heap.size w W5→Calls Tryz.prog 21 #[.pointer(some⟨xa.N,0,none⟩),.int .u64 m.now,.int .u32 sb.addr,.string t]W5 fun e w2=>∃af kf ac kc ad kd,e=.returned(.tuple #[.agg #[.string j,.bool aZ,.slice af aH.length kf,.slice ac aR.length kc,.slice ad aN.length kd],.int .i64 r])∧tQ y.G g' a b xa.B xb.B xa.N w.heap.size m.now sb.addr(.slice(some⟨g',0,none⟩)m.S.length c')w2∧(∀j r f c d,pG w.heap.size j r f c d W5→pG w.heap.size j r f c d w2)∧Hid(wH p y m m' w aH aR aN(.slice af aH.length kf)(.slice ac aR.length kc)(.slice ad aN.length kd)w2)):=by
  intro W5 hb5;refine(HC xa sa e1 e2 W5 hb5).mono ?_;rintro e w2⟨af,kf,ac,kc,ad,kd,rfl,hfx,hR⟩;have hz5:=hb5.size;refine⟨af,kf,ac,kc,ad,kd,rfl,(hS0.low hb5).keep(Nat.le_trans hz5 hfx.size)fun k hk=>hfx.block k ?_(hnF k hk),fun j r f c d hO=>(hfx.block _(aD hO)fun hF=> ?_).trans hO,hR⟩
  ·rcases hk with rfl|rfl|rfl|rfl<;>omega
  ·have:=nn.lt hF;omega
 have hS:tQ y.G g' a b xa.B xb.B xa.N w.heap.size m.now sb.addr(.slice(some⟨g',0,none⟩)m.S.length c')w.drew:=hS0.drew;replace HD:=hide HD;replace HE:=hide HE;clear HC hnF hgI YS hgl hAl hBl nn hst e1 e2 e3 e4 f1 f2 f3 f4 hS0 h q0 q1 p0 c2 p1 ca;obtain⟨N,Te⟩:∃N,xa.N=N:=⟨_,rfl⟩;rw [Te]at HC2 hS;clear Te;go_enter Tryz.func30,Tryz.ntmps30
 go_upto_region 1 with(fail)
 go_cut [9,10]from 12 to 39(abo p y m m' w j aZ aH aR aN r)
 case first=>
  clear HD HE hr hnd;go_region_held3(tQ y.G g' a b xa.B xb.B N w.heap.size m.now sb.addr(.slice(some⟨g',0,none⟩)m.S.length c'))(first|with_reducible exact hS|with_reducible assumption|(with_reducible apply tQ.d_;with_reducible exact hS)|(with_reducible apply tQ.RG;assumption)|(with_reducible apply tQ.jO;assumption))((go_at_call 21;refine(HC2.out _(by first|with_reducible exact(Below.refl _ _).drew|with_reducible exact((Below.refl _ _).alloc(Nat.le_refl _)_).drew)).mono ?_;rintro e w2⟨af,kf,ac,kc,ad,kd,rfl,hS2,hpr,hnr⟩;try((with_reducible have hD:=hpr _ _ _ _ _(KQ w));have hD':Hid(pG w.heap.size⟨#[]⟩false(.slice none 0 0)(.slice none 0 0)(.slice none 0 0)w2):=hD;obtain⟨d0,d1,d2,d3,d4,dq⟩:=hD'.out.cell;have q0:=dq 0;have q1:=dq 1;have q2:=dq 2;have q3:=dq 3;have q4:=dq 4;clear hD dq);clear hpr))
  all_goals
   go_wp2_with fail
   go_meet
   first|with_reducible exact M0 hnr.out|with_reducible exact VJ hnr.out hD'
 case rest=>
  obtain⟨af,kf,ac,kc,ad,kd,D,rfl,rfl,hD,hR⟩:=hcut;clear HC2 hS;obtain⟨d0,d1,d2,d3,d4,_⟩:=hD.cell;have hp:=hide hR.p;rcases hr with rfl|hr
  ·have Va:=hide(HD.out rfl _ _ _ _ hR);clear HD HE hD hR hnd;go_wp2_with(go_at_call 36;refine Va.out.mono ?_;rintro e w3⟨v2,L2,rfl,hL2,mD,aas⟩;replace hL2:=hide hL2;replace mD:=hide mD;replace aas:=hide aas)
   go_ret
   exact⟨⟨_,_,rfl,hL2.out,mD.out,aas.out⟩,hp.out⟩
  ·have hr0:r≠0:=by omega
   have hrb:(r==0)=false:=by simpa using hr0
   obtain⟨rfl,rfl⟩:=HE.out hr0;have hev:=D8(b:=w.heap.size)(W:=wc)(x:=(⟨a,r,Ot.none⟩,⟨.slice none 0 0,.slice none 0 0,.slice none 0 0⟩))hR.mp.size⟨⟨rfl,.inl⟨rfl,rfl⟩⟩,⟨rfl,.inl⟨rfl,rfl⟩⟩,⟨rfl,.inl⟨rfl,rfl⟩⟩⟩;have hb5:Below wc.heap.size wc(wc.alloc(.cells(zP(⟨a,r,Ot.none⟩,⟨.slice none 0 0,.slice none 0 0,.slice none 0 0⟩)).toArray 54)):=(Below.refl _ _).alloc(Nat.le_refl _)_;have hfin:iV y m md [⟨a,r,Ot.none⟩]w.heap.size w(.returned(.slice(some⟨wc.heap.size,0,none⟩)1 1))(wc.alloc(.cells(zP(⟨a,r,Ot.none⟩,⟨.slice none 0 0,.slice none 0 0,.slice none 0 0⟩)).toArray 54)):=⟨_,_,rfl,rfl,hev,hR.mp.post hb5⟩;have mD:(zP(⟨a,r,Ot.none⟩,⟨.slice none 0 0,.slice none 0 0,.slice none 0 0⟩)).toArray=#[.int .i64 a,.int .i64 r,.string⟨#[]⟩,.bool false,.slice none 0 0,.slice none 0 0,.slice none 0 0]:=rfl;rw [mD]at hfin;clear hev hb5 mD HD HE hR hD hnd hr;go_wp2
   go_ret
   exact⟨hfin,hp.out⟩
theorem mG.same {x:SG} {s:bi} {z:St} {w w':World}(h:mf x s w)(hz:s.nd=some z)(nn:Nn x.N x.g z x.TL w')(fx:Fx(Ft x.N x.g z)w w'):mG x s s w w':=by
 obtain⟨n0,_⟩:=h.nd z hz;have hB:¬Ft x.N x.g z x.B:=fun hk=>by
  obtain⟨o,ho,hK⟩:=n0.kind hk;rw [h.blk]at ho;cases ho;exact hK.not(by decide)
 have hJ:∀k,x.jv.ownBlock=some k→¬Ft x.N x.g z k:=fun k hk hf=>by
  obtain⟨o,ho,hK⟩:=n0.kind hf;obtain⟨cc,hc⟩:=aP h.row hk;rw [hc]at ho;cases ho;exact hK.not(by decide)
 refine⟨x,rfl,⟨(fx.block _(aD h.blk)hB).trans h.blk,h.hl,bD h.row fun k hk=>fx.block k(h.row.lt k hk).2(hJ k hk),fun u hu=> ?_⟩,fx.mono fun k hk=> .inr(.inr⟨z,hz,hk⟩),fun k hk=> .inl hk⟩;cases hz.symm.trans hu;exact⟨nn,(h.nd z hz).2⟩
theorem abG {y:MG} {m:aK} {w:World}(h:MM y m w) {κ:Int} {q:Nat}(hok:iC κ q m)(Gg:0≤κ∧κ≤90000000000)(hq:q≤4999)(a b:Nat)(ha:a<m.S.length)(hb:b<m.S.length)(t:ByteArray)(hr:m.runs a=true):
  Calls Tryz.prog 30 #[.pointer(some⟨y.G,0,none⟩),.int .i64 a,.int .i64 b,.string t]w fun e w'=>iV y m(m.send a b t).1(m.send a b t).2 w.heap.size w e w'∧iC(κ+200000)(q+1)(m.send a b t).1:=by
 obtain⟨xa,sa,g,c,e1,e2,e3,e4,p0⟩:=h.get ha;obtain⟨xb,sb,g',c',f1,f2,f3,f4,p1⟩:=h.get hb;obtain⟨z,hz⟩:∃z,sa.nd=some z:=by
  unfold aK.runs at hr;rw [Int.toNat_natCast,e3]at hr;exact Option.isSome_iff_exists.1(Bool.and_eq_true_iff.1 hr).2
 have hnd:(m.at' a).nd=some z:=by rw [e3];exact hz
 have hnk:=(hok.at e2).nd z hz;have hml:=(hok.at f2).addr;have HNo:∀r,((16<t.size∧r=6)∨(t.size≤16∧((m.at' b).addr=z.me∨(m.at' b).addr=0)∧r=2))→∀x s,y.L[a]?=some x→m.S[a]?=some s→∀W5,Below w.heap.size w W5→Calls Tryz.prog 21 #[.pointer(some⟨x.N,0,none⟩),.int .u64 m.now,.int .u32(m.at' b).addr,.string t]W5 fun e w2=>∃af kf ac kc ad kd,e=.returned(.tuple #[.agg #[.string⟨#[]⟩,.bool false,.slice af([]:List(Int×ByteArray)).length kf,.slice ac([]:List(Int×ByteArray)).length kc,.slice ad([]:List Int).length kd],.int .i64 r])∧Fx(Ft x.N x.g z)W5 w2∧wH True y m m w [] [] [](.slice af([]:List(Int×ByteArray)).length kf)(.slice ac([]:List(Int×ByteArray)).length kc)(.slice ad([]:List Int).length kd)w2:=by
  intro r hc x s g1 g2 W5 hb5;cases e1.symm.trans g1;cases e2.symm.trans g2;have h5:=h.later hb5;have hst:=h5.st a xa sa e1 e2;obtain⟨nn,_⟩:=hst.nd z hz;refine(Uv nn hnk.inv.lk m.now(m.at' b).addr t r hc).mono ?_;rintro e w2⟨rfl,n2,fx⟩;have hp:=h5.Zm e1 e2(mG.same hst hz n2 fx);have hpe:m.put a sa=m:=by
   unfold aK.put;rw [show m.S.set a sa=m.S from by
    rw [←(List.getElem?_eq_some_iff.1 e2).2];exact List.nP _]
  rw [hpe]at hp;exact⟨none,0,none,0,none,0,rfl,fx,hp.pre hb5,⟨⟨rfl,.inl⟨rfl,rfl⟩⟩,⟨rfl,.inl⟨rfl,rfl⟩⟩,⟨rfl,.inl⟨rfl,rfl⟩⟩⟩,trivial⟩
 by_cases h16:16<t.size
 ·have ho:m.send a b t=(m,[⟨a,6,Ot.none⟩]):=by
   unfold aK.send;rw [hnd];dsimp only;rw [if_pos h16]
  rw [ho];refine(vM h a b ha hb t 6(.inr(.inl rfl))⟨#[]⟩false [] [] []hnd(HNo 6(.inl⟨h16,rfl⟩))(fun e=>absurd e(by decide))(fun _=>⟨rfl,rfl⟩)).mono ?_;intro e w2 hp;exact⟨hp.1,hok.up(by omega)(Nat.le_succ _)⟩
 ·by_cases hd:(m.at' b).addr=z.me∨(m.at' b).addr=0
  ·have ho:m.send a b t=(m,[⟨a,2,Ot.none⟩]):=by
    unfold aK.send;rw [hnd];dsimp only;rw [if_neg h16,if_pos hd]
   rw [ho];refine(vM h a b ha hb t 2(.inr(.inr rfl))⟨#[]⟩false [] [] []hnd(HNo 2(.inr⟨by omega,hd,rfl⟩))(fun e=>absurd e(by decide))(fun _=>⟨rfl,rfl⟩)).mono ?_;intro e w2 hp;exact⟨hp.1,hok.up(by omega)(Nat.le_succ _)⟩
  ·obtain⟨zs,hzs⟩:∃zs,z.snd m.now(m.at' b).addr t=zs:=⟨_,rfl⟩;have ho:m.send a b t=(m.put a {sa with nd:=some zs}).did a zs.ot:=by
    unfold aK.send;rw [hnd];dsimp only;rw [if_neg h16,if_neg hd,hzs,Ad e2]
   have hdd:∀W5,Below w.heap.size w W5→∀o w2,Az xa.N xa.g z zs W5 o w2→zs.Inv(κ+1)→∃aI bH bI y2,o=iE zs.aY zs.aZ aI bH bI∧h_ W5.heap.size zs.aH zs.aR zs.aN aI bH bI w2∧MM y2(m.put a {sa with nd:=some zs})w2∧MU y m y2(m.put a {sa with nd:=some zs})W5 w2∧Bn(κ+1)(q+1)(m.put a {sa with nd:=some zs})a zs:=by
    intro W5 hb5 o w2 hcp hI2;obtain⟨k5,s',hp1,hp2⟩:=KC z m.now(m.at' b).addr t;have hrest:=yV hp1;have hcnt:=uY hp1;rw [←hp2,hzs]at hrest hcnt;exact Ei(h.later hb5)hok e1 e2 hz hcp hI2(by rw [←hzs];exact Wd hnk.pos hnk.inv.tl.1 _ _ _)hrest.1 hrest.2(Nat.le_succ q)(by rw [←hzs];exact Nat.le_trans(Zr _ _ _ _)(Nat.succ_le_succ hnk.ql))hcnt
   rw [ho];obtain⟨m',hm'⟩:∃m',m.put a {sa with nd:=some zs}=m':=⟨_,rfl⟩;rw [hm']at hdd ⊢;refine(vM(p:=Bn(κ+1)(q+1)m' a zs)(m':=m')(md:=(m'.did a zs.ot).1)(evs:=(m'.did a zs.ot).2)h a b ha hb t 0(.inl rfl)zs.aY zs.aZ zs.aH zs.aR zs.aN hnd ?_ ?_(fun e=>absurd rfl e)).mono ?_
   ·intro x s g1 g2 W5 hb5;cases e1.symm.trans g1;cases e2.symm.trans g2;obtain⟨nn,tm⟩:=((h.later hb5).st a xa sa e1 e2).nd z hz;refine(abE nn hnk.inv(by omega)tm m.now(m.at' b).addr t⟨hnk.nw,hok.now.2⟩(by rw [f3];exact hml)(by omega)(fun e=>hd(.inl e))(fun e=>hd(.inr e))(Nat.le_trans hnk.ql hq)).mono ?_;rintro e w2⟨o,rfl,hI2,hcp⟩;rw [hzs]at hI2 hcp;have hfx:Fx(Ft xa.N xa.g z)W5 w2:=by
     obtain⟨_,_,_,_,_,_,_,_,_,_,_,fx,_⟩:=hcp;exact fx
    obtain⟨aI,bH,bI,y2,rfl,hor,hm2,hu2,hdk⟩:=hdd W5 hb5 o w2 hcp hI2.out;obtain⟨af,kf,rfl,_⟩:=ak hor.aI;obtain⟨ac,kc,rfl,_⟩:=ak hor.bH;obtain⟨ad,kd,rfl,_⟩:=ak hor.bI;exact⟨af,kf,ac,kc,ad,kd,rfl,hfx,⟨y2,hm2,hu2.pre hb5⟩,hor.lower hb5.size,hdk⟩
   ·intro _ aI bH bI W hR;obtain⟨⟨y2,hm2,hu2⟩,hor,hdk⟩:=hR;have hd2:=Eu hm2 hdk aI bH bI w.heap.size hor hu2.fx.size;rw [hu2.G]at hd2;refine hd2.mono ?_;rintro e w3⟨v2,L2,rfl,hL2,mD,y3,nW,hu3⟩;exact⟨v2,L2,rfl,hL2,mD,y3,nW,hu2.trans hu3⟩
   ·rintro e w2⟨hp,hdk⟩;exact⟨hp,(Eb hdk).up(by omega)(Nat.le_refl _)⟩
open Go
section
variable {P:Program} {ops:Array Oper} {Q:Exit→Act→World→Prop} {md:Region.Mode} {S:World→Prop} {U:List Nat}
def kg(P:Program)(md:Region.Mode)(ops:Array Oper)(Q:Exit→Act→World→Prop)(S:World→Prop)(U:List Nat):Nat→Array Bool→Act→World→Prop
 |0,listed,a,w=>Region.ready md ops listed=[]∧Q .normal a w
 |fuel+1,listed,a,w=>
  (Region.ready md ops listed=[]→Q .normal a w)∧
  ∀i∈Region.ready md ops listed,wpOp P ops Q i(fun a' w'=>(i ∉ U→S w')∧kg P md ops Q S U fuel(listed.setIfInBounds i true)a' w')a w
theorem rM:∀(fuel:Nat)(listed:Array Bool)(a:Act)(w:World),kg P md ops Q S U fuel listed a w→wpAny P md ops Q fuel listed a w
 |0,_,_,_,h=>h
 |fuel+1,_,_,_,h=>⟨h.1,fun _ hi=>wpOp_mono(fun a' w' h'=>rM fuel _ a' w' h'.2)(h.2 _ hi)⟩
def Late(md:Region.Mode)(ops:Array Oper)(listed:Array Bool)(i:Nat)(V:List Nat):Prop:=
 ∀u∈V,listed.getD u true=false∧∃o,ops[u]?=some o∧∃e∈o.after,Region.binds md e=true∧(e.on=i∨e.on∈V)
theorem oG {listed:Array Bool} {k:Nat}(h0:listed.getD k true=false)(h1:listed.getD k false=true):False:=by
 rcases Nat.lt_or_ge k listed.size with h'|h'
 ·simp [h']at h0 h1;rw [h0]at h1;cases h1
 ·simp [Array.getElem?_eq_none h']at h1
theorem Late.not {listed:Array Bool} {i:Nat} {V:List Nat}(h:Late md ops listed i V)(hi:i∈Region.ready md ops listed) {j:Nat}(hj:j∈Region.ready md ops listed):j ∉ V:=fun hv=>by
 obtain⟨_,o,ho,e,he,hb,hon⟩:=h j hv;obtain⟨_,o',ho',hall⟩:=mem_ready.1 hj;rw [ho]at ho';cases ho';have h1:=hall e he hb;rcases hon with hon|hon
 ·rw [hon]at h1;exact oG(mem_ready.1 hi).1 h1
 ·exact oG(h _ hon).1 h1
theorem Cv {i:Nat} {oi:Oper} {v:Value}(hi:ops[i]?=some oi)(hsel:∀(j:Nat)(o:Oper)cs b,ops[j]?=some o→o.op≠ .select cs b)
  (hQ:∀c a w,Q(.panic c)(a.put oi.dst v)w→Q(.panic c)a w) {V:List Nat}(hUV:∀u∈U,u∈V):
  ∀(fuel:Nat)(listed:Array Bool)(a:Act)(w:World),
   (∀j oj,ops[j]?=some oj→j≠i→listed.getD j true=false→(∀e∈oj.after,Region.binds md e=true→e.on≠i)→oi.apart ops oj=true)→
   Late md ops listed i V→i∈Region.ready md ops listed→YieldsIf P ops S oi v a→S w→
   kg P md ops Q S U fuel(listed.setIfInBounds i true)(a.put oi.dst v)w→kg P md ops Q S U(fuel+1)listed a w:=by
 intro fuel
 induction fuel with
 |zero=>
  intro listed a w _ _ hr hy hS H;refine⟨fun h=>(by rw [h]at hr;cases hr),fun j hj=> ?_⟩;by_cases hji:j=i
  ·subst hji;exact hy.wpOp hi hS⟨fun _=>hS,H⟩
  ·have:=ready_mono hj hji;rw [H.1]at this;cases this
 |succ fuel ih=>
  intro listed a w hfree hV hr hy hS H;refine⟨fun h=>(by rw [h]at hr;cases hr),fun j hj=> ?_⟩;by_cases hji:j=i
  ·subst hji;exact hy.wpOp hi hS⟨fun _=>hS,H⟩
  ·have h1:=H.2 j(ready_mono hj hji);have hjV:=hV.not hr hj;obtain⟨hjun,oj,hoj,hall⟩:=mem_ready.1 hj;have hnot:∀e∈oj.after,Region.binds md e=true→e.on≠i:=fun e he hb heq=>by
    have h1:=hall e he hb;rw [heq]at h1;exact oG(mem_ready.1 hr).1 h1
   have h2:=wpOp_putIf hoj(hfree j oj hoj hji hjun hnot)(fun cs b=>hsel i oi cs b hi)(fun cs b=>hsel j oj cs b hoj)hQ hy h1;have hfree':∀k ok,ops[k]?=some ok→k≠i→(listed.setIfInBounds j true).getD k true=false→
     (∀e∈ok.after,Region.binds md e=true→e.on≠i)→oi.apart ops ok=true:=fun k ok hk hki hun hno=>by
    refine hfree k ok hk hki ?_ hno;by_cases hjk:j=k
    ·subst hjk;exact hjun
    ·rw [getD_set_ne true hjk]at hun;exact hun
   have hV':Late md ops(listed.setIfInBounds j true)i V:=fun u hu=>by
    obtain⟨h5,h6⟩:=hV u hu;have hne:j≠u:=fun e=>hjV(by rw [e];exact hu);refine⟨?_,h6⟩;rw [getD_set_ne true hne];exact h5
   refine wpOp_mono(fun a' w' h3=> ?_)h2;have hS3:=h3.2.1(fun hu=>hjV(hUV j hu));refine⟨fun _=>hS3,ih(listed.setIfInBounds j true)a' w' hfree' hV'(ready_mono hr(Ne.symm hji))h3.1 hS3 ?_⟩;rw [Array.setIfInBounds_comm _ _ hji];exact h3.2.2
def ab8(md:Region.Mode)(ops:Array Oper)(listed:Array Bool)(i:Nat):List Nat:=
 (List.range ops.size).foldl(fun acc u=>if !listed.getD u true&&(match ops[u]? with|some o=>o.after.any fun e=>Region.binds md e&&(e.on==i||acc.contains e.on)|none=>false)then acc++ [u]else acc) []
def YC(md:Region.Mode)(ops:Array Oper)(listed:Array Bool)(i:Nat)(U V:List Nat):Bool:=
 U.all(fun u=>V.contains u)&&V.all fun u=>!listed.getD u true&&(match ops[u]? with|some o=>o.after.any fun e=>Region.binds md e&&(e.on==i||V.contains e.on)|none=>false)
theorem Lp {listed:Array Bool} {i:Nat} {V:List Nat}(h:YC md ops listed i U V=true):(∀u∈U,u∈V)∧Late md ops listed i V:=by
 obtain⟨h1,h2⟩:=Bool.and_eq_true_iff.1 h;refine⟨fun u hu=>by simpa using List.all_eq_true.1 h1 u hu,fun u hu=> ?_⟩;obtain⟨h3,h4⟩:=Bool.and_eq_true_iff.1(List.all_eq_true.1 h2 u hu);refine⟨by simpa using h3,?_⟩;cases ho:ops[u]? with
 |none=>
  rw [ho]at h4;cases h4
 |some o=>
  rw [ho]at h4;dsimp only at h4;obtain⟨e,he,hb⟩:=Array.any_eq_true'.1 h4;obtain⟨hb1,hb2⟩:=Bool.and_eq_true_iff.1 hb;exact⟨o,rfl,e,he,hb1,by simpa using hb2⟩
theorem aB {i:Nat} {oi:Oper} {v:Value} {fuel:Nat} {listed:Array Bool} {a:Act} {w:World}(hi:ops[i]?=some oi)
  (hs:Region.noSelect ops=true)(hf:Region.free md ops listed i=true)(hr:(Region.ready md ops listed).contains i=true)(hl:YC md ops listed i U(ab8 md ops listed i)=true)
  (hQ:∀c a w,Q(.panic c)(a.put oi.dst v)w→Q(.panic c)a w)(hy:YieldsIf P ops S oi v a)(hS:S w)
  (h:kg P md ops Q S U fuel(listed.setIfInBounds i true)(a.put oi.dst v)w):kg P md ops Q S U(fuel+1)listed a w:=
 Cv hi(Region.noSelect_spec hs)hQ(Lp hl).1 fuel listed a w(Region.free_spec hi hf)(Lp hl).2(by simpa using hr)hy hS h
theorem df {i:Nat} {o:Oper} {fuel:Nat} {listed:Array Bool} {a:Act} {w:World}(hr:Region.ready md ops listed=[i])(ho:ops[i]?=some o)
  (h:∀K':Act→World→Prop,Shut(∀a w,(i ∉ U→S w)→kg P md ops Q S U fuel(listed.setIfInBounds i true)a w→K' a w)→if Region.wanted o(yielded ops a.tmps)=true then Oper.wp P o a w K' Q else K'(a.put o.dst undef)w):kg P md ops Q S U(fuel+1)listed a w:=by
 refine⟨fun h0=>absurd(hr▸h0)(by simp),fun j hj=> ?_⟩;rw [hr,List.mem_singleton]at hj;subst hj;exact wpOp_step ho(fun K' hK=>h K'(fun a w hS hW=>hK a w⟨hS,hW⟩))
theorem jA {listed:Array Bool} {a:Act} {w:World}(hr:Region.ready md ops listed=[])(h:Q .normal a w):∀fuel,kg P md ops Q S U fuel listed a w
 |0=>⟨hr,h⟩
 |_+1=>⟨fun _=>h,by rw [hr];simp⟩
theorem jI {id:Nat} {a:Act} {w:World}(S:World→Prop)(U:List Nat)(hm:P.follows .mixedOrders=true)(hS:S w.drew)
  (h:S w.drew→kg P .any ops Q S U ops.size(Array.replicate ops.size false)a w.drew):(Code.region id ops true).wp P Q a w:=
 wp_region_any hm(rM _ _ _ _(h hS))
end
end Go.Proofs.YtakaadcpaeiccabGreat
