import Derived.Test.YtakaadcpaeiccabGreatC29
set_option maxHeartbeats 8000000
set_option maxRecDepth 100000
namespace Go.Proofs.YtakaadcpaeiccabGreat
open Go.RowKit Go.Maps
variable{bn:Bool}{j:ByteArray}{ad r:Int}{aR aI:List (Int×ByteArray)}{aQ:List Int}{y:MG}{m m':aP}{BA BB G N a b kc kd kf:Nat}{o:Obj}{ac af:Option Addr}{p:Prop}{bL bO aJ sv:Value}{W W' w w' w2:World}
@[reducible] def uK(G g a b BA BB N z : Nat)(now ad : Int)(sv : Value)(W : World): Prop :=
 (W.cell? ⟨G,0,none⟩=some (.int .u64 now)∧W.cell? ⟨G,1,none⟩=some sv∧W.cell? ⟨g,a,none⟩=some (.pointer (some ⟨BA,0,none⟩))∧W.cell? ⟨BA,2,none⟩=some (.pointer (some ⟨N,0,none⟩))∧W.cell? ⟨g,b,none⟩=some (.pointer (some ⟨BB,0,none⟩))∧W.cell? ⟨BB,0,none⟩=some (.int .u32 ad))∧G<z∧g<z∧BA<z∧BB<z∧z<=W.heap.size
theorem uK.keep{g z:Nat}{now:Int}(h:uK G g a b BA BB N z now ad sv W)(hz:z<=W'.heap.size)(hb:∀k,k=G∨k=g∨k=BA∨k=BB->W'.heap[k]?=W.heap[k]?):uK G g a b BA BB N z now ad sv W':=by
 obtain⟨⟨c0,c1,c2,c3,c4,c5⟩,h1,h2,h3,h4,_⟩:=h;exact⟨⟨(World.cell?_of_block (a:=⟨G,0,none⟩) (hb _ (.inl rfl))).trans c0,(World.cell?_of_block (a:=⟨G,1,none⟩) (hb _ (.inl rfl))).trans c1,(World.cell?_of_block (a:=⟨g,a,none⟩) (hb _ (.inr (.inl rfl)))).trans c2,(World.cell?_of_block (a:=⟨BA,2,none⟩) (hb _ (.inr (.inr (.inl rfl))))).trans c3,(World.cell?_of_block (a:=⟨g,b,none⟩) (hb _ (.inr (.inl rfl)))).trans c4,(World.cell?_of_block (a:=⟨BB,0,none⟩) (hb _ (.inr (.inr (.inr rfl))))).trans c5⟩,h1,h2,h3,h4,hz⟩
theorem uK.low{g z:Nat}{now:Int}(h:uK G g a b BA BB N z now ad sv W)(hb:Below z W W'):uK G g a b BA BB N z now ad sv W':=by
 have h':=h;obtain⟨_,h1,h2,h3,h4,h5⟩:=h;exact h'.keep (dH h5 hb.size) λk hk=>hb.block k (by rcases hk with rfl|rfl|rfl|rfl<;>assumption)
theorem uK.drew{g z:Nat}{now:Int}(h:uK G g a b BA BB N z now ad sv W):uK G g a b BA BB N z now ad sv W.drew:=h.keep h.2.2.2.2.2 λ_ _=>rfl
theorem uK.kG{g z:Nat}{now:Int}(h:uK G g a b BA BB N z now ad sv W):uK G g a b BA BB N z now ad sv (W.alloc o):=h.low ((aU _ _).alloc h.2.2.2.2.2 _)
theorem uK.eX{g z:Nat}{now:Int}(h:uK G g a b BA BB N z now ad sv W.drew):uK G g a b BA BB N z now ad sv (W.alloc o).drew:=by
 have h':uK G g a b BA BB N z now ad sv W:=⟨h.1,h.2⟩;exact h'.kG.drew
theorem uK.TA{g z:Nat}{now:Int}{v0 v1 v2 v3 v4:Value}(h:uK G g a b BA BB N z now ad sv W):uK G g a b BA BB N z now ad sv (((((W.setCell ⟨z,0,none⟩ v0).setCell ⟨z,1,none⟩ v1).setCell ⟨z,2,none⟩ v2).setCell ⟨z,3,none⟩ v3).setCell ⟨z,4,none⟩ v4):=h.low (uJ (aU _ _) (aB _) _ _ _ _ _)
structure yj(p:Prop)(y:MG)(m m':aP)(w:World)(aI aR:List (Int×ByteArray))(aQ:List Int)(aJ bL bO:Value)(W:World):Prop where
 mp:MP y m m' w W
 out:iH w.heap.size aI aR aQ aJ bL bO W
 p:p
theorem yj.alloc(h:yj p y m m' w aI aR aQ aJ bL bO W)(o:Obj):yj p y m m' w aI aR aQ aJ bL bO (W.alloc o):=
 ⟨h.mp.post (bC),h.out.later (bC),h.p⟩
theorem yj.set(h:yj p y m m' w aI aR aQ aJ bL bO W){D:Nat}{c:Array Value}(hD:W.heap[D]?=some (.cells c 52 (0,0)))(hDl:w.heap.size<=D)(hg:W.grownBy W' (some D)):yj p y m m' w aI aR aQ aJ bL bO W':=by
 obtain⟨⟨y',hm,hu⟩,ho,hp⟩:=h;refine⟨⟨y',hm.kept λk hk=>hg.block k (hm.lt hk) λe=> ?_,⟨aV hu.fx hg (λj hj e=> ?_),λk hk=>(hu.sub k hk).imp_right λh=>⟨h.1,fO h.2 hg.size⟩,hu.G,hu.n,hu.sv,hu.B⟩⟩,ho.at λk c' t ht hk=>hg.block k (aF hk) λe=> ?_,hp⟩
 ·cases e;exact hm.not hD (by decide) hk
 ·cases e;omega
 ·cases e;rw[hD]at hk;cases hk;exact absurd ht (by decide)
def aco(p:Prop)(y:MG)(m m':aP)(w:World)(j:ByteArray)(bn:Bool)(aI aR:List (Int×ByteArray))(aQ:List Int)(r:Int)(nv ov:Value)(W:World):Prop:=∃af kf ac kc ad kd D,nv=.pointer (some ⟨D,0,none⟩)∧ov=.int .i64 r∧qc D j bn (.slice af aI.length kf) (.slice ac aR.length kc) (.slice ad aQ.length kd) W∧yj p y m m' w aI aR aQ (.slice af aI.length kf) (.slice ac aR.length kc) (.slice ad aQ.length kd) W
theorem OG{ad:Option Addr}(h:yj p y m m' w aI aR aQ (.slice af aI.length kf) (.slice ac aR.length kc) (.slice ad aQ.length kd) w2):aco p y m m' w j bn aI aR aQ r (.pointer (some ⟨w2.heap.size,0,none⟩)) (.int .i64 r) (w2.alloc (.cells #[.string j,.bool bn,.slice af aI.length kf,.slice ac aR.length kc,.slice ad aQ.length kd] 52)):=
 ⟨af,kf,ac,kc,ad,kd,_,rfl,rfl,bS _ _,h.alloc _⟩
theorem W_{ad:Option Addr}{j0:ByteArray}{r0:Bool}{f0 c0 d0:Value}(h:yj p y m m' w aI aR aQ (.slice af aI.length kf) (.slice ac aR.length kc) (.slice ad aQ.length kd) w2)(hD:Hid (qc w.heap.size j0 r0 f0 c0 d0 w2)):aco p y m m' w j bn aI aR aQ r (.pointer (some ⟨w.heap.size,0,none⟩)) (.int .i64 r) (((((w2.setCell ⟨w.heap.size,0,none⟩ (.string j)).setCell ⟨w.heap.size,1,none⟩ (.bool bn)).setCell ⟨w.heap.size,2,none⟩ (.slice af aI.length kf)).setCell ⟨w.heap.size,3,none⟩ (.slice ac aR.length kc)).setCell ⟨w.heap.size,4,none⟩ (.slice ad aQ.length kd)):=
 ⟨af,kf,ac,kc,ad,kd,_,rfl,rfl,hD.out.OL,h.set hD.out (aB _) (uE _ _ _ _ _ _ _)⟩
theorem MP.size(h:MP y m m' w w'):w.heap.size<=w'.heap.size:=by
 obtain⟨_,_,hu⟩:=h;exact hu.fx.size
theorem xu{md:aP}{evs:List Ev}(h:MM y m w)(a b:Nat)(ha:a<m.S.length)(hb:b<m.S.length)(t:ByteArray)(r:Int)(hr:r=0∨r=6∨r=2)(j:ByteArray)(bn:Bool)(aI aR:List (Int×ByteArray))(aQ:List Int){z:St}(hnd:(m.at' a).nd=some z)
  (HC:∀x s,y.L[a]?=some x->m.S[a]?=some s->∀W5,Below w.heap.size w W5->Calls Tryz.prog 21 #[.pointer (some ⟨x.N,0,none⟩),.int .u64 m.now,.int .u32 (m.at' b).addr,.string t] W5 λe w2=>∃af kf ac kc ad kd,e=.returned (.tuple #[.agg #[.string j,.bool bn,.slice af aI.length kf,.slice ac aR.length kc,.slice ad aQ.length kd],.int .i64 r])∧Fx (Ft x.N x.g z) W5 w2∧yj p y m m' w aI aR aQ (.slice af aI.length kf) (.slice ac aR.length kc) (.slice ad aQ.length kd) w2)
  (HD:r=0->∀aJ bL bO W,yj p y m m' w aI aR aQ aJ bL bO W->Calls Tryz.prog 36 #[.pointer (some ⟨y.G,0,none⟩),.int .i64 a,.agg #[.string j,.bool bn,aJ,bL,bO]] W (jB y m md evs w.heap.size w))
  (HE:r≠0->md=m'∧evs=[⟨a,r,Ot.none⟩]):
  Calls Tryz.prog 30 #[.pointer (some ⟨y.G,0,none⟩),.int .i64 a,.int .i64 b,.string t] w λe w'=>jB y m md evs w.heap.size w e w'∧p:=by
 obtain⟨xa,sa,g,c,e1,e2,e3,e4,p0⟩:=h.get ha;obtain⟨xb,sb,g',c',f1,f2,f3,f4,p1⟩:=h.get hb;obtain⟨q0,q1,_,_⟩:=h.cell;have hgg:g'=g∧c'=c:=by
  rw[f4]at e4;injection e4 with h5 _ h6;injection h5 with h5;injection h5 with h5 _ _;exact⟨h5,h6⟩
 obtain⟨rfl,rfl⟩:=hgg;have hst:=h.st a xa sa e1 e2;have c2:=hst.cell.2.2.1;rw[e3]at hnd;rw[hnd]at c2;unfold Pk at c2;have ca:=(h.st b xb sb f1 f2).cell.1;rw[e4]at q1;obtain⟨nn,_⟩:=hst.nd z hnd;have hin:(a:Int)<(m.S.length:Int):=by omega
 have hjn:(b:Int)<(m.S.length:Int):=by omega
 have ZV:=aF h.blk;have hgl:g'<w.heap.size:=World.block_lt_of_cell? _ _ p0;have hAl:=aF hst.blk;have hBl:=aF (h.st b xb sb f1 f2).blk;have hgI:uP y m g':=.inr (.inl (by rw[e4];rfl));have hnF:∀k,k=y.G∨k=g'∨k=xa.B∨k=xb.B->¬Ft xa.N xa.g z k:=by
  intro k hk hF;obtain⟨o,ho,hK⟩:=nn.kind hF;rcases hk with rfl|rfl|rfl|rfl
  ·rw[h.blk]at ho;cases ho;exact hK.not (by decide)
  ·obtain⟨cc,hc⟩:=aS h.Ai (k:=k) (by rw[e4];rfl);rw[hc]at ho;cases ho;exact hK.not (by decide)
  ·rw[hst.blk]at ho;cases ho;exact hK.not (by decide)
  ·rw[(h.st b xb sb f1 f2).blk]at ho;cases ho;exact hK.not (by decide)
 rw[f3]at HC;have hS0:uK y.G g' a b xa.B xb.B xa.N w.heap.size m.now sb.addr (.slice (some ⟨g',0,none⟩) m.S.length c') w:=⟨⟨q0,q1,p0,c2,p1,ca⟩,ZV,hgl,hAl,hBl,aB _⟩;have HC2:Hid (∀W5,Below w.heap.size w W5->Calls Tryz.prog 21 #[.pointer (some ⟨xa.N,0,none⟩),.int .u64 m.now,.int .u32 sb.addr,.string t] W5 λe w2=>∃af kf ac kc ad kd,e=.returned (.tuple #[.agg #[.string j,.bool bn,.slice af aI.length kf,.slice ac aR.length kc,.slice ad aQ.length kd],.int .i64 r])∧uK y.G g' a b xa.B xb.B xa.N w.heap.size m.now sb.addr (.slice (some ⟨g',0,none⟩) m.S.length c') w2∧(∀j r f c d,qc w.heap.size j r f c d W5->qc w.heap.size j r f c d w2)∧Hid (yj p y m m' w aI aR aQ (.slice af aI.length kf) (.slice ac aR.length kc) (.slice ad aQ.length kd) w2)):=by
  intro W5 hb5;refine(HC xa sa e1 e2 W5 hb5).mono ?_;rintro e w2 ⟨af,kf,ac,kc,ad,kd,rfl,hfx,hR⟩;have hz5:=hb5.size;refine⟨af,kf,ac,kc,ad,kd,rfl,(hS0.low hb5).keep (dH hz5 hfx.size) λk hk=>hfx.block k ?_ (hnF k hk),λj r f c d hO=>(hfx.block _ (aF hO) λhF=> ?_).trans hO,hR⟩
  ·rcases hk with rfl|rfl|rfl|rfl<;>omega
  ·have:=nn.lt hF;omega
 have hS:uK y.G g' a b xa.B xb.B xa.N w.heap.size m.now sb.addr (.slice (some ⟨g',0,none⟩) m.S.length c') w.drew:=hS0.drew;replace HD:=hide HD;replace HE:=hide HE;clear HC hnF hgI ZV hgl hAl hBl nn hst e1 e2 e3 e4 f1 f2 f3 f4 hS0 h q0 q1 p0 c2 p1 ca;obtain⟨N,Ux⟩:∃N,xa.N=N:=⟨_,rfl⟩;rw[Ux]at HC2 hS;clear Ux;go_enter Tryz.func30,Tryz.ntmps30;go_upto_region 1 with(fail);go_cut [9,10]from 12 to 39 (aco p y m m' w j bn aI aR aQ r)
 case first=>
  clear HD HE hr hnd;go_region_held3 (uK y.G g' a b xa.B xb.B N w.heap.size m.now sb.addr (.slice (some ⟨g',0,none⟩) m.S.length c')) (first|with_reducible exact hS|with_reducible assumption|(with_reducible apply uK.eX;with_reducible exact hS)|(with_reducible apply uK.TA;assumption)|(with_reducible apply uK.kG;assumption)) ((go_at_call 21;refine(HC2.out _ (by first|with_reducible exact(aU _ _).drew|with_reducible exact(bC).drew)).mono ?_;rintro e w2 ⟨af,kf,ac,kc,ad,kd,rfl,hS2,hpr,hnr⟩;try ((with_reducible have hD:=hpr _ _ _ _ _ (MO w));have hD':Hid (qc w.heap.size ⟨#[]⟩ false (.slice none 0 0) (.slice none 0 0) (.slice none 0 0) w2):=hD;obtain⟨d0,d1,d2,d3,d4,dq⟩:=hD'.out.cell;have q0:=dq 0;have q1:=dq 1;have q2:=dq 2;have q3:=dq 3;have q4:=dq 4;clear hD dq);clear hpr))
  all_goals
   go_wp2_with fail;go_meet;first|with_reducible exact OG hnr.out|with_reducible exact W_ hnr.out hD'
 case rest=>
  obtain⟨af,kf,ac,kc,ad,kd,D,rfl,rfl,hD,hR⟩:=hcut;clear HC2 hS;obtain⟨d0,d1,d2,d3,d4,_⟩:=hD.cell;have hp:=hide hR.p;rcases hr with rfl|hr
  ·have Wm:=hide (HD.out rfl _ _ _ _ hR);clear HD HE hD hR hnd;go_wp2_with(go_at_call 36;refine Wm.out.mono ?_;rintro e w3 ⟨v2,L2,rfl,hL2,ny,abq⟩;replace hL2:=hide hL2;replace ny:=hide ny;replace abq:=hide abq);go_ret;exact⟨⟨_,_,rfl,hL2.out,ny.out,abq.out⟩,hp.out⟩
  ·have hr0:r≠0:=by omega
   have hrb:(r==0)=false:=by simpa using hr0
   obtain⟨rfl,rfl⟩:=HE.out hr0;have hev:=FR (b:=w.heap.size) (W:=wc) (x:=(⟨a,r,Ot.none⟩,⟨.slice none 0 0,.slice none 0 0,.slice none 0 0⟩)) hR.mp.size ⟨⟨rfl,.inl ⟨rfl,rfl⟩⟩,⟨rfl,.inl ⟨rfl,rfl⟩⟩,⟨rfl,.inl ⟨rfl,rfl⟩⟩⟩;have hb5:Below wc.heap.size wc (wc.alloc (.cells (xV (⟨a,r,Ot.none⟩,⟨.slice none 0 0,.slice none 0 0,.slice none 0 0⟩)).toArray 54)):=bC;have hfin:jB y m md [⟨a,r,Ot.none⟩] w.heap.size w (.returned (.slice (some ⟨wc.heap.size,0,none⟩) 1 1)) (wc.alloc (.cells (xV (⟨a,r,Ot.none⟩,⟨.slice none 0 0,.slice none 0 0,.slice none 0 0⟩)).toArray 54)):=⟨_,_,rfl,rfl,hev,hR.mp.post hb5⟩;have ny:(xV (⟨a,r,Ot.none⟩,⟨.slice none 0 0,.slice none 0 0,.slice none 0 0⟩)).toArray=#[.int .i64 a,.int .i64 r,.string ⟨#[]⟩,.bool false,.slice none 0 0,.slice none 0 0,.slice none 0 0]:=rfl;rw[ny]at hfin;clear hev hb5 ny HD HE hR hD hnd hr;go_wp2;go_ret;exact⟨hfin,hp.out⟩
theorem nD.same{x:SG}{s:bG}{z:St}(h:mZ x s w)(hz:s.nd=some z)(nn:Nn x.N x.g z x.TL w')(fx:Fx (Ft x.N x.g z) w w'):nD x s s w w':=by
 obtain⟨n0,_⟩:=h.nd z hz;have hB:¬Ft x.N x.g z x.B:=λhk=>by
  obtain⟨o,ho,hK⟩:=n0.kind hk;rw[h.blk]at ho;cases ho;exact hK.not (by decide)
 have hJ:∀k,x.jv.ownBlock=some k->¬Ft x.N x.g z k:=λk hk hf=>by
  obtain⟨o,ho,hK⟩:=n0.kind hf;obtain⟨cc,hc⟩:=aS h.row hk;rw[hc]at ho;cases ho;exact hK.not (by decide)
 refine⟨x,rfl,⟨(fx.block _ (aF h.blk) hB).trans h.blk,h.hl,bP h.row λk hk=>fx.block k (h.row.lt k hk).2 (hJ k hk),λu hu=> ?_⟩,fx.mono λk hk=> .inr (.inr ⟨z,hz,hk⟩),λk hk=> .inl hk⟩;cases hz.symm.trans hu;exact⟨nn,(h.nd z hz).2⟩
theorem acJ(h:MM y m w){κ:Int}{q:Nat}(hok:iX κ q m)(IQ:0<=κ∧κ<=90000000000)(hq:q<=4999)(a b:Nat)(ha:a<m.S.length)(hb:b<m.S.length)(t:ByteArray)(hr:m.runs a=true):
  Calls Tryz.prog 30 #[.pointer (some ⟨y.G,0,none⟩),.int .i64 a,.int .i64 b,.string t] w λe w'=>jB y m (m.send a b t).1 (m.send a b t).2 w.heap.size w e w'∧iX (κ+200000) (q+1) (m.send a b t).1:=by
 obtain⟨xa,sa,g,c,e1,e2,e3,e4,p0⟩:=h.get ha;obtain⟨xb,sb,g',c',f1,f2,f3,f4,p1⟩:=h.get hb;obtain⟨z,hz⟩:∃z,sa.nd=some z:=by
  unfold aP.runs at hr;rw[jm,e3]at hr;exact Option.isSome_iff_exists.1 (Bool.and_eq_true_iff.1 hr).2
 have hnd:(m.at' a).nd=some z:=by rw[e3];exact hz
 have hnk:=(hok.at e2).nd z hz;have hml:=(hok.at f2).addr;have HNo:∀r,((16<t.size∧r=6)∨(t.size<=16∧((m.at' b).addr=z.me∨(m.at' b).addr=0)∧r=2))->∀x s,y.L[a]?=some x->m.S[a]?=some s->∀W5,Below w.heap.size w W5->Calls Tryz.prog 21 #[.pointer (some ⟨x.N,0,none⟩),.int .u64 m.now,.int .u32 (m.at' b).addr,.string t] W5 λe w2=>∃af kf ac kc ad kd,e=.returned (.tuple #[.agg #[.string ⟨#[]⟩,.bool false,.slice af ([]:List (Int×ByteArray)).length kf,.slice ac ([]:List (Int×ByteArray)).length kc,.slice ad ([]:List Int).length kd],.int .i64 r])∧Fx (Ft x.N x.g z) W5 w2∧yj True y m m w [] [] [] (.slice af ([]:List (Int×ByteArray)).length kf) (.slice ac ([]:List (Int×ByteArray)).length kc) (.slice ad ([]:List Int).length kd) w2:=by
  intro r hc x s g1 g2 W5 hb5;cases e1.symm.trans g1;cases e2.symm.trans g2;have h5:=h.later hb5;have hst:=h5.st a xa sa e1 e2;obtain⟨nn,_⟩:=hst.nd z hz;refine(VE nn hnk.inv.lk m.now (m.at' b).addr t r hc).mono ?_;rintro e w2 ⟨rfl,n2,fx⟩;have hp:=h5.stp e1 e2 (nD.same hst hz n2 fx);have hpe:m.put a sa=m:=by
   unfold aP.put;rw[show m.S.set a sa=m.S from by
    rw[<-(fu.1 e2).2];exact List.set_getElem_self _]
  rw[hpe]at hp;exact⟨none,0,none,0,none,0,rfl,fx,hp.pre hb5,⟨⟨rfl,.inl ⟨rfl,rfl⟩⟩,⟨rfl,.inl ⟨rfl,rfl⟩⟩,⟨rfl,.inl ⟨rfl,rfl⟩⟩⟩,trivial⟩
 by_cases h16:16<t.size
 ·have ho:m.send a b t=(m,[⟨a,6,Ot.none⟩]):=by
   unfold aP.send;rw[hnd];dsimp only;rw[aM h16]
  rw[ho];refine(xu h a b ha hb t 6 (.inr (.inl rfl)) ⟨#[]⟩ false [] [] [] hnd (HNo 6 (.inl ⟨h16,rfl⟩)) (λe=>absurd e (by decide)) (λ_=>⟨rfl,rfl⟩)).mono ?_;intro e w2 hp;exact⟨hp.1,hok.up (by omega) (Nat.le_succ _)⟩
 ·by_cases hd:(m.at' b).addr=z.me∨(m.at' b).addr=0
  ·have ho:m.send a b t=(m,[⟨a,2,Ot.none⟩]):=by
    unfold aP.send;rw[hnd];dsimp only;rw[aH h16,aM hd]
   rw[ho];refine(xu h a b ha hb t 2 (.inr (.inr rfl)) ⟨#[]⟩ false [] [] [] hnd (HNo 2 (.inr ⟨by omega,hd,rfl⟩)) (λe=>absurd e (by decide)) (λ_=>⟨rfl,rfl⟩)).mono ?_;intro e w2 hp;exact⟨hp.1,hok.up (by omega) (Nat.le_succ _)⟩
  ·obtain⟨zs,hzs⟩:∃zs,z.snd m.now (m.at' b).addr t=zs:=⟨_,rfl⟩;have ho:m.send a b t=(m.put a {sa with nd:=some zs}).did a zs.ot:=by
    unfold aP.send;rw[hnd];dsimp only;rw[aH h16,aH hd,hzs,BV e2]
   have hdd:∀W5,Below w.heap.size w W5->∀o w2,Ct xa.N xa.g z zs W5 o w2->zs.Inv (κ+1)->∃aJ bL bO y2,o=iZ zs.aZ zs.bn aJ bL bO∧iH W5.heap.size zs.aI zs.aR zs.aQ aJ bL bO w2∧MM y2 (m.put a {sa with nd:=some zs}) w2∧MU y m y2 (m.put a {sa with nd:=some zs}) W5 w2∧Dh (κ+1) (q+1) (m.put a {sa with nd:=some zs}) a zs:=by
    intro W5 hb5 o w2 hcp hI2;obtain⟨k5,s',hp1,hp2⟩:=Es z m.now (m.at' b).addr t;have hrest:=oz hp1;have hcnt:=vZ hp1;rw[<-hp2,hzs]at hrest hcnt;exact F5 (h.later hb5) hok e1 e2 hz hcp hI2 (by rw[<-hzs];exact Xw hnk.pos hnk.inv.tl.1 _ _ _) hrest.1 hrest.2 (Nat.le_succ q) (by rw[<-hzs];exact dH (aat _ _ _ _) (Nat.succ_le_succ hnk.ql)) hcnt
   rw[ho];obtain⟨m',hm'⟩:∃m',m.put a {sa with nd:=some zs}=m':=⟨_,rfl⟩;rw[hm']at hdd ⊢;refine(xu (p:=Dh (κ+1) (q+1) m' a zs) (m':=m') (md:=(m'.did a zs.ot).1) (evs:=(m'.did a zs.ot).2) h a b ha hb t 0 (.inl rfl) zs.aZ zs.bn zs.aI zs.aR zs.aQ hnd ?_ ?_ (λe=>absurd rfl e)).mono ?_
   ·intro x s g1 g2 W5 hb5;cases e1.symm.trans g1;cases e2.symm.trans g2;obtain⟨nn,tm⟩:=((h.later hb5).st a xa sa e1 e2).nd z hz;refine(acH nn hnk.inv (by omega) tm m.now (m.at' b).addr t ⟨hnk.nw,hok.now.2⟩ (by rw[f3];exact hml) (by omega) (λe=>hd (.inl e)) (λe=>hd (.inr e)) (dH hnk.ql hq)).mono ?_;rintro e w2 ⟨o,rfl,hI2,hcp⟩;rw[hzs]at hI2 hcp;have hfx:Fx (Ft xa.N xa.g z) W5 w2:=by
     obtain⟨_,_,_,_,_,_,_,_,_,_,_,fx,_⟩:=hcp;exact fx
    obtain⟨aJ,bL,bO,y2,rfl,hor,hm2,hu2,hdk⟩:=hdd W5 hb5 o w2 hcp hI2.out;obtain⟨af,kf,rfl,_⟩:=ay hor.aJ;obtain⟨ac,kc,rfl,_⟩:=ay hor.bL;obtain⟨ad,kd,rfl,_⟩:=ay hor.bO;exact⟨af,kf,ac,kc,ad,kd,rfl,hfx,⟨y2,hm2,hu2.pre hb5⟩,hor.lower hb5.size,hdk⟩
   ·intro _ aJ bL bO W hR;obtain⟨⟨y2,hm2,hu2⟩,hor,hdk⟩:=hR;have hd2:=Gg hm2 hdk aJ bL bO w.heap.size hor hu2.fx.size;rw[hu2.G]at hd2;refine hd2.mono ?_;rintro e w3 ⟨v2,L2,rfl,hL2,ny,y3,oJ,hu3⟩;exact⟨v2,L2,rfl,hL2,ny,y3,oJ,hu2.trans hu3⟩
   ·rintro e w2 ⟨hp,hdk⟩;exact⟨hp,(FW hdk).up (by omega) (aB _)⟩
open Go
section
variable {P:Program} {ops:Array Oper} {Q:Exit->Act->World->Prop} {md:Region.Mode} {S:World->Prop} {U:List Nat}
def lX(P:Program)(md:Region.Mode)(ops:Array Oper)(Q:Exit->Act->World->Prop)(S:World->Prop)(U:List Nat):Nat->Array Bool->Act->World->Prop
 |0,listed,a,w=>Region.ready md ops listed=[]∧Q .normal a w
 |fuel+1,listed,a,w=>
  (Region.ready md ops listed=[]->Q .normal a w)∧
  ∀i∈Region.ready md ops listed,wpOp P ops Q i (λa' w'=>(i ∉ U->S w')∧lX P md ops Q S U fuel (listed.setIfInBounds i true) a' w') a w
theorem sO:∀(fuel:Nat) (listed:Array Bool) (a:Act) (w:World),lX P md ops Q S U fuel listed a w->wpAny P md ops Q fuel listed a w
 |0,_,_,_,h=>h
 |fuel+1,_,_,_,h=>⟨h.1,λ_ hi=>wpOp_mono (λa' w' h'=>sO fuel _ a' w' h'.2) (h.2 _ hi)⟩
def Late(md:Region.Mode)(ops:Array Oper)(listed:Array Bool)(i:Nat)(V:List Nat):Prop:=
 ∀u∈V,listed.getD u true=false∧∃o,ops[u]?=some o∧∃e∈o.after,Region.binds md e=true∧(e.on=i∨e.on∈V)
theorem o7{listed:Array Bool}{k:Nat}(h0:listed.getD k true=false)(h1:listed.getD k false=true):False:=by
 rcases Nat.lt_or_ge k listed.size with h'|h'
 ·simp[h']at h0 h1;rw[h0]at h1;cases h1
 ·simp[Array.getElem?_eq_none h']at h1
theorem Late.not{listed:Array Bool}{i:Nat}{V:List Nat}(h:Late md ops listed i V)(hi:i∈Region.ready md ops listed){j:Nat}(hj:j∈Region.ready md ops listed):j ∉ V:=λhv=>by
 obtain⟨_,o,ho,e,he,hb,hon⟩:=h j hv;obtain⟨_,o',ho',hall⟩:=mem_ready.1 hj;rw[ho]at ho';cases ho';have h1:=hall e he hb;rcases hon with hon|hon
 ·rw[hon]at h1;exact o7 (mem_ready.1 hi).1 h1
 ·exact o7 (h _ hon).1 h1
theorem El{i:Nat}{oi:Oper}{v:Value}(hi:ops[i]?=some oi)(hsel:∀(j:Nat) (o:Oper) cs b,ops[j]?=some o->o.op≠ .select cs b)
  (hQ:∀c a w,Q (.panic c) (a.put oi.dst v) w->Q (.panic c) a w) {V:List Nat} (hUV:∀u∈U,u∈V):
  ∀(fuel:Nat) (listed:Array Bool) (a:Act) (w:World),
   (∀j oj,ops[j]?=some oj->j≠i->listed.getD j true=false->(∀e∈oj.after,Region.binds md e=true->e.on≠i)->oi.apart ops oj=true)->
   Late md ops listed i V->i∈Region.ready md ops listed->YieldsIf P ops S oi v a->S w->
   lX P md ops Q S U fuel (listed.setIfInBounds i true) (a.put oi.dst v) w->lX P md ops Q S U (fuel+1) listed a w:=by
 intro fuel
 induction fuel with
 |zero=>
  intro listed a w _ _ hr hy hS H;refine⟨λh=>(by rw[h]at hr;cases hr),λj hj=> ?_⟩;by_cases hji:j=i
  ·subst hji;exact hy.wpOp hi hS ⟨λ_=>hS,H⟩
  ·have:=ready_mono hj hji;rw[H.1]at this;cases this
 |succ fuel ih=>
  intro listed a w hfree hV hr hy hS H;refine⟨λh=>(by rw[h]at hr;cases hr),λj hj=> ?_⟩;by_cases hji:j=i
  ·subst hji;exact hy.wpOp hi hS ⟨λ_=>hS,H⟩
  ·have h1:=H.2 j (ready_mono hj hji);have hjV:=hV.not hr hj;obtain⟨hjun,oj,hoj,hall⟩:=mem_ready.1 hj;have hnot:∀e∈oj.after,Region.binds md e=true->e.on≠i:=λe he hb heq=>by
    have h1:=hall e he hb;rw[heq]at h1;exact o7 (mem_ready.1 hr).1 h1
   have h2:=wpOp_putIf hoj (hfree j oj hoj hji hjun hnot) (λcs b=>hsel i oi cs b hi) (λcs b=>hsel j oj cs b hoj) hQ hy h1;have hfree':∀k ok,ops[k]?=some ok->k≠i->(listed.setIfInBounds j true).getD k true=false->
     (∀e∈ok.after,Region.binds md e=true->e.on≠i)->oi.apart ops ok=true:=λk ok hk hki hun hno=>by
    refine hfree k ok hk hki ?_ hno;by_cases hjk:j=k
    ·subst hjk;exact hjun
    ·rw[getD_set_ne true hjk]at hun;exact hun
   have hV':Late md ops (listed.setIfInBounds j true) i V:=λu hu=>by
    obtain⟨h5,h6⟩:=hV u hu;have hne:j≠u:=λe=>hjV (by rw[e];exact hu);refine⟨?_,h6⟩;rw[getD_set_ne true hne];exact h5
   refine wpOp_mono (λa' w' h3=> ?_) h2;have hS3:=h3.2.1 (λhu=>hjV (hUV j hu));refine⟨λ_=>hS3,ih (listed.setIfInBounds j true) a' w' hfree' hV' (ready_mono hr (Ne.symm hji)) h3.1 hS3 ?_⟩;rw[Array.setIfInBounds_comm _ _ hji];exact h3.2.2
def ZH(md:Region.Mode)(ops:Array Oper)(listed:Array Bool)(i:Nat):List Nat:=
 (List.range ops.size).foldl (λacc u=>if !listed.getD u true&&(match ops[u]? with|some o=>o.after.any λe=>Region.binds md e&&(e.on==i||acc.contains e.on)|none=>false)then acc++ [u]else acc) []
def Tw(md:Region.Mode)(ops:Array Oper)(listed:Array Bool)(i:Nat)(U V:List Nat):Bool:=
 U.all (λu=>V.contains u)&&V.all λu=>!listed.getD u true&&(match ops[u]? with|some o=>o.after.any λe=>Region.binds md e&&(e.on==i||V.contains e.on)|none=>false)
theorem Nk{listed:Array Bool}{i:Nat}{V:List Nat}(h:Tw md ops listed i U V=true):(∀u∈U,u∈V)∧Late md ops listed i V:=by
 obtain⟨h1,h2⟩:=Bool.and_eq_true_iff.1 h;refine⟨λu hu=>by simpa using List.all_eq_true.1 h1 u hu,λu hu=> ?_⟩;obtain⟨h3,h4⟩:=Bool.and_eq_true_iff.1 (List.all_eq_true.1 h2 u hu);refine⟨by simpa using h3,?_⟩;cases ho:ops[u]? with
 |none=>
  rw[ho]at h4;cases h4
 |some o=>
  rw[ho]at h4;dsimp only at h4;obtain⟨e,he,hb⟩:=Array.any_eq_true'.1 h4;obtain⟨hb1,hb2⟩:=Bool.and_eq_true_iff.1 hb;exact⟨o,rfl,e,he,hb1,by simpa using hb2⟩
theorem Gx{i:Nat}{oi:Oper}{v:Value}{fuel:Nat}{listed:Array Bool}{a:Act}{w:World}(hi:ops[i]?=some oi)
  (hs:Region.noSelect ops=true) (hf:Region.free md ops listed i=true) (hr:(Region.ready md ops listed).contains i=true) (hl:Tw md ops listed i U (ZH md ops listed i)=true)
  (hQ:∀c a w,Q (.panic c) (a.put oi.dst v) w->Q (.panic c) a w) (hy:YieldsIf P ops S oi v a) (hS:S w)
  (h:lX P md ops Q S U fuel (listed.setIfInBounds i true) (a.put oi.dst v) w):lX P md ops Q S U (fuel+1) listed a w:=
 El hi (Region.noSelect_spec hs) hQ (Nk hl).1 fuel listed a w (Region.free_spec hi hf) (Nk hl).2 (by simpa using hr) hy hS h
theorem bq{i:Nat}{oi:Oper}{v:Value}{fuel:Nat}{listed:Array Bool}{a:Act}{w:World}(hi:ops[i]?=some oi)
  (hB:(Region.noSelect ops&&Region.free md ops listed i&&(Region.ready md ops listed).contains i&&Tw md ops listed i U (ZH md ops listed i))=true)
  (hQ:∀c a w,Q (.panic c) (a.put oi.dst v) w->Q (.panic c) a w) (hy:YieldsIf P ops S oi v a) (hS:S w)
  (h:lX P md ops Q S U fuel (listed.setIfInBounds i true) (a.put oi.dst v) w):lX P md ops Q S U (fuel+1) listed a w:=by
 simp only[eF]at hB;exact Gx hi hB.1.1.1 hB.1.1.2 hB.1.2 hB.2 hQ hy hS h
theorem jR{i:Nat}{o:Oper}{fuel:Nat}{listed:Array Bool}{a:Act}{w:World}(hr:Region.ready md ops listed=[i])(ho:ops[i]?=some o)
  (h:∀K':Act->World->Prop,Shut (∀a w,(i ∉ U->S w)->lX P md ops Q S U fuel (listed.setIfInBounds i true) a w->K' a w)->if Region.wanted o (yielded ops a.tmps)=true then Oper.wp P o a w K' Q else K' (a.put o.dst undef) w):lX P md ops Q S U (fuel+1) listed a w:=by
 refine⟨λh0=>absurd (hr▸h0) (by simp),λj hj=> ?_⟩;rw[hr,dO]at hj;subst hj;exact wpOp_step ho (λK' hK=>h K' (λa w hS hW=>hK a w ⟨hS,hW⟩))
theorem yu{listed:Array Bool}{a:Act}{w:World}(hr:Region.ready md ops listed=[])(h:Q .normal a w):∀fuel,lX P md ops Q S U fuel listed a w
 |0=>⟨hr,h⟩
 |_+1=>⟨λ_=>h,by rw[hr];simp⟩
theorem qL{id:Nat}{a:Act}{w:World}(S:World->Prop)(U:List Nat)(hm:P.follows .mixedOrders=true)(hS:S w.drew)
  (h:S w.drew->lX P .any ops Q S U ops.size (Array.replicate ops.size false) a w.drew):(Code.region id ops true).wp P Q a w:=
 wp_region_any hm (sO _ _ _ _ (h hS))
end
open Go.RowKit Go.Maps
theorem VG{y:MG}{m:aP}{w:World}(h:MM y m w){κ:Int}{q:Nat}(hok:iX κ q m)(IQ:0<=κ∧κ<=90000000000)(i j:Nat)(hi:i<m.S.length)(hj:j<m.S.length)(b:ByteArray)(hb:b.size<=65536):
  Calls Tryz.prog 33 #[.pointer (some ⟨y.G,0,none⟩),.int .i64 i,.int .i64 j,.string b] w λe w'=>jB y m (m.hear i j b).1 (m.hear i j b).2 w.heap.size w e w'∧iX (κ+200000) q (m.hear i j b).1:=by
 obtain⟨xi,si,g,c,e1,e2,e3,e4,p0⟩:=h.get hi;obtain⟨xj,sj,g',c',f1,f2,f3,f4,p1⟩:=h.get hj;obtain⟨q0,q1,_,_⟩:=h.cell;have hst:=h.st i xi si e1 e2;have c2:=hst.cell.2.2.1;have ca:=(h.st j xj sj f1 f2).cell.1;have hin:(i:Int)<(m.S.length:Int):=by omega
 have hjn:(j:Int)<(m.S.length:Int):=by omega
 have hgg:g'=g:=by
  rw[f4]at e4;injection e4 with h5 _ _;injection h5 with h5;injection h5 with h5 _ _
 subst hgg;rw[e4]at q1;cases hnd:si.nd with
 |none=>
  rw[hnd]at c2;unfold Pk at c2;have ho:m.hear i j b=(m,[]):=by
   unfold aP.hear;rw[e3,hnd]
  have hfin:jB y m (m.hear i j b).1 (m.hear i j b).2 w.heap.size w (.returned (.slice none 0 0)) w∧iX (κ+200000) q (m.hear i j b).1:=by
   rw[ho];exact⟨⟨_,[],rfl,rfl,gP.nil _ _,MP.refl h⟩,hok.up (by omega) (aB _)⟩
  replace hfin:=hide hfin;clear h hst ho e1 e2 e3 e4 f1 f2 f3 f4 q0 ca p1 hok;go_enter Tryz.func33,Tryz.ntmps33;go_wp2;go_ret;exact hfin.out
 |some z=>
  rw[hnd]at c2;unfold Pk at c2;have hnk:=(hok.at e2).nd z hnd;have hd1:Below w.heap.size w w.drew:=(aU _ _).drew;obtain⟨cap,W8,hcv,r_,iR⟩:=UZ b hb w.drew;have PZ:Below w.heap.size w W8:=hd1.trans (r_.mono hd1.size);have h8:=h.later PZ;obtain⟨nn,tm⟩:=(h8.st i xi si e1 e2).nd z hnd;have hsr:=nn.Ke;obtain⟨nn0,_⟩:=hst.nd z hnd;have ZV:=aF h.blk;have hgl:g'<w.heap.size:=World.block_lt_of_cell? _ _ p0;have hAl:=aF hst.blk;have hBl:=aF (h.st j xj sj f1 f2).blk;have hnF:∀k,k=y.G∨k=g'∨k=xi.B∨k=xj.B->¬Ft xi.N xi.g z k:=by
   intro k hk hF;obtain⟨o,ho,hK⟩:=nn0.kind hF;rcases hk with rfl|rfl|rfl|rfl
   ·rw[h.blk]at ho;cases ho;exact hK.not (by decide)
   ·obtain⟨cc,hc⟩:=aS h.Ai (k:=k) (by rw[e4];rfl);rw[hc]at ho;cases ho;exact hK.not (by decide)
   ·rw[hst.blk]at ho;cases ho;exact hK.not (by decide)
   ·rw[(h.st j xj sj f1 f2).blk]at ho;cases ho;exact hK.not (by decide)
  have hS0:uK y.G g' i j xi.B xj.B xi.N w.heap.size m.now sj.addr (.slice (some ⟨g',0,none⟩) m.S.length c) w:=⟨⟨q0,q1,p0,c2,p1,ca⟩,ZV,hgl,hAl,hBl,aB _⟩;have ZK:=iR.1.1;have HR:=QR nn hnk.inv (by omega) tm m.now sj.addr ⟨hnk.nw,hok.now.2⟩ (hok.at f2).addr _ (ak b) iR;have HR2:Hid (Calls Tryz.prog 25 #[.pointer (some ⟨xi.N,0,none⟩),.int .u64 m.now,.int .u32 sj.addr,.slice (some ⟨w.heap.size,0,none⟩) b.size cap] W8 λe w2=>∃aJ bL bO y2,uK y.G g' i j xi.B xj.B xi.N w.heap.size m.now sj.addr (.slice (some ⟨g',0,none⟩) m.S.length c) w2∧e=.returned (iZ (z.rcv m.now sj.addr (ak b)).aZ (z.rcv m.now sj.addr (ak b)).bn aJ bL bO)∧iH w.heap.size (z.rcv m.now sj.addr (ak b)).aI (z.rcv m.now sj.addr (ak b)).aR (z.rcv m.now sj.addr (ak b)).aQ aJ bL bO w2∧w.heap.size<=w2.heap.size∧MM y2 (m.put i {si with nd:=some (z.rcv m.now sj.addr (ak b))}) w2∧MU y m y2 (m.put i {si with nd:=some (z.rcv m.now sj.addr (ak b))}) w w2∧Dh (κ+1) q (m.put i {si with nd:=some (z.rcv m.now sj.addr (ak b))}) i (z.rcv m.now sj.addr (ak b))):=by
   refine HR.mono ?_;rintro e w2 ⟨o,rfl,hI2,hcp⟩;have hfx:Fx (Ft xi.N xi.g z) W8 w2:=by
    obtain⟨_,_,_,_,_,_,_,_,_,_,_,fx,_⟩:=hcp;exact fx
   obtain⟨nn2,s',hp1,hp2⟩:=ED z m.now sj.addr (ak b) (λq hq=>(hsr q hq).1);have hrest:=oz hp1;have hcnt:=vZ hp1;rw[<-hp2]at hrest hcnt;obtain⟨aJ,bL,bO,y2,rfl,hor,hm2,hu2,hdk⟩:=F5 h8 hok e1 e2 hnd hcp hI2.out (Xq hnk.pos _ _ _ ZK (λq hq=>(hsr q hq).1)) hrest.1 hrest.2 (aB _) (dH (ac2 _ _ _ _) hnk.ql) hcnt;have hz1:=PZ.size;have hS2:uK y.G g' i j xi.B xj.B xi.N w.heap.size m.now sj.addr (.slice (some ⟨g',0,none⟩) m.S.length c) w2:=(hS0.low PZ).keep (dH hz1 hfx.size) λk hk=>hfx.block k (by rcases hk with rfl|rfl|rfl|rfl<;>omega) (hnF k hk);exact⟨aJ,bL,bO,y2,hS2,rfl,hor.lower hz1,by have:=hu2.fx.size;omega,hm2,hu2.pre PZ,hdk⟩
  have ho:m.hear i j b=(m.put i {si with nd:=some (z.rcv m.now sj.addr (ak b))}).did i (z.rcv m.now sj.addr (ak b)).ot:=by
   unfold aP.hear;rw[e3,hnd,f3];dsimp only;rw[BV e2]
  rw[ho];have hS8:=hS0.low PZ;have hS:uK y.G g' i j xi.B xj.B xi.N w.heap.size m.now sj.addr (.slice (some ⟨g',0,none⟩) m.S.length c) w.drew:=hS0.drew;obtain⟨zr,hzr⟩:∃zr,z.rcv m.now sj.addr (ak b)=zr:=⟨_,rfl⟩;rw[hzr]at HR2 ⊢;obtain⟨m2,Uf⟩:∃m2,m.put i {si with nd:=some zr}=m2:=⟨_,rfl⟩;rw[Uf]at HR2 ⊢;obtain⟨N,Ux⟩:∃N,xi.N=N:=⟨_,rfl⟩;rw[Ux]at HR2 c2 hS hS8;have hsz0:w.drew.heap.size=w.heap.size:=rfl;rw[hsz0]at hcv;clear hzr Uf Ux HR iR ZK hsr nn tm h8 r_ hd1 hnk h hst e1 e2 e3 e4 f1 f2 f3 f4 hok ho PZ nn0 hnF hS0 ZV hgl hAl hBl hsz0;go_enter Tryz.func33,Tryz.ntmps33;go_upto_region 4 with(fail);clear q0 q1 p0 c2 p1 ca;refine qL (uK y.G g' i j xi.B xj.B N w.heap.size m.now sj.addr (.slice (some ⟨g',0,none⟩) m.S.length c)) [23,24] (by kernel_rfl) hS (λhHeld=> ?_);refine bq (i:=0) (v:=?hv0) rfl (by kernel_rfl) (λ_ _ _ h=>h) (Or.inl ⟨by rfl,?hy0⟩) hHeld ?hr0
  case hy0=>
   rintro w5 ⟨⟨q0,q1,p0,c2,p1,ca⟩,_⟩;go_simp;try with_reducible rfl
  try go_frame
  refine bq (i:=1) (v:=?hv1) rfl (by kernel_rfl) (λ_ _ _ h=>h) (Or.inl ⟨by rfl,?hy1⟩) hHeld ?hr1
  case hy1=>
   rintro w5 ⟨⟨q0,q1,p0,c2,p1,ca⟩,_⟩;go_simp;try with_reducible rfl
  try go_frame
  refine bq (i:=2) (v:=?hv2) rfl (by kernel_rfl) (λ_ _ _ h=>h) (Or.inl ⟨by rfl,?hy2⟩) hHeld ?hr2
  case hy2=>
   rintro w5 ⟨⟨q0,q1,p0,c2,p1,ca⟩,_⟩;go_simp;try with_reducible rfl
  try go_frame
  refine bq (i:=3) (v:=?hv3) rfl (by kernel_rfl) (λ_ _ _ h=>h) (Or.inl ⟨by rfl,?hy3⟩) hHeld ?hr3
  case hy3=>
   rintro w5 ⟨⟨q0,q1,p0,c2,p1,ca⟩,_⟩;go_simp;try with_reducible rfl
  try go_frame
  refine bq (i:=4) (v:=?hv4) rfl (by kernel_rfl) (λ_ _ _ h=>h) (Or.inl ⟨by rfl,?hy4⟩) hHeld ?hr4
  case hy4=>
   rintro w5 ⟨⟨q0,q1,p0,c2,p1,ca⟩,_⟩;go_simp;try with_reducible rfl
  try go_frame
  refine bq (i:=5) (v:=?hv5) rfl (by kernel_rfl) (λ_ _ _ h=>h) (Or.inl ⟨by rfl,?hy5⟩) hHeld ?nO
  case hy5=>
   rintro w5 ⟨⟨q0,q1,p0,c2,p1,ca⟩,_⟩;go_simp;try with_reducible rfl
  try go_frame
  refine bq (i:=6) (v:=?hv6) rfl (by kernel_rfl) (λ_ _ _ h=>h) (Or.inl ⟨by rfl,?hy6⟩) hHeld ?uz
  case hy6=>
   rintro w5 ⟨⟨q0,q1,p0,c2,p1,ca⟩,_⟩;go_simp;try with_reducible rfl
  try go_frame
  refine bq (i:=7) (v:=?hv7) rfl (by kernel_rfl) (λ_ _ _ h=>h) (Or.inl ⟨by rfl,?hy7⟩) hHeld ?Bg
  case hy7=>
   rintro w5 ⟨⟨q0,q1,p0,c2,p1,ca⟩,_⟩;go_simp;try with_reducible rfl
  try go_frame
  refine bq (i:=8) (v:=?hv8) rfl (by kernel_rfl) (λ_ _ _ h=>h) (Or.inl ⟨by rfl,?hy8⟩) hHeld ?iR
  case hy8=>
   rintro w5 ⟨⟨q0,q1,p0,c2,p1,ca⟩,_⟩;go_simp;try with_reducible rfl
  try go_frame
  refine bq (i:=9) (v:=?hv9) rfl (by kernel_rfl) (λ_ _ _ h=>h) (Or.inl ⟨by rfl,?hy9⟩) hHeld ?nu
  case hy9=>
   rintro w5 ⟨⟨q0,q1,p0,c2,p1,ca⟩,_⟩;go_simp;try with_reducible rfl
  try go_frame
  refine bq (i:=10) (v:=?aeX) rfl (by kernel_rfl) (λ_ _ _ h=>h) (Or.inl ⟨by rfl,?aa4⟩) hHeld ?afa
  case aa4=>
   rintro w5 ⟨⟨q0,q1,p0,c2,p1,ca⟩,_⟩;go_simp;try with_reducible rfl
  try go_frame
  refine bq (i:=11) (v:=?aeW) rfl (by kernel_rfl) (λ_ _ _ h=>h) (Or.inl ⟨by rfl,?aa3⟩) hHeld ?ae9
  case aa3=>
   rintro w5 ⟨⟨q0,q1,p0,c2,p1,ca⟩,_⟩;go_simp;try with_reducible rfl
  try go_frame
  refine bq (i:=12) (v:=?aeV) rfl (by kernel_rfl) (λ_ _ _ h=>h) (Or.inl ⟨by rfl,?aa2⟩) hHeld ?ae8
  case aa2=>
   rintro w5 ⟨⟨q0,q1,p0,c2,p1,ca⟩,_⟩;go_simp;try with_reducible rfl
  try go_frame
  refine bq (i:=13) (v:=?aeU) rfl (by kernel_rfl) (λ_ _ _ h=>h) (Or.inl ⟨by rfl,?aa1⟩) hHeld ?ae7
  case aa1=>
   rintro w5 ⟨⟨q0,q1,p0,c2,p1,ca⟩,_⟩;go_simp;try with_reducible rfl
  try go_frame
  refine bq (i:=14) (v:=?aeT) rfl (by kernel_rfl) (λ_ _ _ h=>h) (Or.inl ⟨by rfl,?aa0⟩) hHeld ?ae6
  case aa0=>
   rintro w5 ⟨⟨q0,q1,p0,c2,p1,ca⟩,_⟩;go_simp;try with_reducible rfl
  try go_frame
  refine bq (i:=15) (v:=?agu) rfl (by kernel_rfl) (λ_ _ _ h=>h) (Or.inl ⟨by rfl,?aeQ⟩) hHeld ?agE
  case aeQ=>
   rintro w5 ⟨⟨q0,q1,p0,c2,p1,ca⟩,_⟩;go_simp;try with_reducible rfl
  try go_frame
  refine bq (i:=16) (v:=?agt) rfl (by kernel_rfl) (λ_ _ _ h=>h) (Or.inl ⟨by rfl,?aeP⟩) hHeld ?agD
  case aeP=>
   rintro w5 ⟨⟨q0,q1,p0,c2,p1,ca⟩,_⟩;go_simp;try with_reducible rfl
  try go_frame
  refine bq (i:=17) (v:=?ags) rfl (by kernel_rfl) (λ_ _ _ h=>h) (Or.inl ⟨by rfl,?aeO⟩) hHeld ?agC
  case aeO=>
   rintro w5 ⟨⟨q0,q1,p0,c2,p1,ca⟩,_⟩;go_simp;try with_reducible rfl
  try go_frame
  refine bq (i:=18) (v:=?agr) rfl (by kernel_rfl) (λ_ _ _ h=>h) (Or.inl ⟨by rfl,?aeN⟩) hHeld ?agB
  case aeN=>
   rintro w5 ⟨⟨q0,q1,p0,c2,p1,ca⟩,_⟩;go_simp;try with_reducible rfl
  try go_frame
  refine bq (i:=19) (v:=?agq) rfl (by kernel_rfl) (λ_ _ _ h=>h) (Or.inl ⟨by rfl,?aeM⟩) hHeld ?agA
  case aeM=>
   rintro w5 ⟨⟨q0,q1,p0,c2,p1,ca⟩,_⟩;go_simp;try with_reducible rfl
  try go_frame
  refine bq (i:=20) (v:=?agp) rfl (by kernel_rfl) (λ_ _ _ h=>h) (Or.inl ⟨by rfl,?aeL⟩) hHeld ?agz
  case aeL=>
   rintro w5 ⟨⟨q0,q1,p0,c2,p1,ca⟩,_⟩;go_simp;try with_reducible rfl
  try go_frame
  refine jR (i:=21) (by kernel_rfl) rfl (λK hK=> ?_);go_simp;refine hK.out _ _ (λ_=>hS8) ?_;clear hK K;refine jR (i:=22) (by kernel_rfl) rfl (λK2 hK2=> ?_);go_simp;go_at_call 25;refine HR2.out.mono ?_;rintro e w2 ⟨aJ,bL,bO,y2,hS2,rfl,hor,hsz,hm2,hu2,hdk⟩;have VN:=Gg hm2 hdk aJ bL bO w.heap.size hor hsz;rw[hu2.G]at VN;go_simp;refine hK2.out _ _ (λ_=>hS2) ?_;clear hK2 K2 HR2;refine jR (i:=23) (by kernel_rfl) rfl (λK3 hK3=> ?_);replace VN:=hide VN;replace hu2:=hide hu2;replace hdk:=hide hdk;clear hor hm2 hS2 hHeld hS hS8;go_simp;go_at_call 36;refine VN.out.mono ?_;rintro e w3 ⟨v,L,rfl,hL,hev,y3,oJ,hu3⟩;have hfin:=hide (show jB y m (m2.did i zr.ot).1 (m2.did i zr.ot).2 w.heap.size w (.returned v) w3∧iX (κ+200000) q (m2.did i zr.ot).1 from⟨⟨v,L,rfl,hL,hev,y3,oJ,hu2.out.trans hu3⟩,(FW hdk.out).up (by omega) (aB _)⟩);clear hL hev oJ hu3 VN hu2 hdk;go_simp;refine hK3.out _ _ (λh=>(h (by decide)).elim) ?_;clear hK3 K3;refine jR (i:=24) (by kernel_rfl) rfl (λK4 hK4=> ?_);go_simp;refine hK4.out _ _ (λh=>(h (by decide)).elim) ?_;clear hK4 K4;refine yu (by kernel_rfl) ?_ _;go_wp2;go_ret;exact hfin.out
theorem Zp{L:List (Nat×Nat×ByteArray)}{k:Nat}{f:Nat×Nat×ByteArray}(h:L[k]?=some f)(b:ByteArray):oZ (L.set k (f.1,f.2.1,b))=(oZ L).set (k * 3+2) (.string b):=by
 induction L generalizing k with
 |nil=>simp at h
 |cons a L ih=>
  cases k with
  |zero=>
   simp only[List.getElem?_cons_zero,Option.some.injEq]at h;subst h;rfl
  |succ k=>
   rw[List.getElem?_cons_succ]at h;rw[List.set_cons_succ];show [_,_,_]++oZ (L.set k _)=(([_,_,_]:List Value)++oZ L).set _ _;rw[ih h,show(k+1)* 3+2=(k * 3+2)+1+1+1 by omega];rfl
theorem Xk{W:World}{base e size n g c:Nat}{xs:List Value}(h:W.ownsRow base e size (.slice (some ⟨g,0,none⟩) n c) n xs)(j:Nat)(hj:j<n * size)(v:Value):(W.setCell ⟨g,j,none⟩ v).ownsRow base e size (.slice (some ⟨g,0,none⟩) n c) n (xs.set j v):=by
 rcases h.2 with⟨he,_⟩|⟨g',cap,cur,he,hb,hg,h1,h2,h3,h4⟩
 ·cases he
 ·cases he;refine⟨by rw[List.length_set];exact h.1,.inr ⟨g,c,cur.setIfInBounds j v,rfl,hb,?_,h1,h2,by simp[h3],?_⟩⟩
  ·simp[World.setCell,Array.getElem?_modify,hg]
  ·rw[Array.toList_setIfInBounds,<-h4,List.take_set]
theorem aes{y:MG}{m:aP}{w:World}(h:MM y m w)(i:Nat)(hi:i<m.bD.length)(f:Nat×Nat×ByteArray)(hf:m.bD[i]?=some f)(hs:f.2.2.size<=1000000)(n:Int):Calls Tryz.prog 65 #[.pointer (some ⟨y.G,0,none⟩),.int .i64 i,.int .i64 n] w λe w'=>e=.returned (.tuple #[])∧MP y m {m with bD:=m.bD.set i (f.1,f.2.1,f.2.2.extract 0 (f.2.2.size - (min (max 0 n) f.2.2.size).toNat))} w w':=by
 obtain⟨a,b,s⟩:=f;dsimp only at hs ⊢;obtain⟨g,cap,Cx,_⟩:=bY h.bD (by omega);obtain⟨q0,q1,q2⟩:=Gm hf;dsimp only at q0 q1 q2;have hr:=h.bD;rw[Cx]at hr;have c2:=h.cell.2.2.1;rw[Cx]at c2;have d2:=(hr.cellAt (i * 3+2) (by omega)).trans q2;have hil:(i:Int)<(m.bD.length:Int):=by omega
 have hfz:w.frozen? ⟨g,i * 3+2,none⟩=false:=by
  obtain⟨cc,hc⟩:=aS hr (k:=g) rfl;exact lW w g _ _ _ hc
 obtain⟨k,hk⟩:∃k:Nat,s.size - (min (max 0 n) s.size).toNat=k:=⟨_,rfl⟩;rw[hk];have hkI:(s.size:Int) - min (max 0 n) (s.size:Int)=(k:Int):=by omega
 have hks:(k:Int)<=(s.size:Int):=by omega
 have hfin:MP y m {m with bD:=m.bD.set i (a,b,s.extract 0 k)} w (w.setCell ⟨g,i * 3+2,none⟩ (.string (s.extract 0 k))):=by
  have hrow:=Xk hr (i * 3+2) (by omega) (.string (s.extract 0 k));rw[<-Zp hf (s.extract 0 k)]at hrow;have hg:w.grownBy (w.setCell ⟨g,i * 3+2,none⟩ (.string (s.extract 0 k))) (some g):=ah (aC _ (some g)) _ _;have hgI:uP y m g:=.inr (.inr (.inl (by rw[Cx];rfl)));have hblk:=h.blk;have hgG:y.G≠g:=λe=>by
   obtain⟨cc,hc⟩:=aS hr (k:=g) rfl;rw[e,hc]at hblk;cases hblk
  refine⟨y,⟨(hg.block _ (aF h.blk) λe=>hgG (Option.some.inj e)).trans h.blk,h.Ai.kept hg ?_,?_,h.len,λj x u h1 h2=>(h.st j x u h1 h2).kept λk5 hk5=>hg.block k5 ((h.st j x u h1 h2).lt hk5) λe=> ?_,h.ap⟩,Fx.grown hg λk5 e=>by cases e;exact hgI,λk5 hk5=> .inl hk5,rfl,rfl,rfl,rfl⟩
  ·rcases bX h.Ai hr (by decide)with e|e
   ·exact .inl e
   ·exact .inr e
  ·show World.ownsRow _ 0 _ 3 y.av (m.bD.set i _).length _;rw[List.length_set,Cx];exact hrow
  ·cases e;exact(h.own h1 h2 hk5).2.2 (by rw[Cx];rfl)
 clear h hr hf q0 q1 q2 Cx;have hw:wrap64 ((s.size:Int) - min (max 0 n) (s.size:Int))=(k:Int):=by rw[hkI];unfold wrap64;omega
 replace hfin:=hide (hfin.post (aU _ _).drew);go_enter Tryz.func65,Tryz.ntmps65;go_upto_region 1 with(fail);clear c2;go_region
 go_returns;exact⟨rfl,hfin.out⟩
variable{m:aP}
def qH(m:aP):Prop:=∀f∈m.bD,f.1<m.S.length∧f.2.1<m.S.length∧f.2.2.size<=65536
theorem iX.Zb{κ:Int}{q:Nat}(h:iX κ q m){F:List (Nat×Nat×ByteArray)}(hF:F.length<=48):iX κ q {m with bD:=F}:=⟨h.n,hF,h.now,h.st⟩
theorem VI{y:MG}{w:World}(h:MM y m w){κ:Int}{q:Nat}(hok:iX κ q m)(IQ:0<=κ∧κ<=90000000000)(hfl:qH m)(o:Op)(ho:o.dK=4∨o.dK=5∨o.dK=6∨o.dK=7):
  Calls Tryz.prog 32 #[.pointer (some ⟨y.G,0,none⟩),VZ o] w λe w'=>jB y m (m.flight o).1 (m.flight o).2 w.heap.size w e w'∧iX (κ+200000) q (m.flight o).1:=by
 have hb0:Below w.heap.size w (w.alloc (.cells #[.int .i64 o.dK,.int .i64 o.a,.int .i64 o.b,.int .i64 o.n,.bool o.on,.string o.txt] 28)):=bC;have hC:=bS w (.cells #[.int .i64 o.dK,.int .i64 o.a,.int .i64 o.b,.int .i64 o.n,.bool o.on,.string o.txt] 28);have h1:=h.later hb0;obtain⟨dK,a,b,n,on,txt⟩:=o;dsimp only at hb0 hC h1 ho;have P7:=hok.bD;have hcase:Hid (∀w1:World,Below w.heap.size w w1->(a<0∨m.bD.length=0)->jB y m (m.flight ⟨dK,a,b,n,on,txt⟩).1 (m.flight ⟨dK,a,b,n,on,txt⟩).2 w.heap.size w (.returned (.slice none 0 0)) w1∧iX (κ+200000) q (m.flight ⟨dK,a,b,n,on,txt⟩).1):=by
  intro w1 hb1 hc;have he:m.flight ⟨dK,a,b,n,on,txt⟩=(m,[]):=by
   unfold aP.flight;rw[aM hc]
  rw[he];exact⟨⟨_,[],rfl,rfl,gP.nil _ _,(MP.refl h).post hb1⟩,hok.up (by omega) (aB _)⟩
 unfold VZ;dsimp only;by_cases ha:a<0
 ·have had:decide (a<0)=true:=by simpa using ha
  clear hok hfl h h1 P7;go_enter Tryz.func32,Tryz.ntmps32;go_upto_region 1 with(fail);generalize World.alloc _ _=W1 at hb0 hC ⊢;have t1:W1.cell? ⟨w.heap.size,1,none⟩=some (.int .i64 a):=aG _ _ 1 _ _ _ hC;have hfin:=hide (hcase.out _ hb0 (.inl ha));clear hcase hC ho;go_wp2;go_ret;exact hfin.out
 ·have had:decide (a<0)=false:=by simpa using ha
  obtain⟨_,_,q2,_⟩:=h1.cell;by_cases hl:m.bD.length=0
  ·obtain⟨ao,c,Cx,_⟩:=ay h.bD;rw[hl]at Cx;rw[Cx]at q2;clear hok hfl h h1 P7;go_enter Tryz.func32,Tryz.ntmps32;go_upto_region 1 with(fail);generalize World.alloc _ _=W1 at hb0 hC q2 ⊢;have t1:W1.cell? ⟨w.heap.size,1,none⟩=some (.int .i64 a):=aG _ _ 1 _ _ _ hC;have hfin:=hide (hcase.out _ hb0 (.inr hl));clear hcase hC ho hl Cx;go_wp2;go_ret;exact hfin.out
  ·obtain⟨g,cap,Cx,_⟩:=bY h.bD (by omega);rw[Cx]at q2;have hln:(decide ((m.bD.length:Int)=0))=false:=by
    have:¬(m.bD.length:Int)=0:=by omega
    simpa using this
   obtain⟨k,hk⟩:∃k,a.toNat%m.bD.length=k:=⟨_,rfl⟩;have hkl:k<m.bD.length:=by rw[<-hk];exact Nat.mod_lt _ (by omega)
   have agy:a.tmod (m.bD.length:Int)=(k:Int):=by
    have e:(a.toNat:Int)=a:=Int.toNat_of_nonneg (by omega);rw[Int.tmod_eq_emod_of_nonneg (by omega),<-hk];first|rw[Int.natCast_emod,e]|rw[Int.natCast_mod,e]|rw[Int.ofNat_emod,e]
   obtain⟨f,hf⟩:∃f,m.bD[k]?=some f:=⟨_,cK hkl⟩;have PW:=hfl f (gI hf);have hgd:m.bD.getD k (0,0,⟨#[]⟩)=f:=by rw[List.getD_eq_getElem?_getD,hf];rfl
   have hfo:∀d,d=dK->m.flight ⟨dK,a,b,n,on,txt⟩=if d=4 then {m with bD:=m.bD.eraseIdx k}.hear f.2.1 f.1 f.2.2 else if d=5 then({m with bD:=m.bD.eraseIdx k},[])else if d=6 then(m.launch f,[])else({m with bD:=m.bD.set k (f.1,f.2.1,f.2.2.extract 0 (f.2.2.size - (min (max 0 n) f.2.2.size).toNat))},[]):=by
    rintro d rfl;unfold aP.flight;rw[aH (show ¬(a<0∨m.bD.length=0)from by omega)];dsimp only;rw[hk,hgd]
   replace hfo:=hfo dK rfl;clear hk hgd hcase hfl;rcases ho with rfl|rfl|rfl|rfl
   ·rw[aM rfl]at hfo;rw[hfo];have HL:=hide λW (hW:MM y m W)=>LQ hW k hkl (by omega) f hf;have hmk:=hok.Zb (F:=m.bD.eraseIdx k) (by rw[List.length_eraseIdx];split<;>omega);obtain⟨fa,fb,fs⟩:=f;dsimp only at PW hfo HL ⊢;obtain⟨m',hm'⟩:∃m',({m with bD:=m.bD.eraseIdx k}:aP)=m':=⟨_,rfl⟩;have hS':m'.S.length=m.S.length:=by rw[<-hm']
    rw[hm']at hmk HL ⊢;have HH:=hide λ(y':MG) W (hW:MM y' m' W)=>VG hW hmk IQ fb fa (by omega) (by omega) fs PW.2.2;clear hfo hok P7 hf PW hm' hmk;go_enter Tryz.func32,Tryz.ntmps32;go_upto_region 1 with(fail);generalize World.alloc _ _=W1 at hb0 hC q2 h1 ⊢;have t0:W1.cell? ⟨w.heap.size,0,none⟩=some (.int .i64 4):=aG _ _ 0 _ _ _ hC;have t1:W1.cell? ⟨w.heap.size,1,none⟩=some (.int .i64 a):=aG _ _ 1 _ _ _ hC;go_upto_region 3 with(fail);go_region
    unfold flV at HL;dsimp only at HL;go_upto_region 7 with(go_at_call 63;refine(HL.out _ h1.drew).mono ?_;rintro e w2 ⟨rfl,y2,hm2,hu2⟩);have hb3:Below w2.heap.size w2 (w2.alloc (.cells #[.int .i64 fa,.int .i64 fb,.string fs] 149)):=bC;have qC:=bS w2 (.cells #[.int .i64 fa,.int .i64 fb,.string fs] 149);have oJ:=hm2.later hb3;have hu3:=(hu2.post hb3).pre hb0.drew;clear hm2 hu2 hb3 t0 t1 q2 hC h1 hb0 HL h;generalize World.alloc _ _=W3 at oJ hu3 qC ⊢;generalize w2.heap.size=D at qC ⊢;have t0:W3.cell? ⟨D,0,none⟩=some (.int .i64 fa):=aG _ _ 0 _ _ _ qC;have t1:W3.cell? ⟨D,1,none⟩=some (.int .i64 fb):=aG _ _ 1 _ _ _ qC;have t2:W3.cell? ⟨D,2,none⟩=some (.string fs):=aG _ _ 2 _ _ _ qC;have HH3:=HH.out y2 W3 oJ;rw[hu3.G]at HH3;replace HH3:=hide HH3;replace hu3:=hide hu3;clear HH oJ qC;go_wp2_with(go_at_call 33;refine HH3.out.mono ?_;rintro e w4 ⟨⟨v,L,rfl,hL,hev,y4,CU,V5⟩,adC⟩;have hfin:=hide (show jB y m (m'.hear fb fa fs).1 (m'.hear fb fa fs).2 w.heap.size w (.returned v) w4∧iX (κ+200000) q (m'.hear fb fa fs).1 from⟨⟨v,L,rfl,hL,hev.lower hu3.out.fx.size,y4,CU,hu3.out.trans V5⟩,adC⟩);clear hL hev CU V5 adC);go_ret;exact hfin.out
   ·rw[aH (by decide),aM rfl]at hfo;rw[hfo];have HL:=hide λW (hW:MM y m W)=>LQ hW k hkl (by omega) f hf;have hmk:=hide (hok.Zb (F:=m.bD.eraseIdx k) (by rw[List.length_eraseIdx];split<;>omega));clear hfo hok P7 hf PW;go_enter Tryz.func32,Tryz.ntmps32;go_upto_region 1 with(fail);generalize World.alloc _ _=W1 at hb0 hC q2 h1 ⊢;have t0:W1.cell? ⟨w.heap.size,0,none⟩=some (.int .i64 5):=aG _ _ 0 _ _ _ hC;have t1:W1.cell? ⟨w.heap.size,1,none⟩=some (.int .i64 a):=aG _ _ 1 _ _ _ hC;go_upto_region 3 with(fail);go_region
    go_wp2_with(go_at_call 63;refine(HL.out _ h1.drew).mono ?_;rintro e w2 ⟨rfl,hmp⟩;have hfin:=hide (show jB y m {m with bD:=m.bD.eraseIdx k} [] w.heap.size w (.returned (.slice none 0 0)) w2 from⟨_,[],rfl,rfl,gP.nil _ _,hmp.pre (hb0.drew)⟩));go_ret;exact⟨hfin.out,hmk.out.up (by omega) (aB _)⟩
   ·rw[aH (by decide),aH (by decide),aM rfl]at hfo;rw[hfo];obtain⟨q0,q1,q5⟩:=Gm hf;have hr1:=h1.bD;rw[Cx]at hr1;have d0:=(hr1.cellAt (k * 3) (by omega)).trans q0;have d1:=(hr1.cellAt (k * 3+1) (by omega)).trans q1;have d2:=(hr1.cellAt (k * 3+2) (by omega)).trans q5;have hmk:iX κ q (m.launch f):=hok.Zb (Bb m f hok.bD);have HL:=hide λW (hW:MM y m W)=>JL hW (by omega) f;obtain⟨fa,fb,fs⟩:=f;have hkn:(k:Int)<(m.bD.length:Int):=by omega
    obtain⟨m',hm'⟩:∃m',m.launch (fa,fb,fs)=m':=⟨_,rfl⟩;rw[hm']at hmk HL ⊢;unfold flV at HL;dsimp only at HL d0 d1 d2;clear hfo hok P7 hf PW hm' hr1 q0 q1 q5 h;go_enter Tryz.func32,Tryz.ntmps32;go_upto_region 1 with(fail);generalize World.alloc _ _=W1 at hb0 hC q2 h1 d0 d1 d2 ⊢;have t0:W1.cell? ⟨w.heap.size,0,none⟩=some (.int .i64 6):=aG _ _ 0 _ _ _ hC;have t1:W1.cell? ⟨w.heap.size,1,none⟩=some (.int .i64 a):=aG _ _ 1 _ _ _ hC;go_upto_region 3 with(fail);go_region
    go_wp2_with(go_at_call 64;refine(HL.out _ h1.drew).mono ?_;rintro e w2 ⟨rfl,hmp⟩;have hfin:=hide (show jB y m m' [] w.heap.size w (.returned (.slice none 0 0)) w2∧iX (κ+200000) q m' from⟨⟨_,[],rfl,rfl,gP.nil _ _,hmp.pre (hb0.drew)⟩,hmk.up (by omega) (aB _)⟩);clear hmp);go_ret;exact hfin.out
   ·rw[aH (by decide),aH (by decide),aH (by decide)]at hfo;rw[hfo];have HL:=hide λW (hW:MM y m W)=>aes hW k hkl f hf (by omega) n;have hmk:=hide (hok.Zb (F:=m.bD.set k (f.1,f.2.1,f.2.2.extract 0 (f.2.2.size - (min (max 0 n) f.2.2.size).toNat))) (by rw[List.length_set];omega));obtain⟨m',hm'⟩:∃m',({m with bD:=m.bD.set k (f.1,f.2.1,f.2.2.extract 0 (f.2.2.size - (min (max 0 n) f.2.2.size).toNat))}:aP)=m':=⟨_,rfl⟩;rw[hm']at hmk HL ⊢;clear hfo hok P7 hf PW hm' h;go_enter Tryz.func32,Tryz.ntmps32;go_upto_region 1 with(fail);generalize World.alloc _ _=W1 at hb0 hC q2 h1 ⊢;have t0:W1.cell? ⟨w.heap.size,0,none⟩=some (.int .i64 7):=aG _ _ 0 _ _ _ hC;have t1:W1.cell? ⟨w.heap.size,1,none⟩=some (.int .i64 a):=aG _ _ 1 _ _ _ hC;have t3:W1.cell? ⟨w.heap.size,3,none⟩=some (.int .i64 n):=aG _ _ 3 _ _ _ hC;go_upto_region 3 with(fail);go_region
    go_wp2_with(go_at_call 65;refine(HL.out _ h1.drew).mono ?_;rintro e w2 ⟨rfl,hmp⟩;have hfin:=hide (show jB y m m' [] w.heap.size w (.returned (.slice none 0 0)) w2∧iX (κ+200000) q m' from⟨⟨_,[],rfl,rfl,gP.nil _ _,hmp.pre (hb0.drew)⟩,hmk.out.up (by omega) (aB _)⟩);clear hmp);go_ret;exact hfin.out
end Go.Proofs.YtakaadcpaeiccabGreat
