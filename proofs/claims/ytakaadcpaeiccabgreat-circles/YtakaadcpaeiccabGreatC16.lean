import Derived.Test.YtakaadcpaeiccabGreatC14
import Derived.Test.YtakaadcpaeiccabGreatC15
set_option maxHeartbeats 4000000
set_option maxRecDepth 100000
namespace Go.Proofs.YtakaadcpaeiccabGreat
open Go.RowKit Go.Maps
theorem WR:(Tryz.prog.info? 77).map(fun i=>(i.zero,i.size,i.bytes))=some(some(.agg #[.int .u32 0,.string⟨#[]⟩]),2,24):=by kernel_rfl
theorem WQ:(Tryz.prog.info? 195).map(fun i=>(i.zero,i.size,i.bytes))=some(some(.int .i64 0),1,8):=by kernel_rfl
def mF(p:ah)(L:List(Int×Int)):List Int:=if p.dL then xU p L else []
theorem UL(p:ah)(hp:p.Wf)(L:List(Int×Int))(w:World)(hL:eY w p L):
  Calls Tryz.prog 117 #[p.val]w fun e w'=>∃a n c er,e=.returned(.tuple #[.slice a n c,.int .i64 er])∧Below w.heap.size w w'∧∀W,Below w'.heap.size w' W→(convert 58 9(.slice a n c)).run Tryz.prog W=.ok(.string(strOfNums(mF p L)))W:=by
 cases hg:p.dL
 ·refine(J_ p hp hg w).mono ?_;rintro e w'⟨rfl,hb⟩;refine⟨none,0,0,1,rfl,hb,fun W _=> ?_⟩;have:mF p L=[]:=by simp [mF,hg]
  rw [this];exact run_convert_bytes_nil(P:=Tryz.prog)W 58 5 Tryz.underlying58 Tryz.underlying5 0 0 9 Tryz.underlying9
 ·obtain⟨h1,h2,h3,h4,h5⟩:=OG hg;obtain⟨_,k1,k2,_,_,k3,_⟩:=ek hg;refine(Hz p hp hg(by omega)(by omega)h1 h2 h3 h4 h5(by omega)L w hL).mono ?_;rintro e w'⟨v,rfl,hb,hv,ho⟩;obtain⟨g,cap,rfl,_⟩:=BI ho hv;refine⟨_,_,_,0,rfl,hb,fun W hW=> ?_⟩;have:mF p L=xU p L:=by simp [mF,hg]
  rw [this];exact TK W _ _ _(aM ho hW)hv
theorem TT(W:World)(r:Int):∀(j:Nat)(u:Value),(Im [r])[j]?=some u→(W.alloc(.cells #[.int .i64 r]195)).cell?((⟨W.heap.size,0,none⟩:Addr).add j)=some u:=by
 intro j u hj;have h:=heap_alloc_new W(.cells #[.int .i64 r]195);rw [Addr.add_lit,Nat.zero_add]
 match j,hj with
 |0,hj=>exact(cell_of_row _ _ 0 _ _ _ h).trans hj
 |j+1,hj=>simp [Im]at hj
theorem ZJ(L:List Int):∀u∈Im L,u.oneCell'=true:=by
 intro u hu;simp only [Im,List.mem_map]at hu;obtain⟨y,_,rfl⟩:=hu;rfl
theorem TU(W:World)(t:Int)(s:ByteArray):∀(j:Nat)(u:Value),(tT [(t,s)])[j]?=some u→(W.alloc(.cells #[.int .u32 t,.string s]77)).cell?((⟨W.heap.size,0,none⟩:Addr).add j)=some u:=by
 intro j u hj;have h:=heap_alloc_new W(.cells #[.int .u32 t,.string s]77);rw [Addr.add_lit,Nat.zero_add]
 match j,hj with
 |0,hj=>exact(cell_of_row _ _ 0 _ _ _ h).trans hj
 |1,hj=>exact(cell_of_row _ _ 1 _ _ _ h).trans hj
 |j+2,hj=>simp [tT]at hj
theorem Q7(L:List(Int×ByteArray)):∀u∈tT L,u.oneCell'=true:=by
 intro u hu;simp only [tT,List.mem_flatMap,List.mem_cons,List.not_mem_nil,or_false]at hu;obtain⟨y,_,rfl|rfl⟩:=hu<;>rfl
theorem jc.alloc {B base:Nat} {a:nK} {a_:List(Bool×Int×Int)} {aH aR:List(Int×ByteArray)} {aN:List Int} {W:World}(h:jc B base a a_ aH aR aN W)(o:Obj):jc B base a a_ aH aR aN(W.alloc o):=h.later((Below.refl _ _).alloc(Nat.le_refl _)o)
theorem jc.drew {B base:Nat} {a:nK} {a_:List(Bool×Int×Int)} {aH aR:List(Int×ByteArray)} {aN:List Int} {W:World}(h:jc B base a a_ aH aR aN W):jc B base a a_ aH aR aN W.drew:=h.later(Below.refl _ _).drew
theorem jc.drops {B base:Nat} {a:nK} {a_:List(Bool×Int×Int)} {aH aR:List(Int×ByteArray)} {aN aa9:List Int} {W W7:World}(h:jc B base a a_ aH aR aN W) {v7:Value}(ho:W7.ownsRow base 195 1 v7 aa9.length(Im aa9))(hg:W.grownBy W7 a.bI.ownBlock):
  ou B a W7∧jc B base {a with bI:=v7}a_ aH aR aa9(W7.setCell⟨B,6,none⟩v7)∧Fx(iW B a)W(W7.setCell⟨B,6,none⟩v7):=by
 have hBr:a.bI.ownBlock≠some B:=aA h.bI h.blk(fun c e=>(by cases e));have fG:ou B a W7:=h.blk.block(hg.block _ h.blk.lt(fun e=>hBr e.symm));have hg2:W7.grownBy(W7.setCell⟨B,6,none⟩v7)(some B):=aa(aC _(some B))6 v7;have f1:=h.aI.kept hg(bX h.aI h.bI(by decide));have f2:=h.bH.kept hg(bX h.bH h.bI(by decide));have f3:=h.mZ.kept hg(bX h.mZ h.bI(by decide));exact⟨fG,⟨fG.Zw v7,f3.kept hg2(.inr(aA f3 fG(fun c e=>(by cases e)))),f1.kept hg2(.inr(aA f1 fG(fun c e=>(by cases e)))),f2.kept hg2(.inr(aA f2 fG(fun c e=>(by cases e)))),ho.kept hg2(.inr(aA ho fG(fun c e=>(by cases e))))⟩,
  aT(Fx.grown hg fun k e=> .inr(.inr(.inr(.inr e))))hg2 fun i _ e=>by cases e;exact .inl rfl⟩
theorem jc.sends {B base:Nat} {a:nK} {a_:List(Bool×Int×Int)} {aH aa2 aR:List(Int×ByteArray)} {aN:List Int} {W W7:World}(h:jc B base a a_ aH aR aN W) {v7:Value}(ho:W7.ownsRow base 77 2 v7 aa2.length(tT aa2))(hg:W.grownBy W7 a.aI.ownBlock):
  ou B a W7∧jc B base {a with aI:=v7}a_ aa2 aR aN(W7.setCell⟨B,4,none⟩v7)∧Fx(iW B a)W(W7.setCell⟨B,4,none⟩v7):=by
 have hBr:a.aI.ownBlock≠some B:=aA h.aI h.blk(fun c e=>(by cases e));have fG:ou B a W7:=h.blk.block(hg.block _ h.blk.lt(fun e=>hBr e.symm));have hg2:W7.grownBy(W7.setCell⟨B,4,none⟩v7)(some B):=aa(aC _(some B))4 v7;have f1:=h.bI.kept hg(bX h.bI h.aI(by decide));have f2:=h.bH.kept hg(bX h.bH h.aI(by decide));have f3:=h.mZ.kept hg(bX h.mZ h.aI(by decide));exact⟨fG,⟨fG.Zv v7,f3.kept hg2(.inr(aA f3 fG(fun c e=>(by cases e)))),ho.kept hg2(.inr(aA ho fG(fun c e=>(by cases e)))),f2.kept hg2(.inr(aA f2 fG(fun c e=>(by cases e)))),f1.kept hg2(.inr(aA f1 fG(fun c e=>(by cases e))))⟩,
  aT(Fx.grown hg fun k e=> .inr(.inr(.inl e)))hg2 fun i _ e=>by cases e;exact .inl rfl⟩
theorem GN(B base:Nat)(a:nK)(a_:List(Bool×Int×Int))(aH aR:List(Int×ByteArray))(aN:List Int)(r:Int)(w:World)(ha:jc B base a a_ aH aR aN w)(hbs:base≤w.heap.size)(hd:aN.length≤1000000):
  Calls Tryz.prog 92 #[.pointer(some⟨B,0,none⟩),.int .i64 r]w fun e w'=>∃v7,e=.returned(.tuple #[])∧jc B base {a with bI:=v7}a_ aH aR(aN++ [r])w'∧Fx(iW B a)w w':=by
 obtain⟨i0,hi,hz0,hz1,hz2⟩:=info_parts WQ;have jk:Below w.heap.size w(w.alloc(.cells #[.int .i64 r]195)):=(Below.refl _ _).alloc(Nat.le_refl _)_;have ha1:=ha.alloc(.cells #[.int .i64 r]195);have hcr:=TT w r;have hrow:=ha1.bI;obtain⟨c0,c1,c2,c3,c4,c5,c6⟩:=ha.blk.cell;go_enter Tryz.func92,Tryz.ntmps92
 go_wp2_with(at_builtin;refine wpList_append_own_at _ rfl _ _ 50 rfl base 195 i0(.int .i64 0)1 8 Tryz.underlying50 hi hz0 hz1 hz2 rfl(by decide)a.bI aN.length(Im aN)rfl hrow⟨w.heap.size,0,none⟩1 1(Im [r])rfl rfl hcr(ZJ [r])(by unfold maxLen;omega)(by omega) ?c3 ?_)
 case c3=>simp;omega
 intro v7 w7 gP eu _ _;rw [←Ka]at gP;have hll:aN.length+1=(aN++ [r]).length:=by simp
 rw [hll]at gP;obtain⟨fG,hm,hf⟩:=ha1.drops gP eu;have hf':=(Fx.below(S:=iW B a)jk).trans hf(fun i _ h=>h);obtain⟨d0,d1,d2,d3,d4,d5,d6⟩:=fG.cell;have g6:=fG.free 6;obtain⟨PS,TW,hv7,_⟩:=ak gP;generalize(aN++ [r]).length=nn at hv7;subst hv7;clear hll hrow hcr c0 c1 c2 c3 c4 c5 c6 ha1 fG eu gP;go_wp2
 go_returns
 exact⟨_,rfl,hm,hf'⟩
theorem yL(B base:Nat)(a:nK)(a_:List(Bool×Int×Int))(aH aR:List(Int×ByteArray))(aN:List Int)(tt:Int)(p:ah)(hp:p.Wf)(L:List(Int×Int))(w:World)(ha:jc B base a a_ aH aR aN w)(hbs:base≤w.heap.size)(hd:aH.length≤1000000)(hL:eY w p L):
  Calls Tryz.prog 80 #[.pointer(some⟨B,0,none⟩),.int .u32 tt,p.val]w fun e w'=>∃v7,e=.returned(.tuple #[])∧jc B base {a with aI:=v7}a_(aH++ [(tt,strOfNums(mF p L))])aR aN w'∧Fx(iW B a)w w':=by
 obtain⟨i0,hi,hz0,hz1,hz2⟩:=info_parts WR;have hb0:Below w.heap.size w(w.alloc p.box):=(Below.refl _ _).alloc(Nat.le_refl _)_;have hP:=PB.new p w;have HE:=(show Hid _ from fun W hW=>UL p hp L W(hL.below hW));dsimp only [ah.box]at hb0;unfold PB at hP;dsimp only [ah.box]at hP;go_enter Tryz.func80,Tryz.ntmps80
 go_upto_region 1 with(fail)
 generalize World.alloc _ _=W1 at hb0 hP ⊢;generalize w.heap.size=C at hP ⊢;obtain⟨b0,b1,b2,b3,b4,b5,b6,b7,b8,b9,b10,b11⟩:=PB.cell(show PB p C W1 from hP);go_wp2_with fail
 refine Calls.mono(HE.out W1 hb0) ?_;rintro e w2⟨ea,en,ec,er,rfl,hb2,hcv⟩;have hbb:=hb0.trans(hb2.mono hb0.size);have ha2:=ha.later hbb;have aeV:=hcv w2(Below.refl _ _);have aeU:=hcv w2.drew(Below.refl _ _).drew;generalize hss:strOfNums(mF p L)=ss at aeV aeU;have aen:=(show Hid _ from hss);clear hss hcv hb0 hb2 hP b0 b1 b2 b3 b4 b5 b6 b7 b8 b9 b10 b11 HE;have hz:=hbb.size;have c4:=ha2.blk.cell.2.2.2.2.1;have haT:=fun o=>(ha2.alloc o).blk.cell.2.2.2.2.1;have hrow:=fun o=>(ha2.alloc o).drew.aI;have hcf:=fun W=>TU W tt ss;have jk:Hid(∀o:Obj,base≤(w2.alloc o).drew.heap.size):=by
  intro o;show base≤(w2.alloc o).heap.size;rw [World.size_alloc];omega
 have HF:Hid(∀v7 w7,w7.ownsRow base 77 2 v7(aH.length+1)(tT aH++tT [(tt,ss)])→(w2.alloc(.cells #[.int .u32 tt,.string ss]77)).drew.grownBy w7 a.aI.ownBlock→(w7.cell?⟨B,4,none⟩=some a.aI∧w7.frozen?⟨B,4,none⟩=false)∧jc B base {a with aI:=v7}a_(aH++ [(tt,ss)])aR aN(w7.setCell⟨B,4,none⟩v7)∧Fx(iW B a)w(w7.setCell⟨B,4,none⟩v7)):=by
  intro v7 w7 gP eu;rw [←Au,show aH.length+1=(aH++ [(tt,ss)]).length by simp]at gP;have hb3:Below w2.heap.size w2(w2.alloc(.cells #[.int .u32 tt,.string ss]77)).drew:=((Below.refl _ _).alloc(Nat.le_refl _)_).drew;obtain⟨fG,hm,hf⟩:=(ha2.later hb3).sends gP eu;exact⟨⟨fG.cell.2.2.2.2.1,fG.free 4⟩,hm,((Fx.below(S:=iW B a)hbb).trans(Fx.below(S:=iW B a)hb3)(fun _ _ h=>h)).trans hf(fun _ _ h=>h)⟩
 clear ha ha2 hbb;go_wp2_with fail
 go_region_law(refine gz rfl(.tmp 18)(.tmp 23)48 rfl base 77 i0(.agg #[.int .u32 0,.string⟨#[]⟩])2 24 Tryz.underlying48 hi hz0 hz1 hz2 rfl(by decide)a.aI aH.length(tT aH)(by simp [Act.eval])(hrow _)⟨_,0,none⟩1 1(tT [(tt,ss)])(by simp [Act.eval])rfl(hcf _)(Q7 _)(by unfold maxLen;omega)(by omega)(jk.out _) ?_;intro v7 w7 gP eu _;obtain⟨⟨g1,g2⟩,hm,hf⟩:=HF.out _ _ gP eu;obtain⟨PS,TW,rfl,_⟩:=ak gP)
 all_goals
  rw [←aen.out]at hm;generalize World.setCell _ _ _=w8 at hm hf ⊢;clear g1 g2 eu gP;go_wp2
  go_returns
  exact⟨_,rfl,hm,hf⟩
def dY(A:List Rt)(d:Int):Int:=((aJ A d).map(·.seq)).getD 0
theorem EN {me:Int} {T M:Nat} {f:Int→Option Nat} {g:Int→Value} {A:List Rt} {w:World}(h:MT me T M f g A w)(d:Int)(hd:bg d):
  Calls Tryz.prog 157 #[.pointer(some⟨T,0,none⟩),.int .u32 d]w fun e w'=>e=.returned(.tuple #[.int .u32(dY A d),.bool(aJ A d).isSome])∧w'=w:=by
 obtain⟨t0,t1⟩:=h.blk.cell;have hlk:=h.map.look hd;cases hl:aJ A d with
 |none=>
  rw [h.off hd hl]at hlk;simp only [fJ]at hlk;have hn:dY A d=0:=by simp [dY,hl]
  rw [hn];clear h hn hl;go_enter Tryz.func157,Tryz.ntmps157
  go_wp2
  go_ret2
  exact⟨rfl,rfl⟩
 |some x=>
  obtain⟨_,_,B,hB,hL,_⟩:=h.line hl;rw [hB]at hlk;simp only [fJ]at hlk;obtain⟨b0,b1,b2,b3,b4,b5,b6⟩:=hL.cell;have hn:dY A d=x.seq:=by simp [dY,hl]
  rw [hn];clear h hn hl hL hB;go_enter Tryz.func157,Tryz.ntmps157
  go_wp2
  go_ret2
  exact⟨rfl,rfl⟩
theorem BQ(N:Nat)(x:lF) {M:Nat} {ff:Int→Option Nat} {gg:Int→Value} {A:List Rt} {f:Int→Option Int} {sz:Nat} {w:World}(hn:Ep N x M ff gg A f sz w)(d:Int)(hd:bg d):
  Calls Tryz.prog 159 #[.pointer(some⟨N,0,none⟩),.int .u32 d]w fun e w'=>e=.returned(.agg #[.int .u32 d,.int .u32(dY A d)])∧Below w.heap.size w w':=by
 have hb0:Below w.heap.size w(w.alloc(.cells #[.int .u32 0,.int .u32 0]237)):=(Below.refl _ _).alloc(Nat.le_refl _)_;have hn1:=hn.later hb0;have hC:(w.alloc(.cells #[.int .u32 0,.int .u32 0]237)).heap[w.heap.size]?=some(.cells #[.int .u32 0,.int .u32 0]237):=heap_alloc_new _ _;go_enter Tryz.func159,Tryz.ntmps159
 go_upto_region 1 with(fail)
 generalize World.alloc _ _=W1 at hb0 hn1 hC ⊢;obtain⟨n0,n2,n3,n4,n5,n6,n7,n8,n9,n10⟩:=hn1.nd.cell;have q0:W1.cell?⟨w.heap.size,0,none⟩=some(.int .u32 0):=cell_of_row W1 w.heap.size 0 _ _ _ hC;have q1:W1.cell?⟨w.heap.size,1,none⟩=some(.int .u32 0):=cell_of_row W1 w.heap.size 1 _ _ _ hC;have f0:=frozen_of_row W1 w.heap.size 0 _ _ hC;have f1:=frozen_of_row W1 w.heap.size 1 _ _ hC;go_wp2_with fail
 refine Calls.mono(EN hn1.tb d hd) ?_;rintro e w2⟨rfl,rfl⟩;have hb2:Below w.heap.size w((w2.setCell⟨w.heap.size,0,none⟩(.int .u32 d)).setCell⟨w.heap.size,1,none⟩(.int .u32(dY A d))):=(hb0.setCell(p:=⟨w.heap.size,0,none⟩)(Nat.le_refl _)_).setCell(p:=⟨w.heap.size,1,none⟩)(Nat.le_refl _)_;have hC2:((w2.setCell⟨w.heap.size,0,none⟩(.int .u32 d)).setCell⟨w.heap.size,1,none⟩(.int .u32(dY A d))).heap[w.heap.size]?=some(.cells #[.int .u32 d,.int .u32(dY A d)]237):=by
  simp [World.setCell,Array.getElem?_modify,hC]
 clear hn1 n0 n2 n3 n4 n5 n6 n7 n8 n9 n10;go_wp2
 generalize World.setCell _ _ _=W3 at hb2 hC2 ⊢;have p0:W3.cell?⟨w.heap.size,0,none⟩=some(.int .u32 d):=cell_of_row W3 w.heap.size 0 _ _ _ hC2;have p1:W3.cell?⟨w.heap.size,1,none⟩=some(.int .u32(dY A d)):=cell_of_row W3 w.heap.size 1 _ _ _ hC2;exact bodyPost_ret(v:=.agg #[.int .u32 d,.int .u32(dY A d)])(by simp [results,Tryz.results159,go_sem,p0,p1])rfl⟨rfl,hb2⟩
def ZV(n:Nat):ah:=⟨1,3,0,false,0,0,0,0,0,0,none,n,0,⟨#[]⟩⟩
theorem ZU(n:Nat)(hn:n≤65536)(ao:Option Addr)(c:Nat):({ZV n with la:=ao,lc:=c}:ah).Wf:=by
 have hz:(⟨#[]⟩:ByteArray).size=0:=rfl;constructor<;>(dsimp only [ZV];omega)
theorem L9(p:ah)(ao:Option Addr)(c:Nat)(L:List(Int×Int)):mF {p with la:=ao,lc:=c}L=mF p L:=by
 unfold mF;rw [zM];rfl
def lsB(L:List(Int×Int)):ByteArray:=strOfNums(mF(ZV L.length)L)
def PK(tt:Int)(L:List(Int×Int)):List(Int×ByteArray):=if L.length=0 then []else [(tt,lsB L)]
theorem FW(B base:Nat)(a:nK)(a_:List(Bool×Int×Int))(aH aR:List(Int×ByteArray))(aN:List Int)(tt:Int)(ao:Option Addr)(c:Nat)(L:List(Int×Int))(w:World)(ha:jc B base a a_ aH aR aN w)(hbs:base≤w.heap.size)(hd:aH.length≤1000000)(hn:L.length≤65536)(hL:bu w ao L):
  Calls Tryz.prog 137 #[.pointer(some⟨B,0,none⟩),.int .u32 tt,.slice ao L.length c]w fun e w'=>∃v7,e=.returned(.tuple #[])∧jc B base {a with aI:=v7}a_(aH++PK tt L)aR aN w'∧Fx(iW B a)w w':=by
 by_cases h0:L.length=0
 ·have hf:PK tt L=[]:=by simp [PK,h0]
  rw [hf,List.append_nil];rw [h0];clear hf;go_enter Tryz.func137,Tryz.ntmps137
  go_wp2
  go_returns
  exact⟨a.aI,rfl,ha,Fx.refl _ _⟩
 ·have hf:PK tt L=[(tt,strOfNums(mF {ZV L.length with la:=ao,lc:=c}L))]:=by
   rw [L9];simp [PK,h0,lsB]
  have hpos:(0:Int)<(L.length:Int):=by omega
  rw [hf];have HS:=(show Hid _ from yL B base a a_ aH aR aN tt {ZV L.length with la:=ao,lc:=c}(ZU _ hn ao c)L w ha hbs hd⟨rfl,hL⟩);clear hf hL;dsimp only [ZV,ah.val]at HS;go_enter Tryz.func137,Tryz.ntmps137
  go_wp2_with fail
  refine Calls.mono HS.out ?_;rintro e w'⟨v7,rfl,h1,h2⟩;go_wp2
  go_returns
  exact⟨v7,rfl,h1,h2⟩
theorem FX(N B base:Nat)(x:lF)(a:nK) {M:Nat} {ff:Int→Option Nat} {gg:Int→Value} {A:List Rt} {f:Int→Option Int} {sz:Nat}(a_:List(Bool×Int×Int))(aH aR:List(Int×ByteArray))(aN:List Int)(tt d:Int)(hd:bg d)(w:World)(hn:Ep N x M ff gg A f sz w)(ha:jc B base a a_ aH aR aN w)(hbs:base≤w.heap.size)(hfl:aH.length≤1000000):
  Calls Tryz.prog 129 #[.pointer(some⟨N,0,none⟩),.pointer(some⟨B,0,none⟩),.int .u32 tt,.int .u32 d]w fun e w'=>∃v7,e=.returned(.tuple #[])∧jc B base {a with aI:=v7}a_(aH++ [(tt,lsB [(d,dY A d)])])aR aN w'∧Fx(iW B a)w w':=by
 have hs:bg(dY A d):=by
  unfold dY;cases hl:aJ A d with
  |none=>exact⟨by simp,by simp⟩
  |some y=>exact(hn.tb.ok y(bN hl).1).seq
 have HL:=(show Hid _ from BQ N x hn d hd);have HS:Hid(∀w1,Below w.heap.size w w1→Calls Tryz.prog 137 #[.pointer(some⟨B,0,none⟩),.int .u32 tt,.slice(some⟨w1.heap.size,0,none⟩)1 1](w1.alloc(.cells #[.int .u32 d,.int .u32(dY A d)]237))fun e w'=>∃v7,e=.returned(.tuple #[])∧jc B base {a with aI:=v7}a_(aH++ [(tt,lsB [(d,dY A d)])])aR aN w'∧Fx(iW B a)w w'):=by
  intro w1 hb;have hb2:Below w.heap.size w(w1.alloc(.cells #[.int .u32 d,.int .u32(dY A d)]237)):=hb.alloc hb.size _;have hH:bu(w1.alloc(.cells #[.int .u32 d,.int .u32(dY A d)]237))(some⟨w1.heap.size,0,none⟩) [(d,dY A d)]:=by
   intro j hj;have hj0:j=0:=by simpa using hj
   subst hj0;have hC:=heap_alloc_new w1(.cells #[.int .u32 d,.int .u32(dY A d)]237);unfold bg at hd hs;exact⟨w1.heap.size,0,d,dY A d,rfl,by simp,rfl,hd.1,by omega,hs.1,by omega,cell_of_row _ _ 0 _ _ _ hC,cell_of_row _ _ 1 _ _ _ hC⟩
  refine(FW B base a a_ aH aR aN tt(some⟨w1.heap.size,0,none⟩)1 [(d,dY A d)]_(ha.later hb2)(Nat.le_trans hbs hb2.size)hfl(by simp)hH).mono ?_;rintro e w'⟨v7,rfl,h1,h2⟩;exact⟨v7,rfl,h1,(Fx.below(S:=iW B a)hb2).trans h2(fun _ _ h=>h)⟩
 clear hn ha;go_enter Tryz.func129,Tryz.ntmps129
 go_wp2_with fail
 refine Calls.mono HL.out ?_;rintro e w1⟨rfl,hb1⟩;go_wp2_with fail
 refine Calls.mono(HS.out w1 hb1) ?_;rintro e w'⟨v7,rfl,h1,h2⟩;go_wp2
 go_returns
 exact⟨v7,rfl,h1,h2⟩
def xZ(N:Nat)(x:lF)(M:Nat)(ff:Int→Option Nat)(gg:Int→Value)(A:List Rt)(k:Nat):Prop:=k=N∨k=x.Mo∨mg x.T M ff gg A k
def EG(now:Int):nK:=⟨now,.slice none 0 0,⟨#[]⟩,false,.slice none 0 0,.slice none 0 0,.slice none 0 0⟩
theorem jc.zero(now:Int)(W:World):jc W.heap.size(W.heap.size+1)(EG now) [] [] [] [](W.alloc(om(EG now))):=
 ⟨heap_alloc_new _ _,⟨rfl,.inl⟨rfl,rfl⟩⟩,⟨rfl,.inl⟨rfl,rfl⟩⟩,⟨rfl,.inl⟨rfl,rfl⟩⟩,⟨rfl,.inl⟨rfl,rfl⟩⟩⟩
theorem O9(N:Nat)(x:lF) {M:Nat} {ff:Int→Option Nat} {gg:Int→Value} {A:List Rt} {f:Int→Option Int} {sz:Nat}(now:Int)(w:World)(hn:Ep N x M ff gg A f sz w)(hcnt:0≤x.cnt∧x.cnt≤1000000)(hsz:sz≤1000000):
  Calls Tryz.prog 51 #[.pointer(some⟨N,0,none⟩),.int .u64 now]w fun e w'=>∃vY v7 qZ,e=.returned(.pointer(some⟨w.heap.size,0,none⟩))∧Ep N {x with own:=Dp x.seq x.own,cnt:=x.cnt+(bE x.seq x.own f(iG A now)).2.length}M ff vY(iG A now)(bE x.seq x.own f(iG A now)).1 qZ w'∧qZ≤sz+8∧jc w.heap.size(w.heap.size+1) {EG now with mZ:=v7}(bE x.seq x.own f(iG A now)).2 [] [] []w'∧(∀k,xZ N x M ff vY(iG A now)k→xZ N x M ff gg A k)∧Fx(xZ N x M ff gg A)w w':=by
 have hb0:Below w.heap.size w(w.alloc(om(EG now))):=(Below.refl _ _).alloc(Nat.le_refl _)_;have hn1:=hn.later hb0;have ha1:=jc.zero now w;have hlt:∀k,xZ N x M ff gg A k→k<w.heap.size:=by
  rintro k(rfl|rfl|hk)
  ·exact hn.nd.lt
  ·exact hn.mo.lt
  ·exact hn.tb.lt hk
 have HE:Hid(Calls Tryz.prog 76 #[.pointer(some⟨x.T,0,none⟩),.int .u64 now](w.alloc(om(EG now)))fun e w2=>∃vY,e=.returned(.tuple #[])∧Ep N x M ff vY(iG A now)f sz w2∧jc w.heap.size(w.heap.size+1)(EG now) [] [] [] []w2∧(∀k,mg x.T M ff vY(iG A now)k→mg x.T M ff gg A k)∧Fx(xZ N x M ff gg A)w w2∧w.heap.size+1≤w2.heap.size):=by
  refine(J9(S:=mg x.T M ff gg A)now hn1.tb(fun _ h=>h)(fun k hk=>hn1.tb.lt hk)).mono ?_;rintro e w2⟨vY,rfl,h2,h3,h4⟩;refine⟨vY,rfl,⟨hn1.nd.block(h4.block _ hn1.nd.lt fun hk=> ?_),hn1.mo.block(h4.block _ hn1.mo.lt fun hk=> ?_),h2,hn.ne⟩,ha1.kept fun k hk=>h4.block _(ha1.lt hk)fun hk2=> ?_,h3,(Fx.below(S:=xZ N x M ff gg A)hb0).trans h4(fun i _ h=> .inr(.inr h)),?_⟩
  ·exact hn1.tb.not(fun e=>by
    obtain⟨D,⟨es,cl,hm,_⟩,_⟩:=hn1.tb.map;rw [←e,show(w.alloc(om(EG now))).heap[N]?=_ from hn1.nd]at hm;cases hm)hn1.nd(rz x)hk
  ·obtain⟨es,cl,hm⟩:=hn1.mo.obj;exact hn1.tb.not(Ne.symm hn1.ne)hm(uH es cl)hk
  ·obtain⟨o,p1,p2,_,p4⟩:=ha1.xL hk;exact hn1.tb.not(fun e=>by
    obtain⟨D,⟨es,cl,hm,_⟩,_⟩:=hn1.tb.map;rw [←e,p1]at hm;exact p4 _ _(Option.some.inj hm))p1 p2 hk2
  ·have:=h4.size;simp at this;omega
 have Oq:=hn1.nd.cell.2.2.2.2.1;clear hb0 ha1;dsimp only [om,EG]at HE Oq;go_enter Tryz.func51,Tryz.ntmps51
 go_wp2_with fail
 refine Calls.mono HE.out ?_;rintro e w2⟨vY,rfl,hn2,ha2,ht2,hf2,hs2⟩;clear HE Oq hn1;go_wp2_with fail
 refine Calls.mono(vD N w.heap.size(w.heap.size+1)x _ M ff vY(iG A now)f sz [] [] [] []w2 hn2 ha2 hs2 hcnt hsz(by simp)) ?_;rintro e w3⟨v7,qZ,rfl,k1,k2,k3,k4⟩;rw [List.nil_append]at k3;go_wp2
 go_ret
 refine⟨vY,v7,qZ,rfl,k1,k2,k3,?_,hf2.trans k4 ?_⟩
 ·rintro k(h|h|h)
  ·exact .inl h
  ·exact .inr(.inl h)
  ·exact .inr(.inr(ht2 k h))
 ·rintro k hk(h|h|h)
  ·exact .inl h
  ·exact .inr(.inl h)
  ·exfalso;rcases h with h|h|h|h|h
   ·omega
   ·cases h
   ·cases h
   ·cases h
   ·cases h
theorem xS(ao:Option Addr)(n c:Nat)(L:List(Bool×Int×Int))(hL:L.length=n)(hn:n≤1000000)(af5:pW L)(w:World)(hA:f_ w ao(RC L)):
  Calls Tryz.prog 43 #[.slice ao n c]w fun e w'=>e=.returned(.int .u32((qb L).getD 0))∧Below w.heap.size w w':=by
 go_enter Tryz.func43,Tryz.ntmps43
 go_wp2_with fail
 go_loopw [3,8](fun q i wr=>∃k:Nat,k≤n∧i=.int .i64 k∧q=.int .u32((qb(L.take k)).getD 0)∧Below w.heap.size w wr)(fun _ i _=>n - (intOf i).toNat)
 case atStart=>exact⟨0,Nat.zero_le _,rfl,rfl,Below.refl _ _⟩
 case round=>
  obtain⟨k,hk,rfl,rfl,hb⟩:=hrel;by_cases hlt:k<n
  ·have hki:(k:Int)<(n:Int):=by omega
   obtain⟨x,hx⟩:∃x,L[k]?=some x:=⟨_,List.getElem?_eq_getElem(by omega)⟩;have hat:∀i z,i<3→([.bool x.1,.int .u32 x.2.1,.int .u32 x.2.2]:List Value)[i]?=some z→(RC L)[k * 3+i]?=some z:=fun i z hi hz=>(jT(fun x:Bool×Int×Int=>([Value.bool x.1,Value.int .u32 x.2.1,Value.int .u32 x.2.2]:List Value))3(by decide)(fun _=>rfl)L k i hi hx).trans hz;have hA':=hA.below hb;obtain⟨b1,o1,rfl,hj1⟩:=hA'(k * 3+0)_(hat 0 _(by decide)rfl);have d0:=hA'.one rfl(hat 0 _(by decide)rfl);have d1:=hA'.one rfl(hat 1 _(by decide)rfl);have d2:=hA'.one rfl(hat 2 _(by decide)rfl);have eO:Hid(qb(L.take(k+1))=kQ(qb(L.take k))x):=by
    show _=_;rw [oH hx,zg]
   obtain⟨xo,xa,xs⟩:=x;dsimp only at d0 d1 d2;rw [Nat.add_zero]at d0;rw [←Nat.add_assoc]at d1 d2;have hb1:=hb.alloc hb.size(aV xo xa xs);clear hj1 hat hA' hx hb;generalize qb(L.take k)=cc at eO ⊢;dsimp only [aV]at hb1;cases xo
   ·have XL:Hid((qb(L.take(k+1))).getD 0=cc.getD 0):=by
     show _=_;rw [eO.out];rfl
    clear eO;generalize cc.getD 0=t at XL ⊢;go_wp2
    go_roundw
    case rel=>exact⟨k+1,by omega,by go_num,by rw [XL.out],hb1⟩
    case measure=>simp [intOf];omega
   ·have XL:Hid((qb(L.take(k+1))).getD 0=max(cc.getD 0)xs):=by
     show _=_;rw [eO.out];rfl
    clear eO;generalize cc.getD 0=t at XL ⊢;go_wp2
    go_roundw
    case rel=>exact⟨k+1,by omega,by go_num,by rw [XL.out],hb1⟩
    case measure=>simp [intOf];omega
  ·obtain rfl:k=n:=by omega
   rw [List.take_of_length_le(by omega)];go_wp2
   go_ret
   exact⟨rfl,hb⟩
theorem pM(ao:Option Addr)(n c:Nat)(L:List(Bool×Int×Int))(hL:L.length=n)(hn:n≤100000)(hbd:pW L)(w:World)(hA:f_ w ao(RC L)):
  Calls Tryz.prog 73 #[.slice ao n c]w fun e w'=>e=.returned(.string(strOfNums(bn L)))∧Below w.heap.size w w':=by
 obtain⟨i1,ji,jz0,jz1,jz2⟩:=info_parts uN;have hb0:Below w.heap.size w w:=Below.refl _ _;go_enter Tryz.func73,Tryz.ntmps73
 go_wp2_with fail
 go_loopw [3,8](fun bv i wr=>∃k:Nat,k≤n∧i=.int .i64 k∧wr.ownsRow w.heap.size 5 1 bv(13 * k)(U(bn(L.take k)))∧Below w.heap.size w wr)(fun _ i _=>n - (intOf i).toNat)
 case atStart=>exact⟨0,Nat.zero_le _,rfl,⟨rfl,.inl⟨rfl,rfl⟩⟩,hb0⟩
 case round=>
  clear hb0;obtain⟨k,hk,rfl,ho,hb⟩:=hrel;by_cases hlt:k<n
  ·have hki:(k:Int)<(n:Int):=by omega
   obtain⟨⟨o,a,s⟩,hx⟩:∃x,L[k]?=some x:=⟨_,List.getElem?_eq_getElem(by omega)⟩;have hbx:=hbd _(List.mem_of_getElem? hx);dsimp only at hbx;have Jt:=hA.below hb;have hat:∀i z,i<3→([.bool o,.int .u32 a,.int .u32 s]:List Value)[i]?=some z→(RC L)[k * 3+i]?=some z:=fun i z hi hz=>(jT(fun x:Bool×Int×Int=>([Value.bool x.1,Value.int .u32 x.2.1,Value.int .u32 x.2.2]:List Value))3(by decide)(fun _=>rfl)L k i hi hx).trans hz;obtain⟨b1,o1,rfl,hj1⟩:=Jt(k * 3+0)_(hat 0 _(by decide)rfl);have c0:=Jt.one rfl(hat 0 _(by decide)rfl);have c1:=Jt.one rfl(hat 1 _(by decide)rfl);have c2:=Jt.one rfl(hat 2 _(by decide)rfl);rw [Nat.add_zero]at c0;rw [←Nat.add_assoc]at c1 c2;have hst:Hid(bn(L.take(k+1))=bn(L.take k)++yS o a s):=by
    show _=_;rw [List.take_add_one,hx,jU];rfl
   have jk:Below wr.heap.size wr(wr.alloc(aV o a s)):=(Below.refl _ _).alloc(Nat.le_refl _)_;have hB1:=qd.new o a s wr;have ho1:=aM ho jk;have hb1:=hb.alloc hb.size(aV o a s);dsimp only [aV]at hB1 ho1 hb1;clear hj1 hat Jt hx hb ho jk;go_upto_region 5 with(fail)
   generalize wr.heap.size=B1 at hB1 ⊢;generalize World.alloc _ _=W1 at hB1 ho1 hb1 ⊢;obtain⟨d0,d1,d2⟩:=hB1.cell;clear c0 c1 c2;go_wp2_with fail
   refine(pV o a s hbx.1.1 hbx.1.2 hbx.2.1 hbx.2.2 _).mono ?_;rintro e W3⟨v3,rfl,hb3,hv3,ho3⟩;have hoB:=aM ho1 hb3;have hB3:=hb1.trans(hb3.mono hb1.size);obtain⟨g3,afq,rfl,hg3⟩:=BI ho3 hv3;have hc3:∀(j:Nat)(u:Value),(U(yS o a s))[j]?=some u→W3.cell?((⟨g3,0,none⟩:Addr).add j)=some u:=by
    intro j u hj;obtain⟨b',o',h1,_,h2⟩:=f_.ofRow ho3 j u hj;simp only [Option.some.injEq,Addr.mk.injEq,and_true]at h1;obtain⟨rfl,rfl⟩:=h1;have hadd:(⟨g3,0,none⟩:Addr).add j=⟨g3,0+j,none⟩:=by unfold Addr.add;split<;>simp_all
    rw [hadd];exact h2
   have h1c:∀u∈U(yS o a s),u.oneCell'=true:=by
    intro u hu;simp only [U,List.mem_map]at hu;obtain⟨y,_,rfl⟩:=hu;rfl
   have hlt3:=hoB.lt;clear ho1 hb1 hb3 ho3 d0 d1 d2 hB1;go_wp2_with(at_builtin;refine wpList_append_own _ rfl _ _ 58 rfl w.heap.size 5 i1(.int .u8 0)1 1 Tryz.underlying58 ji jz0 jz1 jz2 rfl(by decide)u3(13 * k)(U(bn(L.take k)))rfl hoB⟨g3,0,none⟩13 afq(U(yS o a s))rfl rfl hc3 h1c ?c1 ?c2 ?c3 ?_)
   case c1=>unfold maxLen;omega
   case c2=>omega
   case c3=>exact hB3.size
   intro v4 W4 B_ hg4 _;have hB4:=hB3.grown hg4 hB3.size(fun k hk=>(hlt3 k hk).1);rw [Ae]at B_;clear hoB hB3 hc3 h1c hlt3 hg4;go_wp2
   go_roundw
   case rel=>
    refine⟨k+1,by omega,by go_num,?_,hB4⟩;rw [hst.out];exact B_
   case measure=>simp [intOf];omega
  ·obtain rfl:k=n:=by omega
   rw [List.take_of_length_le(by omega)]at ho;have hxl:=g_ L;rw [hL]at hxl;rw [←hxl]at ho;have hcv:=ol(qz ho(D6 hbd));clear ho hxl;go_wp2
   go_ret
   exact⟨rfl,hb⟩
theorem FJ {q own:Int}(hq:bg q)(f:Int→Option Int) {A:List Rt}(hA:∀y∈A,y.Ok):pW(bE q own f A).2:=by
 have h:∀(A:List Rt)(st:(Int→Option Int)×List(Bool×Int×Int)),(∀y∈A,y.Ok)→pW st.2→pW(A.foldl iY st).2:=by
  intro A
  induction A with
  |nil=>intro st _ h;exact h
  |cons y A ih=>
   intro st hA h;rw [List.foldl_cons];refine ih _(fun z hz=>hA z(List.mem_cons_of_mem _ hz)) ?_;unfold iY;split
   ·intro z hz;rcases List.mem_append.1 hz with hz|hz
    ·exact h z hz
    ·rw [List.mem_singleton]at hz;subst hz;have:=hA y(List.mem_cons_self ..);have h1:=this.dest;have h2:=this.seq;unfold bg at h1 h2;dsimp only;omega
   ·exact h
 refine h A _ hA ?_;unfold o6;split
 ·intro z hz;rw [List.mem_singleton]at hz;subst hz;unfold bg at hq;dsimp only;omega
 ·intro z hz;simp at hz
theorem Al {a b:List(Bool×Int×Int)}(ha:pW a)(hb:pW b):pW(a++b):=fun x hx=>(List.mem_append.1 hx).elim(ha x)(hb x)
@[reducible] def iN : Obj := .cells #[.string ⟨#[]⟩, .bool false, .slice none 0 0, .slice none 0 0, .slice none 0 0] 52
def iE(s:ByteArray)(aZ:Bool)(aI bH bI:Value):Value:=.agg #[.string s,.bool aZ,aI,bH,bI]
end Go.Proofs.YtakaadcpaeiccabGreat
