import Derived.Test.YtakaadcpaeiccabGreatC13
import Derived.DeepKeys4
import Derived.DeepKeys2
import Derived.ChangeKeysEq
set_option maxHeartbeats 4000000
set_option maxRecDepth 100000
namespace Go.Proofs.YtakaadcpaeiccabGreat
open Go.RowKit Go.Maps
theorem kr {P:Program} {ops:Array Oper} {o:Oper} {a:Act} {w:World} {K:Act→World→Prop} {Q:Exit→Act→World→Prop} {E:Prop}
  (hg:o.guard=none)(s x:Operand)(t:TypeId)(hop:o.op=Op.call {callee:=Callee.builtin Builtin.append,args:=#[s,x],argTypes:=#[t,t]})
  (base:Nat)(e:TypeId)(i:TypeInfo)(z:Value)(size bytes:Nat)(h1:P.underlying t=some(.slice e))(h2:P.info? e=some i)(h3:i.zero=some z)(h4:i.size=size)(h5:i.bytes=bytes)(h6:z.cells.size=size)(h7:0<size)
  (v:Value)(n:Nat)(xs:List Value)(hs:a.eval s=v)(hown:w.ownsRow base e size v n xs)
  (Mg:Nat)(v2:Value)(m:Nat)(ys:List Value)(hx:a.eval x=v2)(hown2:w.ownsRow Mg e size v2 m ys)(h1c:∀u∈ys,u.oneCell'=true)
  (b1:n+m≤maxLen)(b2:(n+m)* bytes≤140737488355328)(hbase:base≤w.heap.size)
  (hK:∀v' w',w'.ownsRow base e size v'(n+m)(xs++ys)→w.grownBy w' v.ownBlock→K(a.put o.dst v')w'):
  if Region.wanted o(yielded ops a.tmps)=true then Oper.wp P o a w K Q else E:=by
 have hw:Region.wanted o(yielded ops a.tmps)=true:=by simp [Region.wanted,hg]
 rcases hown2.2 with⟨rfl,rfl⟩|⟨g,cap,cur,rfl,_,hgb,_⟩
 ·rw [if_pos hw];have hrun:=run_append_owned_none(P:=P)(w:=w)base t o.type e i size h1 h2 v n xs hown;unfold Oper.wp;simp [execOp,hop,resolve,invoke,builtin,hs,hx,hrun,Result.andThen];have hy:ys=[]:=List.eq_nil_of_length_eq_zero(by have:=hown2.1;simpa using this);subst hy;exact hK v w(by simpa using hown)⟨rfl,rfl,rfl,Nat.le_refl _,fun _ _ _=>rfl⟩
 ·exact xG hg s x t hop base e i z size bytes h1 h2 h3 h4 h5 h6 h7 v n xs hs hown⟨g,0,none⟩m cap ys hx hown2.1(fun j u hj=>by
   obtain⟨b',o',k1,_,k2⟩:=f_.ofRow hown2 j u hj;simp only [Option.some.injEq,Addr.mk.injEq,and_true]at k1;obtain⟨rfl,rfl⟩:=k1;have hadd:(⟨g,0,none⟩:Addr).add j=⟨g,0+j,none⟩:=by unfold Addr.add;split<;>simp_all
   rw [hadd];exact k2)h1c b1 b2 hbase hK
structure nK where
 now:Int
 mZ:Value
 aY:ByteArray
 aZ:Bool
 aI:Value
 bH:Value
 bI:Value
@[reducible] def om (a : nK) : Obj := .cells #[.int .u64 a.now, a.mZ, .string a.aY, .bool a.aZ, a.aI, a.bH, a.bI] 134
def ou(B:Nat)(a:nK)(W:World):Prop:=W.heap[B]?=some(om a)
theorem ou.cell {B:Nat} {a:nK} {W:World}(h:ou B a W):
  W.cell?⟨B,0,none⟩=some(.int .u64 a.now)∧W.cell?⟨B,1,none⟩=some a.mZ∧W.cell?⟨B,2,none⟩=some(.string a.aY)∧W.cell?⟨B,3,none⟩=some(.bool a.aZ)∧W.cell?⟨B,4,none⟩=some a.aI∧W.cell?⟨B,5,none⟩=some a.bH∧W.cell?⟨B,6,none⟩=some a.bI:=
 ⟨cell_of_row W B 0 _ _ _ h,cell_of_row W B 1 _ _ _ h,cell_of_row W B 2 _ _ _ h,cell_of_row W B 3 _ _ _ h,cell_of_row W B 4 _ _ _ h,cell_of_row W B 5 _ _ _ h,cell_of_row W B 6 _ _ _ h⟩
theorem ou.free {B:Nat} {a:nK} {W:World}(h:ou B a W)(i:Nat):W.frozen?⟨B,i,none⟩=false:=by
 unfold World.frozen?;rw [show W.heap[(⟨B,i,none⟩:Addr).block]?=some(om a)from h];try rfl
theorem ou.lt {B:Nat} {a:nK} {W:World}(h:ou B a W):B<W.heap.size:=(Array.getElem?_eq_some_iff.1 h).1
theorem ou.block {B:Nat} {a:nK} {W W':World}(h:ou B a W)(he:W'.heap[B]?=W.heap[B]?):ou B a W':=he.trans h
theorem ou.Qr {B:Nat} {a:nK} {W:World}(h:ou B a W)(v:Value):ou B {a with mZ:=v}(W.setCell⟨B,1,none⟩v):=by
 unfold ou at h ⊢;simp [World.setCell,Array.getElem?_modify,h]
theorem ou.CP {B:Nat} {a:nK} {W:World}(h:ou B a W)(v:ByteArray):ou B {a with aY:=v}(W.setCell⟨B,2,none⟩(.string v)):=by
 unfold ou at h ⊢;simp [World.setCell,Array.getElem?_modify,h]
theorem ou.Qq {B:Nat} {a:nK} {W:World}(h:ou B a W)(v:Bool):ou B {a with aZ:=v}(W.setCell⟨B,3,none⟩(.bool v)):=by
 unfold ou at h ⊢;simp [World.setCell,Array.getElem?_modify,h]
theorem ou.Zv {B:Nat} {a:nK} {W:World}(h:ou B a W)(v:Value):ou B {a with aI:=v}(W.setCell⟨B,4,none⟩v):=by
 unfold ou at h ⊢;simp [World.setCell,Array.getElem?_modify,h]
theorem ou.Zx {B:Nat} {a:nK} {W:World}(h:ou B a W)(v:Value):ou B {a with bH:=v}(W.setCell⟨B,5,none⟩v):=by
 unfold ou at h ⊢;simp [World.setCell,Array.getElem?_modify,h]
theorem ou.Zw {B:Nat} {a:nK} {W:World}(h:ou B a W)(v:Value):ou B {a with bI:=v}(W.setCell⟨B,6,none⟩v):=by
 unfold ou at h ⊢;simp [World.setCell,Array.getElem?_modify,h]
def tT(L:List(Int×ByteArray)):List Value:=L.flatMap fun x=> [.int .u32 x.1,.string x.2]
def Im(L:List Int):List Value:=L.map fun x=> .int .i64 x
theorem Au(a b:List(Int×ByteArray)):tT(a++b)=tT a++tT b:=by simp [tT]
theorem Ka(a b:List Int):Im(a++b)=Im a++Im b:=by simp [Im]
structure jc(B base:Nat)(a:nK)(a_:List(Bool×Int×Int))(aH aR:List(Int×ByteArray))(aN:List Int)(W:World):Prop where
 blk:ou B a W
 mZ:W.ownsRow base 82 3 a.mZ a_.length(RC a_)
 aI:W.ownsRow base 77 2 a.aI aH.length(tT aH)
 bH:W.ownsRow base 56 2 a.bH aR.length(tT aR)
 bI:W.ownsRow base 195 1 a.bI aN.length(Im aN)
def iW(B:Nat)(a:nK)(k:Nat):Prop:=k=B∨a.mZ.ownBlock=some k∨a.aI.ownBlock=some k∨a.bH.ownBlock=some k∨a.bI.ownBlock=some k
theorem jc.kept {B base:Nat} {a:nK} {a_:List(Bool×Int×Int)} {aH aR:List(Int×ByteArray)} {aN:List Int} {W W':World}(h:jc B base a a_ aH aR aN W)(he:∀k,iW B a k→W'.heap[k]?=W.heap[k]?):jc B base a a_ aH aR aN W':=
 ⟨h.blk.block(he B(.inl rfl)),bD h.mZ fun k hk=>he k(.inr(.inl hk)),bD h.aI fun k hk=>he k(.inr(.inr(.inl hk))),bD h.bH fun k hk=>he k(.inr(.inr(.inr(.inl hk)))),bD h.bI fun k hk=>he k(.inr(.inr(.inr(.inr hk))))⟩
theorem jc.lt {B base:Nat} {a:nK} {a_:List(Bool×Int×Int)} {aH aR:List(Int×ByteArray)} {aN:List Int} {W:World}(h:jc B base a a_ aH aR aN W) {k:Nat}(hk:iW B a k):k<W.heap.size:=by
 rcases hk with rfl|hk|hk|hk|hk
 ·exact h.blk.lt
 ·exact(h.mZ.lt k hk).2
 ·exact(h.aI.lt k hk).2
 ·exact(h.bH.lt k hk).2
 ·exact(h.bI.lt k hk).2
theorem jc.later {B base:Nat} {a:nK} {a_:List(Bool×Int×Int)} {aH aR:List(Int×ByteArray)} {aN:List Int} {W W':World}(h:jc B base a a_ aH aR aN W)(hb:Below W.heap.size W W'):jc B base a a_ aH aR aN W':=
 h.kept fun k hk=>hb.block k(h.lt hk)
def nS(o:Obj):Prop:=(∀c,o≠ .cells c 134(0,0))∧(∀c,o≠ .cells c 82(0,0))∧(∀c,o≠ .cells c 77(0,0))∧(∀c,o≠ .cells c 56(0,0))∧∀c,o≠ .cells c 195(0,0)
theorem jc.not {B base:Nat} {a:nK} {a_:List(Bool×Int×Int)} {aH aR:List(Int×ByteArray)} {aN:List Int} {W:World}(h:jc B base a a_ aH aR aN W) {k:Nat} {o:Obj}(ho:W.heap[k]?=some o)(hk:nS o):¬iW B a k:=by
 obtain⟨h1,h2,h3,h4,h5⟩:=hk;rintro(rfl|hk|hk|hk|hk)
 ·rw [show W.heap[k]?=_ from h.blk]at ho;exact h1 _(Option.some.inj ho).symm
 ·exact aA h.mZ ho h2 hk
 ·exact aA h.aI ho h3 hk
 ·exact aA h.bH ho h4 hk
 ·exact aA h.bI ho h5 hk
theorem Ld(x:lF):nS(nU x):=⟨fun c e=>(by cases e),fun c e=>(by cases e),fun c e=>(by cases e),fun c e=>(by cases e),fun c e=>(by cases e)⟩
theorem uI(es:Array MapEntry)(cl:Nat):nS(.map es cl):=⟨fun c e=>(by cases e),fun c e=>(by cases e),fun c e=>(by cases e),fun c e=>(by cases e),fun c e=>(by cases e)⟩
def xL(o:Obj):Prop:=(∀c,o≠ .cells c 158(0,0))∧(∀c,o≠ .cells c 38(0,0))∧∀c,o≠ .cells c 34(0,0)
theorem MT.not {me:Int} {T M:Nat} {f:Int→Option Nat} {g:Int→Value} {A:List Rt} {W:World}(h:MT me T M f g A W) {k:Nat}(hM:k≠M) {o:Obj}(ho:W.heap[k]?=some o)(hk:xL o):¬mg T M f g A k:=by
 obtain⟨h1,h2,h3⟩:=hk;rintro(rfl|rfl|⟨x,hx,hk|hk⟩)
 ·rw [show W.heap[k]?=_ from h.blk]at ho;exact h1 _(Option.some.inj ho).symm
 ·exact hM rfl
 ·obtain⟨B,p1,p2⟩:=h.ln x hx;rw [p1]at hk;cases hk;rw [show W.heap[k]?=_ from p2]at ho;exact h2 _(Option.some.inj ho).symm
 ·exact aA(h.row x hx)ho h3 hk
theorem MT.Jg {me:Int} {T M:Nat} {f:Int→Option Nat} {g:Int→Value} {A:List Rt} {S:Nat→Prop} {W W':World}(h:MT me T M f g A W)(hf:Fx S W W')(hS:∀k,S k→k<W.heap.size→k≠M∧∃o,W.heap[k]?=some o∧xL o):MT me T M f g A W':=
 h.kept fun k hk=>hf.block k(h.lt hk)fun hs=>by
  obtain⟨h1,o,h2,h3⟩:=hS k hs(h.lt hk);exact h.not h1 h2 h3 hk
theorem rz(x:lF):xL(nU x):=⟨fun c e=>(by cases e),fun c e=>(by cases e),fun c e=>(by cases e)⟩
theorem X6(x:nK):xL(om x):=⟨fun c e=>(by cases e),fun c e=>(by cases e),fun c e=>(by cases e)⟩
theorem uH(es:Array MapEntry)(cl:Nat):xL(.map es cl):=⟨fun c e=>(by cases e),fun c e=>(by cases e),fun c e=>(by cases e)⟩
theorem aP {W:World} {base e size n:Nat} {v:Value} {cs:List Value}(h:W.ownsRow base e size v n cs) {k:Nat}(hk:v.ownBlock=some k):∃c,W.heap[k]?=some(.cells c e(0,0)):=by
 rcases h.2 with⟨rfl,_⟩|⟨g,cap,cur,rfl,_,h2,_⟩
 ·cases hk
 ·simp only [Value.ownBlock,Option.some.injEq]at hk;subst hk;exact⟨_,h2⟩
theorem jc.xL {B base:Nat} {a:nK} {a_:List(Bool×Int×Int)} {aH aR:List(Int×ByteArray)} {aN:List Int} {W:World}(h:jc B base a a_ aH aR aN W) {k:Nat}(hk:iW B a k):∃o,W.heap[k]?=some o∧Go.Proofs.YtakaadcpaeiccabGreat.xL o∧(∀c,o≠ .cells c 131(0,0))∧∀es cl,o≠ .map es cl:=by
 rcases hk with rfl|hk|hk|hk|hk
 ·exact⟨_,h.blk,X6 a,fun c e=>(by cases e),fun c d e=>(by cases e)⟩
 ·obtain⟨c,hc⟩:=aP h.mZ hk;exact⟨_,hc,⟨fun c e=>(by cases e),fun c e=>(by cases e),fun c e=>(by cases e)⟩,fun c e=>(by cases e),fun c d e=>(by cases e)⟩
 ·obtain⟨c,hc⟩:=aP h.aI hk;exact⟨_,hc,⟨fun c e=>(by cases e),fun c e=>(by cases e),fun c e=>(by cases e)⟩,fun c e=>(by cases e),fun c d e=>(by cases e)⟩
 ·obtain⟨c,hc⟩:=aP h.bH hk;exact⟨_,hc,⟨fun c e=>(by cases e),fun c e=>(by cases e),fun c e=>(by cases e)⟩,fun c e=>(by cases e),fun c d e=>(by cases e)⟩
 ·obtain⟨c,hc⟩:=aP h.bI hk;exact⟨_,hc,⟨fun c e=>(by cases e),fun c e=>(by cases e),fun c e=>(by cases e)⟩,fun c e=>(by cases e),fun c d e=>(by cases e)⟩
open Go.WideMaps Go.WideShapes
theorem Ze:(261:TypeId)<Tryz.prog.types.size:=of_decide_eq_true(by kernel_rfl)
theorem Vl:laidOutB Tryz.prog=true:=by kernel_rfl
theorem Km:(match Tryz.prog.underlying 261 with|some(.array _ _)|some(.struct _)=>true|_=>false)=true:=by kernel_rfl
theorem Zf:Tryz.prog.keyTypeAt 2 261=true:=by kernel_rfl
theorem Vm:KeyLaw Tryz.prog 261:=deep_law_laid Vl(m:=2)(by omega)Ze Zf Km
theorem qh:Keyed Tryz.prog 261:=Keyed.of_law Vm
theorem Vn(w:World):(zeroValue 279).run Tryz.prog w=.ok(.agg #[.int .u64 0,.int .i64 0])w:=by kernel_rfl
def gU(q:Int×Int):Lit:=.string(keyBytes [.int .u32 q.1,.int .u32 q.2])
def jr(q:Int×Int):Value:=.agg #[.int .u32 q.1,.int .u32 q.2]
def wo(m:Int×Int):Value:=.agg #[.int .u64 m.1,.int .i64 m.2]
def GY(m:Int×Int):DataW Unit:=.agg [.lit(.int .u64 m.1),.lit(.int .i64 m.2)]
def Dt(v:Value):Option(DataW Unit×List MemPlace):=
 match v with
 | .agg cs=>match cs.toList with
  | [.int .u64 t,.int .i64 n]=>some(.agg [.lit(.int .u64 t),.lit(.int .i64 n)],[])
  |_=>none
 |_=>none
theorem Dr(m:Int×Int):Dt(wo m)=some(GY m,[]):=rfl
theorem FR {v:Value} {y:DataW Unit×List MemPlace}(h:Dt v=some y):∃m,v=wo m∧y=(GY m,[]):=by
 unfold Dt at h;split at h
 ·rename_i cs;split at h
  ·rename_i t n hl;obtain⟨l⟩:=cs;simp only at hl;subst hl;exact⟨(t,n),rfl,(Option.some.inj h).symm⟩
  ·cases h
 ·cases h
theorem GX {a b:Int×Int}(h:GY a=GY b):a=b:=by
 unfold GY at h;simp only [DataW.agg.injEq,List.cons.injEq,DataW.lit.injEq,Lit.int.injEq,true_and,and_true]at h;exact Prod.ext h.1 h.2
def vC(q:Int×Int):Prop:=bg q.1∧bg q.2
theorem RD {q:Int×Int}(h:vC q):keyOf Tryz.prog 261(jr q)=some(gU q):=by
 obtain⟨m,hm⟩:∃m,Tryz.prog.types.size=m+1:=⟨Tryz.prog.types.size - 1,by kernel_rfl⟩;have hkt:Tryz.prog.keyType 261=true:=by kernel_rfl
 have hc:Tryz.prog.cellsOf 261=2:=by kernel_rfl
 have h32:Tryz.prog.cellsOf 34=1:=by kernel_rfl
 have wa:(Lit.int .u32 q.1).wf=true:=h.1.wf;have wb:(Lit.int .u32 q.2).wf=true:=h.2.wf;unfold keyOf jr gU;simp only [Tryz.underlying261];rw [if_pos(by simp [hkt,Value.formed,Tryz.underlying261,hc]),hm];unfold Program.keyLits;simp only [Tryz.underlying261,Value.cells];rw [if_pos(by rw [hc];exact⟨rfl,by simp⟩)];simp [List.mapM_cons,List.mapM_nil,Program.keyLits,h32,Tryz.underlying34,wa,wb]
theorem F8 {v:Value} {l:Lit}(h:keyOf Tryz.prog 261 v=some l):∃q,v=jr q∧vC q∧l=gU q:=by
 obtain⟨xs,L,rfl,hL,hl⟩:=keyOf_top Km h;obtain⟨m,hm⟩:∃m,Tryz.prog.types.size=m+1:=⟨Tryz.prog.types.size - 1,by kernel_rfl⟩;have hc:Tryz.prog.cellsOf 261=2:=by kernel_rfl
 have h32:Tryz.prog.cellsOf 34=1:=by kernel_rfl
 unfold Program.keyLits at hL;simp only [Tryz.underlying261]at hL;split at hL
 ·rename_i hs;obtain⟨zs⟩:=xs
  match zs,hs with
  | [c0,c1],_=>
   simp [List.mapM_cons,List.mapM_nil,h32]at hL;obtain⟨l0,h0,hL⟩:=Option.bind_eq_some_iff.1 hL;simp only [Function.pE,Option.map_eq_some_iff,Option.bind_eq_some_iff,Option.some.injEq]at hL;obtain⟨_,⟨_,⟨l1,h1,rfl⟩,rfl⟩,rfl⟩:=hL;have w0:=keyLits_wf h0;have w1:=keyLits_wf h1;obtain⟨n0,e0,rfl⟩:=keyLits_int' Tryz.underlying34 h0;obtain⟨n1,e1,rfl⟩:=keyLits_int' Tryz.underlying34 h1;simp only [List.cons.injEq,and_true]at e0 e1;subst e0 e1;have b0:=w0 _(List.mem_singleton.2 rfl);have b1:=w1 _(List.mem_singleton.2 rfl);have d0:=bounds_u32 b0;have d1:=bounds_u32 b1;exact⟨(n0,n1),rfl,⟨⟨d0.1,by dsimp only;omega⟩,⟨d1.1,by dsimp only;omega⟩⟩,hl⟩
 ·cases hL
theorem uz {a b:Int×Int}(ha:vC a)(hb:vC b)(h:gU a=gU b):a=b:=by
 have h1:=RD ha;rw [h]at h1;have:=qh.inj h1(RD hb);unfold jr at this;simp only [Value.agg.injEq,Array.mk.injEq,List.cons.injEq,Value.int.injEq,true_and,and_true]at this;exact Prod.ext this.1 this.2
theorem QJ(q:Int×Int):WideAt.IsKeyLit(gU q):=by trivial
def qg(g:Int×Int→Option(Int×Int))(k:Int×Int)(v:Option(Int×Int)):Int×Int→Option(Int×Int):=fun x=>if x=k then v else g x
def kL(W:World)(M:Nat)(g:Int×Int→Option(Int×Int))(s:Nat):Prop:=
 ∃D:DataW Unit,W.ownsMap Tryz.prog 261 Dt M s D∧Maps.size D=s∧
  ∀k,vC k→Maps.has D(gU k)=(g k).isSome∧D.atKey(gU k)(GY(0,0))=GY((g k).getD(0,0))
theorem kL.block {W W':World} {M:Nat} {g:Int×Int→Option(Int×Int)} {s:Nat}(h:kL W M g s)(he:W'.heap[M]?=W.heap[M]?):kL W' M g s:=by
 obtain⟨D,⟨es,clock,hb,Ft,hs,hD⟩,h2,h3⟩:=h;exact⟨D,⟨es,clock,he.trans hb,Ft,hs,hD⟩,h2,h3⟩
theorem kL.lt {W:World} {M:Nat} {g:Int×Int→Option(Int×Int)} {s:Nat}(h:kL W M g s):M<W.heap.size:=by
 obtain⟨D,h1,_⟩:=h;exact h1.lt
theorem kL.obj {W:World} {M:Nat} {g:Int×Int→Option(Int×Int)} {s:Nat}(h:kL W M g s):∃es cl,W.heap[M]?=some(.map es cl):=by
 obtain⟨D,⟨es,cl,hm,_⟩,_⟩:=h;exact⟨es,cl,hm⟩
theorem kL.made(w:World):kL(w.alloc(.map #[]0))w.heap.size(fun _=>none)0:=
 ⟨.map [],World.ownsMap_made w _ _ _,rfl,fun _ _=>⟨rfl,rfl⟩⟩
theorem kL.put {W:World} {M:Nat} {g:Int×Int→Option(Int×Int)} {s:Nat}(h:kL W M g s)(hs:s<maxLen) {k:Int×Int}(hk:vC k)(m:Int×Int):
  ∃W',(Instr.mapUpdate 111(.map(some M))(jr k)(wo m)).run Tryz.prog W=.ok()W'∧kL W' M(qg g k(some m))(if(g k).isSome then s else s+1)∧W.grownBy W'(some M):=by
 obtain⟨D,h1,h2,h3⟩:=h;obtain⟨W',hr,ho,ht⟩:=h1.store qh Tryz.underlying111 hs(RD hk)(Dr m);have hm:=h1.isMap;have htd:=h1.tidy qh;have hkl:=QJ k;have hsz:Maps.size(D.put(gU k)(GY m))=if(g k).isSome then s else s+1:=by
  rw [size_put htd,(h3 k hk).1,h2]
 refine⟨W',hr,⟨_,?_,hsz,fun x hx=> ?_⟩,ht.grown⟩
 ·have:=fD ho;rw [hsz]at this;exact this
 ·by_cases e:x=k
  ·subst e;refine⟨by rw [has_put_same hm hkl];simp [qg],?_⟩;rw [atKey_put_same hm hkl];simp [qg]
  ·have hne:gU x≠gU k:=fun h=>e(uz hx hk h);refine⟨by rw [has_put_other hne];simp [qg,e,(h3 x hx).1],?_⟩;rw [atKey_put_other hne,(h3 x hx).2];simp [qg,e]
theorem kL.look {W:World} {M:Nat} {g:Int×Int→Option(Int×Int)} {s:Nat}(h:kL W M g s) {k:Int×Int}(hk:vC k):
  (Instr.lookup 111(.map(some M))(jr k)false).run Tryz.prog W=.ok(wo((g k).getD(0,0)))W:=by
 obtain⟨D,h1,h2,h3⟩:=h;obtain⟨v,ps,hr,hv⟩:=h1.lookup qh Tryz.underlying111(Vn W)(Dr(0,0))(RD hk);have h4:=(h3 k hk).2;rw [h4]at hv;obtain⟨m,rfl,he⟩:=FR hv;have:=GX(Prod.adT.1 he).1;rw [hr,←this]
theorem kL.del {W:World} {M:Nat} {g:Int×Int→Option(Int×Int)} {s:Nat}(h:kL W M g s) {k:Int×Int}(hk:vC k)(ty:TypeId)(hf:(g k).isSome=true):
  ∃W',(Builtin.delete_ #[111,261]ty #[.map(some M),jr k]).run Tryz.prog W=.ok(.tuple #[])W'∧kL W' M(qg g k none)(s - 1)∧W.grownBy W'(some M):=by
 obtain⟨D,h1,h2,h3⟩:=h;obtain⟨W',hr,ho,ht⟩:=h1.drop qh Tryz.underlying111(RD hk)ty;have htd:=h1.tidy qh;have hsz:Maps.size(D.del(gU k))=s - 1:=by
  have:=size_del(k:=gU k)htd;rw [(h3 k hk).1,hf,h2]at this;simp at this;omega
 refine⟨W',hr,⟨_,?_,hsz,fun x hx=> ?_⟩,ht.grown⟩
 ·have:=fD ho;rw [hsz]at this;exact this
 ·by_cases e:x=k
  ·subst e;refine⟨by rw [has_del_same];simp [qg],?_⟩;rw [atKey_del_same];simp [qg]
  ·have hne:gU x≠gU k:=fun h=>e(uz hx hk h);refine⟨by rw [has_del_other hne];simp [qg,e,(h3 x hx).1],?_⟩;rw [atKey_del_other hne,(h3 x hx).2];simp [qg,e]
theorem kL.len {W:World} {M:Nat} {g:Int×Int→Option(Int×Int)} {s:Nat}(h:kL W M g s)(ty:TypeId):
  (Builtin.len_ #[111]ty #[.map(some M)]).run Tryz.prog W=.ok(.int .i64 s)W:=by
 obtain⟨D,h1,h2,h3⟩:=h;rw [h1.len Tryz.underlying111 ty,h2]
structure Ep(N:Nat)(x:lF)(M:Nat)(ff:Int→Option Nat)(gg:Int→Value)(A:List Rt)(f:Int→Option Int)(sz:Nat)(W:World):Prop where
 nd:ib N x W
 mo:MapU W x.Mo f sz
 tb:MT x.self x.T M ff gg A W
 ne:M≠x.Mo
theorem Ep.later {N:Nat} {x:lF} {M:Nat} {ff:Int→Option Nat} {gg:Int→Value} {A:List Rt} {f:Int→Option Int} {sz:Nat} {W W':World}(h:Ep N x M ff gg A f sz W)(hb:Below W.heap.size W W'):Ep N x M ff gg A f sz W':=
 ⟨h.nd.later hb,h.mo.block(hb.block _ h.mo.lt),h.tb.kept fun k hk=>hb.block k(h.tb.lt hk),h.ne⟩
theorem Ya(L:List(Bool×Int×Int)):∀u∈RC L,u.oneCell'=true:=JZ L
theorem Ep.kept {N:Nat} {x:lF} {M:Nat} {ff:Int→Option Nat} {gg:Int→Value} {A:List Rt} {f:Int→Option Int} {sz:Nat} {W W':World}(h:Ep N x M ff gg A f sz W) {S:Nat→Prop}(hf:Fx S W W')(hS:∀k,S k→k<W.heap.size→∃o,W.heap[k]?=some o∧xL o∧(∀c,o≠ .cells c 131(0,0))∧∀es cl,o≠ .map es cl):Ep N x M ff gg A f sz W':=by
 have hM:∀k,S k→k<W.heap.size→k≠M∧k≠x.Mo∧k≠N:=by
  intro k hk hlt;obtain⟨o,h1,_,h3,h4⟩:=hS k hk hlt;refine⟨?_,?_,?_⟩
  ·rintro rfl;obtain⟨D,⟨es,cl,hm,_⟩,_⟩:=h.tb.map;rw [hm]at h1;exact h4 _ _(Option.some.inj h1).symm
  ·rintro rfl;obtain⟨es,cl,hm⟩:=h.mo.obj;rw [hm]at h1;exact h4 _ _(Option.some.inj h1).symm
  ·rintro rfl;rw [show W.heap[k]?=_ from h.nd]at h1;exact h3 _(Option.some.inj h1).symm
 refine⟨h.nd.block(hf.block _ h.nd.lt fun e=>(hM _ e h.nd.lt).2.2 rfl),h.mo.block(hf.block _ h.mo.lt fun e=>(hM _ e h.mo.lt).2.1 rfl),h.tb.Jg hf fun k hk hlt=> ?_,h.ne⟩;obtain⟨o,h1,h2,_⟩:=hS k hk hlt;exact⟨(hM k hk hlt).1,o,h1,h2⟩
theorem vD(N B base:Nat)(x:lF)(a:nK)(M:Nat)(ff:Int→Option Nat)(gg:Int→Value)(A:List Rt)(f:Int→Option Int)(sz:Nat)(a_:List(Bool×Int×Int))(aH aR:List(Int×ByteArray))(aN:List Int)(w:World)
  (hn:Ep N x M ff gg A f sz w)(ha:jc B base a a_ aH aR aN w)(hbs:base≤w.heap.size)(hcnt:0≤x.cnt∧x.cnt≤1000000)(hsz:sz≤1000000)(hnw:a_.length≤90000):
  Calls Tryz.prog 71 #[.pointer(some⟨N,0,none⟩),.pointer(some⟨B,0,none⟩)]w fun e w'=>∃v7 qZ,e=.returned(.tuple #[])∧Ep N {x with own:=Dp x.seq x.own,cnt:=x.cnt+(bE x.seq x.own f A).2.length}M ff gg A(bE x.seq x.own f A).1 qZ w'∧qZ≤sz+8∧jc B base {a with mZ:=v7}(a_++(bE x.seq x.own f A).2)aH aR aN w'∧Fx(fun k=>k=N∨k=x.Mo∨iW B a k)w w':=by
 obtain⟨i0,hi,hz0,hz1,hz2⟩:=info_parts qE;have hlen:=hn.tb.len;have hok:=hn.tb.ok;have hPl:=nT x.seq x.own f A
 let P5:Value→List(Rt×Value)→World→Prop:=fun l L W=>L.map(·.1)=A∧nJ w.heap.size l L W∧Below w.heap.size w W
 have HL:Hid(∀W',Below w.heap.size w W'→Calls Tryz.prog 60 #[.pointer(some⟨x.T,0,none⟩)]W' fun e w5=>∃ao n c L,e=.returned(.slice ao n c)∧P5(.slice ao n c)L w5):=by
  intro W' hb;refine(Hu(hn.later hb).tb).mono ?_;rintro e w5⟨v,L,rfl,h1,h2,h3⟩;obtain⟨ao,c,rfl,_⟩:=ak h2.row;exact⟨ao,_,c,L,rfl,h1,⟨ownsRow_base_a h2.row hb.size,fun p hp=>ownsRow_base_a(h2.bB p hp)hb.size⟩,hb.trans(h3.mono hb.size)⟩
 let P6:Value→World→Prop:=fun v W=>W.ownsRow w.heap.size 82 3 v(bE x.seq x.own f A).2.length(RC(bE x.seq x.own f A).2)∧(∃qZ,Ep N {x with own:=Dp x.seq x.own,cnt:=x.cnt+(bE x.seq x.own f A).2.length}M ff gg A(bE x.seq x.own f A).1 qZ W∧qZ≤sz+8)∧jc B base a a_ aH aR aN W∧Fx(fun k=>k=N∨k=x.Mo)w W
 have HN:Hid(∀l L W',P5 l L W'→Calls Tryz.prog 104 #[.pointer(some⟨N,10,none⟩),.int .u32 x.seq,l]W' fun e w6=>∃ao n c,e=.returned(.slice ao n c)∧P6(.slice ao n c)w6):=by
  rintro l L W'⟨h1,h2,hb⟩;have hn':=hn.later hb;have ha':=ha.later hb;refine(Rf N x x.seq f sz l L A h1 hok hlen hcnt hsz W' hn'.nd hn'.mo⟨ownsRow_base_a h2.row(Nat.zero_le _),fun p hp=>ownsRow_base_a(h2.bB p hp)(Nat.zero_le _)⟩).mono ?_;rintro e w6⟨v,qZ,rfl,k1,k2,k3,k4,k5⟩;obtain⟨ao,c,rfl,_⟩:=ak k1;refine⟨ao,_,c,rfl,ownsRow_base_a k1 hb.size,⟨qZ,⟨k2,k3,hn'.tb.Jg k5 ?_,hn.ne⟩,k4⟩,ha'.kept fun k hk=>k5.block k(ha'.lt hk) ?_,(Fx.below hb).trans(S':=fun k=>k=N∨k=x.Mo)k5(fun i _ h=>h)⟩
  ·rintro k(rfl|rfl)_
   ·refine⟨fun e=> ?_,_,hn'.nd,rz x⟩;obtain⟨D,⟨es,cl,hm,_⟩,_⟩:=hn'.tb.map;rw [←e,show W'.heap[k]?=_ from hn'.nd]at hm;cases hm
   ·obtain⟨es,cl,hm⟩:=hn'.mo.obj;exact⟨Ne.symm hn.ne,_,hm,uH es cl⟩
  ·rintro(rfl|rfl)
   ·exact ha'.not hn'.nd(Ld x)hk
   ·obtain⟨es,cl,hm⟩:=hn'.mo.obj;exact ha'.not hm(uI es cl)hk
 have H5:Hid(∀l L W,P5 l L W→W.cell?⟨B,1,none⟩=some a.mZ∧W.cell?⟨N,3,none⟩=some(.int .u32 x.seq)∧W.cell?⟨N,7,none⟩=some(.pointer(some⟨x.T,0,none⟩))):=by
  rintro l L W⟨_,_,hb⟩;exact⟨(ha.later hb).blk.cell.2.1,(hn.later hb).nd.cell.2.2.1,(hn.later hb).nd.cell.2.2.2.2.1⟩
 have H6:Hid(∀v W,P6 v W→W.cell?⟨B,1,none⟩=some a.mZ∧W.ownsRow base 82 3 a.mZ a_.length(RC a_)∧W.ownsRow w.heap.size 82 3 v(bE x.seq x.own f A).2.length(RC(bE x.seq x.own f A).2)∧base≤W.heap.size):=by
  rintro v W⟨h1,_,h3,h4⟩;exact⟨h3.blk.cell.2.1,h3.mZ,h1,Nat.le_trans hbs h4.size⟩
 have HF:Hid(∀v W v7 W7,P6 v W→W7.ownsRow base 82 3 v7(a_.length+(bE x.seq x.own f A).2.length)(RC a_++RC(bE x.seq x.own f A).2)→W.grownBy W7 a.mZ.ownBlock→(W7.cell?⟨B,1,none⟩=some a.mZ∧W7.frozen?⟨B,1,none⟩=false)∧∃qZ,Ep N {x with own:=Dp x.seq x.own,cnt:=x.cnt+(bE x.seq x.own f A).2.length}M ff gg A(bE x.seq x.own f A).1 qZ(W7.setCell⟨B,1,none⟩v7)∧qZ≤sz+8∧jc B base {a with mZ:=v7}(a_++(bE x.seq x.own f A).2)aH aR aN(W7.setCell⟨B,1,none⟩v7)∧Fx(fun k=>k=N∨k=x.Mo∨iW B a k)w(W7.setCell⟨B,1,none⟩v7)):=by
  rintro v W v7 W7⟨h1,⟨qZ,h2,h2'⟩,h3,h4⟩gP hg;have hBr:a.mZ.ownBlock≠some B:=aA h3.mZ h3.blk(fun c e=>(by cases e));have fG:ou B a W7:=h3.blk.block(hg.block _ h3.blk.lt(fun e=>hBr e.symm));have hg2:W7.grownBy(W7.setCell⟨B,1,none⟩v7)(some B):=aa(aC _(some B))1 v7;have hfx:Fx(iW B a)W(W7.setCell⟨B,1,none⟩v7):=aT(Fx.grown hg fun k e=> .inr(.inl e))hg2 fun i _ e=>by cases e;exact .inl rfl
  have f1:=h3.aI.kept hg(bX h3.aI h3.mZ(by decide));have f2:=h3.bH.kept hg(bX h3.bH h3.mZ(by decide));have f3:=h3.bI.kept hg(bX h3.bI h3.mZ(by decide));refine⟨⟨fG.cell.2.1,fG.free 1⟩,qZ,h2.kept hfx(fun k hk _=>h3.xL hk),h2',⟨fG.Qr v7,?_,?_,?_,?_⟩,(h4.mono(fun i h=> ?_)).trans hfx(fun i _ h=> .inr(.inr h))⟩
  ·rw [List.length_append,kK];exact gP.kept hg2(.inr(aA gP fG(fun c e=>(by cases e))))
  ·exact f1.kept hg2(.inr(aA f1 fG(fun c e=>(by cases e))))
  ·exact f2.kept hg2(.inr(aA f2 fG(fun c e=>(by cases e))))
  ·exact f3.kept hg2(.inr(aA f3 fG(fun c e=>(by cases e))))
  ·rcases h with h|h
   ·exact .inl h
   ·exact .inr(.inl h)
 YZ P5 P6
 obtain⟨c0,c1,c2,c3,c4,c5,c6⟩:=ha.blk.cell;obtain⟨n0,n2,n3,n4,n5,n6,n7,n8,n9,n10⟩:=hn.nd.cell;clear hn ha;go_enter Tryz.func71,Tryz.ntmps71
 go_wp2_with fail
 go_region_law(first
  |(go_simp;go_at_call 60;refine(HL.out _(by first|exact Below.refl _ _|exact(Below.refl _ _).drew|exact below_drewN(Below.refl _ _)_)).mono ?_;rintro e w5⟨ao5,n5,cc5,L5,rfl,vW⟩;obtain⟨d1,d2,d3⟩:=H5.out _ _ _ vW)
  |(go_simp;go_at_call 104;refine(HN.out _ _ _ vW).mono ?_;rintro e w6⟨ao6,n6,cc6,rfl,Ii⟩;obtain⟨e1,e2,e3,e4⟩:=H6.out _ _ Ii)
  |(refine kr rfl(.tmp 8)(.tmp 21)79 rfl base 82 i0(.agg #[.bool false,.int .u32 0,.int .u32 0])3 12 Tryz.underlying79 hi hz0 hz1 hz2 rfl(by decide)a.mZ a_.length(RC a_)(by simp [Act.eval])e2 w.heap.size(.slice ao6 n6 cc6)_(RC(bE x.seq x.own f A).2)(by simp [Act.eval])e3(Ya _)(by unfold maxLen;omega)(by omega)e4 ?_;intro v7 w7 gP eu;obtain⟨⟨g1,g2⟩,hfin⟩:=HF.out _ _ _ _ Ii gP eu;obtain⟨PS,TW,rfl,_⟩:=ak gP))
 all_goals
  obtain⟨qZ,k1,k2,k3,k4⟩:=hfin;generalize World.setCell _ _ _=w8 at k1 k3 k4 ⊢;clear d1 d2 d3 e1 e2 e3 e4 g1 g2 eu gP;go_wp2
  go_returns
  exact⟨_,_,rfl,k1,k2,k3,k4⟩
end Go.Proofs.YtakaadcpaeiccabGreat
