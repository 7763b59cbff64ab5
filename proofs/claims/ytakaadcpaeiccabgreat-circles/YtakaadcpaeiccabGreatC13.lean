import Derived.Deep.RegionLaw
import Derived.Test.YtakaadcpaeiccabGreatC12
import Derived.Deep.CutRange
set_option maxHeartbeats 4000000
set_option maxRecDepth 100000
namespace Go.Proofs.YtakaadcpaeiccabGreat
open Go.RowKit
theorem xG {P:Program} {ops:Array Oper} {o:Oper} {a:Act} {w:World} {K:Act→World→Prop} {Q:Exit→Act→World→Prop} {E:Prop}
  (hg:o.guard=none)(s x:Operand)(t:TypeId)(hop:o.op=Op.call {callee:=Callee.builtin Builtin.append,args:=#[s,x],argTypes:=#[t,t]})
  (base:Nat)(e:TypeId)(i:TypeInfo)(z:Value)(size bytes:Nat)(h1:P.underlying t=some(.slice e))(h2:P.info? e=some i)(h3:i.zero=some z)(h4:i.size=size)(h5:i.bytes=bytes)(h6:z.cells.size=size)(h7:0<size)
  (v:Value)(n:Nat)(xs:List Value)(hs:a.eval s=v)(hown:w.ownsRow base e size v n xs)
  (ad:Addr)(m c:Nat)(news:List Value)(hx:a.eval x=.slice(some ad)m c)(hn:news.length=m * size)(hc:∀j u,news[j]?=some u→w.cell?(ad.add j)=some u)(h1c:∀u∈news,u.oneCell'=true)
  (b1:n+m≤maxLen)(b2:(n+m)* bytes≤140737488355328)(hbase:base≤w.heap.size)
  (hK:∀v' w',w'.ownsRow base e size v'(n+m)(xs++news)→w.grownBy w' v.ownBlock→K(a.put o.dst v')w'):
  if Region.wanted o(yielded ops a.tmps)=true then Oper.wp P o a w K Q else E:=by
 have hw:Region.wanted o(yielded ops a.tmps)=true:=by simp [Region.wanted,hg]
 rw [if_pos hw];obtain⟨v',w',hrun,r1,r2,_⟩:=run_append_own(P:=P)w base t o.type e i z size bytes h1 h2 h3 h4 h5 h6 h7 v n xs hown ad m c news hn hc h1c b1 b2 hbase;unfold Oper.wp;simp [execOp,hop,resolve,invoke,builtin,hs,hx,hrun,Result.andThen];exact hK v' w' r1 r2
theorem gz {P:Program} {ops:Array Oper} {o:Oper} {a:Act} {w:World} {K:Act→World→Prop} {Q:Exit→Act→World→Prop} {E:Prop}
  (hg:o.guard=none)(s x:Operand)(t:TypeId)(hop:o.op=Op.call {callee:=Callee.builtin Builtin.append,args:=#[s,x],argTypes:=#[t,t]})
  (base:Nat)(e:TypeId)(i:TypeInfo)(z:Value)(size bytes:Nat)(h1:P.underlying t=some(.slice e))(h2:P.info? e=some i)(h3:i.zero=some z)(h4:i.size=size)(h5:i.bytes=bytes)(h6:z.cells.size=size)(h7:0<size)
  (v:Value)(n:Nat)(xs:List Value)(hs:a.eval s=v)(hown:w.ownsRow base e size v n xs)
  (ad:Addr)(m c:Nat)(news:List Value)(hx:a.eval x=.slice(some ad)m c)(hn:news.length=m * size)(hc:∀j u,news[j]?=some u→w.cell?(ad.add j)=some u)(h1c:∀u∈news,u.oneCell'=true)
  (b1:n+m≤maxLen)(b2:(n+m)* bytes≤140737488355328)(hbase:base≤w.heap.size)
  (hK:∀v' w',w'.ownsRow base e size v'(n+m)(xs++news)→w.grownBy w' v.ownBlock→(v'.ownBlock=v.ownBlock∨v'.ownBlock=some w.heap.size)→K(a.put o.dst v')w'):
  if Region.wanted o(yielded ops a.tmps)=true then Oper.wp P o a w K Q else E:=by
 have hw:Region.wanted o(yielded ops a.tmps)=true:=by simp [Region.wanted,hg]
 rw [if_pos hw];obtain⟨v',w',hrun,r1,r2,_,r3⟩:=run_append_own_at(P:=P)w base t o.type e i z size bytes h1 h2 h3 h4 h5 h6 h7 v n xs hown ad m c news hn hc h1c b1 b2 hbase;unfold Oper.wp;simp [execOp,hop,resolve,invoke,builtin,hs,hx,hrun,Result.andThen];exact hK v' w' r1 r2 r3
open Go.Maps
theorem MapU.look_ok {W:World} {M:Nat} {f:Int→Option Int} {s:Nat}(h:MapU W M f s) {k:Int}(hk:bg k):
  (Instr.lookup 115(.map(some M))(.int .u32 k)true).run Tryz.prog W=.ok(.tuple #[.int .u32((f k).getD 0),.bool(f k).isSome])W:=by
 obtain⟨D,h1,h2,h3⟩:=h;obtain⟨v,ps,hr,hv⟩:=h1.look_ok fF Tryz.underlying115(Kk W)(plainElem_int Tryz.underlying34(by decide))hk.key;obtain⟨c,rfl,he,_⟩:=plainElem_int_inv Tryz.underlying34 hv;rw [(h3 k hk).2]at he;simp at he;rw [hr,he.1,(h3 k hk).1]
theorem MapU.block {W W':World} {M:Nat} {f:Int→Option Int} {s:Nat}(h:MapU W M f s)(he:W'.heap[M]?=W.heap[M]?):MapU W' M f s:=by
 obtain⟨D,⟨es,clock,hb,Ft,hs,hD⟩,h2,h3⟩:=h;exact⟨D,⟨es,clock,he.trans hb,Ft,hs,hD⟩,h2,h3⟩
theorem MapU.obj {W:World} {M:Nat} {f:Int→Option Int} {s:Nat}(h:MapU W M f s):∃es cl,W.heap[M]?=some(.map es cl):=by
 obtain⟨D,⟨es,cl,hm,_⟩,_⟩:=h;exact⟨es,cl,hm⟩
structure lF where
 lk:Int
 self:Int
 seq:Int
 bZ:Int
 T:Nat
 Ms:Nat
 tn:Int
 own:Int
 Mo:Nat
 cnt:Int
 dz:Int
 eF:Int
 qf:Nat
 Tm:Nat
 pc:Value
@[reducible] def nU (x : lF) : Obj := .cells #[.int .i32 x.lk, .int .u32 0, .int .u32 x.self, .int .u32 x.seq, .int .u64 x.bZ, .int .u32 x.dz, .int .u32 x.eF, .pointer (some ⟨x.T, 0, none⟩), .map (some x.Ms), .int .i64 x.tn, .int .u32 x.own, .map (some x.Mo), .int .i64 x.cnt, .map (some x.qf), .pointer (some ⟨x.Tm, 0, none⟩), x.pc] 131
def ib(N:Nat)(x:lF)(W:World):Prop:=W.heap[N]?=some(nU x)
theorem ib.cell {N:Nat} {x:lF} {W:World}(h:ib N x W):
  W.cell?⟨N,0,none⟩=some(.int .i32 x.lk)∧W.cell?⟨N,2,none⟩=some(.int .u32 x.self)∧W.cell?⟨N,3,none⟩=some(.int .u32 x.seq)∧W.cell?⟨N,4,none⟩=some(.int .u64 x.bZ)∧W.cell?⟨N,7,none⟩=some(.pointer(some⟨x.T,0,none⟩))∧
  W.cell?⟨N,8,none⟩=some(.map(some x.Ms))∧W.cell?⟨N,9,none⟩=some(.int .i64 x.tn)∧W.cell?⟨N,10,none⟩=some(.int .u32 x.own)∧W.cell?⟨N,11,none⟩=some(.map(some x.Mo))∧W.cell?⟨N,12,none⟩=some(.int .i64 x.cnt):=
 ⟨cell_of_row W N 0 _ _ _ h,cell_of_row W N 2 _ _ _ h,cell_of_row W N 3 _ _ _ h,cell_of_row W N 4 _ _ _ h,cell_of_row W N 7 _ _ _ h,cell_of_row W N 8 _ _ _ h,cell_of_row W N 9 _ _ _ h,cell_of_row W N 10 _ _ _ h,cell_of_row W N 11 _ _ _ h,cell_of_row W N 12 _ _ _ h⟩
theorem ib.more {N:Nat} {x:lF} {W:World}(h:ib N x W):
  W.cell?⟨N,5,none⟩=some(.int .u32 x.dz)∧W.cell?⟨N,6,none⟩=some(.int .u32 x.eF)∧W.cell?⟨N,13,none⟩=some(.map(some x.qf))∧W.cell?⟨N,14,none⟩=some(.pointer(some⟨x.Tm,0,none⟩))∧W.cell?⟨N,15,none⟩=some x.pc:=
 ⟨cell_of_row W N 5 _ _ _ h,cell_of_row W N 6 _ _ _ h,cell_of_row W N 13 _ _ _ h,cell_of_row W N 14 _ _ _ h,cell_of_row W N 15 _ _ _ h⟩
theorem ib.free {N:Nat} {x:lF} {W:World}(h:ib N x W)(i:Nat):W.frozen?⟨N,i,none⟩=false:=by
 unfold World.frozen?;rw [show W.heap[(⟨N,i,none⟩:Addr).block]?=some(nU x)from h];try rfl
theorem ib.lt {N:Nat} {x:lF} {W:World}(h:ib N x W):N<W.heap.size:=(Array.getElem?_eq_some_iff.1 h).1
theorem ib.block {N:Nat} {x:lF} {W W':World}(h:ib N x W)(he:W'.heap[N]?=W.heap[N]?):ib N x W':=he.trans h
theorem ib.later {N:Nat} {x:lF} {W W':World}(h:ib N x W)(hb:Below W.heap.size W W'):ib N x W':=h.block(hb.block N h.lt)
theorem ib.kept {N:Nat} {x:lF} {W W':World} {r:Option Nat}(h:ib N x W)(hg:W.grownBy W' r)(hr:r≠some N):ib N x W':=h.block(hg.block N h.lt(fun e=>hr e.symm))
theorem ib.j_ {N:Nat} {x:lF} {W:World}(h:ib N x W)(v:Int):ib N {x with lk:=v}(W.setCell⟨N,0,none⟩(.int .i32 v)):=by
 unfold ib at h ⊢;simp [World.setCell,Array.getElem?_modify,h]
theorem ib.Qp {N:Nat} {x:lF} {W:World}(h:ib N x W)(v:Int):ib N {x with seq:=v}(W.setCell⟨N,3,none⟩(.int .u32 v)):=by
 unfold ib at h ⊢;simp [World.setCell,Array.getElem?_modify,h]
theorem ib.Qo {N:Nat} {x:lF} {W:World}(h:ib N x W)(v:Int):ib N {x with bZ:=v}(W.setCell⟨N,4,none⟩(.int .u64 v)):=by
 unfold ib at h ⊢;simp [World.setCell,Array.getElem?_modify,h]
theorem ib.abQ {N:Nat} {x:lF} {W:World}(h:ib N x W)(v:Int):ib N {x with tn:=v}(W.setCell⟨N,9,none⟩(.int .i64 v)):=by
 unfold ib at h ⊢;simp [World.setCell,Array.getElem?_modify,h]
theorem ib.Zt {N:Nat} {x:lF} {W:World}(h:ib N x W)(v:Int):ib N {x with own:=v}(W.setCell⟨N,10,none⟩(.int .u32 v)):=by
 unfold ib at h ⊢;simp [World.setCell,Array.getElem?_modify,h]
theorem ib.Qs {N:Nat} {x:lF} {W:World}(h:ib N x W)(v:Int):ib N {x with cnt:=v}(W.setCell⟨N,12,none⟩(.int .i64 v)):=by
 unfold ib at h ⊢;simp [World.setCell,Array.getElem?_modify,h]
theorem ib.VS {N:Nat} {x:lF} {W:World}(h:ib N x W)(v:Int):ib N {x with dz:=v}(W.setCell⟨N,5,none⟩(.int .u32 v)):=by
 unfold ib at h ⊢;simp [World.setCell,Array.getElem?_modify,h]
theorem ib.VT {N:Nat} {x:lF} {W:World}(h:ib N x W)(v:Int):ib N {x with eF:=v}(W.setCell⟨N,6,none⟩(.int .u32 v)):=by
 unfold ib at h ⊢;simp [World.setCell,Array.getElem?_modify,h]
theorem ib.abT {N:Nat} {x:lF} {W:World}(h:ib N x W)(v:Value):ib N {x with pc:=v}(W.setCell⟨N,15,none⟩v):=by
 unfold ib at h ⊢;simp [World.setCell,Array.getElem?_modify,h]
def rT(f:Int→Option Int)(x:Rt):Bool:=!(f x.dest).isSome||decide(x.seq>(f x.dest).getD 0)
def iY(st:(Int→Option Int)×List(Bool×Int×Int))(x:Rt):(Int→Option Int)×List(Bool×Int×Int):=
 if rT st.1 x then(jJ st.1 x.dest(some x.seq),st.2++ [(false,x.dest,x.seq)])else st
def o6(q own:Int):List(Bool×Int×Int):=if q>own then [(true,0,q)]else []
def bE(q own:Int)(f:Int→Option Int)(A:List Rt):(Int→Option Int)×List(Bool×Int×Int):=A.foldl iY(f,o6 q own)
theorem I9(q own:Int)(f:Int→Option Int) {A:List Rt} {k:Nat} {x:Rt}(h:A[k]?=some x):bE q own f(A.take(k+1))=iY(bE q own f(A.take k))x:=by
 unfold bE;rw [List.take_add_one,h];simp
theorem nT(q own:Int)(f:Int→Option Int)(A:List Rt):(bE q own f A).2.length≤A.length+1:=by
 have h:∀(A:List Rt)(st:(Int→Option Int)×List(Bool×Int×Int)),(A.foldl iY st).2.length≤st.2.length+A.length:=by
  intro A
  induction A with
  |nil=>intro st;simp
  |cons y A ih=>
   intro st;rw [List.foldl_cons];refine Nat.le_trans(ih _) ?_;unfold iY;split<;>simp<;>omega
 have:=h A(f,o6 q own);unfold bE;refine Nat.le_trans this ?_;unfold o6;split<;>simp<;>omega
theorem aT {S:Nat→Prop} {a b c:World} {r:Option Nat}(h:Fx S a b)(k:b.grownBy c r)(hr:∀i,i<a.heap.size→r=some i→S i):Fx S a c:=
 h.trans(S':=fun i=>r=some i)(Fx.grown k fun _ e=>e)(fun i hi e=>hr i hi e)
theorem nJ.at {base:Nat} {v:Value} {L:List(Rt×Value)} {W W':World}(h:nJ base v L W)(hv:∀k,v.ownBlock=some k→W'.heap[k]?=W.heap[k]?)(hb:∀p∈L,∀k,p.2.ownBlock=some k→W'.heap[k]?=W.heap[k]?):nJ base v L W':=
 ⟨bD h.row hv,fun p hp=>bD(h.bB p hp)(hb p hp)⟩
theorem nJ.grown {base:Nat} {v:Value} {L:List(Rt×Value)} {W W':World}(h:nJ base v L W) {r:Option Nat}(hg:W.grownBy W' r)(hr:∀k,r=some k→∃o,W.heap[k]?=some o∧(∀c,o≠ .cells c 38(0,0))∧∀c,o≠ .cells c 34(0,0)):nJ base v L W':=by
 refine h.at(fun k hk=>hg.block k(h.row.lt k hk).2 fun e=> ?_)(fun p hp k hk=>hg.block k((h.bB p hp).lt k hk).2 fun e=> ?_)
 ·obtain⟨o,h1,h2,_⟩:=hr k e.symm;exact aA h.row h1 h2 hk
 ·obtain⟨o,h1,_,h3⟩:=hr k e.symm;exact aA(h.bB p hp)h1 h3 hk
theorem FC {st:(Int→Option Int)×List(Bool×Int×Int)} {x:Rt}(h:rT st.1 x=true):iY st x=(jJ st.1 x.dest(some x.seq),st.2++ [(false,x.dest,x.seq)]):=by simp [iY,h]
theorem Wq {st:(Int→Option Int)×List(Bool×Int×Int)} {x:Rt}(h:rT st.1 x=false):iY st x=st:=by simp [iY,h]
theorem VW(y:Rt)(u:Value):Zz(y,u)=[.int .u32 y.dest,.int .u32 y.seq,.int .i64 y.hops,.int .u32 y.next,.bool y.valid,.int .u64 y.exp,u]:=rfl
theorem Wx {N:Nat} {x:lF} {W:World}(h:ib N x W):∀k,(some N:Option Nat)=some k→∃o,W.heap[k]?=some o∧(∀c,o≠ .cells c 38(0,0))∧∀c,o≠ .cells c 34(0,0):=by
 intro k hk;cases hk;exact⟨_,h,fun c e=>(by cases e),fun c e=>(by cases e)⟩
theorem WE {W:World} {M:Nat} {f:Int→Option Int} {s:Nat}(h:MapU W M f s):∀k,(some M:Option Nat)=some k→∃o,W.heap[k]?=some o∧(∀c,o≠ .cells c 38(0,0))∧∀c,o≠ .cells c 34(0,0):=by
 intro k hk;cases hk;obtain⟨es,cl,hm⟩:=h.obj;exact⟨_,hm,fun c e=>(by cases e),fun c e=>(by cases e)⟩
theorem EZ {W:World} {base n:Nat} {v:Value} {cs:List Value}(h:W.ownsRow base 82 3 v n cs):∀k,v.ownBlock=some k→∃o,W.heap[k]?=some o∧(∀c,o≠ .cells c 38(0,0))∧∀c,o≠ .cells c 34(0,0):=by
 intro k hk;rcases h.2 with⟨rfl,_⟩|⟨g,cap,cur,rfl,_,h2,_⟩
 ·cases hk
 ·simp only [Value.ownBlock,Option.some.injEq]at hk;subst hk;exact⟨_,h2,fun c e=>(by cases e),fun c e=>(by cases e)⟩
theorem Lf {N:Nat} {x:lF} {W:World} {M:Nat} {f:Int→Option Int} {s:Nat}(h:ib N x W)(hm:MapU W M f s):N≠M:=fun e=>by
 obtain⟨es,cl,hM⟩:=hm.obj;rw [←e,show W.heap[N]?=_ from h]at hM;cases hM
def Dp(q own:Int):Int:=if q>own then q else own
theorem CU {W:World} {base n:Nat} {v:Value} {cs:List Value}(h:W.ownsRow base 82 3 v n cs) {M:Nat} {f:Int→Option Int} {s:Nat}(hm:MapU W M f s):v.ownBlock≠some M:=by
 obtain⟨es,cl,hM⟩:=hm.obj;exact aA h hM(fun c e=>(by cases e))
theorem IG {W:World} {base n:Nat} {v:Value} {cs:List Value}(h:W.ownsRow base 82 3 v n cs) {N:Nat} {x:lF}(hN:ib N x W):v.ownBlock≠some N:=
 aA h hN(fun c e=>(by cases e))
theorem Rf(N:Nat)(x:lF)(q:Int)(f:Int→Option Int)(sz:Nat)(v:Value)(L:List(Rt×Value))(A:List Rt)(hA:L.map(·.1)=A)(hok:∀y∈A,y.Ok)(hln:A.length≤8)(hcnt:0≤x.cnt∧x.cnt≤1000000)(hsz:sz≤1000000)(w:World)(hN:ib N x w)(hm:MapU w x.Mo f sz)(hl:nJ 0 v L w):
  Calls Tryz.prog 104 #[.pointer(some⟨N,10,none⟩),.int .u32 q,v]w fun e w'=>∃v' qZ,e=.returned v'∧w'.ownsRow w.heap.size 82 3 v'(bE q x.own f A).2.length(RC(bE q x.own f A).2)∧ib N {x with own:=Dp q x.own,cnt:=x.cnt+(bE q x.own f A).2.length}w'∧MapU w' x.Mo(bE q x.own f A).1 qZ∧qZ≤sz+8∧Fx(fun k=>k=N∨k=x.Mo)w w':=by
 obtain⟨i0,hi,hz0,hz1,hz2⟩:=info_parts qE;have hNM:=Lf hN hm;have Xk:Hid(L.length=A.length):=by
  show _=_;rw [←hA];simp
 obtain⟨ao,c,rfl,_⟩:=ak hl.row;have hNr:w.heap.size≤w.heap.size:=Nat.le_refl _;obtain⟨n0,n2,n3,n4,n5,n6,n7,n8,n9,n10⟩:=hN.cell;have f8:=hN.free 10;go_enter Tryz.func104,Tryz.ntmps104
 go_upto_if 17 with(fail)
 go_cut [7]from 17 to 26(fun lv W=>W.ownsRow w.heap.size 82 3 lv(o6 q x.own).length(RC(o6 q x.own))∧ib N {x with own:=Dp q x.own}W∧MapU W x.Mo f sz∧nJ 0(.slice ao L.length c)L W∧Fx(fun k=>k=N∨k=x.Mo)w W)
 case first=>
  by_cases hq:q>x.own
  ·have hg1:w.grownBy(w.setCell⟨N,10,none⟩(.int .u32 q))(some N):=aa(aC _(some N))10 _;have hN1:=hN.Zt q;have hm1:=hm.kept hg1(by simpa using Ne.symm hNM);have hl1:=hl.grown hg1(Wx hN);have hF1:Fx(fun k=>k=N∨k=x.Mo)w(w.setCell⟨N,10,none⟩(.int .u32 q)):=Fx.grown hg1(fun k e=>by cases e;exact .inl rfl);have hsz1:=hg1.size;go_upto_region 4 with(fail)
   generalize World.setCell _ _ _=W1 at hN1 hm1 hl1 hF1 hsz1 ⊢;clear n0 n2 n3 n4 n5 n6 n7 n8 n9 n10 f8 hg1;have hr0:W1.ownsRow w.heap.size 82 3(.slice none 0 0)0(RC []):=⟨rfl,.inl⟨rfl,rfl⟩⟩;have hb3:Below W1.heap.size W1(W1.alloc(aV true 0 q)):=(Below.refl _ _).alloc(Nat.le_refl _)_;have hcr:=kF W1 true 0 q;dsimp only [aV]at hb3 hcr;go_wp2_with(at_builtin;refine wpList_append_own_at _ rfl _ _ 79 rfl w.heap.size 82 i0(.agg #[.bool false,.int .u32 0,.int .u32 0])3 12 Tryz.underlying79 hi hz0 hz1 hz2 rfl(by decide)(.slice none 0 0)0(RC [])rfl(hr0.alloc _)⟨W1.heap.size,0,none⟩1 1(RC [(true,0,q)])rfl rfl hcr(mM true 0 q)(by unfold maxLen;omega)(by omega) ?c3 ?_)
   case c3=>simp;omega
   intro v3 w3 ho3 hg3 _ _;have hno:o6 q x.own=[(true,0,q)]:=by simp [o6,hq]
   have hif:Dp q x.own=q:=by simp [Dp,hq]
   have hNn:Hid(ib N {x with own:=q}w3):=(hN1.later hb3).kept hg3(by simp [Value.ownBlock]);have hmn:=(hm1.block(hb3.block _ hm1.lt)).kept hg3(by simp [Value.ownBlock]);have aeD:=(hl1.later hb3).grown hg3(by intro k hk;simp [Value.ownBlock]at hk);have hFn:=aT(hF1.trans(Fx.below(S:=fun _=>False)hb3)(fun _ _ h=>h.elim))hg3(by intro i _ hk;simp [Value.ownBlock]at hk);clear hN1 hm1 hl1 hF1 hb3 hcr hg3;go_wp2_with fail
   go_meet
   rw [hno,hif];exact⟨ho3,hNn.out,hmn,aeD,hFn⟩
  ·have hno:o6 q x.own=[]:=by simp [o6,hq]
   have hif:Dp q x.own=x.own:=by simp [Dp,hq]
   go_wp2_with fail
   go_meet
   rw [hno,hif];exact⟨⟨rfl,.inl⟨rfl,rfl⟩⟩,hN,hm,hl,Fx.refl _ _⟩
 case rest=>
  clear n0 n2 n3 n4 n5 n6 n7 n8 n9 n10 f8 hl hN hm;obtain⟨ho,hN,hm,hl,hF⟩:=hcut;rename_i lv;have hl8:L.length≤8:=by rw [Xk.out];exact hln
  have hlO:(o6 q x.own).length≤1:=by unfold o6;split<;>simp
  have gp:Hid(bE q x.own f(A.take 0)=(f,o6 q x.own)):=by
   show _=_;simp [bE]
  have hPA:Hid(bE q x.own f(A.take L.length)=bE q x.own f A):=by
   show _=_;rw [Xk.out,List.take_length]
  generalize hyo:Dp q x.own=y at hN;have ad6:=(show Hid _ from hyo);clear hyo;have hsz0:=hF.size;go_wp2_with fail
  go_loopw [7,29](fun lv i wr=>∃(k sk:Nat),k≤L.length∧i=.int .i64 k∧wr.ownsRow w.heap.size 82 3 lv(bE q x.own f(A.take k)).2.length(RC(bE q x.own f(A.take k)).2)∧ib N {x with own:=y}wr∧MapU wr x.Mo(bE q x.own f(A.take k)).1 sk∧sk≤sz+k∧nJ 0(.slice ao L.length c)L wr∧Fx(fun k=>k=N∨k=x.Mo)w wr)(fun _ i _=>L.length - (intOf i).toNat)
  case atStart=>exact⟨0,sz,Nat.zero_le _,rfl,by rw [gp.out];exact ho,hN,by rw [gp.out];exact hm,by omega,hl,hF⟩
  case round=>
   clear ho hN hm hl hF hsz0;obtain⟨k,sk,hk,rfl,ho,hN,hm,hsk,hl,hF⟩:=hrel;by_cases hlt:k<L.length
   ·have hki:(k:Int)<(L.length:Int):=by omega
    obtain⟨⟨yy,u⟩,hp⟩:∃p,L[k]?=some p:=⟨_,List.getElem?_eq_getElem hlt⟩;have hx:A[k]?=some yy:=by rw [←hA,List.getElem?_map,hp];rfl
    have qF:=hok yy(List.mem_of_getElem? hx);have hst:Hid(bE q x.own f(A.take(k+1))=iY(bE q x.own f(A.take k))yy):=I9 q x.own f hx;have hlen:(bE q x.own f(A.take k)).2.length≤9:=by
     have h1:=nT q x.own f(A.take k);have h2:(A.take k).length≤8:=by rw [List.length_take];omega
     omega
    obtain⟨ao',c',he,hH⟩:=ak hl.row;cases he;have hat:=fun {i:Nat}(hi:i<7)=>Uj hp hi;obtain⟨au,cu,hu,_⟩:=ak(hl.bB _(List.mem_of_getElem? hp));dsimp only at hu;subst hu;rw [VW]at hat;obtain⟨b1,o1,rfl,hj1⟩:=hH(k * 7+0)_(hat(i:=0)(by decide));have c0:=hH.one rfl(hat(i:=0)(by decide));have c1:=hH.one rfl(hat(i:=1)(by decide));have c2:=hH.one rfl(hat(i:=2)(by decide));have c3:=hH.one rfl(hat(i:=3)(by decide));have c4:=hH.one rfl(hat(i:=4)(by decide));have c5:=hH.one rfl(hat(i:=5)(by decide));have c6:=hH.one rfl(hat(i:=6)(by decide));rw [Nat.add_zero]at c0;rw [←Nat.add_assoc]at c1 c2 c3 c4 c5 c6;have jk:Below wr.heap.size wr(wr.alloc(b_ yy(.slice au yy.bB.length cu))):=(Below.refl _ _).alloc(Nat.le_refl _)_;have hX:=dP.new yy(.slice au yy.bB.length cu)wr;have ho1:=aM ho jk;have hN1:=hN.later jk;have hm1:=hm.block(jk.block _ hm.lt);have hl1:=hl.later jk;have hF1:=hF.trans(Fx.below(S:=fun _=>False)jk)(fun _ _ h=>h.elim);dsimp only [b_]at hX ho1 hN1 hm1 hl1 hF1;clear hj1 hat hH hp hx ho hN hm hl hF jk;generalize bE q x.own f(A.take k)=st at hst ho1 hm1 hlen;obtain⟨fk,lk⟩:=st;dsimp only at ho1 hm1 hlen;go_upto_region 8 with(fail)
    generalize wr.heap.size=B1 at hX ⊢;generalize World.alloc _ _=W1 at hX ho1 hN1 hm1 hl1 hF1 ⊢;clear c0 c1 c2 c3 c4 c5 c6;obtain⟨p0,p1,p2,p3,p4,p5,p6⟩:=hX.cell;obtain⟨n0,n2,n3,n4,n5,n6,n7,n8,n9,n10⟩:=hN1.cell;dsimp only at n0 n2 n3 n4 n5 n6 n7 n8 n9 n10;have hk0:=hm1.look_ok qF.dest;have hk1:=(show MapU W1.drew _ _ _ from hm1).look_ok qF.dest;generalize hod:fk yy.dest=od at hk0 hk1;have aak:=(show Hid _ from hod);clear hod;go_region
    clear hk0 hk1 p0 p1 p2 p3 p4 p5 p6 n0 n2 n3 n4 n5 n6 n7 n8 n9 n10;have hb2:Below W1.heap.size W1 W1.drew:=(Below.refl _ _).drew;replace hX:=hX.later hb2;replace ho1:=aM ho1 hb2;replace hN1:=hN1.later hb2;replace hm1:=hm1.block(hb2.block _ hm1.lt);replace hl1:=hl1.later hb2;replace hF1:=hF1.trans(Fx.below(S:=fun _=>False)hb2)(fun _ _ h=>h.elim);clear hb2;generalize World.drew _=W2 at hX ho1 hN1 hm1 hl1 hF1 ⊢;obtain⟨p0,p1,p2,p3,p4,p5,p6⟩:=hX.cell;obtain⟨n0,n2,n3,n4,n5,n6,n7,n8,n9,n10⟩:=hN1.cell;dsimp only at n0 n2 n3 n4 n5 n6 n7 n8 n9 n10;have hnew:rT fk yy=(!od.isSome||decide(yy.seq>od.getD 0)):=by unfold rT;rw [aak.out]
    cases hb:rT fk yy
    ·rw [Wq hb]at hst;rw [hb]at hnew;have hs:od.isSome=true:=by
      cases od with
      |none=>cases hnew
      |some z=>rfl
     obtain⟨z,rfl⟩:=Option.isSome_iff_exists.1 hs;have hz:¬(z<yy.seq):=by simpa using hnew.symm
     clear hnew hs hb aak;simp only [Option.gN,Option.getD_some];go_wp2_with fail
     go_roundw
     case rel=>exact⟨k+1,sk,by omega,by go_num,by rw [hst.out];exact ho1,hN1,by rw [hst.out];exact hm1,by omega,hl1,hF1⟩
     case measure=>simp [intOf];omega
    ·rw [FC hb]at hst;rw [hb]at hnew;clear hb aak;obtain⟨W3,hr3,nW,hg3⟩:=(show MapU W2.drew _ _ _ from hm1).put(by unfold maxLen;omega)qF.dest(v:=yy.seq)qF.seq;have hg3':W2.grownBy W3(some x.Mo):=⟨hg3.os,hg3.tape,hg3.output,hg3.size,hg3.block⟩;have hX3:dP B1 yy(.slice au yy.bB.length cu)W3:=hX.block(hg3'.block _ hX.lt(fun e=>by
      cases e;obtain⟨es,cl,hM⟩:=hm1.obj;rw [show W2.heap[x.Mo]?=_ from hX]at hM;cases hM))
     have ho3:W3.ownsRow w.heap.size 82 3 u7 lk.length(RC lk):=ho1.kept hg3'(.inr(CU ho1 hm1));have zI:=hN1.kept hg3'(by simpa using Ne.symm hNM);have hl3:=hl1.grown hg3'(WE hm1);have xm:=aT hF1 hg3'(fun i _ e=>by cases e;exact .inr rfl);have aad:(if(fk yy.dest).isSome then sk else sk+1)≤sz+(k+1):=by split<;>omega
     generalize(if(fk yy.dest).isSome then sk else sk+1)=sk3 at nW aad;clear ho1 hN1 hm1 hl1 hF1 hg3 hg3' hX;have hla:=ho3.lt;have hb3:Below W3.heap.size W3(W3.alloc(aV false yy.dest yy.seq)):=(Below.refl _ _).alloc(Nat.le_refl _)_;have hcr:=kF W3 false yy.dest yy.seq;have hs3:=xm.size;dsimp only [aV]at hb3 hcr;have hcond:od=none∨∃z,od=some z∧z<yy.seq:=by
      cases od with
      |none=>exact .inl rfl
      |some z=>exact .inr⟨z,rfl,by simpa using hnew.symm⟩
     clear hnew;rcases hcond with rfl|⟨z,rfl,hz⟩
     ·simp only [Option.isSome_none,Option.vZ];go_wp2_with fail
      go_region
      clear n0 n2 n3 n4 n5 n6 n7 n8 n9 n10 p0 p1 p2 p3 p4 p5 p6;obtain⟨p0,p1,p2,p3,p4,p5,p6⟩:=hX3.cell;go_wp2_with(at_builtin;refine wpList_append_own_at _ rfl _ _ 79 rfl w.heap.size 82 i0(.agg #[.bool false,.int .u32 0,.int .u32 0])3 12 Tryz.underlying79 hi hz0 hz1 hz2 rfl(by decide)u7 lk.length(RC lk)rfl(ho3.alloc _)⟨W3.heap.size,0,none⟩1 1(RC [(false,yy.dest,yy.seq)])rfl rfl hcr(mM false yy.dest yy.seq)(by unfold maxLen;omega)(by omega) ?c3 ?_)
      case c3=>simp;omega
      intro v4 W4 B_ hg4 _ _;have AP:=(zI.later hb3).kept hg4(IG ho3 zI);have A_:=(nW.block(hb3.block _ nW.lt)).kept hg4(Ne.symm(CU ho3 nW));have hl4:=(hl3.later hb3).grown hg4(fun k hk=>EZ(ho3.alloc _)k hk);have rW:=aT(xm.trans(Fx.below(S:=fun _=>False)hb3)(fun _ _ h=>h.elim))hg4(fun i hi e=>by have:=(hla i e).1;omega);clear zI nW hl3 xm hb3 hcr hg4 ho3 hX3 hla p0 p1 p2 p3 p4 p5 p6;go_wp2_with fail
      go_roundw
      case rel=>exact⟨k+1,sk3,by omega,by go_num,by rw [hst.out,List.length_append,kK];exact B_,AP,by rw [hst.out];exact A_,aad,hl4,rW⟩
      case measure=>simp [intOf];omega
     ·simp only [Option.gN,Option.getD_some];go_wp2_with fail
      go_region
      clear n0 n2 n3 n4 n5 n6 n7 n8 n9 n10 p0 p1 p2 p3 p4 p5 p6;obtain⟨p0,p1,p2,p3,p4,p5,p6⟩:=hX3.cell;go_wp2_with(at_builtin;refine wpList_append_own_at _ rfl _ _ 79 rfl w.heap.size 82 i0(.agg #[.bool false,.int .u32 0,.int .u32 0])3 12 Tryz.underlying79 hi hz0 hz1 hz2 rfl(by decide)u7 lk.length(RC lk)rfl(ho3.alloc _)⟨W3.heap.size,0,none⟩1 1(RC [(false,yy.dest,yy.seq)])rfl rfl hcr(mM false yy.dest yy.seq)(by unfold maxLen;omega)(by omega) ?c3 ?_)
      case c3=>simp;omega
      intro v4 W4 B_ hg4 _ _;have AP:=(zI.later hb3).kept hg4(IG ho3 zI);have A_:=(nW.block(hb3.block _ nW.lt)).kept hg4(Ne.symm(CU ho3 nW));have hl4:=(hl3.later hb3).grown hg4(fun k hk=>EZ(ho3.alloc _)k hk);have rW:=aT(xm.trans(Fx.below(S:=fun _=>False)hb3)(fun _ _ h=>h.elim))hg4(fun i hi e=>by have:=(hla i e).1;omega);clear zI nW hl3 xm hb3 hcr hg4 ho3 hX3 hla p0 p1 p2 p3 p4 p5 p6;go_wp2_with fail
      go_roundw
      case rel=>exact⟨k+1,sk3,by omega,by go_num,by rw [hst.out,List.length_append,kK];exact B_,AP,by rw [hst.out];exact A_,aad,hl4,rW⟩
      case measure=>simp [intOf];omega
   ·obtain rfl:k=L.length:=by omega
    rw [hPA.out]at ho hm;have hcl:(bE q x.own f A).2.length≤9:=Nat.le_trans(nT q x.own f A)(by omega);obtain⟨n0,n2,n3,n4,n5,n6,n7,n8,n9,n10⟩:=hN.cell;have f10:=hN.free 12;dsimp only at n0 n2 n3 n4 n5 n6 n7 n8 n9 n10;have hg:wr.grownBy(wr.setCell⟨N,12,none⟩(.int .i64(x.cnt+(bE q x.own f A).2.length)))(some N):=aa(aC _(some N))12 _;have U0:=hN.Qs(x.cnt+(bE q x.own f A).2.length);have hm5:=hm.kept hg(by simpa using Ne.symm hNM);have ho5:(wr.setCell⟨N,12,none⟩(.int .i64(x.cnt+(bE q x.own f A).2.length))).ownsRow w.heap.size 82 3 u7(bE q x.own f A).2.length(RC(bE q x.own f A).2):=ho.kept hg(.inr(IG ho hN));have hF5:=aT hF hg(fun i _ e=>by cases e;exact .inl rfl);obtain⟨a7,c7,rfl,_⟩:=ak ho;have hwr:wrap64(x.cnt+(bE q x.own f A).2.length)=x.cnt+(bE q x.own f A).2.length:=by unfold wrap64;omega
    clear ho hN hm hl hF hg;go_wp2
    go_ret
    rw [ad6.out];exact⟨_,rfl,ho5,U0,_,hm5,by omega,hF5⟩
end Go.Proofs.YtakaadcpaeiccabGreat
