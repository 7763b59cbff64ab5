import Derived.Test.YtakaadcpaeiccabGreatC63
import Derived.ChangeMaps5
import Derived.Lib.SmallJoins
set_option maxHeartbeats 4000000
set_option maxRecDepth 100000
namespace Go.Proofs.YtakaadcpaeiccabGreat
open Go.RowKit Go.Maps
theorem VY {W:World} {base e size:Nat} {v:Value} {n:Nat} {xs:List Value}(h:W.ownsRow base e size v n xs)(hn:0<n):∃g cap,v=.slice(some⟨g,0,none⟩)n cap∧n≤cap:=by
 rcases h.2 with⟨_,h0⟩|⟨g,cap,cur,rfl,hb,_,hl,_⟩
 ·omega
 ·exact⟨g,cap,rfl,hl⟩
theorem Qw {k:Nat}(h:k<6):IntKind.u32.wrap(wrap64(wrap64(10 * (k:Int))+10))=10 * (k:Int)+10:=by
 simp only [IntKind.wrap,IntKind.signed,IntKind.bits];unfold wrap64;simp;omega
theorem O1(W:World)(t:Int):∀(j:Nat)(u:Value),[Value.int .u32 t][j]?=some u→(W.alloc(.cells #[.int .u32 t]34)).cell?((⟨W.heap.size,0,none⟩:Addr).add j)=some u:=by
 intro j u hj
 match j,hj with
 |0,hj=>
  rw [Addr.add_lit,Nat.zero_add];exact(World.cell?_alloc_new W _ _ _).trans hj
 |j+1,hj=>simp at hj
theorem VZ(n:Nat)(hn:0<n∧n≤6)(w:World):
  Calls Tryz.prog 10 #[.int .i64 n]w fun e w'=>∃y:MG,e=.returned(.pointer(some⟨y.G,0,none⟩))∧SQ w n 0 y(aK.new(ku n))w':=by
 obtain⟨i2,ki,kz0,kz1,kz2⟩:=info_parts qD;go_enter Tryz.func10,Tryz.ntmps10
 go_wp2_with fail
 go_loopw [3,4](fun lv i wr=>∃k:Nat,k≤n∧i=.int .i64 k∧wr.ownsRow w.heap.size 34 1 lv k((ku k).map(Value.int .u32))∧Below w.heap.size w wr)(fun _ i _=>n - (intOf i).toNat)
 case atStart=>exact⟨0,Nat.zero_le _,rfl,⟨rfl,.inl⟨rfl,rfl⟩⟩,Below.refl _ _⟩
 case round=>
  obtain⟨k,hk,rfl,hr,hb⟩:=hrel;by_cases hlt:k<n
  ·have hki:(k:Int)<(n:Int):=by omega
   have hw:=Qw(k:=k)(by omega);have hwk:wrap64((k:Int)+1)=(k:Int)+1:=by unfold wrap64;omega
   have hbU:Below wr.heap.size wr(wr.alloc(.cells #[.int .u32(10 * (k:Int)+10)]34)):=(Below.refl _ _).alloc(Nat.le_refl _)_;have hk1:k+1≤maxLen:=by unfold maxLen;omega
   have hk2:(k+1)* 4≤140737488355328:=by omega
   have hz:=hb.size;have hr0:=hr.alloc(.cells #[.int .u32(10 * (k:Int)+10)]34);go_wp2_with(at_builtin;refine wpList_append_own_at _ rfl _ _ 36 rfl w.heap.size 34 i2(.int .u32 0)1 4 Tryz.underlying36 ki kz0 kz1 kz2 rfl(by decide)u3 k((ku k).map(Value.int .u32))rfl hr0⟨wr.heap.size,0,none⟩1 1 [.int .u32(10 * (k:Int)+10)]rfl rfl(O1 wr _)(by simp [Value.oneCell'])hk1 hk2 ?c3 ?_)
   case c3=>simp;omega
   intro v7 w7 gP eu _ hv7;have Gw:=(hb.trans(hbU.mono hz)).grown eu(by simp;omega)(fun k e=>(hr0.lt k e).1);have EE:w7.ownsRow w.heap.size 34 1 v7(k+1)((ku(k+1)).map(Value.int .u32)):=by rw [M8,List.map_append];exact gP
   clear hr hb hr0 eu hv7 hbU gP hw;go_wp2
   go_roundw
   case rel=>exact⟨k+1,by omega,by go_num,EE,Gw⟩
   case measure=>simp [intOf];omega
  ·obtain rfl:k=n:=by omega
   obtain⟨g,cap,rfl,hcap⟩:=VY hr hn.1;have hHN:=hide(adM g k cap(ku k)wr(l6 k)hn hcap(fun j hj=>by rw [List.getD_eq_getElem?_getD,jL hj];exact(kS hn.2 _(List.mem_of_getElem?(jL hj))).1)(hr.lt g rfl).2(fun j hj=>(hr.cellAt j(by omega)).trans(by rw [List.getElem?_map,jL hj,List.getD_eq_getElem?_getD,jL hj];rfl))(fun j hj=>by rw [List.getD_eq_getElem?_getD,jL hj];exact(kS hn.2 _(List.mem_of_getElem?(jL hj))).2)(fun i j hij hj=>by rw [List.getD_eq_getElem?_getD,List.getD_eq_getElem?_getD,jL hj,jL(by omega)];show 10 * (i:Int)+10≠10 * (j:Int)+10;omega));have hnew:=La(L:=ku k)(by rw [l6];exact hn.2)(fun a ha=>(kS hn.2 a ha).1)(fun a ha=>(kS hn.2 a ha).2);have Oo:=Tt(L:=ku k)(by rw [l6];exact hn.2)(fun a ha=>(kS hn.2 a ha).1)(fun a ha=>(kS hn.2 a ha).2);have hz:=hb.size;have hfin:Hid(∀(y:MG)w',MM y(aK.new(ku k))w'→Fx(fun _=>False)wr w'→(∀q,oz y(aK.new(ku k))q→wr.heap.size≤q)→SQ w k 0 y(aK.new(ku k))w'):=hide fun y w' h1 h2 h3=>by
    refine⟨h1,fun q hq=>Nat.le_trans hz(h3 q hq),hb.trans(h2.Cx hz fun _ _ h=>absurd h id),hnew.1.up(by omega)(Nat.le_refl _),Oo,?_,?_⟩
    ·show(0:Int)≤_;omega
    ·show((ku k).map ES).map(·.addr)=ku k;rw [List.map_map];exact List.map_id _
   clear hnew Oo hr hb hcap;go_wp2_with(go_at_call 27;refine hHN.out.mono ?_;rintro e w5⟨y,rfl,hm,hf,hge⟩;have hq:=hide(hfin.out y w5 hm hf hge);clear hm hf hge)
   go_ret
   exact⟨y,rfl,hq.out⟩
def OpC(L:List Op):List Value:=L.flatMap fun o=> [.int .i64 o.dS,.int .i64 o.a,.int .i64 o.b,.int .i64 o.n,.bool o.on,.string o.txt]
theorem abp {W:World} {ao:Option Addr} {L:List Op}(h:f_ W ao(OpC L)) {k:Nat} {o:Op}(hk:L[k]?=some o):∃g f,ao=some⟨g,f,none⟩∧g<W.heap.size∧W.cell?⟨g,f+k * 6,none⟩=some(.int .i64 o.dS)∧W.cell?⟨g,f+k * 6+1,none⟩=some(.int .i64 o.a)∧W.cell?⟨g,f+k * 6+2,none⟩=some(.int .i64 o.b)∧W.cell?⟨g,f+k * 6+3,none⟩=some(.int .i64 o.n)∧W.cell?⟨g,f+k * 6+4,none⟩=some(.bool o.on)∧W.cell?⟨g,f+k * 6+5,none⟩=some(.string o.txt):=by
 have hat:∀i u,i<6→([.int .i64 o.dS,.int .i64 o.a,.int .i64 o.b,.int .i64 o.n,.bool o.on,.string o.txt]:List Value)[i]?=some u→(OpC L)[k * 6+i]?=some u:=fun i u hi hu=>(jT(fun o:Op=>([.int .i64 o.dS,.int .i64 o.a,.int .i64 o.b,.int .i64 o.n,.bool o.on,.string o.txt]:List Value))6(by decide)(fun _=>rfl)L k i hi hk).trans hu;obtain⟨g,f,e,hl,_⟩:=h(k * 6+0)_(hat 0 _(by decide)rfl);refine⟨g,f,e,hl,h.one e(hat 0 _(by decide)rfl),?_,?_,?_,?_,?_⟩
 ·have:=h.one e(hat 1 _(by decide)rfl);rw [←Nat.add_assoc]at this;exact this
 ·have:=h.one e(hat 2 _(by decide)rfl);rw [←Nat.add_assoc]at this;exact this
 ·have:=h.one e(hat 3 _(by decide)rfl);rw [←Nat.add_assoc]at this;exact this
 ·have:=h.one e(hat 4 _(by decide)rfl);rw [←Nat.add_assoc]at this;exact this
 ·have:=h.one e(hat 5 _(by decide)rfl);rw [←Nat.add_assoc]at this;exact this
theorem SQ.tab {w:World} {n i:Nat} {y:MG} {m:aK} {W:World}(h:SQ w n i y m W) {k:Nat}(hk:k<n):
  (∀x∈m.tab k,x.bB.length≤4∧(x.valid=false→x.bB=[])∧x.dest≠10 * (k:Int)+10)∧Asc(m.tab k)∧(m.tab k).length≤8∧(∀z,(m.at' k).nd=some z→z.lk=0)∧(m.at' k).aY.length≤2000∧(m.runs k=true→∃c:Nat,(m.at' k).aY.length=13 * c∧0<c∧c≤24):=by
 obtain⟨x,s,b,c,e1,e2,e3,_⟩:=h.mm.get(i:=k)(by rw [h.len];exact hk);have hs:=h.ok.at e2;have hst:=h.mm.st k x s e1 e2;have ha:=(h.addr e2).2;rw [e3];have acl:m.runs k=s.nd.isSome:=by
  unfold aK.runs aK.has;rw [Int.toNat_natCast,e3,h.len];simp [hk]
 cases hz:s.nd with
 |none=>
  have ht:m.tab k=[]:=by unfold aK.tab;rw [e3,hz]
  rw [ht,acl,hz];exact⟨fun x hx=>(by cases hx),List.Pairwise.nil,Nat.zero_le _,fun z hz=>(by cases hz),hs.jl,fun h=>(by cases h)⟩
 |some z=>
  have ht:m.tab k=z.A:=by unfold aK.tab;rw [e3,hz]
  obtain⟨n0,_⟩:=hst.nd z hz;have hn:=hs.nd z hz;have hk':=h.fk.2 k s z e2 hz;rw [ht];refine⟨fun x hx=>⟨(hn.ok x hx).O_,(hk'.tb x hx).2,?_⟩,n0.cr.tb.wC,hn.len,fun u hu=>by cases hu;exact hn.inv.lk,hs.jl,fun _=> ?_⟩
  ·rw [←ha,←hn.me];exact(hk'.tb x hx).1
  ·obtain⟨j1,j2⟩:=hs.jn z hz;have:=hn.inv.cnt;exact⟨z.cnt.toNat,by omega,by omega,by omega⟩
theorem ab1 {c:Int}:∃n:Nat,2≤n∧n≤6∧2+rR c 5=(n:Int)∧wrap64(2+rR c 5)=(n:Int):=by
 have:=Wi c 5(by decide);refine⟨(2+rR c 5).toNat,by omega,by omega,by omega,?_⟩;unfold wrap64;omega
open Go.ChangeShapes Go.WideShapes Go.ChangeAt Go.Deep
theorem adZ:Tryz.prog.cellsOf 28=6:=by kernel_rfl
theorem KL:Tryz.prog.cellsOf 3=1:=by kernel_rfl
theorem abZ:Tryz.prog.cellsOf 9=1:=by kernel_rfl
theorem ZB:Tryz.prog.cellsOf 4=1:=by kernel_rfl
structure adH(o:Op):Prop where
 dS:-9223372036854775808≤o.dS∧o.dS≤9223372036854775807
 a:-9223372036854775808≤o.a∧o.a≤9223372036854775807
 b:-9223372036854775808≤o.b∧o.b≤9223372036854775807
 n:-9223372036854775808≤o.n∧o.n≤9223372036854775807
theorem Wn {H:Type} {enc:TypeId×Value→H} {W:World}(n:Nat)(cs:List Value)(y:DataW H×List MemPlace)(h:DataW.trod enc Tryz.prog W 0(fun _=>true)true n 28 cs=some y)(hl:cs.length=6):
  ∃o:Op,cs=[.int .i64 o.dS,.int .i64 o.a,.int .i64 o.b,.int .i64 o.n,.bool o.on,.string o.txt]∧adH o:=by
 obtain⟨c0,c1,c2,c3,c4,c5,rfl⟩:∃c0 c1 c2 c3 c4 c5,cs=[c0,c1,c2,c3,c4,c5]:=by
  match cs,hl with
  | [c0,c1,c2,c3,c4,c5],_=>exact⟨c0,c1,c2,c3,c4,c5,rfl⟩
 obtain⟨xs,n,_,_,_,hlen,hget⟩:=DataW.trod_struct Tryz.underlying28 h
 match xs,hlen with
 | [x0,x1,x2,x3,x4,x5],_=>
  have g0:DataW.trod enc Tryz.prog W 0(fun _=>true)true n 3(([c0,c1,c2,c3,c4,c5].drop 0).take(Tryz.prog.cellsOf 3))=some x0:=hget 0 _ rfl;rw [KL]at g0;have g1:DataW.trod enc Tryz.prog W 0(fun _=>true)true n 3(([c0,c1,c2,c3,c4,c5].drop 1).take(Tryz.prog.cellsOf 3))=some x1:=hget 1 _ rfl;rw [KL]at g1;have g2:DataW.trod enc Tryz.prog W 0(fun _=>true)true n 3(([c0,c1,c2,c3,c4,c5].drop 2).take(Tryz.prog.cellsOf 3))=some x2:=hget 2 _ rfl;rw [KL]at g2;have g3:DataW.trod enc Tryz.prog W 0(fun _=>true)true n 3(([c0,c1,c2,c3,c4,c5].drop 3).take(Tryz.prog.cellsOf 3))=some x3:=hget 3 _ rfl;rw [KL]at g3;have g4:DataW.trod enc Tryz.prog W 0(fun _=>true)true n 4(([c0,c1,c2,c3,c4,c5].drop 4).take(Tryz.prog.cellsOf 4))=some x4:=hget 4 _ rfl;rw [ZB]at g4;have g5:DataW.trod enc Tryz.prog W 0(fun _=>true)true n 9(([c0,c1,c2,c3,c4,c5].drop 5).take(Tryz.prog.cellsOf 9))=some x5:=hget 5 _ rfl;rw [abZ]at g5;clear hget;obtain⟨a0,e0,_,w0⟩:=DataW.trod_int Tryz.underlying3 g0;obtain⟨a1,e1,_,w1⟩:=DataW.trod_int Tryz.underlying3 g1;obtain⟨a2,e2,_,w2⟩:=DataW.trod_int Tryz.underlying3 g2;obtain⟨a3,e3,_,w3⟩:=DataW.trod_int Tryz.underlying3 g3;obtain⟨a4,e4,_⟩:=DataW.trod_bool Tryz.underlying4 g4;obtain⟨a5,e5,_,_⟩:=DataW.trod_string Tryz.underlying9 g5;simp at e0 e1 e2 e3 e4 e5;subst e0 e1 e2 e3 e4 e5;exact⟨⟨a0,a1,a2,a3,a4,a5⟩,rfl,⟨bounds_i64 w0,bounds_i64 w1,bounds_i64 w2,bounds_i64 w3⟩⟩
theorem Q5 {H:Type} {enc:TypeId×Value→H} {W:World} {fuel:Nat} {c:Value} {x:DataW H×List MemPlace}(h:DataW.trod enc Tryz.prog W 0(fun _=>true)true fuel 22 [c]=some x):
  ∃ao n cap L,c=.slice ao n cap∧L.length=n∧n≤maxLen∧f_ W ao(OpC L)∧∀o∈L,adH o:=
 NG Tryz.underlying22 adZ(by decide)(fun o:Op=> [.int .i64 o.dS,.int .i64 o.a,.int .i64 o.b,.int .i64 o.n,.bool o.on,.string o.txt])_(fun _=>rfl)Wn h
def vr(s:bi)(d:Int):Option(Int×Int):=
 match s.nd with
 |some z=>(aJ z.A d).map fun y=>(rk y,y.hops)
 |none=>(lU(jl s.aY)d).map fun q=>(q,0)
def nI(r:Int×Int)(q h:Int):Bool:=decide(q<r.1)||(decide(r.1=q)&&decide(r.2≤h))
def sG(s:bi)(d q h:Int):Bool:=
 match vr s d with
 |some r=>nI r q h
 |none=>false
def cP(d q h:Int)(s:bi):Bool:=decide(s.addr=d)||sG s d q h
def cnt(S:List bi)(d q h:Int):Nat:=S.countP(cP d q h)
structure kZ(s s':bi):Prop where
 addr:s'.addr=s.addr
 ge:∀d q h,d≠s.addr→sG s d q h=true→sG s' d q h=true
theorem kZ.refl(s:bi):kZ s s:=⟨rfl,fun _ _ _ _ h=>h⟩
theorem kZ.trans {a b c:bi}(p:kZ a b)(q:kZ b c):kZ a c:=⟨q.addr.trans p.addr,fun d x h hd e=>q.ge d x h(by rw [p.addr];exact hd)(p.ge d x h hd e)⟩
theorem aaY {r:Int×Int} {q h q' h':Int}(e:nI r q h=true)(hle:q'<q∨(q'=q∧h≤h')):nI r q' h'=true:=by
 unfold nI at *;simp only [Bool.or_eq_true,Bool.and_eq_true,decide_eq_true_eq]at *;omega
theorem kV(q h:Int):nI(q,h)q h=true:=by simp [nI]
theorem Cf {r:Int×Int} {q h q' h':Int}(e:nI r q h=true)(f:nI(q,h)q' h'=true):nI r q' h'=true:=by
 unfold nI at *;simp only [Bool.or_eq_true,Bool.and_eq_true,decide_eq_true_eq]at *;omega
theorem Zd {s:bi} {d q h q' h':Int}(e:sG s d q h=true)(hle:q'<q∨(q'=q∧h≤h')):sG s d q' h'=true:=by
 unfold sG at *;split
 ·rename_i r hr;rw [hr]at e;exact aaY e hle
 ·rename_i hr;rw [hr]at e;exact e
theorem Y1 {d q h q' h':Int} {s:bi}(e:cP d q h s=true)(hle:q'<q∨(q'=q∧h≤h')):cP d q' h' s=true:=by
 unfold cP at *;rw [Bool.or_eq_true]at *;exact e.dh fun e=>Zd e hle
theorem adA {d q h:Int} {s s':bi}(l:kZ s s')(e:cP d q h s=true):cP d q h s'=true:=by
 unfold cP at *;rw [l.addr];by_cases hd:s.addr=d
 ·simp [hd]
 ·rw [Bool.or_eq_true]at *;rcases e with e|e
  ·exact .inl e
  ·exact .inr(l.ge d q h(fun h=>hd h.symm)e)
theorem rZ {p p':bi→Bool}:∀(S:List bi)(i:Nat)(s':bi),(∀t,p t=true→p' t=true)→(∀s,S[i]?=some s→p s=true→p' s'=true)→S.countP p≤(S.set i s').countP p'
 | [],_,_,_,_=>Nat.zero_le _
 |t::S,0,s',hp,hs=>by
  rw [List.set_cons_zero,List.countP_cons,List.countP_cons];have h1:S.countP p≤S.countP p':=List.oh fun t _ h=>hp t h;have h2:=hs t rfl;cases e:p t
  ·simp only [Bool.false_eq_true,if_false];omega
  ·rw [if_pos rfl,if_pos(h2 e)];omega
 |t::S,i+1,s',hp,hs=>by
  rw [List.set_cons_succ,List.countP_cons,List.countP_cons];have h1:=rZ S i s' hp(fun s h=>hs s h);cases e:p t
  ·simp only [Bool.false_eq_true,if_false];omega
  ·rw [if_pos rfl,if_pos(hp t e)];omega
theorem pU {p p':bi→Bool}:∀(S:List bi)(i:Nat)(s s':bi),(∀t,p t=true→p' t=true)→S[i]?=some s→p s=false→p' s'=true→S.countP p+1≤(S.set i s').countP p'
 | [],_,_,_,_,h,_,_=>by cases h
 |t::S,0,s,s',hp,h,h1,h2=>by
  cases h;rw [List.set_cons_zero,List.countP_cons,List.countP_cons,h1,if_pos h2];have h1:S.countP p≤S.countP p':=List.oh fun t _ h=>hp t h;simp only [Bool.false_eq_true,if_false];omega
 |t::S,i+1,s,s',hp,h,h1,h2=>by
  rw [List.set_cons_succ,List.countP_cons,List.countP_cons];have h3:=pU S i s s' hp h h1 h2;cases e:p t
  ·simp only [Bool.false_eq_true,if_false];omega
  ·rw [if_pos rfl,if_pos(hp t e)];omega
theorem Ef {S:List bi} {i:Nat} {s s':bi}(hs:S[i]?=some s)(l:kZ s s')(d q h:Int):cnt S d q h≤cnt(S.set i s')d q h:=
 rZ S i s'(fun _ h=>h)fun t ht h=>by
  rw [hs]at ht;cases ht;exact adA l h
theorem TN {S:List bi} {i:Nat} {s s':bi}(hs:S[i]?=some s) {d q h h':Int}(hle:h≤h')(h1:cP d q h s=false)(h2:cP d q h' s'=true):cnt S d q h+1≤cnt(S.set i s')d q h':=
 pU S i s s'(fun t h=>Y1 h(.inr⟨rfl,hle⟩))hs h1 h2
theorem TM(S:List bi)(d q:Int) {h h':Int}(hle:h≤h'):cnt S d q h≤cnt S d q h':=List.oh fun _ _ e=>Y1 e(.inr⟨rfl,hle⟩)
theorem JE(S:List bi)(d q h:Int):cnt S d q h≤S.length:=List.ww
theorem Md {S:List bi} {d:Int}(q h:Int)(hd:∃s∈S,s.addr=d):1≤cnt S d q h:=by
 obtain⟨s,hs,e⟩:=hd;exact List.TI.2⟨s,hs,by simp [cP,e]⟩
structure xD(G:Int)(S:List bi)(i:Nat)(y:Rt):Prop where
 dest:∃s∈S,s.addr=y.dest
 hp:0≤y.hops
 sq:0≤y.seq∧y.seq≤G
 nx:y.valid=true→∃j s,j≠i∧S[j]?=some s∧s.addr=y.next∧(y.dest=y.next∨sG s y.dest y.seq(y.hops - 1)=true)
 hc:y.valid=true→y.hops+8≤8 * (cnt S y.dest y.seq y.hops:Int)
structure Y9(G:Int)(S:List bi)(j:Nat)(p:ah)(L:List(Int×Int)):Prop where
 k1:p.kind=1→(∃s∈S,s.addr=p.aI)∧0≤p.hops∧(0≤p.dm∧p.dm≤G)∧(0≤p.aW∧p.aW≤G)∧p.hops+p.aS≤8 * (cnt S p.aI p.dm p.hops:Int)∧∃s,S[j]?=some s∧(s.addr=p.aI∨sG s p.aI p.dm p.hops=true)
 k2:p.kind=2→(∃s∈S,s.addr=p.dest)∧0≤p.hops∧(0≤p.aW∧p.aW≤G)∧p.hops+p.aS≤8 * (cnt S p.dest p.aW p.hops:Int)∧∃s,S[j]?=some s∧(s.addr=p.dest∨sG s p.dest p.aW p.hops=true)
 k3:p.kind=3→∀x∈L,0≤x.2∧x.2≤G
theorem fP {S:List bi} {i:Nat} {s s':bi}(hs:S[i]?=some s)(e:s'.addr=s.addr) {d:Int}(h:∃t∈S,t.addr=d):∃t∈S.set i s',t.addr=d:=by
 obtain⟨t,ht,hd⟩:=h;obtain⟨k,hk⟩:=List.getElem?_of_mem ht;by_cases hki:k=i
 ·subst hki;rw [hs]at hk;cases hk;exact⟨s',List.mem_of_getElem?(List.getElem?_set_self(List.getElem?_eq_some_iff.1 hs).1),e.trans hd⟩
 ·exact⟨t,List.mem_of_getElem?((List.getElem?_set_ne(fun e=>hki e.symm)).trans hk),hd⟩
theorem ma {S:List bi} {i:Nat} {s s':bi}(hs:S[i]?=some s)(l:kZ s s') {j:Nat} {t:bi}(h:S[j]?=some t):∃t',(S.set i s')[j]?=some t'∧kZ t t':=by
 by_cases hji:j=i
 ·subst hji;rw [hs]at h;cases h;exact⟨s',List.getElem?_set_self(List.getElem?_eq_some_iff.1 hs).1,l⟩
 ·exact⟨t,(List.getElem?_set_ne(fun e=>hji e.symm)).trans h,kZ.refl t⟩
theorem Yt {t t':bi}(l:kZ t t') {d q h:Int}(hd:d≠t.addr∨t.addr=d)(e:t.addr=d∨sG t d q h=true):t'.addr=d∨sG t' d q h=true:=by
 rcases hd with hd|hd
 ·rcases e with e|e
  ·exact absurd e.symm hd
  ·exact .inr(l.ge d q h hd e)
 ·exact .inl(l.addr.trans hd)
theorem xD.set {G G':Int} {S:List bi} {i k:Nat} {y:Rt} {s s':bi}(h:xD G S k y)(hG:G≤G')(hs:S[i]?=some s)(l:kZ s s'):xD G'(S.set i s')k y:=by
 refine⟨fP hs l.addr h.dest,h.hp,⟨h.sq.1,Int.le_trans h.sq.2 hG⟩,fun hv=> ?_,fun hv=> ?_⟩
 ·obtain⟨j,t,hj,ht,ha,hb⟩:=h.nx hv;obtain⟨t',ht',lt⟩:=ma hs l ht;refine⟨j,t',hj,ht',lt.addr.trans ha,?_⟩;by_cases hd:y.dest=y.next
  ·exact .inl hd
  ·refine .inr(lt.ge _ _ _(by rw [ha];exact hd) ?_);rcases hb with hb|hb
   ·exact absurd hb hd
   ·exact hb
 ·have h1:=h.hc hv;have h2:=Ef hs l y.dest y.seq y.hops;omega
theorem Y9.set {G G':Int} {S:List bi} {i k:Nat} {p:ah} {L:List(Int×Int)} {s s':bi}(h:Y9 G S k p L)(hG:G≤G')(hs:S[i]?=some s)(l:kZ s s'):Y9 G'(S.set i s')k p L:=by
 refine⟨fun hk=> ?_,fun hk=> ?_,fun hk x hx=> ?_⟩
 ·obtain⟨h1,h2,h3,h4,h5,t,ht,h6⟩:=h.k1 hk;obtain⟨t',ht',lt⟩:=ma hs l ht;have:=Ef hs l p.aI p.dm p.hops;exact⟨fP hs l.addr h1,h2,⟨h3.1,by omega⟩,⟨h4.1,by omega⟩,by omega,t',ht',Yt lt(by by_cases e:t.addr=p.aI;exact .inr e;exact .inl fun h=>e h.symm)h6⟩
 ·obtain⟨h1,h2,h3,h5,t,ht,h6⟩:=h.k2 hk;obtain⟨t',ht',lt⟩:=ma hs l ht;have:=Ef hs l p.dest p.aW p.hops;exact⟨fP hs l.addr h1,h2,⟨h3.1,by omega⟩,by omega,t',ht',Yt lt(by by_cases e:t.addr=p.dest;exact .inr e;exact .inl fun h=>e h.symm)h6⟩
 ·have:=h.k3 hk x hx;omega
def g8(x:Int):Int:=((x.toNat%256:Nat):Int)
theorem aa0(x:Int):0≤g8 x∧g8 x≤255:=by unfold g8;omega
theorem rX {x:Int}(h:0≤x∧x≤255):g8 x=x:=by unfold g8;omega
theorem Zl(xs:List Int):aF(strOfNums xs)=xs.map g8:=by
 simp only [aF,strOfNums_data,List.map_map];refine List.map_congr_left fun x _=> ?_;simp only [Function.pE];rw [UInt8.toNat_ofNat'];rfl
def w8(n:Int):Int:=n4(g8(n / 16777216))(g8(n / 65536%256))(g8(n / 256%256))(g8(n%256))
theorem T9(n:Int):(b4 n).map g8=b4(w8 n):=by
 unfold w8;rw [adB(aa0 _)(aa0 _)(aa0 _)];rfl
theorem Yk {n:Int}(h:bg n):w8 n=n:=by
 unfold bg at h;unfold w8;rw [rX(by omega),rX(by omega),rX(by omega),rX(by omega)];exact Yx
theorem jd:w8 0=0:=by decide
def wP(p:ah):ah:={p with id:=w8 p.id,dest:=w8 p.dest,aW:=w8 p.aW,aI:=w8 p.aI,dm:=w8 p.dm,life:=w8 p.life}
def wL(L:List(Int×Int)):List(Int×Int):=L.map fun x=>(w8 x.1,w8 x.2)
theorem Vb(p:ah):(wP p).nums=p.nums.map fun x=>(x.1,w8 x.2):=by
 unfold ah.nums;show(if p.kind=1 then _ else if p.kind=2 then _ else if p.kind=9 then _ else _)=_;split
 ·rfl
 ·split
  ·rfl
  ·split<;>rfl
theorem WF {xs:List Int}(h:∀x∈xs,0≤x∧x≤255):xs.map g8=xs:=by
 conv=>rhs;rw [←List.map_id xs]
 exact List.map_congr_left fun x hx=>rX(h x hx)
theorem Tq {p:ah}(hg:p.dL=true):0≤p.cnt∧p.cnt≤255:=by
 obtain⟨_,_,_,h0,h1,hp,hk⟩:=ek hg;unfold ah.cnt;split
 ·rcases hk with h|h|h|h<;>omega
 ·split<;>omega
theorem aa7 {p:ah}(hg:p.dL=true)(L:List(Int×Int)):(xU p L).map g8=xU(wP p)(wL L):=by
 have hc:=Tq hg;obtain⟨_,t0,t1,_,_,_,hk⟩:=ek hg;have hf:0≤mW p∧mW p≤255:=by unfold mW;split<;>omega
 have h1:(p.head).map g8=(wP p).head:=by
  have e:p.head.map g8=[g8 p.aS,g8 p.kind,g8(mW p),g8 0,g8 p.cnt]:=rfl;rw [e,rX(by omega),rX(by rcases hk with h|h|h|h<;>omega),rX hf,rX(by omega),rX hc];rfl
 have h2:(p.jW p.nums.length).map g8=(wP p).jW(wP p).nums.length:=by
  unfold ah.jW;rw [List.take_of_length_le(Nat.le_refl _),List.take_of_length_le(Nat.le_refl _),Vb,List.FT,List.flatMap_map]
  congr 1
  funext x
  exact T9 x.2
 have h3:(gL L L.length).map g8=gL(wL L)(wL L).length:=by
  unfold gL;rw [List.take_of_length_le(Nat.le_refl _),List.take_of_length_le(Nat.le_refl _),List.FT];unfold wL;rw [List.flatMap_map]
  congr 1
  funext x
  rw [List.map_append,T9,T9]
 have h4:(aF p.pay).map g8=aF(wP p).pay:=WF(nM p.pay);unfold xU;rw [List.map_append,List.map_append,List.map_append,h1,h2,h3,h4]
theorem Xv {p:ah}(hg:p.dL=true):(wP p).dL=true:=by
 obtain⟨_,_,_,_,_,_,hk⟩:=ek hg;obtain⟨aS,kind,hops,iK,id,dest,aW,aI,dm,life,la,ln,lc,pay⟩:=p;unfold ah.dL at hg ⊢;simp only [Bool.and_eq_true]at hg ⊢;obtain⟨⟨⟨h1,h2⟩,h3⟩,h4⟩:=hg;refine⟨⟨⟨h1,h2⟩,?_⟩,?_⟩
 ·unfold wP;dsimp only at h3 ⊢;cases iK
  ·rfl
  ·have hd:aW=0:=by simpa using h3
   subst hd;rfl
 ·dsimp only at hk;rcases hk with rfl|rfl|rfl|⟨rfl,_,_⟩
  ·simp [ah.kW,ah.jV,wP]at h4 ⊢;obtain⟨a,b,c⟩:=h4;exact⟨by rw [a];exact jd,b,c⟩
  ·simp [ah.kW,ah.jV,wP]at h4 ⊢;obtain⟨a,b,c⟩:=h4;exact⟨by rw [a];exact jd,by rw [b];exact jd,c⟩
  ·simp [ah.kW,ah.jV,wP]at h4 ⊢;obtain⟨a,b,c,d⟩:=h4;exact⟨by rw [a];exact jd,by rw [b];exact jd,by rw [c];exact jd,d⟩
  ·simp [ah.kW,ah.jV,wP]at h4 ⊢;obtain⟨a,b,c,d,e,f,g⟩:=h4;exact⟨by rw [a];exact jd,by rw [b];exact jd,by rw [c];exact jd,by rw [d];exact jd,by rw [e];exact jd,by rw [f];exact jd,g⟩
theorem Gd {x0 x1 x2 x3 x4:Int} {r:List Int} {k:Nat}(hl:r.length≤bC x1 x4)(h:uM((x0::x1::x2::x3::x4::r).take k)=true):(x0::x1::x2::x3::x4::r).take k=x0::x1::x2::x3::x4::r∧r.length=bC x1 x4:=by
 match k,h with
 |0,h=>cases h
 |1,h=>cases h
 |2,h=>cases h
 |3,h=>cases h
 |4,h=>cases h
 |k+5,h=>
  simp only [List.take_succ_cons]at h ⊢;have h1:(r.take k).length=bC x1 x4:=by
   refine Classical.byContradiction fun hn=> ?_;rw [bL hn]at h;cases h
  rw [List.length_take]at h1;exact⟨by rw [List.take_of_length_le(by omega)],by omega⟩
def We(xs:List Int):ah:=fU(xs.getD 0 0)(xs.getD 1 0)(xs.getD 2 0)(xs.getD 4 0)(xs.drop 5)
def ZT(xs:List Int):List(Int×Int):=jX(xs.getD 1 0)(xs.getD 4 0)(xs.drop 5)
theorem aah(fr:Int)(xs:List Int):LF fr xs=some(fr,We xs,ZT xs):=rfl
theorem XA {p:ah} {L:List(Int×Int)}(hz:L=[]∨L.length=p.ln) {k:Nat}(h:uM((aF(strOfNums(mF p L))).take k)=true):
  p.dL=true∧L.length=p.ln∧We((aF(strOfNums(mF p L))).take k)={wP p with la:=none,lc:=0}∧ZT((aF(strOfNums(mF p L))).take k)=wL L:=by
 rw [Zl]at h ⊢;unfold mF at h ⊢;cases hg:p.dL with
 |false=>
  rw [hg]at h;simp only [Bool.false_eq_true,if_false,List.map_nil,List.EP]at h;cases h
 |true=>
  rw [hg]at h;rw [if_pos rfl,aa7 hg]at h ⊢;have hgw:=Xv hg;obtain⟨hl,_,_,_,_,hp,hk⟩:=ek hg;have hln:=(o9 hl).1;have hkk:(wP p).kind=p.kind:=rfl;have hlen:L.length=p.ln:=by
   rcases hz with rfl|hz
   ·rcases hk with hk|hk|hk|hk
    ·rw [hln];simp [ah.dw,hk]
    ·rw [hln];simp [ah.dw,hk]
    ·rw [hln];simp [ah.dw,hk]
    ·exfalso;rw [Ci]at h;have h0:(qi(wP p)(wL [])).length=0:=by
      unfold qi;have h1:(wP p).jW(wP p).nums.length=[]:=by
       unfold ah.jW ah.nums;rw [hkk,hk.1];rfl
      have h2:aF(wP p).pay=[]:=by
       have h3:=(o9 hl).2.2.2;show aF p.pay=[];rw [h3];unfold ah.dw;rw [hk.1];rfl
      rw [h1,h2];rfl
     have h1:=(Gd(by rw [h0];exact Nat.zero_le _)h).2;rw [h0]at h1;have h2:=Ri(wP p)hgw;omega
   ·exact hz
  have hlw:(wL L).length=(wP p).ln:=by
   unfold wL;rw [List.length_map];exact hlen
  obtain⟨d1,d2,d3⟩:=XO(wP p)hgw(wL L)hlw;refine⟨rfl,hlen,?_⟩;rw [Ci]at h ⊢;have e:=(Gd(Nat.le_of_eq d1)h).1;rw [e];exact⟨d2,d3⟩
def x_(G:Int)(S:List bi)(j:Nat)(b:ByteArray):Prop:=∀k,uM((aF b).take k)=true→Y9 G S j(We((aF b).take k))(ZT((aF b).take k))
theorem Xz {G:Int} {S:List bi} {j:Nat} {p:ah} {L:List(Int×Int)}(h:Y9 G S j p L)(hU:∀s∈S,bg s.addr)(hG:G≤4294967295)(hz:L=[]∨L.length=p.ln):x_ G S j(strOfNums(mF p L)):=by
 intro k hk;obtain⟨_,_,e1,e2⟩:=XA hz hk;rw [e1,e2];have hu:∀ {d:Int},(∃s∈S,s.addr=d)→w8 d=d:=fun⟨s,hs,e⟩=>Yk(e▸hU s hs);have hn:∀ {n:Int},0≤n∧n≤G→w8 n=n:=fun h=>Yk⟨h.1,by omega⟩;refine⟨fun hk=> ?_,fun hk=> ?_,fun hk x hx=> ?_⟩
 ·obtain⟨a1,a2,a3,a4,a5,a6⟩:=h.k1 hk;show(∃s∈S,s.addr=w8 p.aI)∧0≤p.hops∧(0≤w8 p.dm∧w8 p.dm≤G)∧(0≤w8 p.aW∧w8 p.aW≤G)∧p.hops+p.aS≤8 * (cnt S(w8 p.aI)(w8 p.dm)p.hops:Int)∧∃s,S[j]?=some s∧(s.addr=w8 p.aI∨sG s(w8 p.aI)(w8 p.dm)p.hops=true);rw [hu a1,hn a3,hn a4];exact h.k1 hk
 ·obtain⟨a1,a2,a3,a5,a6⟩:=h.k2 hk;show(∃s∈S,s.addr=w8 p.dest)∧0≤p.hops∧(0≤w8 p.aW∧w8 p.aW≤G)∧p.hops+p.aS≤8 * (cnt S(w8 p.dest)(w8 p.aW)p.hops:Int)∧∃s,S[j]?=some s∧(s.addr=w8 p.dest∨sG s(w8 p.dest)(w8 p.aW)p.hops=true);rw [hu a1,hn a3];exact h.k2 hk
 ·obtain⟨y,hy,rfl⟩:=List.mem_map.1 hx;have h3:=h.k3 hk y hy;dsimp only;rw [hn h3];exact h3
theorem Rc(b:ByteArray)(n:Nat):aF(b.extract 0 n)=(aF b).take n:=by
 unfold aF;rw [ByteArray.data_extract,Array.toList_extract,List.map_take];simp
theorem x_.cut {G:Int} {S:List bi} {j:Nat} {b:ByteArray}(h:x_ G S j b)(n:Nat):x_ G S j(b.extract 0 n):=by
 intro k hk;rw [Rc,List.take_take]at hk ⊢;exact h _ hk
theorem x_.whole {G:Int} {S:List bi} {j:Nat} {b:ByteArray}(h:x_ G S j b)(hF:uM(aF b)=true):Y9 G S j(We(aF b))(ZT(aF b)):=by
 have h1:=h(aF b).length;rw [List.take_length]at h1;exact h1 hF
theorem x_.set {G G':Int} {S:List bi} {i k:Nat} {b:ByteArray} {s s':bi}(h:x_ G S k b)(hG:G≤G')(hs:S[i]?=some s)(l:kZ s s'):x_ G'(S.set i s')k b:=fun n hn=>(h n hn).set hG hs l
end Go.Proofs.YtakaadcpaeiccabGreat
