import Derived.Test.YtakaadcpaeiccabGreatC20
import Derived.Test.YtakaadcpaeiccabGreatC17
set_option maxHeartbeats 4000000
set_option maxRecDepth 100000
namespace Go.Proofs.YtakaadcpaeiccabGreat
open Go.RowKit Go.Maps
open Hp
theorem Ke(base T M:Nat)(last:Int)(h:List Tm)(v:Value)(w:World)(r:TR base T M last h v w)(hn:h.length≤1000000)(hb:Heap h)(k:Int)(hk:oC k):
  Calls Tryz.prog 150 #[.pointer(some⟨T,0,none⟩),.int .i64 k]w fun e w'=>∃h' v',TR base T M last h' v' w'∧Fr T M v w w'∧v'.ownBlock=v.ownBlock∧Heap h'∧
   ((∃x,x.2.1=k∧e=.returned(.bool true)∧(x::h').Perm h)∨((∀x∈h,x.2.1≠k)∧e=.returned(.bool false)∧h'=h)):=by
 obtain⟨f,hm,hp⟩:=r.map;obtain⟨u,hr,hu⟩:=hm.look hk;obtain⟨c0,c1,c2⟩:=r.blk.cell;have hF:=Fr.refl T M v w;cases hf:f k with
 |none=>
  rw [hf]at hr;have hno:∀x∈h,x.2.1≠k:=by
   intro x hx e;obtain⟨i,hi,rfl⟩:=List.mem_iff_getElem.1 hx;have:=hp.1 i _(List.getElem?_eq_getElem hi);rw [e,hf]at this;cases this
  simp only [Option.isSome_none]at hr;clear hm hp hu hf;go_enter Tryz.func150,Tryz.ntmps150
  go_wp2
  go_ret
  exact⟨h,v,r,hF,rfl,hb,.inr⟨hno,rfl,rfl⟩⟩
 |some i=>
  rw [hf]at hr;obtain rfl:=hu i hf;obtain⟨x,hx,hxk⟩:=hp.2 k i hf;have hi:i<h.length:=by
   rcases Nat.lt_or_ge i h.length with a|a
   ·exact a
   ·rw [List.getElem?_eq_none a]at hx;cases hx
  have hax:=rD hx;simp only [Option.gN]at hr;clear hm hp hu hf hx;go_enter Tryz.func150,Tryz.ntmps150
  go_wp2_with fail
  refine(yR base T M last h v _ r i hi hn hb).mono ?_;rintro e w1⟨rfl,h',v',r1,hF1,hv1,hp1,hH1⟩;rw [hax]at hp1;clear hr r c0 c1 c2;go_wp2
  go_ret
  exact⟨h',v',r1,hF1,hv1,hH1,.inl⟨x,hxk,rfl,hp1⟩⟩
theorem XG(a b c:Int)(w:World):(Instr.field 254(.agg #[.int .u64 a,.int .i64 b,.int .i64 c])2).run Tryz.prog w=.ok(.int .i64 c)w:=by kernel_rfl
def adI(base T M:Nat)(last:Int)(h:List Tm)(v:Value)(w:World)(now:Int)(e:Ending)(w':World):Prop:=
 ∃h' v',TR base T M last h' v' w'∧Fr T M v w w'∧v'.ownBlock=v.ownBlock∧Heap h'∧
   ((0<h.length∧(at' h 0).1≤now∧e=.returned(.tuple #[.int .i64(at' h 0).2.2,.bool true])∧(at' h 0::h').Perm h)∨((h.length=0∨now<(at' h 0).1)∧e=.returned(.tuple #[.int .i64 0,.bool false])∧h'=h))
theorem Ul(base T M:Nat)(last:Int)(h:List Tm)(v:Value)(w:World)(r:TR base T M last h v w)(hn:h.length≤1000000)(hb:Heap h)(now:Int)(_n0:0≤now)(_n1:now<18446744073709551616):
  Calls Tryz.prog 114 #[.pointer(some⟨T,0,none⟩),.int .u64 now]w fun e w'=>adI base T M last h v w now e w':=by
 obtain⟨c0,c1,c2⟩:=r.blk.cell;have hF:=Fr.refl T M v w;by_cases h0:h.length=0
 ·obtain⟨ao,c,hv,_⟩:=ak r.row;have hz:((h.length:Int)==0)=true:=by rw [beq_iff_eq];omega
  rw [hv]at c0;go_enter Tryz.func114,Tryz.ntmps114
  go_wp2
  go_ret2
  exact⟨h,v,r,hF,rfl,hb,.inr⟨.inl h0,rfl,rfl⟩⟩
 ·have hpos:0<h.length:=by omega
  obtain⟨g,cap,rfl,hg⟩:=r.shape hpos;have hz:((h.length:Int)==0)=false:=by rw [beq_eq_false_iff_ne];omega
  have hin:(0:Int)<(h.length:Int):=by omega
  have hl:=oo h;have d0:=(r.row.cellAt(0 * 3)(by omega)).trans(r_ hpos).1;rw [Nat.zero_mul]at d0;by_cases hle:(at' h 0).1≤now
  ·have hd:decide(now<(at' h 0).1)=false:=decide_eq_false(by omega);have vU:=XG;clear hl;go_enter Tryz.func114,Tryz.ntmps114
   go_wp2_with fail
   refine(yR base T M last h _ _ r 0 hpos hn hb).mono ?_;rintro e w1⟨rfl,h',v',r1,hF1,hv1,hp1,hH1⟩;clear r c0 c1 c2 d0 hd;dsimp only [tmV];go_wp2
   go_ret2
   exact⟨h',v',r1,hF1,hv1,hH1,.inl⟨hpos,hle,rfl,hp1⟩⟩
  ·have hd:decide(now<(at' h 0).1)=true:=decide_eq_true(by omega);clear hl;go_enter Tryz.func114,Tryz.ntmps114
   go_wp2
   go_ret2
   exact⟨h,_,r,hF,rfl,hb,.inr⟨.inr(by omega),rfl,rfl⟩⟩
theorem Kl(w:World):(zeroValue 172).run Tryz.prog w=.ok(.pointer none)w:=by kernel_rfl
theorem eX.obj {W:World} {M:Nat} {f:Int→Option Nat} {s:Nat}(h:eX W M f s):∃es cl,W.heap[M]?=some(.map es cl):=by
 obtain⟨D,⟨es,cl,hm,_⟩,_⟩:=h;exact⟨es,cl,hm⟩
theorem eX.puts {W:World} {M:Nat} {f:Int→Option Nat} {s:Nat}(h:eX W M f s)(hs:s<maxLen) {k:Int}(hk:bg k)(B:Nat):
  ∃W',(Instr.mapUpdate 119(.map(some M))(.int .u32 k)(.pointer(some⟨B,0,none⟩))).run Tryz.prog W=.ok()W'∧eX W' M(eD f k(some B))(if(f k).isSome then s else s+1)∧W.grownBy W'(some M):=by
 obtain⟨D,h1,h2,h3⟩:=h;obtain⟨W',hr,ho,ht⟩:=h1.store fF Tryz.underlying119 hs hk.key(oQ(some B));have hm:=h1.isMap;have htd:=h1.tidy fF;have hkl:WideAt.IsKeyLit(.int .u32 k):=by trivial
 have hsz:Maps.size(D.put(.int .u32 k)(.lit(.int .i64(kU(some B)))))=if(f k).isSome then s else s+1:=by
  rw [size_put htd,(h3 k hk).1,h2]
 refine⟨W',hr,⟨_,?_,hsz,fun x hx=> ?_⟩,ht.grown⟩
 ·have:=fD ho;rw [hsz]at this;exact this
 ·by_cases e:x=k
  ·subst e;refine⟨by rw [has_put_same hm hkl];simp [eD],?_⟩;rw [atKey_put_same hm hkl];simp [eD]
  ·have hne:(Lit.int .u32 x)≠ .int .u32 k:=fun h=>e(by cases h;rfl);refine⟨by rw [has_put_other hne];simp [eD,e,(h3 x hx).1],?_⟩;rw [atKey_put_other hne,(h3 x hx).2];simp [eD,e]
theorem eX.looks {W:World} {M:Nat} {f:Int→Option Nat} {s:Nat}(h:eX W M f s) {k:Int}(hk:bg k):
  (Instr.lookup 119(.map(some M))(.int .u32 k)false).run Tryz.prog W=.ok(fJ(f k))W:=by
 obtain⟨D,h1,h2,h3⟩:=h;obtain⟨v,ps,hr,hv⟩:=h1.lookup fF Tryz.underlying119(Kl W)(oQ none)hk.key;have h4:=(h3 k hk).2;simp only [kU]at hv h4;rw [h4]at hv;rw [hr,uA(o:=f k)hv]
theorem eX.FY {W:World} {M:Nat} {f:Int→Option Nat} {s:Nat}(h:eX W M f s) {k:Int}(hk:bg k):
  (Instr.lookup 119(.map(some M))(.int .u32 k)true).run Tryz.prog W=.ok(.tuple #[fJ(f k),.bool(f k).isSome])W:=by
 obtain⟨D,h1,h2,h3⟩:=h;obtain⟨v,ps,hr,hv⟩:=h1.look_ok fF Tryz.underlying119(Kl W)(oQ none)hk.key;have h4:=(h3 k hk).2;simp only [kU]at hv h4;rw [h4]at hv;rw [hr,uA(o:=f k)hv,(h3 k hk).1]
theorem eX.afn {W:World} {M:Nat} {f:Int→Option Nat} {s:Nat}(h:eX W M f s) {k:Int}(hk:bg k)(ty:TypeId)(hf:(f k).isSome=true):
  ∃W',(Builtin.delete_ #[119,34]ty #[.map(some M),.int .u32 k]).run Tryz.prog W=.ok(.tuple #[])W'∧eX W' M(eD f k none)(s - 1)∧W.grownBy W'(some M):=by
 obtain⟨D,h1,h2,h3⟩:=h;obtain⟨W',hr,ho,ht⟩:=h1.drop fF Tryz.underlying119 hk.key ty;have htd:=h1.tidy fF;have hsz:Maps.size(D.del(.int .u32 k))=s - 1:=by
  have:=size_del(k:=.int .u32 k)htd;rw [(h3 k hk).1,hf,h2]at this;simp at this;omega
 refine⟨W',hr,⟨_,?_,hsz,fun x hx=> ?_⟩,ht.grown⟩
 ·have:=fD ho;rw [hsz]at this;exact this
 ·by_cases e:x=k
  ·subst e;refine⟨by rw [has_del_same];simp [eD],?_⟩;rw [atKey_del_same];simp [eD,kU]
  ·have hne:(Lit.int .u32 x)≠ .int .u32 k:=fun h=>e(by cases h;rfl);refine⟨by rw [has_del_other hne];simp [eD,e,(h3 x hx).1],?_⟩;rw [atKey_del_other hne,(h3 x hx).2];simp [eD,e]
def CG(out:Bool)(B:Nat):Value:=.func(.func(if out then 124 else 83))#[.pointer(some⟨B,0,none⟩)]#[]
@[reducible] def KA (q : Sr) (v fn : Value) : Obj := .cells #[.int .u32 q.dest, v, .int .i64 q.aS, .int .i64 q.ret, .int .i64 q.id, fn] 177
def rH(B:Nat)(q:Sr)(v fn:Value)(W:World):Prop:=W.heap[B]?=some(KA q v fn)
theorem rH.cell {B:Nat} {q:Sr} {v fn:Value} {W:World}(h:rH B q v fn W):
  W.cell?⟨B,0,none⟩=some(.int .u32 q.dest)∧W.cell?⟨B,1,none⟩=some v∧W.cell?⟨B,2,none⟩=some(.int .i64 q.aS)∧W.cell?⟨B,3,none⟩=some(.int .i64 q.ret)∧W.cell?⟨B,4,none⟩=some(.int .i64 q.id)∧W.cell?⟨B,5,none⟩=some fn:=
 ⟨cell_of_row W B 0 _ _ _ h,cell_of_row W B 1 _ _ _ h,cell_of_row W B 2 _ _ _ h,cell_of_row W B 3 _ _ _ h,cell_of_row W B 4 _ _ _ h,cell_of_row W B 5 _ _ _ h⟩
theorem rH.free {B:Nat} {q:Sr} {v fn:Value} {W:World}(h:rH B q v fn W)(i:Nat):W.frozen?⟨B,i,none⟩=false:=by
 unfold World.frozen?;rw [show W.heap[(⟨B,i,none⟩:Addr).block]?=some(KA q v fn)from h];try rfl
theorem rH.lt {B:Nat} {q:Sr} {v fn:Value} {W:World}(h:rH B q v fn W):B<W.heap.size:=(Array.getElem?_eq_some_iff.1 h).1
theorem rH.block {B:Nat} {q:Sr} {v fn:Value} {W W':World}(h:rH B q v fn W)(he:W'.heap[B]?=W.heap[B]?):rH B q v fn W':=he.trans h
def p_(B:Nat)(q:Sr)(v:Value)(W:World):Prop:=∃fn,rH B q v fn W∧(q.id≠0→fn=CG q.out B)
theorem p_.cell {B:Nat} {q:Sr} {v:Value} {W:World}(h:p_ B q v W):
  W.cell?⟨B,0,none⟩=some(.int .u32 q.dest)∧W.cell?⟨B,1,none⟩=some v∧W.cell?⟨B,2,none⟩=some(.int .i64 q.aS)∧W.cell?⟨B,3,none⟩=some(.int .i64 q.ret)∧W.cell?⟨B,4,none⟩=some(.int .i64 q.id):=by
 obtain⟨fn,h1,_⟩:=h;obtain⟨c0,c1,c2,c3,c4,_⟩:=h1.cell;exact⟨c0,c1,c2,c3,c4⟩
theorem p_.lt {B:Nat} {q:Sr} {v:Value} {W:World}(h:p_ B q v W):B<W.heap.size:=by
 obtain⟨fn,h1,_⟩:=h;exact h1.lt
theorem p_.block {B:Nat} {q:Sr} {v:Value} {W W':World}(h:p_ B q v W)(he:W'.heap[B]?=W.heap[B]?):p_ B q v W':=by
 obtain⟨fn,h1,h2⟩:=h;exact⟨fn,h1.block he,h2⟩
theorem p_.obj {B:Nat} {q:Sr} {v:Value} {W:World}(h:p_ B q v W):∃c,W.heap[B]?=some(.cells c 177(0,0)):=by
 obtain⟨fn,h1,_⟩:=h;exact⟨_,h1⟩
structure Sr.Ok(q:Sr):Prop where
 dest:bg q.dest
 aS:1≤q.aS∧q.aS≤8
 ret:q.ret≤2
 txt:q.txt.length≤4
 H_:∀t∈q.txt,t.size≤16
 id:0≤q.id∧q.id≤4611686018427387904
def G9(Ms:Nat)(h:Int→Option Nat)(u:Int→Value)(Q:List Sr)(k:Nat):Prop:=
 k=Ms∨∃q∈Q,h q.dest=some k∨(u q.dest).ownBlock=some k
structure wG(Ms:Nat)(h:Int→Option Nat)(u:Int→Value)(Q:List Sr)(W:World):Prop where
 map:eX W Ms h Q.length
 qA:Q.Pairwise fun a b=>a.dest≠b.dest
 ok:∀q∈Q,q.Ok
 dom:∀d B,bg d→h d=some B→∃q∈Q,q.dest=d
 ln:∀q∈Q,∃B,h q.dest=some B∧p_ B q(u q.dest)W
 row:∀q∈Q,W.ownsRow 0 9 1(u q.dest)q.txt.length(q.txt.map Value.string)
 apart:∀a∈Q,∀b∈Q,a.dest≠b.dest→(u a.dest).ownBlock=none∨(u a.dest).ownBlock≠(u b.dest).ownBlock
 len:Q.length≤5000
theorem wG.kept {Ms:Nat} {h:Int→Option Nat} {u:Int→Value} {Q:List Sr} {W W':World}(s:wG Ms h u Q W)(he:∀k,G9 Ms h u Q k→W'.heap[k]?=W.heap[k]?):wG Ms h u Q W':=by
 refine⟨s.map.block(he _(.inl rfl)),s.qA,s.ok,s.dom,fun q hq=> ?_,fun q hq=> ?_,s.apart,s.len⟩
 ·obtain⟨B,h1,h2⟩:=s.ln q hq;exact⟨B,h1,h2.block(he B(.inr⟨q,hq,.inl h1⟩))⟩
 ·exact bD(s.row q hq)fun k hk=>he k(.inr⟨q,hq,.inr hk⟩)
theorem wG.lt {Ms:Nat} {h:Int→Option Nat} {u:Int→Value} {Q:List Sr} {W:World}(s:wG Ms h u Q W) {k:Nat}(hk:G9 Ms h u Q k):k<W.heap.size:=by
 rcases hk with rfl|⟨q,hq,hk|hk⟩
 ·exact s.map.lt
 ·obtain⟨B,h1,h2⟩:=s.ln q hq;rw [h1]at hk;cases hk;exact h2.lt
 ·exact((s.row q hq).lt k hk).2
theorem wG.kind {Ms:Nat} {h:Int→Option Nat} {u:Int→Value} {Q:List Sr} {W:World}(s:wG Ms h u Q W) {k:Nat}(hk:G9 Ms h u Q k):∃o,W.heap[k]?=some o∧((k=Ms∧∃es cl,o=.map es cl)∨(∃c,o=.cells c 177(0,0))∨∃c,o=.cells c 9(0,0)):=by
 rcases hk with rfl|⟨q,hq,hk|hk⟩
 ·obtain⟨es,cl,hm⟩:=s.map.obj;exact⟨_,hm,.inl⟨rfl,_,_,rfl⟩⟩
 ·obtain⟨B,h1,h2⟩:=s.ln q hq;rw [h1]at hk;cases hk;obtain⟨c,hc⟩:=h2.obj;exact⟨_,hc,.inr(.inl⟨_,rfl⟩)⟩
 ·obtain⟨c,hc⟩:=aP(s.row q hq)hk;exact⟨_,hc,.inr(.inr⟨_,rfl⟩)⟩
theorem iL {Q:List Sr} {d:Int} {q:Sr}(h:St.jD Q d=some q):q∈Q∧q.dest=d:=by
 unfold St.jD at h;exact⟨List.mem_of_find?_eq_some h,by simpa using List.find?_some h⟩
theorem BF {Q:List Sr} {d:Int}:St.jD Q d=none ↔ ∀q∈Q,q.dest≠d:=by
 unfold St.jD;simp
theorem wG.off {Ms:Nat} {h:Int→Option Nat} {u:Int→Value} {Q:List Sr} {W:World}(s:wG Ms h u Q W) {d:Int}(hd:bg d)(hn:St.jD Q d=none):h d=none:=by
 cases e:h d with
 |none=>rfl
 |some B=>
  obtain⟨q,hq,YF⟩:=s.dom d B hd e;exact absurd YF(BF.1 hn q hq)
theorem wG.at {Ms:Nat} {h:Int→Option Nat} {u:Int→Value} {Q:List Sr} {W:World}(s:wG Ms h u Q W) {d:Int} {q:Sr}(hn:St.jD Q d=some q):q∈Q∧q.dest=d∧∃B,h d=some B∧p_ B q(u d)W∧W.ownsRow 0 9 1(u d)q.txt.length(q.txt.map Value.string):=by
 obtain⟨hq,rfl⟩:=iL hn;obtain⟨B,h1,h2⟩:=s.ln q hq;exact⟨hq,rfl,B,h1,h2,s.row q hq⟩
theorem FH(xs:List Int)(k:Nat) {a b c d:Int} {ys:List Int}(h:xs.drop(4 * k)=a::b::c::d::ys):num xs k=n4 a b c d:=by
 have g:∀i x,(a::b::c::d::ys)[i]?=some x→xs.getD(4 * k+i)0=x:=by
  intro i x hx;rw [←h,List.getElem?_drop]at hx;simp [List.getD,hx]
 unfold num;rw [show 4 * k=4 * k+0 from rfl,g 0 a rfl,g 1 b rfl,g 2 c rfl,g 3 d rfl]
theorem Ng(k:Nat)(xs:List Int):oV(k+1)xs=oV k xs++ [(num xs(2 * k),num xs(2 * k+1))]:=by
 simp [oV,List.range_succ]
theorem Ps(a b:List(Int×Int)):LC(a++b)=LC a++LC b:=by simp [LC]
theorem fO(k:Nat)(xs:List Int):(oV k xs).length=k:=by simp [oV]
theorem VM(A:List Value)(u v x y:Value)(T:List Value):((A++u::v::T).set A.length x).set(A.length+1)y=A++ [x,y]++T:=by
 simp [List.vL]
theorem Rq(m:Nat):∀v∈(madeCells #[Value.int .u32 0,Value.int .u32 0]m).toList,∃z,v=.int .u32 z:=by
 intro v hv;simp only [madeCells,Array.toList_map,List.mem_map]at hv;obtain⟨i,_,rfl⟩:=hv;rcases Nat.mod_two_eq_zero_or_one i with h|h<;>simp [h]
def adN(R n:Nat)(xs:List Int)(W:World)(e:Ending)(w':World):Prop:=
 W.grownBy w'(some R)∧((8 * n≤xs.length∧(∃g,W.heap.size≤g∧e=.returned(.slice(some⟨g,0,none⟩)n n)∧bu w'(some⟨g,0,none⟩)(oV n xs))∧Rd R(xs.drop(8 * n))w')∨(xs.length<8 * n∧e=.panicked broken))
theorem bu.Yv {W:World} {base g n cap:Nat} {L:List(Int×Int)}(h:W.ownsRow base 237 2(.slice(some⟨g,0,none⟩)n cap)n(LC L))(hb:∀x∈L,0≤x.1∧x.1<4294967296∧0≤x.2∧x.2<4294967296):bu W(some⟨g,0,none⟩)L:=by
 have hl:=h.1;rw [jC]at hl;have hlt:g<W.heap.size:=by
  rcases h.2 with⟨hh,_⟩|⟨g',_,_,hh,_,hg,_⟩
  ·simp at hh
  ·simp only [Value.slice.injEq,Option.some.injEq,Addr.mk.injEq,and_true]at hh;obtain⟨rfl,_⟩:=hh;exact(Array.getElem?_eq_some_iff.1 hg).1
 intro j hj;have hx:=hb _(List.getElem_mem hj);have hg:=abJ L j;rw [List.getElem?_eq_getElem hj]at hg;refine⟨g,0,L[j].1,L[j].2,rfl,hlt,List.getElem?_eq_getElem hj,hx.1,hx.2.1,hx.2.2.1,hx.2.2.2,?_,?_⟩
 ·rw [Nat.zero_add,h.cellAt(j * 2)(by omega),hg.1];rfl
 ·rw [Nat.zero_add,h.cellAt(j * 2+1)(by omega),hg.2];rfl
theorem K6 {xs:List Int}(h:∀x∈xs,0≤x∧x≤255)(i:Nat):0≤num xs i∧num xs i<4294967296:=by
 have g:∀j,0≤xs.getD j 0∧xs.getD j 0≤255:=by
  intro j;rcases Nat.lt_or_ge j xs.length with hj|hj
  ·have:=h _(List.getElem_mem hj);simpa [List.getD,List.getElem?_eq_getElem hj]using this
  ·simp [List.getD,List.getElem?_eq_none hj]
 exact kz(g _)(g _)(g _)(g _)
theorem ZG {xs:List Int}(h:∀x∈xs,0≤x∧x≤255)(n:Nat):∀x∈oV n xs,0≤x.1∧x.1<4294967296∧0≤x.2∧x.2<4294967296:=by
 intro x hx;simp only [oV,List.mem_map]at hx;obtain⟨i,_,rfl⟩:=hx;have a:=K6 h(2 * i);have b:=K6 h(2 * i+1);exact⟨a.1,a.2,b.1,b.2⟩
theorem FV(R n:Nat)(hn:n≤255)(xs:List Int)(W:World)(h:Rd R xs W):
  Calls Tryz.prog 88 #[.pointer(some⟨R,0,none⟩),.int .i64 n]W fun e w'=>adN R n xs W e w':=by
 obtain⟨i0,hi,hz0,hz1,hz2⟩:=info_parts N_;have hR:=h.lt;have hby:=h.bytes;go_enter Tryz.func88,Tryz.ntmps88
 go_wp2_with(at_make;refine wpList_make_full _ rfl _ _ 71 rfl W.heap.size 237 i0(.agg #[.int .u32 0,.int .u32 0])2 Tryz.underlying71 hi hz0 hz1 .i64 .i64 n n n rfl rfl rfl rfl ?c1 ?c2 ?c3 ?_)
 case c1=>rw [hz2];omega
 case c2=>unfold maxLen;omega
 case c3=>exact Nat.le_refl _
 intro w1 hown hg1;have hb1:Below W.heap.size W w1:=⟨hg1.os,hg1.tape,hg1.output,hg1.size,fun k hk=>hg1.block k hk(by simp)⟩;have hr1:=h.kept hb1;have hG1:W.grownBy w1(some R):=⟨hg1.os,hg1.tape,hg1.output,hg1.size,fun k hk _=>hg1.block k hk(by simp)⟩;have hT:∀v∈(madeCells #[Value.int .u32 0,Value.int .u32 0](n * 2)).toList,∃z,v=.int .u32 z:=Rq _;generalize(madeCells #[Value.int .u32 0,Value.int .u32 0](n * 2)).toList=T0 at hown hT;generalize hG:W.heap.size=G at hown ⊢;clear hg1 hb1 h hi hz0 hz1 hz2;go_wp2_with fail
 go_loopw [11](fun i wr=>∃(k:Nat)(T:List Value),k≤n∧i=.int .i64 k∧8 * k≤xs.length∧Rd R(xs.drop(8 * k))wr∧wr.ownsRow G 237 2(.slice(some⟨G,0,none⟩)n n)n(LC(oV k xs)++T)∧W.grownBy wr(some R)∧(∀v∈T,∃z,v=.int .u32 z))(fun i _=>n - (intOf i).toNat)
 case atStart=>exact⟨0,T0,Nat.zero_le _,rfl,Nat.zero_le _,hr1,hown,hG1,hT⟩
 case round=>
  clear hr1 hown hG1 hT;obtain⟨k,T,hk,rfl,h8,hr,ho,hg,hT⟩:=hrel;by_cases hlt:k<n
  ·go_wp2_with fail
   refine(bq R _ _ hr).mono ?_;rintro e w2(⟨a,b,c,d,ys,hd1,rfl,hr2,hg2,_⟩|⟨hs,rfl,rfl⟩)
   case inr=>
    rw [List.length_drop]at hs;exact⟨rfl,hg,.inr⟨by omega,rfl⟩⟩
   have ho2:=ho.kept hg2(by right;simp [Value.ownBlock];omega);have hG2:=ae hg hg2;clear hr hg2 ho hg;go_wp2_with fail
   refine(bq R _ _ hr2).mono ?_;rintro e w3(⟨a',b',c',d',zs,rfl,rfl,hr3,hg3,_⟩|⟨hs,rfl,rfl⟩)
   case inr=>
    have:=congrArg List.length hd1;simp only [List.length_drop,List.length_cons]at this;exact⟨rfl,hG2,.inr⟨by omega,rfl⟩⟩
   have ho3:=ho2.kept hg3(by right;simp [Value.ownBlock];omega);have hG3:=ae hG2 hg3;clear hr2 hg3 ho2 hG2;have hl3:=ho3.1;rw [List.length_append,jC,fO]at hl3;obtain⟨u,v,T',rfl⟩:∃u v T',T=u::v::T':=by
    match T,hl3 with
    | [],h=>simp at h;omega
    | [_],h=>simp at h;omega
    |u::v::T',_=>exact⟨u,v,T',rfl⟩
   obtain⟨z0,rfl⟩:=hT u(by simp);obtain⟨z1,rfl⟩:=hT v(by simp);have hT':∀v∈T',∃z,v=.int .u32 z:=fun v hv=>hT v(by simp [hv]);have c0:w3.cell?⟨G,k * 2,none⟩=some(.int .u32 z0):=by
    rw [ho3.cellAt(k * 2)(by omega),List.getElem?_append_right(by rw [jC,fO];omega),jC,fO];simp
   have c1:w3.cell?⟨G,k * 2+1,none⟩=some(.int .u32 z1):=by
    rw [ho3.cellAt(k * 2+1)(by omega),List.getElem?_append_right(by rw [jC,fO];omega),jC,fO];simp
   have f0:=ho3.frozenAt(k * 2);have f1:=ho3.frozenAt(k * 2+1);have hkn:(k:Int)<(n:Int):=by omega
   clear hT;have n0:num xs(2 * k)=n4 a b c d:=FH xs(2 * k)(by rw [show 4 * (2 * k)=8 * k by omega];exact hd1);have n1:num xs(2 * k+1)=n4 a' b' c' d':=FH xs(2 * k+1)(ys:=zs)(by
    rw [show 4 * (2 * k+1)=8 * k+4 by omega,←List.drop_drop,hd1];rfl)
   have hdr:xs.drop(8 * (k+1))=zs:=by
    rw [show 8 * (k+1)=8 * k+8 by omega,←List.drop_drop,hd1];rfl
   have hle:8 * (k+1)≤xs.length:=by
    have:=congrArg List.length hd1;simp only [List.length_drop,List.length_cons]at this;omega
   have hlc:LC(oV(k+1)xs)=LC(oV k xs)++ [.int .u32(n4 a b c d),.int .u32(n4 a' b' c' d')]:=by
    rw [Ng,Ps,n0,n1];rfl
   have hst:=(ho3.stored(k * 2)(.int .u32(n4 a b c d))).1.stored(k * 2+1)(.int .u32(n4 a' b' c' d'));have hset:=VM(LC(oV k xs))(.int .u32 z0)(.int .u32 z1)(.int .u32(n4 a b c d))(.int .u32(n4 a' b' c' d'))T';rw [jC,fO]at hset;rw [hset]at hst;have hst':=hst.1;rw [←hlc]at hst';have hrA:=hr3.setCell(B:=G)(by omega)(i:=k * 2)(.int .u32 z0)(.int .u32(n4 a b c d))(by simp)c0;have c1':(w3.setCell⟨G,k * 2,none⟩(.int .u32(n4 a b c d))).cell?⟨G,k * 2+1,none⟩=some(.int .u32 z1):=by
    rw [World.cell?_setCell_other _ _ _ _(by simp)];exact c1
   have hrB:=hrA.setCell(B:=G)(by omega)(i:=k * 2+1)(.int .u32 z1)(.int .u32(n4 a' b' c' d'))(by simp)c1';have hgB:=aL(aL hG3(a:=⟨G,k * 2,none⟩)(by simp;omega)(.int .u32(n4 a b c d)))(a:=⟨G,k * 2+1,none⟩)(by simp;omega)(.int .u32(n4 a' b' c' d'));rw [←hdr]at hrB;clear n0 n1 hdr hlc hst hset hd1 hl3 c1' hrA hr3 hG3 ho3;go_wp2
   go_roundw
   case rel=>exact⟨k+1,T',by omega,by go_num,hle,hrB,hst',hgB,hT'⟩
   case measure=>simp [intOf];omega
  ·obtain rfl:k=n:=by omega
   clear hk hlt;have hl3:=ho.1;rw [List.length_append,jC,fO]at hl3;obtain rfl:T=[]:=List.eq_nil_of_length_eq_zero(by omega);rw [List.append_nil]at ho;clear hl3 hT;go_wp2
   go_ret
   exact⟨hg,.inl⟨h8,⟨G,Nat.le_of_eq hG,rfl,bu.Yv ho(ZG hby k)⟩,hr⟩⟩
theorem bu.far {W:World} {g:Nat} {L:List(Int×Int)}(h:bu W(some⟨g,0,none⟩)L) {a:Addr}(ha:a.block≠g)(v:Value):bu(W.setCell a v)(some⟨g,0,none⟩)L:=by
 intro j hj;obtain⟨lb,lo,d,s,h1,h2,h3,h4,h5,h6,h7,h8,h9⟩:=h j hj;have e:=h1;simp only [Option.some.injEq,Addr.mk.injEq,and_true]at e;obtain⟨rfl,rfl⟩:=e;exact⟨g,0,d,s,rfl,by simpa using h2,h3,h4,h5,h6,h7,(mK W a _ v(fun e=>ha e.symm)).trans h8,(mK W a _ v(fun e=>ha e.symm)).trans h9⟩
theorem bu.bV {W:World} {g C:Nat} {L:List(Int×Int)}(h:bu W(some⟨g,0,none⟩)L)(hC:C≠g)(p:ah):bu(bV W C p)(some⟨g,0,none⟩)L:=
 bu.far(bu.far(bu.far(bu.far(bu.far(bu.far(bu.far(bu.far(bu.far(bu.far(bu.far(bu.far h(a:=⟨C,0,none⟩)hC _)(a:=⟨C,1,none⟩)hC _)(a:=⟨C,2,none⟩)hC _)(a:=⟨C,3,none⟩)hC _)(a:=⟨C,4,none⟩)hC _)(a:=⟨C,5,none⟩)hC _)(a:=⟨C,6,none⟩)hC _)(a:=⟨C,7,none⟩)hC _)(a:=⟨C,8,none⟩)hC _)(a:=⟨C,9,none⟩)hC _)(a:=⟨C,10,none⟩)hC _)(a:=⟨C,11,none⟩)hC _
theorem xX(C E:Nat)(hCE:C≠E)(z:ah)(x:Int)(u:TypeId)(pv:Value)(older:List PanicEntry)(w:World)(hC:PB z C w)(hE:w.heap[E]?=some(.cells #[.int .i64 x]47(0,0))):
  CallsD Tryz.prog 55 #[.pointer(some⟨C,0,none⟩),.pointer(some⟨E,0,none⟩)](.panicking({v:=.iface u pv,recovered:=false}::older))w fun e u' w'=>
   e=.returned(.tuple #[])∧u'=.panicking({v:=.iface u pv,recovered:=true}::older)∧w'=(bV w C ah.zero).setCell⟨E,0,none⟩(.int .i64 1):=by
 obtain⟨k0,k1,k2,k3,k4,k5,k6,k7,k8,k9,k10,k11⟩:=hC.cell;have kf:=hC.free;have e0:w.cell?⟨E,0,none⟩=some(.int .i64 x):=cell_of_row w E 0 _ _ _ hE;have ef:w.frozen?⟨E,0,none⟩=false:=frozen_of_row w E 0 _ _ hE;refine callsD_of_wpS Tryz.func55 rfl fun c₀ cs hu=> ?_;apply wpS_seq;apply wpS_region;simp [wpOpsS,go_sem,recoverD,hu,Tryz.ntmps55,Exit.thenS];refine wpS_cond(t:=true)(by simp [Act.eval,Array.replicate]) ?_;simp only [if_true];apply wpS_region;simp [wpOpsS,go_sem,k0,k1,k2,k3,k4,k5,k6,k7,k8,k9,k10,k11,kf,e0,ef,bodyPostS,results,Tryz.results55];rfl
theorem JH(a b:Addr)(w:World):
  CallsD Tryz.prog 55 #[.pointer(some a),.pointer(some b)] .returning w fun e u' w'=>e=.returned(.tuple #[])∧u'=.returning∧w'=w:=by
 refine callsD_of_wpS Tryz.func55 rfl fun c₀ cs hu=> ?_;apply wpS_seq;apply wpS_region;simp [wpOpsS,go_sem,recoverD,hu,Tryz.ntmps55,Exit.thenS];refine wpS_cond(t:=false)(by simp [Act.eval,Array.replicate]) ?_;simp only [Bool.false_eq_true,if_false];refine wpS_of_wp(wp_skip ?_);cases c₀
 simp_all [bodyPostS,results,Tryz.results55]
end Go.Proofs.YtakaadcpaeiccabGreat
