import Derived.Test.YtakaadcpaeiccabGreatC07
import Derived.Shelf.Spec.SlicesInsert
import Derived.Lib.AppendZerosOnto
import Derived.Laws.NewBlocks
import Derived.Sort.WalkA
import Derived.Sort.AssemblyPlain
import Derived.Laws.OwnMore
import Derived.BigGuard
import Derived.BigCall
set_option maxHeartbeats 4000000
set_option maxRecDepth 100000
namespace Go.Proofs.YtakaadcpaeiccabGreat
open Go.RowKit Go.Maps
theorem jM {base e g m cap:Nat}:∀(vs:List Value)(o:Nat)(xs:List Value)(W:World),W.ownsRow base e 1(.slice(some⟨g,0,none⟩)m cap)m xs→o+vs.length≤m→
  (W.setCells g o vs).ownsRow base e 1(.slice(some⟨g,0,none⟩)m cap)m(xs.take o++vs++xs.drop(o+vs.length))∧W.grownBy(W.setCells g o vs)(some g)
 | [],o,xs,W,h,_=>by
  simp only [World.setCells,List.append_nil,List.length_nil,Nat.add_zero,List.take_append_drop];exact⟨h,aC _ _⟩
 |v::r,o,xs,W,h,hl=>by
  simp only [List.length_cons]at hl;have hx:xs.length=m:=by simpa using h.1
  obtain⟨h1,g1⟩:=h.stored o v;obtain⟨h2,g2⟩:=jM r(o+1)(xs.set o v)(W.setCell⟨g,o,none⟩v)h1(by omega);refine⟨?_,⟨g2.os.trans g1.os,g2.tape.trans g1.tape,g2.output.trans g1.output,Nat.le_trans g1.size g2.size,fun k hk hn=>(g2.block k(Nat.lt_of_lt_of_le hk g1.size)hn).trans(g1.block k hk hn)⟩⟩;have e1:(xs.set o v).take(o+1)=xs.take o++ [v]:=by
   rw [List.bJ(by simp;omega),List.take_set_of_le(Nat.le_refl o)];simp
  have e2:(xs.set o v).drop(o+1+r.length)=xs.drop(o+(r.length+1)):=by
   rw [List.qQ(by omega),show o+1+r.length=o+(r.length+1)by omega]
  rw [e1,e2]at h2;show((W.setCell⟨g,o,none⟩v).setCells g(o+1)r).ownsRow _ _ _ _ _ _;simpa using h2
theorem QR {base e g n cap:Nat} {W:World} {xs:List Value}(h:W.ownsRow base e 1(.slice(some⟨g,0,none⟩)n cap)n xs)(hr:n+1≤cap):
  ∃s,W.ownsRow base e 1(.slice(some⟨g,0,none⟩)(n+1)cap)(n+1)(xs++ [s]):=by
 rcases h.2 with⟨he,_⟩|⟨g',cap',cur,he,hb,hg,h1,h2,h3,h4⟩
 ·cases he
 ·cases he;have hl:n<cur.toList.length:=by rw [Array.length_toList];omega
  refine⟨cur.toList[n],?_,.inr⟨g,cap,cur,rfl,hb,hg,hr,h2,h3,?_⟩⟩
  ·have:=h.1;simp at this ⊢;exact this
  ·rw [Nat.mul_one]at h4 ⊢;rw [List.bJ hl,h4]
theorem Yu(l:List Int):∀u∈l.map aU,u.oneCell'=true:=by
 intro u hu;obtain⟨y,_,rfl⟩:=List.mem_map.1 hu;rfl
theorem szu:(Tryz.prog.info? 34).map(·.size)=some 1:=by kernel_rfl
theorem Ez(g n cap i:Nat)(cs:List Int)(x:Int)(vb:Nat)(w:World)(h:w.ownsRow 0 34 1(.slice(some⟨g,0,none⟩)n cap)n(cs.map aU))(hi:i<n)(hroom:n+1≤cap)(hv:w.heap[vb]?=some(.cells #[.int .u32 x]34))(hne:vb≠g)(hn:n≤1000)(hcap:cap≤maxLen):
  Calls Tryz.prog 198 #[.slice(some⟨g,0,none⟩)n cap,.int .i64 i,.slice(some⟨vb,0,none⟩)1 1]w fun e w'=>e=.returned(.slice(some⟨g,0,none⟩)(n+1)cap)∧
   w'.ownsRow 0 34 1(.slice(some⟨g,0,none⟩)(n+1)cap)(n+1)((cs.take i++x::cs.drop i).map aU)∧w.grownBy w'(some g):=by
 have hcl:cs.length=n:=by simpa using h.1
 obtain⟨s,hw⟩:=QR h hroom;have hdl:((cs.drop i).map aU).length=n - i:=by rw [List.length_map,List.length_drop,hcl]
 obtain⟨h1,g1⟩:=jM((cs.drop i).map aU)(i+1)(cs.map aU++ [s])w.drew hw.drew(by rw [hdl];omega);obtain⟨h2,g2⟩:=jM [aU x]i _ _ h1(by simp;omega);have e1:(cs.map aU++ [s]).drop(i+1+((cs.drop i).map aU).length)=[]:=List.drop_eq_nil_of_le(by simp [hcl];omega);have e2:(cs.map aU++ [s]).take(i+1)=(cs.map aU).take(i+1):=by rw [List.take_append_of_le_length(by simp;omega)]
 rw [e1,List.append_nil,e2]at h1 h2;have hfin:(((cs.map aU).take(i+1)++(cs.drop i).map aU).take i++ [aU x]++((cs.map aU).take(i+1)++(cs.drop i).map aU).drop(i+ [aU x].length))=(cs.take i++x::cs.drop i).map aU:=by
  rw [List.take_append_of_le_length(by simp;omega),List.take_take,Nat.min_eq_left(by omega)];rw [show i+ [aU x].length=((cs.map aU).take(i+1)).length by simp;omega,List.drop_left];simp
 rw [hfin]at h2;have hgg:w.grownBy((w.drew.setCells g(i+1)((cs.drop i).map aU)).setCells g i [aU x])(some g):=
  ⟨g2.os.trans g1.os,g2.tape.trans g1.tape,g2.output.trans g1.output,Nat.le_trans g1.size g2.size,fun k hk hn=>(g2.block k(Nat.lt_of_lt_of_le hk g1.size)hn).trans(g1.block k hk hn)⟩
 have hgl:=(h.lt g rfl).2;have hsb:∃kB,kB≠0∧w.shape? g=some(34,kB):=by
  rcases h.2 with⟨he,_⟩|⟨g',cap',cur,he,hb,hg,q1,q2,q3,q4⟩
  ·cases he
  ·cases he;exact⟨cur.size,by omega,by simp [World.shape?,hg]⟩
 obtain⟨kB,hkB,hsb⟩:=hsb;have hsa:w.shape? vb=some(34,1):=by simp [World.shape?,hv]
 have hfa:∀j,w.frozen?⟨vb,j,none⟩=false:=fun j=>by simp [World.frozen?,hv]
 have hzu:∀w,(Go.sizeOf 34).run Tryz.prog w=.ok 1 w:=fun w=>by kernel_rfl
 have hov:∀lb cb,(callFunc 215 #[.slice(some⟨vb,0,none⟩)1 1,.slice(some⟨g,i+1,none⟩)lb cb]).run Tryz.prog w=.ok(.value(.bool false))w:=fun lb cb=>by
  rw [run_callFunc_extern Tryz.func215(by kernel_rfl)(by kernel_rfl)(by kernel_rfl)(e:=Extern.SlicesOverlaps.overlaps #[36,36]#[4])(by kernel_rfl),
   Lib.run_overlaps_apart w 36 4 34 Tryz.underlying36 1 hzu⟨vb,0,none⟩⟨g,i+1,none⟩1 1 lb cb hne 34 34 1 kB hsa hsb hkB(hfa 0)(hfa 1)]
  rfl
 have hrd:=hw.drew;have hcp1:∀ty dc sc,(Builtin.copy_ #[36,36]ty #[.slice(some⟨g,i+1,none⟩)(n - i)dc,.slice(some⟨g,i,none⟩)(n+1 - i)sc]).run Tryz.prog w.drew=.ok(goInt((cs.drop i).map aU).length)(w.drew.setCells g(i+1)((cs.drop i).map aU)):=fun ty dc sc=>
  run_copy_cells w.drew _ _ ty 34 g(i+1)(n - i)dc⟨g,i,none⟩(n+1 - i)sc((cs.drop i).map aU)Tryz.underlying36 szu(by rw [hdl];simp only [Nat.min_def];split<;>omega)
   (fun j v hj=>by
    rw [Addr.add_lit];have hjl:=(List.getElem?_eq_some_iff.1 hj).1;rw [hdl]at hjl;refine(h.drew.cellAt(i+j)(by omega)).trans ?_;rw [List.map_drop,List.getElem?_drop]at hj;exact hj)
   (fun j hj=>by
    rw [hdl]at hj;have:=hrd.cellAt(i+1+j)(by omega);rw [this,List.getElem?_eq_getElem(by simp [hcl];omega)];rfl)
   (fun j _=>hrd.frozenAt _)(Yu _)
 have hcp2:∀ty dc,(Builtin.copy_ #[36,36]ty #[.slice(some⟨g,i,none⟩)(n+1 - i)dc,.slice(some⟨vb,0,none⟩)1 1]).run Tryz.prog(w.drew.setCells g(i+1)((cs.drop i).map aU))=.ok(goInt [aU x].length)((w.drew.setCells g(i+1)((cs.drop i).map aU)).setCells g i [aU x]):=fun ty dc=>
  run_copy_cells _ _ _ ty 34 g i(n+1 - i)dc⟨vb,0,none⟩1 1 [aU x]Tryz.underlying36 szu(by simp only [List.length_cons,List.length_nil,Nat.min_def];split<;>omega)
   (fun j v hj=>by
    rw [Addr.add_lit,Nat.zero_add,World.cell?_setCells_out g _ _ _ _(fun e _=>absurd e hne)]
    match j,hj with
    |0,hj=>
     exact(cell_of_row w.drew vb 0 _ _ _ hv).trans hj
    |j+1,hj=>simp at hj)
   (fun j hj=>by
    have:=h1.cellAt(i+j)(by simp at hj;omega);rw [this,List.getElem?_eq_getElem(by simp at hj ⊢;omega)];rfl)
   (fun j _=>h1.frozenAt _)(by simp [Value.oneCell'])
 have hz2:((i:Int)==(n:Int))=false:=by simp;omega
 have hz3:decide((cap:Int)<(n:Int)+1)=false:=decide_eq_false(by omega);have hw1:IntKind.i64.wrap((i:Int)+1)=(i:Int)+1:=by rw [IntKind.wrap_i64];omega
 have hb1:(0:Int)≤(i:Int)+1:=by omega
 have htn:((i:Int)+1).toNat=i+1:=by omega
 have hb2:¬(cap=i+1):=by omega
 have hb3:(i:Int)≤(n:Int)+1:=by omega
 have hb4:¬(cap=i):=by omega
 have hin:i≤n:=by omega
 have hb5:(n:Int)+1≤(cap:Int):=by omega
 have hc63:cap≤9223372036854775807:=by unfold maxLen at hcap;omega
 clear h h1 hw hdl g1 g2 e1 e2 hrd hfin hsb hsa hfa hv;generalize hW2:(w.drew.setCells g(i+1)((cs.drop i).map aU)).setCells g i [aU x]=W2 at h2 hgg hcp2;generalize hW1:w.drew.setCells g(i+1)((cs.drop i).map aU)=W1 at hcp1 hcp2;clear hW1 hW2;go_enter Tryz.func198,Tryz.ntmps198
 go_wp2_with(simp only [hov])
 go_region_law(refine step_copy_runI rfl _ _ 36 36 rfl _ _(by simp [Act.eval,Act.put])(by simp [Act.eval,Act.put])(hcp1 _ _ _) ?_)
 go_wp2_with(at_builtin;refine wpList_copy_runI _ rfl _ _ 36 36 rfl _ _ rfl rfl(hcp2 _ _) ?_)
 go_ret
 exact⟨rfl,h2,hgg⟩
theorem J7(v:Value)(n:Nat)(cs:List Int)(x:Int)(vb:Nat)(w:World)(h:w.ownsRow 0 34 1 v n(cs.map aU))(hv:w.heap[vb]?=some(.cells #[.int .u32 x]34))(hn:n≤1000):
  Calls Tryz.prog 198 #[v,.int .i64 n,.slice(some⟨vb,0,none⟩)1 1]w fun e w'=>∃v',e=.returned v'∧
   w'.ownsRow 0 34 1 v'(n+1)((cs++ [x]).map aU)∧w.grownBy w' v.ownBlock∧(v'.ownBlock=v.ownBlock∨v'.ownBlock=some w.heap.size):=by
 obtain⟨i0,hi,hz0,hz1,hz2⟩:=info_parts qD;obtain⟨ao,c,rfl,_⟩:=ak h;have hnc:n≤c:=by
  rcases h.2 with⟨he,h0⟩|⟨_,_,_,he,_,_,k3,_⟩
  ·cases he;omega
  ·cases he;exact k3
 have hsl:∃u,∀W,(Instr.slice 36(.slice ao n c)(some(.int .i64 n))none none).run Tryz.prog W=.ok u W:=by
  have ht:Tryz.prog.underlying 36=some(.slice(Tryz.prog.elem 36)):=by simp [Program.elem,Tryz.underlying36]
  have hz:∀w,(Go.sizeOf(Tryz.prog.elem 36)).run Tryz.prog w=.ok 1 w:=by
   intro w;simp [go_sem,Program.elem,Tryz.underlying36]
  rcases h.2 with⟨he,rfl⟩|⟨g,cap,_,he,_,_,k3,_⟩
  ·cases he;exact⟨.slice none 0 0,fun W=>by kernel_rfl⟩
  ·cases he;exact⟨_,fun W=>by rw [run_slice_l W 36 _ _ _ ht .i64 _(by omega)(by omega),hz];rfl⟩
 obtain⟨u,hsl⟩:=hsl;have hq:((n:Int)==(n:Int))=true:=by simp
 have hcx:∀(j:Nat)(u:Value),[aU x][j]?=some u→w.cell?((⟨vb,0,none⟩:Addr).add j)=some u:=by
  intro j u hj;rw [Addr.add_lit,Nat.zero_add]
  match j,hj with
  |0,hj=>exact(cell_of_row w vb 0 _ _ _ hv).trans hj
  |j+1,hj=>simp at hj
 clear hv;go_enter Tryz.func198,Tryz.ntmps198
 go_wp2_with(at_builtin;refine wpList_append_own_at _ rfl _ _ 36 rfl 0 34 i0(.int .u32 0)1 4 Tryz.underlying36 hi hz0 hz1 hz2 rfl(by decide)(.slice ao n c)n(cs.map aU)rfl h⟨vb,0,none⟩1 1 [aU x]rfl rfl hcx(by simp [Value.oneCell']) ?c1 ?c2(Nat.zero_le _) ?_)
 case c1=>unfold maxLen;omega
 case c2=>omega
 intro v' w' ho hg _ hb;clear hsl h;go_wp2
 go_ret
 exact⟨v',rfl,by simpa using ho,hg,hb⟩
theorem Hw(g n cap i:Nat)(cs:List Int)(x:Int)(vb:Nat)(w:World)(h:w.ownsRow 0 34 1(.slice(some⟨g,0,none⟩)n cap)n(cs.map aU))(hi:i<n)(hroom:cap<n+1)(hv:w.heap[vb]?=some(.cells #[.int .u32 x]34))(hn:n≤1000)(hnc:n≤cap):
  Calls Tryz.prog 198 #[.slice(some⟨g,0,none⟩)n cap,.int .i64 i,.slice(some⟨vb,0,none⟩)1 1]w fun e w'=>∃G,e=.returned(.slice(some⟨w.heap.size,0,none⟩)(n+1)G)∧
   w'.ownsRow 0 34 1(.slice(some⟨w.heap.size,0,none⟩)(n+1)G)(n+1)((cs.take i++x::cs.drop i).map aU)∧Below w.heap.size w w':=by
 obtain⟨i0,hi0,hz0,hzs,hzb⟩:=info_parts qD;have hcl:cs.length=n:=by simpa using h.1
 have hgl:=(h.lt g rfl).2;have hvl:vb<w.heap.size:=(Array.getElem?_eq_some_iff.1 hv).1;have hik:i+(n+1 - i)=n+1:=by omega
 have hold:(Builtin.firstCells i0.size i(.slice(some⟨g,0,none⟩)i cap)).run Tryz.prog w.drew=.ok((cs.take i).map aU).toArray w.drew:=by
  rw [hzs];refine run_firstCells_some w.drew 1 i⟨g,0,none⟩i cap _(by simp;omega)(fun j v hj=> ?_);rw [Addr.add_lit,Nat.zero_add];rw [List.map_take,List.getElem?_take]at hj;split at hj
  ·exact(h.drew.cellAt j(by omega)).trans hj
  ·cases hj
 have hrz:∀ty,(Builtin.append_ #[36,3]ty #[.slice(some⟨g,0,none⟩)i cap,.int .i64((n:Int)+1 - (i:Int))]).run Tryz.prog w=.ok(.slice(some⟨w.heap.size,0,none⟩)(n+1)(grownCap w(n+1)cap 34))
   (w.drew.alloc(.cells(((cs.take i).map aU).toArray++Builtin.zeroCells(Value.int .u32 0).cells(n+1 - i)++Builtin.zeroCells(Value.int .u32 0).cells(grownCap w(n+1)cap 34 - (n+1)))34)):=fun ty=>by
  have h1:=Lib.run_append_grow_zeros w 36 3 ty 34 i0 _ .i64 .i64 Tryz.underlying36 Tryz.underlying3 hi0 hz0(some⟨g,0,none⟩)i cap _ hold(n+1 - i)(by omega)(by omega)(by omega)(by omega)(by rw [hzb];omega)(by rw [hzb,hik];exact growslice_fits hroom(by omega));rw [hik]at h1;rw [show(n:Int)+1 - (i:Int)=((n+1 - i:Nat):Int)by omega];exact h1
 have hGn:n+1≤grownCap w(n+1)cap 34:=grownCap_ge w _ _ _;have hG63:grownCap w(n+1)cap 34≤maxLen:=grownCap_le_maxLen w(n+1)cap 34(by unfold maxLen;omega);generalize grownCap w(n+1)cap 34=G at hrz hGn hG63;have hzl:∀k,(Builtin.zeroCells(Value.int .u32 0).cells k).size=k:=fun k=>by simp [Builtin.zeroCells,Value.cells]
 obtain⟨ROW,hROW⟩:∃ROW:Array Value,ROW=((cs.take i).map aU).toArray++Builtin.zeroCells(Value.int .u32 0).cells(n+1 - i)++Builtin.zeroCells(Value.int .u32 0).cells(G - (n+1)):=⟨_,rfl⟩;rw [←hROW]at hrz;have hsz:ROW.size=G * 1:=by
  rw [hROW];simp only [Array.size_append,hzl,List.size_toArray,List.length_map,List.length_take];omega
 have htk:ROW.toList.take((n+1)* 1)=(cs.take i).map aU++(Builtin.zeroCells(Value.int .u32 0).cells(n+1 - i)).toList:=by
  rw [hROW,Array.toList_append,Array.toList_append,List.take_append_of_le_length(by simp [hzl];omega),List.take_of_length_le(by simp [hzl];omega)]
 have hl0:((cs.take i).map aU++(Builtin.zeroCells(Value.int .u32 0).cells(n+1 - i)).toList).length=n+1:=by simp [hzl];omega
 obtain⟨WA,hWA⟩:∃WA,WA=(w.alloc(.cells ROW 34)).drew:=⟨_,rfl⟩;have h0:WA.ownsRow 0 34 1(.slice(some⟨w.heap.size,0,none⟩)(n+1)G)(n+1)((cs.take i).map aU++(Builtin.zeroCells(Value.int .u32 0).cells(n+1 - i)).toList):=by
  rw [hWA];exact⟨by rw [hl0,Nat.mul_one],.inr⟨w.heap.size,G,ROW,rfl,Nat.zero_le _,heap_alloc_new w _,hGn,hG63,hsz,htk⟩⟩
 have jk:Below w.heap.size w WA:=by
  rw [hWA];exact((Below.refl _ _).alloc(Nat.le_refl _)_).drew
 obtain⟨h1,g1⟩:=jM [aU x]i _ _ h0(by simp;omega);obtain⟨WB,hWB⟩:∃WB,WB=(WA.setCells w.heap.size i [aU x]).drew:=⟨_,rfl⟩;have h1':=h1.drew;rw [←hWB]at h1';have hbB:Below w.heap.size w WB:=by
  rw [hWB];exact(jk.grown g1 jk.size(fun k e=>by cases e;exact Nat.le_refl _)).drew
 have hdl:((cs.drop i).map aU).length=n - i:=by rw [List.length_map,List.length_drop,hcl]
 obtain⟨h2,g2⟩:=jM((cs.drop i).map aU)(i+1)_ _ h1'(by rw [hdl];omega);have hbC:=hbB.grown g2 hbB.size(fun k e=>by cases e;exact Nat.le_refl _);have hfin:∀R0:List Value,R0=(cs.take i).map aU++(Builtin.zeroCells(Value.int .u32 0).cells(n+1 - i)).toList→R0.length=n+1→
   (R0.take i++ [aU x]++R0.drop(i+ [aU x].length)).take(i+1)++(cs.drop i).map aU++(R0.take i++ [aU x]++R0.drop(i+ [aU x].length)).drop(i+1+((cs.drop i).map aU).length)=(cs.take i++x::cs.drop i).map aU:=by
  intro R0 hR0 hRl;have t1:R0.take i=(cs.take i).map aU:=by
   rw [hR0,List.take_append_of_le_length(by simp;omega),List.take_of_length_le(by simp;omega)]
  have t2:(R0.take i++ [aU x]++R0.drop(i+ [aU x].length)).drop(i+1+((cs.drop i).map aU).length)=[]:=List.drop_eq_nil_of_le(by simp [hRl,hcl];omega);have t3:(R0.take i++ [aU x]++R0.drop(i+ [aU x].length)).take(i+1)=R0.take i++ [aU x]:=by
   rw [List.take_append_of_le_length(by simp [hRl];omega),List.take_of_length_le(by simp;omega)]
  rw [t2,t3,t1];simp
 rw [hfin _ rfl hl0]at h2;have hcpA:∀ty dc,(Builtin.copy_ #[36,36]ty #[.slice(some⟨w.heap.size,i,none⟩)(n+1 - i)dc,.slice(some⟨vb,0,none⟩)1 1]).run Tryz.prog WA=.ok(goInt [aU x].length)(WA.setCells w.heap.size i [aU x]):=fun ty dc=>
  run_copy_cells _ _ _ ty 34 w.heap.size i(n+1 - i)dc⟨vb,0,none⟩1 1 [aU x]Tryz.underlying36 szu(by simp only [List.length_cons,List.length_nil,Nat.min_def];split<;>omega)
   (fun j v hj=>by
    rw [Addr.add_lit,Nat.zero_add]
    match j,hj with
    |0,hj=>exact(cell_of_row WA vb 0 _ _ _((jk.block vb hvl).trans hv)).trans hj
    |j+1,hj=>simp at hj)
   (fun j hj=>by
    rw [h0.cellAt(i+j)(by simp at hj;omega),List.getElem?_eq_getElem(by rw [hl0];simp at hj;omega)];rfl)
   (fun j _=>h0.frozenAt _)(by simp [Value.oneCell'])
 have hcpB:∀ty dc sc,(Builtin.copy_ #[36,36]ty #[.slice(some⟨w.heap.size,i+1,none⟩)(n - i)dc,.slice(some⟨g,i,none⟩)(n - i)sc]).run Tryz.prog WB=.ok(goInt((cs.drop i).map aU).length)(WB.setCells w.heap.size(i+1)((cs.drop i).map aU)):=fun ty dc sc=>
  run_copy_cells _ _ _ ty 34 w.heap.size(i+1)(n - i)dc⟨g,i,none⟩(n - i)sc((cs.drop i).map aU)Tryz.underlying36 szu(by rw [hdl];simp only [Nat.min_def];split<;>omega)
   (fun j v hj=>by
    rw [Addr.add_lit];have hjl:=(List.getElem?_eq_some_iff.1 hj).1;rw [hdl]at hjl;refine((aM h hbB).cellAt(i+j)(by omega)).trans ?_;rw [List.map_drop,List.getElem?_drop]at hj;exact hj)
   (fun j hj=>by
    rw [hdl]at hj;rw [h1'.cellAt(i+1+j)(by omega),List.getElem?_eq_getElem(by have:=h1'.1;omega)];rfl)
   (fun j _=>h1'.frozenAt _)(Yu _)
 have hz2:((i:Int)==(n:Int))=false:=by simp;omega
 have hz3:decide((cap:Int)<(n:Int)+1)=true:=decide_eq_true(by omega);have hw1:IntKind.i64.wrap((i:Int)+1)=(i:Int)+1:=by rw [IntKind.wrap_i64];omega
 have hb1:(0:Int)≤(i:Int)+1:=by omega
 have htn:((i:Int)+1).toNat=i+1:=by omega
 have hin:i≤n:=by omega
 have hb3:(i:Int)≤(n:Int):=by omega
 have hb5:(i:Int)≤(n:Int)+1:=by omega
 have hGi:¬(G=i):=by omega
 have hGim:¬(G=i+1):=by omega
 have hci:¬(cap=i):=by omega
 have hic:(i:Int)≤(cap:Int):=by omega
 have aep:∀ty,(Builtin.append_ #[36,3]ty #[.slice(some⟨g,0,none⟩)i cap,.int .i64((n:Int)+1 - (i:Int))]).run Tryz.prog w=.ok(.slice(some⟨w.heap.size,0,none⟩)(n+1)G)WA:=fun ty=>by rw [hWA];exact hrz ty
 clear hrz hold h h0 jk h1 g1 h1' hbB g2 hfin hdl hv hl0 htk hsz hROW hzl hcl hik hi0 hz0 hzs hzb;have YM:∀ty dc sc,(Builtin.copy_ #[36,36]ty #[.slice(some⟨w.heap.size,i+1,none⟩)(n - i)dc,.slice(some⟨g,i,none⟩)(n - i)sc]).run Tryz.prog(WA.setCells w.heap.size i [aU x]).drew=.ok(goInt((cs.drop i).map aU).length)(WB.setCells w.heap.size(i+1)((cs.drop i).map aU)):=by
  rw [←hWB];exact hcpB
 generalize WB.setCells w.heap.size(i+1)((cs.drop i).map aU)=WC at h2 hbC YM;clear hWA hWB hcpB;go_enter Tryz.func198,Tryz.ntmps198
 go_wp2_with(first
  |(at_builtin;refine Lib.wpList_append_run _ rfl _ _ _ _ rfl _ _ rfl rfl _ _(aep _) ?_)
  |(at_builtin;refine wpList_copy_runI _ rfl _ _ 36 36 rfl _ _ rfl rfl(hcpA _ _) ?_))
 go_region_law(refine step_copy_runI rfl _ _ 36 36 rfl(.slice(some⟨w.heap.size,i+1,none⟩)(n - i)(G - (i+1)))(.slice(some⟨g,i,none⟩)(n - i)(cap - i))(by simp [Act.eval,Act.put])(by simp [Act.eval,Act.put])(YM 3(G - (i+1))(cap - i)) ?_)
 go_wp2
 go_ret
 exact⟨G,rfl,h2,hbC⟩
open Go.Sort
def UC(d:Array Int):List Value:=d.toList.map(Value.int .u32)
theorem JV {d:Array Int} {j:Nat}(hj:j<d.size):(UC d)[j]?=some(.int .u32 d[j]!):=by
 simp [UC,hj]
theorem wE(d:Array Int)(j:Nat)(x:Int):(UC d).set j(.int .u32 x)=UC(d.setIfInBounds j x):=by
 simp [UC,List.map_set]
theorem swp_size(d:Array Int)(i j:Nat):(swp d i j).size=d.size:=by simp [swp]
structure SR(base g cap n:Nat)(d:Array Int)(W:World):Prop where
 size:d.size=n
 row:W.ownsRow base 34 1(.slice(some⟨g,0,none⟩)n cap)n(UC d)
theorem SR.cell {base g cap n:Nat} {d:Array Int} {W:World}(h:SR base g cap n d W) {j:Nat}(hj:j<n):W.cell?⟨g,j,none⟩=some(.int .u32 d[j]!):=
 (h.row.cellAt j(by omega)).trans(JV(by rw [h.size];exact hj))
theorem SR.free {base g cap n:Nat} {d:Array Int} {W:World}(h:SR base g cap n d W)(j:Nat):W.frozen?⟨g,j,none⟩=false:=h.row.frozenAt j
theorem SR.drewN {base g cap n:Nat} {d:Array Int} {W:World}(h:SR base g cap n d W)(q:Nat):SR base g cap n d(W.drewN q):=
 ⟨h.size,h.row.kept(row:=none)⟨rfl,rfl,rfl,Nat.le_refl _,fun _ _ _=>rfl⟩(.inr(by simp [Value.ownBlock]))⟩
theorem SR.swap {base g cap n:Nat} {d:Array Int} {W:World}(h:SR base g cap n d W)(i j:Nat):
  SR base g cap n(swp d i j)((W.setCell⟨g,i,none⟩(.int .u32 d[j]!)).setCell⟨g,j,none⟩(.int .u32 d[i]!)):=by
 have h1:=(h.row.stored i(.int .u32 d[j]!)).1;have h2:=(h1.stored j(.int .u32 d[i]!)).1;rw [wE,wE]at h2;exact⟨by rw [swp_size];exact h.size,h2⟩
theorem Jy {A B:World} {g:Nat}(h:A.grownBy B(some g))(j:Nat)(v:Value):A.grownBy(B.setCell⟨g,j,none⟩v)(some g):=
 ⟨h.os,h.tape,h.output,by simpa using h.size,fun i hi hne=>(Below.heap_setCell B⟨g,j,none⟩v i(fun e=>hne(by rw [e]))).trans(h.block i hi hne)⟩
theorem mV(A:World)(r:Option Nat):A.grownBy A r:=⟨rfl,rfl,rfl,Nat.le_refl _,fun _ _ _=>rfl⟩
theorem pz(W:World)(g i j:Nat)(u v:Value):W.grownBy((W.setCell⟨g,i,none⟩u).setCell⟨g,j,none⟩v)(some g):=Jy(Jy(mV W(some g))i _)j _
theorem nY(W:World)(q:Nat)(r:Option Nat):W.grownBy(W.drewN q)r:=⟨rfl,rfl,rfl,Nat.le_refl _,fun _ _ _=>rfl⟩
theorem vS(x:Int)(w:World):Calls Tryz.prog 204 #[.int .u32 x]w fun e w'=>e=.returned(.bool false)∧w'=w:=by
 go_enter Tryz.func204,Tryz.ntmps204
 go_wp2
 go_ret
 exact⟨by simp,rfl⟩
theorem vw(x y:Int)(w:World):Calls Tryz.prog 189 #[.int .u32 x,.int .u32 y]w fun e w'=>e=.returned(.bool(ltInt x y))∧w'=w:=by
 go_enter Tryz.func189,Tryz.ntmps189
 go_wp2_with(go_at_call 204;refine(vS _ _).mono ?_;rintro e w'⟨rfl,rfl⟩)
 go_ret
 exact⟨rfl,rfl⟩
theorem WM {cs:List Int} {x:Int} {i:Nat}(h1:∀j y,j<i→cs[j]?=some y→y<x)(h2:∀j y,i≤j→cs[j]?=some y→x≤y)(hi:i≤cs.length)(hx:x ∉ cs):cs.take i++x::cs.drop i=mq x cs:=by
 induction cs generalizing i with
 |nil=>simp [mq]
 |cons c cs ih=>
  have hcx:c≠x:=fun e=>hx(by simp [e]);unfold mq;rw [if_neg hcx];cases i with
  |zero=>
   have:=h2 0 c(Nat.le_refl _)rfl;rw [if_pos(by omega)];rfl
  |succ i=>
   have:=h1 0 c(by omega)rfl;rw [if_neg(by omega)];simp only [List.take_succ_cons,List.drop_succ_cons,List.cons_append];rw [ih(fun j y hj hy=>h1(j+1)y(by omega)(by simpa using hy))(fun j y hj hy=>h2(j+1)y(by omega)(by simpa using hy))(by simpa using hi)(fun e=>hx(by simp [e]))]
theorem J8(v:Value)(n i:Nat)(cs:List Int)(x:Int)(vb:Nat)(w:World)(h:w.ownsRow 0 34 1 v n(cs.map aU))(hi:i≤n)(hv:w.heap[vb]?=some(.cells #[.int .u32 x]34))(hne:v.ownBlock≠some vb)(hn:n≤1000):
  Calls Tryz.prog 198 #[v,.int .i64 i,.slice(some⟨vb,0,none⟩)1 1]w fun e w'=>∃v',e=.returned v'∧
   w'.ownsRow 0 34 1 v'(n+1)((cs.take i++x::cs.drop i).map aU)∧w.grownBy w' v.ownBlock∧(v'.ownBlock=v.ownBlock∨∀k,v'.ownBlock=some k→w.heap.size≤k):=by
 have hcl:cs.length=n:=by simpa using h.1
 by_cases hin:i=n
 ·subst hin;refine(J7 v i cs x vb w h hv hn).mono ?_;rintro e w'⟨v',rfl,ho,hg,hb⟩;refine⟨v',rfl,?_,hg,?_⟩
  ·rw [List.take_of_length_le(by omega),List.drop_eq_nil_of_le(by omega)];exact ho
  ·rcases hb with hb|hb
   ·exact .inl hb
   ·exact .inr(fun k hk=>by rw [hb]at hk;cases hk;exact Nat.le_refl _)
 ·rcases h.2 with⟨_,h0⟩|⟨g,cap,cur,rfl,_,_,k3,k4,_⟩
  ·omega
  ·by_cases hr:n+1≤cap
   ·refine(Ez g n cap i cs x vb w h(by omega)hr hv(fun e=>hne(by rw [e];rfl))hn k4).mono ?_;rintro e w'⟨rfl,ho,hg⟩;exact⟨_,rfl,ho,hg,.inl rfl⟩
   ·refine(Hw g n cap i cs x vb w h(by omega)(by omega)hv hn k3).mono ?_;rintro e w'⟨G,rfl,ho,hb⟩;exact⟨_,rfl,ho,below_grown hb _,.inr(fun k hk=>by cases hk;exact Nat.le_refl _)⟩
theorem Qu(x:Int)(w:World):Calls Tryz.prog 214 #[.int .u32 x]w fun e w'=>e=.returned(.bool false)∧w'=w:=by
 go_enter Tryz.func214,Tryz.ntmps214
 go_wp2
 go_ret
 exact⟨by simp,rfl⟩
theorem JX(v:Value)(n:Nat)(cs:List Int)(x:Int)(w:World)(h:w.ownsRow 0 34 1 v n(cs.map aU))(hs:cs.Pairwise(·<·))(hn:n≤1000):
  Calls Tryz.prog 197 #[v,.int .u32 x]w fun e w'=>∃i:Nat,i≤n∧(∀j y,j<i→cs[j]?=some y→y<x)∧(∀j y,i≤j→cs[j]?=some y→x≤y)∧
   e=.returned(.tuple #[.int .i64 i,.bool(cs[i]?==some x)])∧w'=w:=by
 have hcl:cs.length=n:=by simpa using h.1
 obtain⟨ao,c,rfl,_⟩:=ak h;go_enter Tryz.func197,Tryz.ntmps197
 go_wp2_with fail
 go_loopw [7,8](fun vi vj wr=>∃i j:Nat,i≤j∧j≤n∧vi=.int .i64 i∧vj=.int .i64 j∧wr=w∧(∀k y,k<i→cs[k]?=some y→y<x)∧(∀k y,j≤k→cs[k]?=some y→x≤y))(fun vi vj _=>(intOf vj).toNat - (intOf vi).toNat)
 case atStart=>exact⟨0,n,Nat.zero_le _,Nat.le_refl _,rfl,rfl,rfl,fun k y hk=>by omega,fun k y hk hy=>by have:=(List.getElem?_eq_some_iff.1 hy).1;omega⟩
 case round=>
  obtain⟨i,j,hij,hjn,rfl,rfl,rfl,hlo,hhi⟩:=hrel;have HLO:=(show Hid _ from hlo);have HHI:=(show Hid _ from hhi);clear hlo hhi;by_cases hlt:i<j
  ·have hd:decide((i:Int)<(j:Int))=true:=decide_eq_true(by omega);have hd':decide(i<j)=true:=decide_eq_true hlt;have hml:(i+j)/ 2<n:=by omega
   obtain⟨y,hy⟩:∃y,cs[(i+j)/ 2]?=some y:=⟨_,List.getElem?_eq_getElem(by omega)⟩;obtain⟨g,cap,hv,_⟩:=bS h(by omega);cases hv;have hc:=(h.cellAt((i+j)/ 2)(by omega)).trans(by rw [List.getElem?_map,hy];rfl:(cs.map aU)[(i+j)/ 2]?=some(aU y));have hmono:∀k z,cs[k]?=some z→(k<(i+j)/ 2→z<y)∧((i+j)/ 2<k→y<z):=by
    intro k z hz;obtain⟨hk,rfl⟩:=List.getElem?_eq_some_iff.1 hz;obtain⟨hm,rfl⟩:=List.getElem?_eq_some_iff.1 hy;rw [List.pairwise_iff_getElem]at hs;exact⟨fun h=>hs _ _ _ _ h,fun h=>hs _ _ _ _ h⟩
   have HM:=(show Hid _ from hmono);have HY:=(show Hid _ from hy);clear hmono hy hs;go_wp2_with fail
   refine(vw _ _ _).mono ?_;rintro e w1⟨rfl,rfl⟩;by_cases hyx:y<x
   ·have hl:Go.Sort.ltInt y x=true:=decide_eq_true hyx;clear hc;go_wp2
    go_roundw
    case rel=>
     refine⟨(i+j)/ 2+1,j,by omega,hjn,by congr 1,rfl,by trivial,fun k z hk hz=> ?_,HHI.out⟩;rcases Nat.lt_or_ge k((i+j)/ 2)with hk'|hk'
     ·have:=(HM.out k z hz).1 hk';omega
     ·obtain rfl:k=(i+j)/ 2:=by omega
      rw [HY.out]at hz;cases hz;exact hyx
    case measure=>simp [intOf];omega
   ·have hl:Go.Sort.ltInt y x=false:=decide_eq_false hyx;clear hc;go_wp2
    go_roundw
    case rel=>
     refine⟨i,(i+j)/ 2,by omega,by omega,rfl,by congr 1,by trivial,HLO.out,fun k z hk hz=> ?_⟩;rcases Nat.lt_or_ge((i+j)/ 2)k with hk'|hk'
     ·have:=(HM.out k z hz).2 hk';omega
     ·obtain rfl:k=(i+j)/ 2:=by omega
      rw [HY.out]at hz;cases hz;omega
    case measure=>simp [intOf];omega
  ·obtain rfl:i=j:=by omega
   have hd0:decide((i:Int)<(i:Int))=false:=decide_eq_false(by omega);by_cases hin:i<n
   ·have hdn:decide((i:Int)<(n:Int))=true:=decide_eq_true(by omega);have hin':(i:Int)<(n:Int):=by omega
    obtain⟨y,hy⟩:∃y,cs[i]?=some y:=⟨_,List.getElem?_eq_getElem(by omega)⟩;obtain⟨g,cap,hv,_⟩:=bS h(by omega);cases hv;have hc:=(h.cellAt i(by omega)).trans(by rw [List.getElem?_map,hy];rfl:(cs.map aU)[i]?=some(aU y));have HY:=(show Hid _ from hy);clear hy hs;by_cases hyx:y=x
    ·subst hyx;go_wp2
     go_ret2
     exact⟨i,hjn,HLO.out,HHI.out,by rw [HY.out];simp,rfl⟩
    ·have hne:(y==x)=false:=by simpa using hyx
     go_wp2_with(go_at_call 214;refine(Qu _ _).mono ?_;rintro e w1⟨rfl,rfl⟩)
     go_ret2
     exact⟨i,by omega,HLO.out,HHI.out,by rw [HY.out];simp [hne],rfl⟩
   ·obtain rfl:i=n:=by omega
    have hnn:cs[i]?=none:=List.getElem?_eq_none(by omega);have HN:=(show Hid _ from hnn);clear hnn hs;go_wp2
    go_ret2
    exact⟨i,Nat.le_refl _,HLO.out,HHI.out,by rw [HN.out];rfl,rfl⟩
end Go.Proofs.YtakaadcpaeiccabGreat
