import Derived.Test.YtakaadcpaeiccabGreatC05
import Derived.RangeFuncBound
import Derived.Sort.MapsRangeIn
import Derived.Sort.KeysCollected
import Derived.OwnWalkIn
import Derived.TacticsInMore
import Derived.RegionIn
import Derived.LoopNIn
import Derived.LoopIn
import Derived.RangeFuncLeaves
set_option maxHeartbeats 2000000
set_option maxRecDepth 100000
namespace Go.Proofs.YtakaadcpaeiccabGreat
open Go.RowKit Go.Maps
@[reducible] def Ia (x : Rt) (v : Value) : Value := .agg #[.int .u32 x.dest, .int .u32 x.seq, .int .i64 x.hops, .int .u32 x.next, .bool x.valid, .int .u64 x.exp, v]
@[reducible] def b_ (x : Rt) (v : Value) : Obj := .cells #[.int .u32 x.dest, .int .u32 x.seq, .int .i64 x.hops, .int .u32 x.next, .bool x.valid, .int .u64 x.exp, v] 38
def dP(B:Nat)(x:Rt)(v:Value)(W:World):Prop:=W.heap[B]?=some(b_ x v)
theorem dP.cell {B:Nat} {x:Rt} {v:Value} {W:World}(h:dP B x v W):
  W.cell?⟨B,0,none⟩=some(.int .u32 x.dest)∧W.cell?⟨B,1,none⟩=some(.int .u32 x.seq)∧W.cell?⟨B,2,none⟩=some(.int .i64 x.hops)∧W.cell?⟨B,3,none⟩=some(.int .u32 x.next)∧W.cell?⟨B,4,none⟩=some(.bool x.valid)∧W.cell?⟨B,5,none⟩=some(.int .u64 x.exp)∧W.cell?⟨B,6,none⟩=some v:=
 ⟨cell_of_row W B 0 _ _ _ h,cell_of_row W B 1 _ _ _ h,cell_of_row W B 2 _ _ _ h,cell_of_row W B 3 _ _ _ h,cell_of_row W B 4 _ _ _ h,cell_of_row W B 5 _ _ _ h,cell_of_row W B 6 _ _ _ h⟩
theorem dP.free {B:Nat} {x:Rt} {v:Value} {W:World}(h:dP B x v W)(i:Nat):W.frozen?⟨B,i,none⟩=false:=by
 unfold dP at h;simp [World.frozen?,h]
theorem dP.lt {B:Nat} {x:Rt} {v:Value} {W:World}(h:dP B x v W):B<W.heap.size:=(Array.getElem?_eq_some_iff.1 h).1
theorem dP.block {B:Nat} {x:Rt} {v:Value} {W W':World}(h:dP B x v W)(he:W'.heap[B]?=W.heap[B]?):dP B x v W':=he.trans h
theorem dP.later {B:Nat} {x:Rt} {v:Value} {W W':World}(h:dP B x v W)(hb:Below W.heap.size W W'):dP B x v W':=h.block(hb.block B h.lt)
theorem dP.new(x:Rt)(v:Value)(W:World):dP W.heap.size x v(W.alloc(b_ x v)):=heap_alloc_new W _
theorem dP.set1 {B:Nat} {x:Rt} {v:Value} {W:World}(h:dP B x v W)(s:Int):dP B {x with seq:=s}v(W.setCell⟨B,1,none⟩(.int .u32 s)):=by
 unfold dP at h ⊢;simp [World.setCell,Array.getElem?_modify,h]
theorem dP.adY {B:Nat} {x:Rt} {v:Value} {W:World}(h:dP B x v W)(s:Bool):dP B {x with valid:=s}v(W.setCell⟨B,4,none⟩(.bool s)):=by
 unfold dP at h ⊢;simp [World.setCell,Array.getElem?_modify,h]
theorem dP.M4 {B:Nat} {x:Rt} {v:Value} {W:World}(h:dP B x v W)(s:Int):dP B {x with exp:=s}v(W.setCell⟨B,5,none⟩(.int .u64 s)):=by
 unfold dP at h ⊢;simp [World.setCell,Array.getElem?_modify,h]
theorem dP.Zy {B:Nat} {x:Rt} {v:Value} {W:World}(h:dP B x v W)(u:Value)(l:List Int):dP B {x with bB:=l}u(W.setCell⟨B,6,none⟩u):=by
 unfold dP at h ⊢;simp [World.setCell,Array.getElem?_modify,h]
def EH(T:Nat)(self:Int)(M:Nat)(W:World):Prop:=W.heap[T]?=some(.cells #[.int .u32 self,.map(some M)]158)
theorem EH.cell {T M:Nat} {self:Int} {W:World}(h:EH T self M W):W.cell?⟨T,0,none⟩=some(.int .u32 self)∧W.cell?⟨T,1,none⟩=some(.map(some M)):=
 ⟨cell_of_row W T 0 _ _ _ h,cell_of_row W T 1 _ _ _ h⟩
theorem EH.lt {T M:Nat} {self:Int} {W:World}(h:EH T self M W):T<W.heap.size:=(Array.getElem?_eq_some_iff.1 h).1
theorem EH.block {T M:Nat} {self:Int} {W W':World}(h:EH T self M W)(he:W'.heap[T]?=W.heap[T]?):EH T self M W':=he.trans h
theorem nZ(x:Int)(w:World):Calls Tryz.prog 42 #[.int .u32 x]w fun e w'=>e=.returned(.int .u32(gr x))∧w'=w:=by
 have hm:Hid(∀y:Int,y=gr x→Ending.returned(.int .u32 y)=.returned(.int .u32(gr x))):=fun y h=>by rw [h]
 go_enter Tryz.func42,Tryz.ntmps42
 go_wp2
 all_goals
  go_ret
  refine⟨hm.out _ ?_,rfl⟩;unfold gr;omega
theorem xu(a b c d:Int)(w:World):Calls Tryz.prog 180 #[.agg #[.int .i64 a,.int .i64 b],.agg #[.int .i64 c,.int .i64 d]]w fun e w'=>e=.returned(.bool(if a=c then decide(b<d)else decide(a>c)))∧Below w.heap.size w w':=by
 have hb:Below w.heap.size w((w.alloc(.cells #[.int .i64 a,.int .i64 b]283)).alloc(.cells #[.int .i64 c,.int .i64 d]283)):=((Below.refl _ _).alloc(Nat.le_refl _)_).alloc(by simp)_;by_cases h:a=c
 ·subst h;rw [if_pos rfl];go_enter Tryz.func180,Tryz.ntmps180
  go_wp2
  go_ret
  exact⟨rfl,hb⟩
 ·have hd:(a==c)=false:=by simpa using h
  rw [if_neg h];go_enter Tryz.func180,Tryz.ntmps180
  go_wp2
  go_ret
  exact⟨rfl,hb⟩
theorem oO(x:Rt)(hx:bg x.seq)(v:Value)(w:World):Calls Tryz.prog 179 #[Ia x v]w fun e w'=>e=.returned(.agg #[.int .i64(rk x),.int .i64 x.hops])∧Below w.heap.size w w':=by
 unfold bg at hx;have hs:IntKind.i64.wrap x.seq=x.seq:=by rw [IntKind.wrap_i64];omega
 have hs1:IntKind.i64.wrap(x.seq - 1)=x.seq - 1:=by rw [IntKind.wrap_i64];omega
 have hb:∀u,Below w.heap.size w((w.alloc(b_ x v)).alloc(.cells u 283)):=fun u=>((Below.refl _ _).alloc(Nat.le_refl _)_).alloc(by simp)_;obtain⟨xd,xq,xh,xn,xv,xe,xb⟩:=x;dsimp only [b_]at hs hs1 hb;cases xv
 ·go_enter Tryz.func179,Tryz.ntmps179
  go_wp2
  exact bodyPost_ret(v:=.agg #[.int .i64(xq - 1),.int .i64 xh])(by simp [results,Tryz.results179,go_sem])rfl⟨rfl,hb _⟩
 ·go_enter Tryz.func179,Tryz.ntmps179
  go_wp2
  exact bodyPost_ret(v:=.agg #[.int .i64 xq,.int .i64 xh])(by simp [results,Tryz.results179,go_sem])rfl⟨rfl,hb _⟩
theorem GA(T M s:Nat)(self:Int)(f:Int→Option Nat)(w:World)(hT:EH T self M w)(hm:eX w M f s):Calls Tryz.prog 70 #[.pointer(some⟨T,0,none⟩)]w fun e w'=>e=.returned(.bool(decide(8≤s)))∧w'=w:=by
 obtain⟨c0,c1⟩:=hT.cell;have hl:=hm.len;go_enter Tryz.func70,Tryz.ntmps70
 go_wp2
 go_ret
 refine⟨?_,rfl⟩;have:decide(8≤(s:Int))=decide(8≤s):=decide_eq_decide.2(by omega);simp [this]
theorem Ip(T M s:Nat)(self:Int)(f:Int→Option Nat)(d:Int)(hd:bg d)(hf:f d=none)(w:World)(hT:EH T self M w)(hm:eX w M f s):Calls Tryz.prog 116 #[.pointer(some⟨T,0,none⟩),.int .u32 d]w fun e w'=>e=.returned(.pointer none)∧w'=w:=by
 obtain⟨c0,c1⟩:=hT.cell;have hl:=hm.look hd;rw [hf]at hl;simp only [fJ]at hl;go_enter Tryz.func116,Tryz.ntmps116
 go_wp2
 go_ret
 exact⟨rfl,rfl⟩
theorem Io(T M s B:Nat)(self:Int)(f:Int→Option Nat)(d:Int)(hd:bg d)(hf:f d=some B)(x:Rt)(v:Value)(w:World)(hT:EH T self M w)(hm:eX w M f s)(hx:dP B x v w):Calls Tryz.prog 116 #[.pointer(some⟨T,0,none⟩),.int .u32 d]w fun e w'=>e=.returned(.pointer(if x.valid then some⟨B,0,none⟩else none))∧w'=w:=by
 obtain⟨c0,c1⟩:=hT.cell;obtain⟨_,_,_,_,c4,_,_⟩:=hx.cell;have hl:=hm.look hd;rw [hf]at hl;simp only [fJ]at hl;obtain⟨xd,xq,xh,xn,xv,xe,xb⟩:=x;dsimp only at c4;cases xv
 ·go_enter Tryz.func116,Tryz.ntmps116
  go_wp2
  go_ret
  exact⟨rfl,rfl⟩
 ·go_enter Tryz.func116,Tryz.ntmps116
  go_wp2
  go_ret
  exact⟨rfl,rfl⟩
theorem F6(M:Nat)(w:World):
  Calls Tryz.prog 103 #[.map(some M)]w fun e w'=>e=.returned(.func(.func 141)#[]#[.pointer(some⟨w.heap.size,0,none⟩)])∧w'=w.alloc(.cells #[.map(some M)]115):=by
 go_enter Tryz.func103,Tryz.ntmps103
 go_wp2
 go_ret
 exact⟨rfl,rfl⟩
open Go.Sort
abbrev aU:Int→Value:=Value.int .u32
theorem zR {x y:Int}(h:aU x=aU y):x=y:=by simpa [aU]using h
theorem kC {P:Program} {k:TypeId}(hk:P.underlying k=some(.int .u32)) {key:Value} {kl:Lit}(h:keyOf P k key=some kl):∃x:Int,key=aU x∧kl=.int .u32 x∧(Lit.int .u32 x).wf=true:=by
 cases key<;>simp [keyOf,hk,mapKey]at h
 rename_i q a;obtain⟨⟨rfl,hw⟩,rfl⟩:=h;exact⟨a,rfl,rfl,hw⟩
def fI {H:Type}(D0:DataW H)(left:Lit→Bool)(ss:List Int):Prop:=
 ss.Nodup∧(∀x∈ss,(Lit.int .u32 x).wf=true)∧∀x,x∈ss ↔ (has D0(.int .u32 x)=true∧left(.int .u32 x)=false)
def vz {H:Type}(D0:DataW H)(ss:List Int):Prop:=
 ss.Nodup∧(∀x∈ss,(Lit.int .u32 x).wf=true)∧∀x,x∈ss ↔ has D0(.int .u32 x)=true
section
variable {H:Type} {D0:DataW H} {left:Lit→Bool} {ss:List Int}
theorem fI.start(D0:DataW H):fI D0(has D0) []:=⟨List.nodup_nil,by simp,fun x=>by cases has D0(.int .u32 x)<;>simp⟩
theorem fI.step(h:fI D0 left ss) {x:Int} {y:DataW H}(hlk:left(.int .u32 x)=true)(hat:∀zd,D0.atKey(.int .u32 x)zd=y)(hw:(Lit.int .u32 x).wf=true):fI D0(fun z=>left z&&!z.sameKey(.int .u32 x))(ss++ [x]):=by
 have hhas:has D0(.int .u32 x)=true:=has_true_of_atKey hat;have hnew:x ∉ ss:=fun hx=>by have:=((h.2.2 x).1 hx).2;rw [hlk]at this;cases this
 refine⟨List.nodup_append.2⟨h.1,by simp,fun a ha b hb=>by simp at hb;subst hb;exact fun e=>hnew(e▸ha)⟩,?_,fun y=> ?_⟩
 ·intro a ha;rcases List.mem_append.1 ha with ha|ha
  ·exact h.2.1 a ha
  ·simp at ha;subst ha;exact hw
 ·by_cases hy:y=x
  ·subst hy;simp [hhas,Lit.sameKey]
  ·simp [h.2.2 y,hy,Lit.sameKey]
theorem fI.keys(h:fI D0 left ss)(hl:∀kl,left kl=false):vz D0 ss:=⟨h.1,h.2.1,fun x=>by rw [h.2.2 x,hl];simp⟩
end
theorem MJ {H:Type}(F:Fence)(n:Nat)(h10:F.fn 141)(hro:F.round=none)(hn:1≤n)(l Bm b nn:Nat)(D0:DataW H) {R:Value→Option(DataW H×List MemPlace)}(J:List Int→World→Prop)
  (hY:∀pre x W,J pre W→pre.length<Maps.size D0→YieldAt F(n - 1)Tryz.prog l #[aU x]W fun e W'=>e=.returned(.bool true)∧J(pre++ [x])W'∧KeepsWalks W W')
  (W:World)(hJ:AbidesFrom W.heap.size J)(hm:W.cell?⟨Bm,0,none⟩=some(.map(some b)))(hown:W.ownsMap Tryz.prog 34 R b nn D0)(h0:J []W):
  CallsIn F n Tryz.prog 141 #[.func(.yield l)#[]#[],.pointer(some⟨Bm,0,none⟩)]W fun e W'=>(∃v,e=.returned v)∧∃ss:List Int,vz D0 ss∧J ss W':=by
 refine callsIn_of_wp Tryz.func141 rfl h10 ?_ hro;simp only [Tryz.ntmps141,List.size_toArray,List.length_cons,List.length_nil,Nat.reduceAdd,Nat.reduceSub,Array.replicate_succ,Array.replicate_zero,List.push_toArray,List.append_toArray,List.nil_append,List.cons_append]
 gi_wp2_with(first
  |(gi_at_range;refine wpListIn_range_own _ rfl _ 115 rfl 34 34 fF Tryz.underlying115 _ b nn _ rfl hown ?_;intro w0 hrg0 hg0 hs0)
  |gi_in)
 go_frame
 gi_loopw [3](fun _ wr=>∃(left:Lit→Bool)(cnt:Nat)(ss:List Int),wr.ranges Tryz.prog 34 R b W.heap.size nn D0 left cnt∧ss.length+cnt≤Maps.size D0∧fI D0 left ss∧J ss wr)
  (fun _ wr=>wr.rangeLeft b W.heap.size)
 case atStart=>
  exact⟨_,_,[],hrg0,by simp,fI.start D0,hJ []W w0 none h0 hg0(fun r e=>by cases e)⟩
 case round=>
  obtain⟨left,cnt,ss,hrg,hcs,hC,hJs⟩:=hrel
  gi_wp2_with(first
   |(gi_at_next;refine wpListIn_next_ranges _ rfl _ rfl 34 fF R aU id(fun key kl hk=>by obtain⟨x,hx,_⟩:=kC Tryz.underlying34 hk;exact⟨x,hx⟩)(fun v _ _=>⟨v,rfl⟩)b W.heap.size nn _ _ _ rfl hrg ?_ ?_)
   |gi_in)
  ·intro hc0 hl0
   gi_wp2
   go_end0
   exact⟨⟨_,rfl⟩,ss,hC.keys hl0,hJs⟩
  ·intro x c kl yd yp w2 cnt2 hkey hlk hv hat hrg2 hlt hg2 hs2 hen;obtain⟨x',ex,rfl,hwf⟩:=kC Tryz.underlying34 hkey;obtain rfl:x=x':=zR ex;have hJ2:J ss w2:=hJ ss wr w2(some W.heap.size)hJs hg2(fun r e=>by cases e;exact⟨Nat.le_refl _,hrg.iter_walk⟩);obtain⟨fn,tmps,assign,body,hy,hR⟩:=hY ss x w2 hJ2(by omega);clear hs2
   gi_wp2
   refine hR.mono ?_;rintro e W3⟨rfl,hJ3,hk3⟩
   gi_wp2
   have hrg3:=hrg2.of_walks hk3;go_roundw
   case rel=>exact⟨_,cnt2,ss++ [x],hrg3,by simp;omega,hC.step hlk hat hwf,hJ3⟩
   case measure=>rw [hrg3.left_eq,hrg.left_eq];exact hlt
theorem EL {H:Type}(F:Fence)(n:Nat)(h10:F.fn 141)(hro:F.round=none)(hn:1≤n)(Bm b nn:Nat)(D0:DataW H) {R:Value→Option(DataW H×List MemPlace)}(w:World)(hBm:Bm<w.heap.size)
  (hm:w.cell?⟨Bm,0,none⟩=some(.map(some b)))(hown:w.ownsMap Tryz.prog 34 R b nn D0):
  SeqGives F n Tryz.prog 141 #[.pointer(some⟨Bm,0,none⟩)]aU(vz D0)(Maps.size D0)w:=fun l J W hW hJ hY h0=>by
 have hown':W.ownsMap Tryz.prog 34 R b nn D0:=by
  have hbl:=hown.lt;obtain⟨es,clock,hb,Ft,hs,hD⟩:=hown;exact⟨es,clock,(hW.block b hbl).trans hb,Ft,hs,hD⟩
 exact MJ F n h10 hro hn l Bm b nn D0 J hY W hJ((hW.cell(p:=⟨Bm,0,none⟩)hBm).trans hm)hown' h0
theorem MapU.yg {W:World} {M:Nat} {f:Int→Option Int} {s:Nat}(h:MapU W M f s)(w:World)(Bm:Nat)(hBm:Bm<w.heap.size)(hm:w.cell?⟨Bm,0,none⟩=some(.map(some M)))(hW:Below W.heap.size W w):
  SeqGives Fence.wide 1 Tryz.prog 141 #[.pointer(some⟨Bm,0,none⟩)]aU(fun ss=>ss.Nodup∧∀x,x∈ss ↔ (bg x∧(f x).isSome=true))s w:=by
 obtain⟨D,h1,h2,h3⟩:=h;have hl:=h1.lt;have h1':w.ownsMap Tryz.prog 34(plainElem Tryz.prog 34)M s D:=by
  obtain⟨es,clock,hb,Ft,hs,hD⟩:=h1;exact⟨es,clock,(hW.block M hl).trans hb,Ft,hs,hD⟩
 have hg:=EL Fence.wide 1 trivial rfl(Nat.le_refl _)Bm M s D w hBm hm h1';rw [h2]at hg;intro l J W' hW' hJ hY h0;refine(hg l J W' hW' hJ hY h0).mono ?_;rintro e W2⟨hv,ss,hk,hj⟩;refine⟨hv,ss,⟨hk.1,fun x=> ?_⟩,hj⟩;constructor
 ·intro hx;have hw:=bounds_u32(hk.2.1 x hx);have hU:bg x:=⟨hw.1,by have:=hw.2;omega⟩;exact⟨hU,by rw [←(h3 x hU).1];exact(hk.2.2 x).1 hx⟩
 ·rintro⟨hU,hs⟩;exact(hk.2.2 x).2(by rw [(h3 x hU).1];exact hs)
theorem qD:(Tryz.prog.info? 34).map(fun i=>(i.zero,i.size,i.bytes))=some(some(.int .u32 0),1,4):=by kernel_rfl
def apA:Code:=.region 2 #[{dst:=some 5,op:=.assign(.tmp 7),type:=34,pos:="iter.go:51",after:=#[],guard:=none}]false
def apB:Code:=.block 1(.region 3 #[{dst:=some 8,op:=.load 36(.tmp 2),type:=36,pos:="iter.go:52",after:=#[],guard:=none},{dst:=some 9,op:=.move(.tmp 5),type:=34,pos:="iter.go:52",after:=#[],guard:=none},{dst:=some 10,op:=.buildSlice 36 1 #[(0,.tmp 9)],type:=36,pos:="iter.go:52",after:=#[{on:=1,ground:=.data}],guard:=none},{dst:=some 11,op:=.call {callee:=.builtin .append,args:=#[.tmp 8,.tmp 10],argTypes:=#[36,36]},type:=36,pos:="iter.go:52",after:=#[{on:=0,ground:=.data},{on:=2,ground:=.data}],guard:=none},{dst:=none,op:=.store 36(.tmp 2)(.tmp 11),type:=0,pos:="iter.go:52",after:=#[{on:=3,ground:=.data},{on:=3,ground:=.chain},{on:=0,ground:=.phase},{on:=1,ground:=.phase},{on:=2,ground:=.phase},{on:=3,ground:=.phase}],guard:=none}]false)
def apRec(fn:FuncId)(sv:Value)(Bs D:Nat)(st:LoopState)(pend:Option Code):Loop:=
 {state:=st,pending:=pend,fn,tmps:=#[.slice none 0 0,sv,.pointer(some⟨Bs,0,none⟩),undef,.slice none 0 0,undef,sv,undef,undef,undef,undef,undef,undef],params:=#[7],assign:=apA,body:=apB,defers:=D}
structure ApAt(w0:World)(fn:FuncId)(sv:Value)(Bs l D:Nat)(ss:List Int)(W:World):Prop where
 box:∃v,W.heap[Bs]?=some(.cells #[v]36(0,0))∧W.ownsRow w0.heap.size 34 1 v ss.length(ss.map aU)∧(v=.slice none 0 0 ↔ ss=[])
 L:W.heap[l]?=some(.loop(apRec fn sv Bs D .ready none))
 K:W.heap[D]?=some(.deferred(some []))
 below:Below w0.heap.size w0 W
theorem ap_abides(w0:World)(fn:FuncId)(sv:Value)(Bs l D B:Nat)(hB:w0.heap.size≤B):AbidesFrom B(ApAt w0 fn sv Bs l D):=fun s W W' row h hg hrow=>by
 have hrow':∀r,row=some r→∃o:Obj,W.heap[r]?=some o∧o.isWalk=true:=fun r e=>(hrow r e).2;obtain⟨v,hv,hr,hn⟩:=h.box;exact⟨⟨v,(grownBy_keeps hg hrow' hv rfl).trans hv,ownsRow_abides_a hr hg hrow',hn⟩,(grownBy_keeps hg hrow' h.L rfl).trans h.L,(grownBy_keeps hg hrow' h.K rfl).trans h.K,
  h.below.grown hg h.below.size(fun k e=>Nat.le_trans hB(hrow k e).1)⟩
theorem Ud(F:Fence)(m:Nat)(w0:World)(fn:FuncId)(hfn:F.fn fn)(sv:Value)(Bs l D:Nat)(hBl:Bs≠l)(hDl:D≠l)(hDB:D≠Bs)(h0B:w0.heap.size≤Bs)(h0l:w0.heap.size≤l)
  (N:Nat)(hN:N≤maxLen)(hNb:N * 4≤140737488355328)(ss:List Int)(x:Int)(W:World)(h:ApAt w0 fn sv Bs l D ss W)(hlen:ss.length<N):
  YieldAt F m Tryz.prog l #[aU x]W fun e W'=>e=.returned(.bool true)∧ApAt w0 fn sv Bs l D(ss++ [x])W'∧KeepsWalks W W':=by
 obtain⟨i0,hi,hz0,hz1,hz2⟩:=info_parts qD;obtain⟨v,hv,hrow,_⟩:=h.box;refine⟨fn,#[.slice none 0 0,sv,.pointer(some⟨Bs,0,none⟩),undef,.slice none 0 0,undef,sv,aU x,undef,undef,undef,undef,undef],apA,apB,by simpa [apRec]using run_yield(P:=Tryz.prog)(args:=#[aU x])h.L rfl,roundIn_of_wpIn hfn ?_⟩;have hl:l<W.heap.size:=(Array.getElem?_eq_some_iff.1 h.L).1;have hbr:=run_beginRound(P:=Tryz.prog)h.L rfl;obtain⟨W2,hW2⟩:∃W2,W.putObj l(.loop {apRec fn sv Bs D .ready none with state:=.busy})=W2:=⟨_,rfl⟩;rw [hW2]at hbr;have hg2:W.grownBy W2(some l):=by rw [←hW2];exact grownBy_putObj_a _ _ _
 have hk2:KeepsWalks W W2:=by rw [←hW2];exact KeepsWalks.putObj _ h.L rfl
 have hv2:W2.heap[Bs]?=some(.cells #[v]36(0,0)):=by rw [←hW2];exact(World.putObj_heap_other hBl).trans hv
 have hK2:W2.heap[D]?=some(.deferred(some [])):=by rw [←hW2];exact(World.putObj_heap_other hDl).trans h.K
 have hL2:W2.heap[l]?=some(.loop {apRec fn sv Bs D .ready none with state:=.busy}):=by rw [←hW2];exact World.putObj_heap_same hl
 have hrow2:W2.ownsRow w0.heap.size 34 1 v ss.length(ss.map aU):=hrow.kept hg2(ownsRow_ne_a hrow h.L(fun cur e=>by cases e));have hb2:Below w0.heap.size w0 W2:=h.below.grown hg2 h.below.size(fun k e=>by cases e;exact h0l);obtain⟨hc2,hf2⟩:=cell_of_box_a hv2;have hBlt:Bs<W2.heap.size:=(Array.getElem?_eq_some_iff.1 hv2).1;have hl2:l<W2.heap.size:=(Array.getElem?_eq_some_iff.1 hL2).1;have hDlt:D<W2.heap.size:=(Array.getElem?_eq_some_iff.1 hK2).1;have ne_of:∀ {j:Nat} {o:Obj},W2.heap[j]?=some o→(∀cur,o≠ .cells cur 34(0,0))→some j≠v.ownBlock:=fun hj hno=>by
  rcases ownsRow_ne_a hrow2 hj hno with e|e
  ·rw [e];simp
  ·exact fun e'=>e e'.symm
 clear hW2;unfold apA
 gi_wp2_with(rw [Oper.semAt_eq _ _ _(fun c h=>by cases h)];go_simp;try go_bits)
 unfold apB
 gi_wp2_with(first
  |(gi_at_builtin;refine wpListIn_append_own _ rfl _ _ 36 rfl w0.heap.size 34 i0(.int .u32 0)1 4 Tryz.underlying36 hi hz0 hz1 hz2 rfl(by decide)_ _ _ rfl(hrow2.alloc _)⟨W2.heap.size,0,none⟩1 1 [aU x]rfl rfl(cell_one_new _ _ _)(by simp [Value.oneCell',aU])(by omega)(by omega)(by have:=hb2.size;simp;omega) ?_;intro v' w3 hown' hg3 hnil3
   have hv3:w3.heap[Bs]?=some(.cells #[v]36(0,0)):=(hg3.block Bs(by simp;omega)(ne_of hv2(fun cur e=>by cases e))).trans((Below.heap_alloc _ _ Bs hBlt).trans hv2);obtain⟨hc3,hf3⟩:=cell_of_box_a hv3;obtain⟨g',cap',cur',rfl,hbase',hgb',hr1,hr2,hr3,hr4⟩:∃g' cap' cur',v'=.slice(some⟨g',0,none⟩)(ss.length+1)cap'∧w0.heap.size≤g'∧w3.heap[g']?=some(.cells cur' 34(0,0))∧ss.length+1≤cap'∧cap'≤maxLen∧cur'.size=cap' * 1∧cur'.toList.take((ss.length+1)* 1)=ss.map aU++ [aU x]:=by
    rcases hown'.2 with⟨_,h0⟩|h'
    ·exact absurd h0(by omega)
    ·exact h'
   go_frame)
  |(rw [Oper.semAt_eq _ _ _(fun c h=>by cases h)];go_simp;try go_bits))
 have hg3':(W2.alloc(.cells #[aU x]34)).grownBy w3 v.ownBlock:=hg3;have hL3:w3.heap[l]?=some(.loop {apRec fn sv Bs D .ready none with state:=.busy}):=(hg3'.block l(by simp;omega)(ne_of hL2(fun cur e=>by cases e))).trans((Below.heap_alloc _ _ l hl2).trans hL2);have hK3:w3.heap[D]?=some(.deferred(some [])):=(hg3'.block D(by simp;omega)(ne_of hK2(fun cur e=>by cases e))).trans((Below.heap_alloc _ _ D hDlt).trans hK2);obtain⟨w4,hw4⟩:∃w4,w3.setCell⟨Bs,0,none⟩(.slice(some⟨g',0,none⟩)(ss.length+1)cap')=w4:=⟨_,rfl⟩;rw [hw4];have hg4:w3.grownBy w4(some Bs):=by rw [←hw4];exact grownBy_setCell0_a _ _ _
 have hv4:w4.heap[Bs]?=some(.cells #[.slice(some⟨g',0,none⟩)(ss.length+1)cap']36(0,0)):=by rw [←hw4];exact heap_setCell_box_a _ hv3
 have hL4:w4.heap[l]?=some(.loop {apRec fn sv Bs D .ready none with state:=.busy}):=(hg4.block l(Array.getElem?_eq_some_iff.1 hL3).1(fun e=>hBl(by cases e;rfl))).trans hL3;have hK4:w4.heap[D]?=some(.deferred(some [])):=(hg4.block D(Array.getElem?_eq_some_iff.1 hK3).1(fun e=>hDB(by cases e;rfl))).trans hK3;have hrow4:=hown'.kept hg4(ownsRow_ne_a hown' hv3(fun cur e=>by cases e));have hl4:l<w4.heap.size:=(Array.getElem?_eq_some_iff.1 hL4).1;have hb3:Below w0.heap.size w0 w3:=(hb2.alloc hb2.size _).grown hg3'(by have:=hb2.size;simp;omega)(fun k e=>(hrow2.lt k e).1);have hb4:Below w0.heap.size w0 w4:=hb3.grown hg4 hb3.size(fun k e=>by cases e;exact h0B);have hk4:KeepsWalks W w4:=((hk2.trans(KeepsWalks.alloc _ _)).trans(KeepsWalks.of_grownBy hg3'(ownsRow_not_walk_a(hrow2.alloc _)))).trans(by rw [←hw4];exact KeepsWalks.setCell _ _ _);clear hw4;refine⟨_,_,run_endRound none hL4,rfl,⟨⟨_,(World.putObj_heap_other hBl).trans hv4,?_,by simp⟩,World.putObj_heap_same hl4,(World.putObj_heap_other hDl).trans hK4,hb4.grown(grownBy_putObj_a _ _ _)hb4.size(fun k e=>by cases e;exact h0l)⟩,hk4.trans(KeepsWalks.putObj _ hL4 rfl)⟩;have:=hrow4.kept(grownBy_putObj_a w4 l(.loop { {apRec fn sv Bs D .ready none with state:=.busy}with state:=if(none:Option Code).isNone then .ready else .done,pending:=none}))(ownsRow_ne_a hrow4 hL4(fun cur e=>by cases e));simpa using this
theorem appendSeq_in(F:Fence)(n:Nat)(h11:F.fn 171)(hro:F.round=none)(hn:2≤n)(g:Nat)(lb:Array Value)(hFg:F.fn g)(eg:∀args w,(callFunc g args).run Tryz.prog w=.ok(.enter g args)w)
  (S:List Int→Prop)(N:Nat)(hN:N≤maxLen)(hNb:N * 4≤140737488355328)(w:World)(hseq:SeqGives F(n - 1)Tryz.prog g lb aU S N w):
  CallsIn F n Tryz.prog 171 #[.slice none 0 0,.func(.func g)#[]lb]w fun e w'=>∃(v:Value)(ss:List Int),e=.returned v∧S ss∧w'.ownsRow w.heap.size 34 1 v ss.length(ss.map aU)∧(v=.slice none 0 0 ↔ ss=[])∧Below w.heap.size w w':=by
 have h1:1≤n:=by omega
 refine callsIn_of_wp_marks Tryz.func171 rfl h11 ?_ hro;simp only [Tryz.ntmps171,List.size_toArray,List.length_cons,List.length_nil,Nat.reduceAdd,Nat.reduceSub,Array.replicate_succ,Array.replicate_zero,List.push_toArray,List.append_toArray,List.nil_append,List.cons_append]
 gi_wp2
 refine wpIn_rangeFunc ?_;intro fn hfn;rw [hro];obtain⟨W0,hW0⟩:∃W0,w.alloc(.cells #[.slice none 0 0]36)=W0:=⟨_,rfl⟩;have hs0:W0.heap.size=w.heap.size+1:=by rw [←hW0];simp
 have hv0:W0.heap[w.heap.size]?=some(.cells #[.slice none 0 0]36(0,0)):=by rw [←hW0];exact World.alloc_heap_new w _
 have hb0:Below w.heap.size w W0:=by rw [←hW0];exact(Below.refl _ w).alloc(Nat.le_refl _)_
 rw [hW0];obtain⟨W1,hW1⟩:∃W1,(W0.alloc(.deferred(some []))).alloc(.loop(apRec fn(.func(.func g)#[]lb)w.heap.size W0.heap.size .ready none))=W1:=⟨_,rfl⟩;have hold:∀k,k<W0.heap.size→W1.heap[k]?=W0.heap[k]?:=fun k hk=>by
  rw [←hW1];exact(Below.heap_alloc _ _ k(by simp;omega)).trans(Below.heap_alloc _ _ k hk)
 have hb1:Below w.heap.size w W1:=by rw [←hW1];exact(hb0.alloc hb0.size _).alloc(by have:=hb0.size;simp;omega)_
 have hs1:W1.heap.size=W0.heap.size+2:=by rw [←hW1];simp
 have hM:ApAt w fn(.func(.func g)#[]lb)w.heap.size(W0.heap.size+1)W0.heap.size []W1:=
  ⟨⟨_,(hold w.heap.size(by omega)).trans hv0,⟨rfl,.inl⟨rfl,rfl⟩⟩,by simp⟩,
  by rw [←hW1];have:=World.alloc_heap_new(W0.alloc(.deferred(some [])))(.loop(apRec fn(.func(.func g)#[]lb)w.heap.size W0.heap.size .ready none));rwa [World.size_alloc]at this,
  by rw [←hW1];exact(Below.heap_alloc _ _ _(by simp)).trans(World.alloc_heap_new W0 _),hb1⟩
 refine⟨W0.heap.size+1,[{target:=.collected W0.heap.size,args:=#[]}],W1,{target:=.fn(.func g)lb,args:=#[.func(.yield(W0.heap.size+1))#[]#[]]},W1,g,
  #[.func(.yield(W0.heap.size+1))#[]#[]]++lb,W1,?_,?_,?_,?_,fun _=>h1,?_⟩
 ·rw [←hW1];exact run_enterLoop_outer _ _ _ _ _
 ·simp [resolve,go_sem]
 ·intro f' hf';simp [Target.leads]at hf';subst hf';exact hFg
 ·simp [invoke,go_sem,eg]
 ·refine(hseq(W0.heap.size+1)(ApAt w fn(.func(.func g)#[]lb)w.heap.size(W0.heap.size+1)W0.heap.size)W1 hb1(ap_abides _ _ _ _ _ _ _ hb1.size)
   (fun pre x W hJ hl=>Ud F(n - 1 - 1)w fn hfn _ w.heap.size(W0.heap.size+1)W0.heap.size(by omega)(by omega)(by omega)(Nat.le_refl _)(by omega)N hN hNb pre x W hJ hl)hM).mono ?_
  rintro e W2⟨⟨v0,rfl⟩,ss,hS,h2⟩;obtain⟨v,hv,hrow,hnil⟩:=h2.box;have hend:=run_endLoop(P:=Tryz.prog)h2.L(by simp [apRec]);obtain⟨W3,hW3⟩:∃W3,W2.putObj(W0.heap.size+1)(.loop {apRec fn(.func(.func g)#[]lb)w.heap.size W0.heap.size .ready none with state:=.exhausted})=W3:=⟨_,rfl⟩;rw [hW3]at hend;have hg3:W2.grownBy W3(some(W0.heap.size+1)):=by rw [←hW3];exact grownBy_putObj_a _ _ _
  have hv3:W3.heap[w.heap.size]?=some(.cells #[v]36(0,0)):=by rw [←hW3];exact(World.putObj_heap_other(by omega)).trans hv
  have hK3:W3.heap[W0.heap.size]?=some(.deferred(some [])):=by rw [←hW3];exact(World.putObj_heap_other(by omega)).trans h2.K
  have hrow3:=hrow.kept hg3(ownsRow_ne_a hrow h2.L(fun cur e=>by cases e));have hb3:Below w.heap.size w W3:=h2.below.grown hg3 h2.below.size(fun k e=>by cases e;omega);obtain⟨hc3,hf3⟩:=cell_of_box_a hv3;clear hW3;refine⟨none,W3,hend,?_⟩
  gi_wp2
  rw [←hs0];refine⟨by simp,.inl⟨_,_,rfl,run_takeDeferred hK3,?_⟩⟩;exact⟨_,results_tmp rfl _ _ _,v,ss,rfl,hS,hrow3.kept(grownBy_putObj_a _ _ _)(ownsRow_ne_a hrow3 hK3(fun cur e=>by cases e)),hnil,hb3.grown(grownBy_putObj_a _ _ _)hb3.size(fun k e=>by cases e;omega)⟩
theorem collect_in(F:Fence)(n:Nat)(h8:F.fn 139)(h11:F.fn 171)(hro:F.round=none)(hn:3≤n)(g:Nat)(lb:Array Value)(hFg:F.fn g)(eg:∀args w,(callFunc g args).run Tryz.prog w=.ok(.enter g args)w)
  (S:List Int→Prop)(N:Nat)(hN:N≤maxLen)(hNb:N * 4≤140737488355328)(w:World)(hseq:SeqGives F(n - 1 - 1)Tryz.prog g lb aU S N w):
  CallsIn F n Tryz.prog 139 #[.func(.func g)#[]lb]w fun e w'=>∃(v:Value)(ss:List Int),e=.returned v∧S ss∧w'.ownsRow w.heap.size 34 1 v ss.length(ss.map aU)∧(v=.slice none 0 0 ↔ ss=[])∧Below w.heap.size w w':=by
 have h1:1≤n:=by omega
 refine callsIn_of_wp Tryz.func139 rfl h8 ?_ hro;simp only [Tryz.ntmps139,List.size_toArray,List.length_cons,List.length_nil,Nat.reduceAdd,Nat.reduceSub,Array.replicate_succ,Array.replicate_zero,List.push_toArray,List.append_toArray,List.nil_append,List.cons_append]
 gi_wp2_with(gi_at_call 171;refine(appendSeq_in F(n - 1)h11 hro(by omega)g lb hFg eg S N hN hNb _ hseq).mono ?_;rintro e w'⟨v,ss,rfl,hS,hrow,hnil,hb⟩)
 go_ret
 exact⟨v,ss,rfl,hS,hrow,hnil,hb⟩
end Go.Proofs.YtakaadcpaeiccabGreat
