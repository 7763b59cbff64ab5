import Derived.Test.YtakaadcpaeiccabGreatC04
import Derived.Shelf.SlIter.Collect
import Derived.Maps.AppendAt
import Derived.RangeFuncBound
import Derived.Sort.MapsRangeIn
import Derived.Sort.KeysCollected
import Derived.OwnWalkIn
import Derived.TacticsInMore
import Derived.RegionIn
import Derived.LoopNIn
import Derived.LoopIn
import Derived.RangeFuncLeaves
set_option maxHeartbeats 2000000
set_option maxRecDepth 100000
namespace Go.Proofs.YtakaadcpaeiccabGreat
variable{d:Int}
def BZ(k:Int):Prop:=0<=k∧k<=18446744073709551615
structure Rt where
 dest:Int
 seq:Int
 hops:Int
 next:Int
 valid:Bool
 exp:Int
 bN:List Int
structure Rt.Ok(x:Rt):Prop where
 dest:a_ x.dest
 seq:a_ x.seq
 hops:oW x.hops
 next:a_ x.next
 exp:BZ x.exp
 Vd:x.bN.length<=4
 bN:∀b∈x.bN,a_ b
 y_:x.bN.Pairwise (·<·)
def gr(s:Int):Int:=max s ((s+1)%4294967296)
theorem uG{s:Int}(h:a_ s):a_ (gr s):=by unfold a_ gr at *;omega
def rk(x:Rt):Int:=if x.valid then x.seq else x.seq - 1
def Wj(x y:Rt):Bool:=if rk x=rk y then decide (x.hops<y.hops)else decide (rk x>rk y)
theorem YD(x y:Rt):(!Wj x y)=(decide (rk x<rk y)||(decide (rk x=rk y)&&decide (x.hops>=y.hops))):=by
 unfold Wj;by_cases h:rk x=rk y
 ·simp only[h,if_true,decide_true,Bool.true_and];by_cases h2:x.hops<y.hops
  ·simp[h2]
  ·simp[h2];omega
 ·simp only[h,if_false,decide_false,Bool.false_and,Bool.or_false];by_cases h2:rk x>rk y
  ·simp[h2];omega
  ·simp[h2];omega
def qE(x:Rt)(s:Int):Rt:={x with seq:=max (gr x.seq) s,valid:=false,exp:=0,bN:=[]}
theorem vW{x:Rt}(h:x.Ok){s:Int}(hs:a_ s):(qE x s).Ok:=
 ⟨h.dest,Em (uG h.seq) hs,h.hops,h.next,by simp[qE,BZ],by simp[qE],by simp[qE],by simp[qE]⟩
def Asc(A:List Rt):Prop:=A.Pairwise λx y=>x.dest<y.dest
def pos:List Rt->Int->Nat
 | [],_=>0
 |x::A,d=>if x.dest<d then pos A d+1 else 0
def aK(A:List Rt)(d:Int):Option Rt:=A.find? λx=>x.dest==d
def gV(A:List Rt)(d:Int)(f:Rt->Rt):List Rt:=A.map λx=>if x.dest=d then f x else x
def uy(A:List Rt)(x:Rt):List Rt:=A.take (pos A x.dest)++x::A.drop (pos A x.dest)
theorem aaF(A:List Rt)(d:Int):pos A d<=A.length:=by
 induction A with
 |nil=>simp[pos]
 |cons x A ih=>unfold pos;split<;>simp<;>omega
theorem aaE(A:List Rt)(d:Int):∀j,j<pos A d->∃x,A[j]?=some x∧x.dest<d:=by
 induction A with
 |nil=>intro j hj;simp[pos]at hj
 |cons x A ih=>
  intro j hj;unfold pos at hj;split at hj
  ·rename_i h;cases j with
   |zero=>exact⟨x,rfl,h⟩
   |succ j=>simpa using ih j (by omega)
  ·omega
theorem Sb{A:List Rt}{x:Rt}(h:A[pos A d]?=some x):d<=x.dest:=by
 induction A with
 |nil=>simp at h
 |cons y A ih=>
  unfold pos at h;split at h
  ·rename_i hy;exact ih (by simpa using h)
  ·rename_i hy;simp at h;subst h;omega
theorem Asc.get{A:List Rt}(h:Asc A){i j:Nat}{x y:Rt}(hi:A[i]?=some x)(hj:A[j]?=some y)(hij:i<j):x.dest<y.dest:=by
 obtain⟨h1,rfl⟩:=fu.1 hi;obtain⟨h2,rfl⟩:=fu.1 hj;exact List.pairwise_iff_getElem.1 h i j h1 h2 hij
theorem Asc.inj{A:List Rt}(h:Asc A){x y:Rt}(hx:x∈A)(hy:y∈A)(he:x.dest=y.dest):x=y:=by
 obtain⟨i,hi⟩:=List.getElem?_of_mem hx;obtain⟨j,hj⟩:=List.getElem?_of_mem hy;rcases Nat.lt_trichotomy i j with hij|hij|hij
 ·have:=h.get hi hj hij;omega
 ·subst hij;rw[hi]at hj;cases hj;rfl
 ·have:=h.get hj hi hij;omega
theorem bU{A:List Rt}{x:Rt}(h:aK A d=some x):x∈A∧x.dest=d:=by
 unfold aK at h;exact⟨List.mem_of_find?_eq_some h,by simpa using List.find?_some h⟩
theorem mU{A:List Rt}(h:Asc A){x:Rt}(hx:x∈A):aK A x.dest=some x:=by
 cases e:aK A x.dest with
 |none=>
  unfold aK at e;rw[List.find?_eq_none]at e;exact absurd (by simp) (e x hx)
 |some y=>
  have:=bU e;rw[h.inj this.1 hx this.2]
theorem jZ{A:List Rt}:aK A d=none ↔ ∀x∈A,x.dest≠d:=by
 unfold aK;rw[List.find?_eq_none];simp
theorem nL(A:List Rt)(d:Int)(f:Rt->Rt):(gV A d f).length=A.length:=by simp[gV]
theorem oH{A:List Rt}(h:aK A d=none)(f:Rt->Rt):gV A d f=A:=by
 rw[jZ]at h;unfold gV;conv=>rhs;rw[<-List.map_id A]
 exact List.map_congr_left λx hx=>by simp[h x hx]
theorem Ta{A:List Rt}(h:Asc A){d:Int}{i:Nat}{x:Rt}(hi:A[i]?=some x)(hd:x.dest=d)(f:Rt->Rt):gV A d f=A.set i (f x):=by
 apply List.ext_getElem?;intro j;unfold gV;rw[jQ,List.getElem?_set];by_cases hij:i=j
 ·subst hij;obtain⟨hl,rfl⟩:=fu.1 hi;rw[aM rfl,aM hl,cK hl,Option.map_some,aM hd]
 ·simp only[hij,if_false];cases e:A[j]? with
  |none=>rfl
  |some y=>
   simp only[Option.map_some];rw[aH];intro kX;rcases Nat.lt_or_gt_of_ne hij with hlt|hlt
   ·have:=h.get hi e hlt;omega
   ·have:=h.get e hi hlt;omega
theorem A8{A:List Rt}(h:Asc A)(d:Int)(f:Rt->Rt)(hf:∀x,(f x).dest=x.dest):Asc (gV A d f):=by
 unfold Asc gV;rw[List.pairwise_map];have hd:∀x:Rt,(if x.dest=d then f x else x).dest=x.dest:=by
  intro x;split
  ·exact hf x
  ·rfl
 refine h.imp λ{x y} hxy=> ?_;rw[hd,hd];exact hxy
theorem vJ{A:List Rt}{f:Rt->Rt}{y:Rt}(hy:y∈gV A d f):(∃x∈A,x.dest=d∧y=f x)∨(y∈A∧y.dest≠d):=by
 unfold gV at hy;obtain⟨x,hx,rfl⟩:=dh.1 hy;by_cases e:x.dest=d
 ·exact .inl ⟨x,hx,e,by simp[e]⟩
 ·refine .inr ?_;simp only[e,if_false];exact⟨hx,e⟩
theorem yK(A:List Rt)(x:Rt):(uy A x).length=A.length+1:=by
 have:=aaF A x.dest;simp[uy];omega
theorem oI{A:List Rt}{x y:Rt}:y∈uy A x ↔ y=x∨y∈A:=by
 unfold uy;rw[dG,eD];constructor
 ·rintro(h|h|h)
  ·exact .inr (List.mem_of_mem_take h)
  ·exact .inl h
  ·exact .inr (List.mem_of_mem_drop h)
 ·rintro(h|h)
  ·exact .inr (.inl h)
  ·rw[<-List.take_append_drop (pos A x.dest) A]at h;rcases dG.1 h with h|h
   ·exact .inl h
   ·exact .inr (.inr h)
theorem IL{A:List Rt}(h:Asc A){x:Rt}(hx:aK A x.dest=none):Asc (uy A x):=by
 have hn:=jZ.1 hx;unfold Asc uy;rw[List.pairwise_append];refine⟨h.sublist (List.take_sublist _ _),?_,?_⟩
 ·rw[List.pairwise_cons];refine⟨λy hy=> ?_,h.sublist (List.drop_sublist _ _)⟩;obtain⟨j,hj⟩:=List.getElem?_of_mem hy;rw[List.getElem?_drop]at hj;have hne:=hn y (gI hj);rcases Nat.eq_zero_or_pos j with e|e
  ·subst e;have:=Sb hj;omega
  ·cases e0:A[pos A x.dest]? with
   |none=>
    have:=List.getElem?_eq_none_iff.1 e0;have:=(fu.1 hj).1;omega
   |some z=>
    have h1:=Sb e0;have h2:=h.get e0 hj (by omega);omega
 ·intro y hy z hz;obtain⟨j,hj⟩:=List.getElem?_of_mem hy;rw[List.getElem?_take]at hj;split at hj
  ·rename_i hjp;obtain⟨w,hw,hl⟩:=aaE A x.dest j hjp;rw[hj]at hw;cases hw;rcases eD.1 hz with rfl|hz
   ·exact hl
   ·obtain⟨i,hi⟩:=List.getElem?_of_mem hz;rw[List.getElem?_drop]at hi;exact h.get hj hi (by omega)
  ·cases hj
open Go.RowKit Go.Maps
variable{f:Int->Option Nat}{M s:Nat}{W:World}
def EG(v:Value):Option (DataW Unit×List MemPlace):=
 match v with
 | .pointer none=>some (.lit (.int .i64 (-1)),[])
 | .pointer (some ⟨b,0,none⟩)=>some (.lit (.int .i64 b),[])
 |_=>none
def gH:Option Nat->Value
 |none=> .pointer none
 |some b=> .pointer (some ⟨b,0,none⟩)
def lN:Option Nat->Int
 |none=>-1
 |some b=>b
theorem pF(o:Option Nat):EG (gH o)=some (.lit (.int .i64 (lN o)),[]):=by cases o<;>rfl
theorem vD{v:Value}{o:Option Nat}{ps:List MemPlace}(h:EG v=some (.lit (.int .i64 (lN o)),ps)):v=gH o:=by
 unfold EG at h;split at h
 ·simp only[Option.some.injEq,Prod.mk.injEq,DataW.lit.injEq,Lit.int.injEq,true_and]at h;cases o with
  |none=>rfl
  |some b=>
   have:=h.1;simp only[lN]at this;omega
 ·rename_i b;simp only[Option.some.injEq,Prod.mk.injEq,DataW.lit.injEq,Lit.int.injEq,true_and]at h;cases o with
  |none=>
   have:=h.1;simp only[lN]at this;omega
  |some c=>
   have:=h.1;simp only[lN]at this;obtain rfl:b=c:=by omega
   rfl
 ·cases h
theorem Mg(w:World):(zeroValue 161).run Tryz.prog w=.ok (.pointer none) w:=by kernel_rfl
def fA(f:Int->Option Nat)(k:Int)(v:Option Nat):Int->Option Nat:=λx=>if x=k then v else f x
def fH(W:World)(M:Nat)(f:Int->Option Nat)(s:Nat):Prop:=
 ∃D:DataW Unit,W.ownsMap Tryz.prog 34 EG M s D∧Maps.size D=s∧
  ∀k,a_ k->Maps.has D (.int .u32 k)=(f k).isSome∧D.atKey (.int .u32 k) (.lit (.int .i64 (-1)))=.lit (.int .i64 (lN (f k)))
theorem fH.block{W':World}(h:fH W M f s)(he:W'.heap[M]?=W.heap[M]?):fH W' M f s:=by
 obtain⟨D,⟨es,clock,hb,Ft,hs,hD⟩,h2,h3⟩:=h;exact⟨D,⟨es,clock,he.trans hb,Ft,hs,hD⟩,h2,h3⟩
theorem fH.lt(h:fH W M f s):M<W.heap.size:=by
 obtain⟨D,h1,_⟩:=h;exact h1.lt
theorem fH.made(w:World):fH (w.alloc (.map #[] 0)) w.heap.size (λ_=>none) 0:=
 ⟨.map [],World.ownsMap_made w _ _ _,rfl,λ_ _=>⟨rfl,rfl⟩⟩
theorem fH.put(h:fH W M f s)(hs:s<maxLen){k:Int}(hk:a_ k)(B:Nat):
  ∃W',(Instr.mapUpdate 156 (.map (some M)) (.int .u32 k) (.pointer (some ⟨B,0,none⟩))).run Tryz.prog W=.ok () W'∧fH W' M (fA f k (some B)) (if (f k).isSome then s else s+1)∧W.grownBy W' (some M):=by
 obtain⟨D,h1,h2,h3⟩:=h;obtain⟨W',hr,ho,ht⟩:=h1.store gy Tryz.underlying156 hs hk.key (pF (some B));have hm:=h1.isMap;have htd:=h1.tidy gy;have hkl:WideAt.IsKeyLit (.int .u32 k):=by trivial
 have hsz:Maps.size (D.put (.int .u32 k) (.lit (.int .i64 (lN (some B)))))=if (f k).isSome then s else s+1:=by
  rw[size_put htd,(h3 k hk).1,h2]
 refine⟨W',hr,⟨_,?_,hsz,λx hx=> ?_⟩,ht.grown⟩
 ·have:=fV ho;rw[hsz]at this;exact this
 ·by_cases e:x=k
  ·subst e;refine⟨by rw[has_put_same hm hkl];simp[fA],?_⟩;rw[atKey_put_same hm hkl];simp[fA]
  ·have hne:(Lit.int .u32 x)≠ .int .u32 k:=λh=>e (by cases h;rfl);refine⟨by rw[has_put_other hne];simp[fA,e,(h3 x hx).1],?_⟩;rw[atKey_put_other hne,(h3 x hx).2];simp[fA,e]
theorem fH.look(h:fH W M f s){k:Int}(hk:a_ k):
  (Instr.lookup 156 (.map (some M)) (.int .u32 k) false).run Tryz.prog W=.ok (gH (f k)) W:=by
 obtain⟨D,h1,h2,h3⟩:=h;obtain⟨v,ps,hr,hv⟩:=h1.lookup gy Tryz.underlying156 (Mg W) (pF none) hk.key;have h4:=(h3 k hk).2;simp only[lN]at hv h4;rw[h4]at hv;rw[hr,vD (o:=f k) hv]
theorem fH.look_ok(h:fH W M f s){k:Int}(hk:a_ k):
  (Instr.lookup 156 (.map (some M)) (.int .u32 k) true).run Tryz.prog W=.ok (.tuple #[gH (f k),.bool (f k).isSome]) W:=by
 obtain⟨D,h1,h2,h3⟩:=h;obtain⟨v,ps,hr,hv⟩:=h1.look_ok gy Tryz.underlying156 (Mg W) (pF none) hk.key;have h4:=(h3 k hk).2;simp only[lN]at hv h4;rw[h4]at hv;rw[hr,vD (o:=f k) hv,(h3 k hk).1]
theorem fH.len(h:fH W M f s)(ty:TypeId):
  (Builtin.len_ #[156] ty #[.map (some M)]).run Tryz.prog W=.ok (.int .i64 s) W:=by
 obtain⟨D,h1,h2,h3⟩:=h;rw[h1.len Tryz.underlying156 ty,h2]
theorem LH(L:List (Bool×Int×Int)):∀u∈RC L,u.oneCell'=true:=by
 intro u hu;simp only[RC,List.mem_flatMap,eD,List.not_mem_nil,or_false]at hu;obtain⟨x,_,rfl|rfl|rfl⟩:=hu<;>rfl
theorem qJ.kept{B:Nat}{o:Bool}{a s:Int}{W W':World}{r:Option Nat}(h:qJ B o a s W)(hg:W.grownBy W' r)(hr:some B≠r):qJ B o a s W':=(hg.block B h.lt hr).trans h
theorem below_grown{A B:World}(h:Below A.heap.size A B)(r:Option Nat):A.grownBy B r:=⟨h.os,h.tape,h.output,h.size,λk hk _=>h.block k hk⟩
variable{self:Int}{B M T:Nat}{x:Rt}{v:Value}{W W':World}
@[reducible] def JU(x : Rt)(v : Value): Value := .agg #[.int .u32 x.dest, .int .u32 x.seq, .int .i64 x.hops, .int .u32 x.next, .bool x.valid, .int .u64 x.exp, v]
@[reducible] def bZ(x : Rt)(v : Value): Obj := .cells #[.int .u32 x.dest, .int .u32 x.seq, .int .i64 x.hops, .int .u32 x.next, .bool x.valid, .int .u64 x.exp, v] 38
def eu(B:Nat)(x:Rt)(v:Value)(W:World):Prop:=W.heap[B]?=some (bZ x v)
theorem eu.cell(h:eu B x v W):
  W.cell? ⟨B,0,none⟩=some (.int .u32 x.dest)∧W.cell? ⟨B,1,none⟩=some (.int .u32 x.seq)∧W.cell? ⟨B,2,none⟩=some (.int .i64 x.hops)∧W.cell? ⟨B,3,none⟩=some (.int .u32 x.next)∧W.cell? ⟨B,4,none⟩=some (.bool x.valid)∧W.cell? ⟨B,5,none⟩=some (.int .u64 x.exp)∧W.cell? ⟨B,6,none⟩=some v:=
 ⟨aG W B 0 _ _ _ h,aG W B 1 _ _ _ h,aG W B 2 _ _ _ h,aG W B 3 _ _ _ h,aG W B 4 _ _ _ h,aG W B 5 _ _ _ h,aG W B 6 _ _ _ h⟩
theorem eu.free(h:eu B x v W)(i:Nat):W.frozen? ⟨B,i,none⟩=false:=by
 unfold eu at h;simp[World.frozen?,h]
theorem eu.lt(h:eu B x v W):B<W.heap.size:=(iC.1 h).1
theorem eu.block(h:eu B x v W)(he:W'.heap[B]?=W.heap[B]?):eu B x v W':=he.trans h
theorem eu.later(h:eu B x v W)(hb:Below W.heap.size W W'):eu B x v W':=h.block (hb.block B h.lt)
theorem eu.new(x:Rt)(v:Value)(W:World):eu W.heap.size x v (W.alloc (bZ x v)):=bS W _
theorem eu.set1(h:eu B x v W)(s:Int):eu B {x with seq:=s} v (W.setCell ⟨B,1,none⟩ (.int .u32 s)):=by
 unfold eu at h ⊢;simp[World.setCell,Array.getElem?_modify,h]
theorem eu.aeC(h:eu B x v W)(s:Bool):eu B {x with valid:=s} v (W.setCell ⟨B,4,none⟩ (.bool s)):=by
 unfold eu at h ⊢;simp[World.setCell,Array.getElem?_modify,h]
theorem eu.OL(h:eu B x v W)(s:Int):eu B {x with exp:=s} v (W.setCell ⟨B,5,none⟩ (.int .u64 s)):=by
 unfold eu at h ⊢;simp[World.setCell,Array.getElem?_modify,h]
theorem eu.aaz(h:eu B x v W)(u:Value)(l:List Int):eu B {x with bN:=l} u (W.setCell ⟨B,6,none⟩ u):=by
 unfold eu at h ⊢;simp[World.setCell,Array.getElem?_modify,h]
def Gu(T:Nat)(self:Int)(M:Nat)(W:World):Prop:=W.heap[T]?=some (.cells #[.int .u32 self,.map (some M)] 158)
theorem Gu.cell(h:Gu T self M W):W.cell? ⟨T,0,none⟩=some (.int .u32 self)∧W.cell? ⟨T,1,none⟩=some (.map (some M)):=
 ⟨aG W T 0 _ _ _ h,aG W T 1 _ _ _ h⟩
theorem Gu.lt(h:Gu T self M W):T<W.heap.size:=(iC.1 h).1
theorem Gu.block(h:Gu T self M W)(he:W'.heap[T]?=W.heap[T]?):Gu T self M W':=he.trans h
theorem oL(x:Int)(w:World):Calls Tryz.prog 42 #[.int .u32 x] w λe w'=>e=.returned (.int .u32 (gr x))∧w'=w:=by
 have hm:Hid (∀y:Int,y=gr x->Ending.returned (.int .u32 y)=.returned (.int .u32 (gr x))):=λy h=>by rw[h]
 go_enter Tryz.func42,Tryz.ntmps42;go_wp2;all_goals
  go_ret;refine⟨hm.out _ ?_,rfl⟩;unfold gr;omega
theorem yR(a b c d:Int)(w:World):Calls Tryz.prog 180 #[.agg #[.int .i64 a,.int .i64 b],.agg #[.int .i64 c,.int .i64 d]] w λe w'=>e=.returned (.bool (if a=c then decide (b<d)else decide (a>c)))∧Below w.heap.size w w':=by
 have hb:Below w.heap.size w ((w.alloc (.cells #[.int .i64 a,.int .i64 b] 283)).alloc (.cells #[.int .i64 c,.int .i64 d] 283)):=(bC).alloc (by simp) _;by_cases h:a=c
 ·subst h;rw[aM rfl];go_enter Tryz.func180,Tryz.ntmps180;go_wp2;go_ret;exact⟨rfl,hb⟩
 ·have hd:(a==c)=false:=by simpa using h
  rw[aH h];go_enter Tryz.func180,Tryz.ntmps180;go_wp2;go_ret;exact⟨rfl,hb⟩
theorem pz(x:Rt)(hx:a_ x.seq)(v:Value)(w:World):Calls Tryz.prog 179 #[JU x v] w λe w'=>e=.returned (.agg #[.int .i64 (rk x),.int .i64 x.hops])∧Below w.heap.size w w':=by
 unfold a_ at hx;have hs:IntKind.i64.wrap x.seq=x.seq:=by rw[IntKind.wrap_i64];omega
 have hs1:IntKind.i64.wrap (x.seq - 1)=x.seq - 1:=by rw[IntKind.wrap_i64];omega
 have hb:∀u,Below w.heap.size w ((w.alloc (bZ x v)).alloc (.cells u 283)):=λu=>(bC).alloc (by simp) _;obtain⟨xd,xq,xh,xn,xv,xe,xb⟩:=x;dsimp only[bZ]at hs hs1 hb;cases xv
 ·go_enter Tryz.func179,Tryz.ntmps179;go_wp2;exact bodyPost_ret (v:=.agg #[.int .i64 (xq - 1),.int .i64 xh]) (by simp[results,Tryz.results179,go_sem]) rfl ⟨rfl,hb _⟩
 ·go_enter Tryz.func179,Tryz.ntmps179;go_wp2;exact bodyPost_ret (v:=.agg #[.int .i64 xq,.int .i64 xh]) (by simp[results,Tryz.results179,go_sem]) rfl ⟨rfl,hb _⟩
theorem Jc(T M s:Nat)(self:Int)(f:Int->Option Nat)(w:World)(hT:Gu T self M w)(hm:fH w M f s):Calls Tryz.prog 70 #[.pointer (some ⟨T,0,none⟩)] w λe w'=>e=.returned (.bool (decide (8<=s)))∧w'=w:=by
 obtain⟨c0,c1⟩:=hT.cell;have hl:=hm.len;go_enter Tryz.func70,Tryz.ntmps70;go_wp2;go_ret;refine⟨?_,rfl⟩;have:decide (8<=(s:Int))=decide (8<=s):=decide_eq_decide.2 (by omega);simp[this]
theorem J9(T M s:Nat)(self:Int)(f:Int->Option Nat)(d:Int)(hd:a_ d)(hf:f d=none)(w:World)(hT:Gu T self M w)(hm:fH w M f s):Calls Tryz.prog 116 #[.pointer (some ⟨T,0,none⟩),.int .u32 d] w λe w'=>e=.returned (.pointer none)∧w'=w:=by
 obtain⟨c0,c1⟩:=hT.cell;have hl:=hm.look hd;rw[hf]at hl;simp only[gH]at hl;go_enter Tryz.func116,Tryz.ntmps116;go_wp2;go_ret;exact⟨rfl,rfl⟩
theorem J8(T M s B:Nat)(self:Int)(f:Int->Option Nat)(d:Int)(hd:a_ d)(hf:f d=some B)(x:Rt)(v:Value)(w:World)(hT:Gu T self M w)(hm:fH w M f s)(hx:eu B x v w):Calls Tryz.prog 116 #[.pointer (some ⟨T,0,none⟩),.int .u32 d] w λe w'=>e=.returned (.pointer (if x.valid then some ⟨B,0,none⟩else none))∧w'=w:=by
 obtain⟨c0,c1⟩:=hT.cell;obtain⟨_,_,_,_,c4,_,_⟩:=hx.cell;have hl:=hm.look hd;rw[hf]at hl;simp only[gH]at hl;obtain⟨xd,xq,xh,xn,xv,xe,xb⟩:=x;dsimp only at c4;cases xv
 ·go_enter Tryz.func116,Tryz.ntmps116;go_wp2;go_ret;exact⟨rfl,rfl⟩
 ·go_enter Tryz.func116,Tryz.ntmps116;go_wp2;go_ret;exact⟨rfl,rfl⟩
theorem IB(M:Nat)(w:World):
  Calls Tryz.prog 103 #[.map (some M)] w λe w'=>e=.returned (.func (.func 141) #[] #[.pointer (some ⟨w.heap.size,0,none⟩)])∧w'=w.alloc (.cells #[.map (some M)] 115):=by
 go_enter Tryz.func103,Tryz.ntmps103;go_wp2;go_ret;exact⟨rfl,rfl⟩
open Go.Sort
abbrev aW:Int->Value:=Value.int .u32
theorem BH{x y:Int}(h:aW x=aW y):x=y:=by simpa[aW]using h
theorem kW{P:Program}{k:TypeId}(hk:P.underlying k=some (.int .u32)){key:Value}{kl:Lit}(h:keyOf P k key=some kl):∃x:Int,key=aW x∧kl=.int .u32 x∧(Lit.int .u32 x).wf=true:=by
 cases key<;>simp[keyOf,hk,mapKey]at h
 rename_i q a;obtain⟨⟨rfl,hw⟩,rfl⟩:=h;exact⟨a,rfl,rfl,hw⟩
def gD{H:Type}(D0:DataW H)(left:Lit->Bool)(ss:List Int):Prop:=
 ss.Nodup∧(∀x∈ss,(Lit.int .u32 x).wf=true)∧∀x,x∈ss ↔ (has D0 (.int .u32 x)=true∧left (.int .u32 x)=false)
def wI{H:Type}(D0:DataW H)(ss:List Int):Prop:=
 ss.Nodup∧(∀x∈ss,(Lit.int .u32 x).wf=true)∧∀x,x∈ss ↔ has D0 (.int .u32 x)=true
section
variable {H:Type} {D0:DataW H} {left:Lit->Bool} {ss:List Int}
theorem gD.start(D0:DataW H):gD D0 (has D0) []:=⟨List.nodup_nil,by simp,λx=>by cases has D0 (.int .u32 x)<;>simp⟩
theorem gD.step(h:gD D0 left ss){x:Int}{y:DataW H}(hlk:left (.int .u32 x)=true)(hat:∀zd,D0.atKey (.int .u32 x) zd=y)(hw:(Lit.int .u32 x).wf=true):gD D0 (λz=>left z&&!z.sameKey (.int .u32 x)) (ss++ [x]):=by
 have hhas:has D0 (.int .u32 x)=true:=has_true_of_atKey hat;have hnew:x ∉ ss:=λhx=>by have:=((h.2.2 x).1 hx).2;rw[hlk]at this;cases this
 refine⟨List.nodup_append.2 ⟨h.1,by simp,λa ha b hb=>by simp at hb;subst hb;exact λe=>hnew (e▸ha)⟩,?_,λy=> ?_⟩
 ·intro a ha;rcases dG.1 ha with ha|ha
  ·exact h.2.1 a ha
  ·simp at ha;subst ha;exact hw
 ·by_cases hy:y=x
  ·subst hy;simp[hhas,Lit.sameKey]
  ·simp[h.2.2 y,hy,Lit.sameKey]
theorem gD.keys(h:gD D0 left ss)(hl:∀kl,left kl=false):wI D0 ss:=⟨h.1,h.2.1,λx=>by rw[h.2.2 x,hl];simp⟩
end
theorem Oo{H:Type}(F:Fence)(n:Nat)(h10:F.fn 141)(hro:F.round=none)(hn:1<=n)(l Bm b nn:Nat)(D0:DataW H){R:Value->Option (DataW H×List MemPlace)}(J:List Int->World->Prop)
  (hY:∀pre x W,J pre W->pre.length<Maps.size D0->YieldAt F (n - 1) Tryz.prog l #[aW x] W λe W'=>e=.returned (.bool true)∧J (pre++ [x]) W'∧KeepsWalks W W')
  (W:World) (hJ:AbidesFrom W.heap.size J) (hm:W.cell? ⟨Bm,0,none⟩=some (.map (some b))) (hown:W.ownsMap Tryz.prog 34 R b nn D0) (h0:J [] W):
  CallsIn F n Tryz.prog 141 #[.func (.yield l) #[] #[],.pointer (some ⟨Bm,0,none⟩)] W λe W'=>(∃v,e=.returned v)∧∃ss:List Int,wI D0 ss∧J ss W':=by
 refine callsIn_of_wp Tryz.func141 rfl h10 ?_ hro;simp only[Tryz.ntmps141,List.size_toArray,dY,List.length_nil,Nat.reduceAdd,Nat.reduceSub,Array.replicate_succ,Array.replicate_zero,List.push_toArray,List.append_toArray,List.nil_append,List.cons_append]
 gi_wp2_with (first
  |(gi_at_range;refine wpListIn_range_own _ rfl _ 115 rfl 34 34 gy Tryz.underlying115 _ b nn _ rfl hown ?_;intro w0 hrg0 hg0 hs0)
  |gi_in)
 go_frame
 gi_loopw [3] (λ_ wr=>∃(left:Lit->Bool) (cnt:Nat) (ss:List Int),wr.ranges Tryz.prog 34 R b W.heap.size nn D0 left cnt∧ss.length+cnt<=Maps.size D0∧gD D0 left ss∧J ss wr)
  (λ_ wr=>wr.rangeLeft b W.heap.size)
 case atStart=>
  exact⟨_,_,[],hrg0,by simp,gD.start D0,hJ [] W w0 none h0 hg0 (λr e=>by cases e)⟩
 case round=>
  obtain⟨left,cnt,ss,hrg,hcs,hC,hJs⟩:=hrel
  gi_wp2_with (first
   |(gi_at_next;refine wpListIn_next_ranges _ rfl _ rfl 34 gy R aW id (λkey kl hk=>by obtain⟨x,hx,_⟩:=kW Tryz.underlying34 hk;exact⟨x,hx⟩) (λv _ _=>⟨v,rfl⟩) b W.heap.size nn _ _ _ rfl hrg ?_ ?_)
   |gi_in)
  ·intro hc0 hl0
   gi_wp2
   go_end0
   exact⟨⟨_,rfl⟩,ss,hC.keys hl0,hJs⟩
  ·intro x c kl yd yp w2 cnt2 hkey hlk hv hat hrg2 hlt hg2 hs2 hen;obtain⟨x',ex,rfl,hwf⟩:=kW Tryz.underlying34 hkey;obtain rfl:x=x':=BH ex;have hJ2:J ss w2:=hJ ss wr w2 (some W.heap.size) hJs hg2 (λr e=>by cases e;exact⟨aB _,hrg.iter_walk⟩);obtain⟨fn,tmps,assign,body,hy,hR⟩:=hY ss x w2 hJ2 (by omega);clear hs2
   gi_wp2
   refine hR.mono ?_;rintro e W3 ⟨rfl,hJ3,hk3⟩
   gi_wp2
   have hrg3:=hrg2.of_walks hk3;go_roundw
   case rel=>exact⟨_,cnt2,ss++ [x],hrg3,by simp;omega,hC.step hlk hat hwf,hJ3⟩
   case measure=>rw[hrg3.left_eq,hrg.left_eq];exact hlt
theorem Gy{H:Type}(F:Fence)(n:Nat)(h10:F.fn 141)(hro:F.round=none)(hn:1<=n)(Bm b nn:Nat)(D0:DataW H){R:Value->Option (DataW H×List MemPlace)}(w:World)(hBm:Bm<w.heap.size)
  (hm:w.cell? ⟨Bm,0,none⟩=some (.map (some b))) (hown:w.ownsMap Tryz.prog 34 R b nn D0):
  SeqGives F n Tryz.prog 141 #[.pointer (some ⟨Bm,0,none⟩)] aW (wI D0) (Maps.size D0) w:=λl J W hW hJ hY h0=>by
 have hown':W.ownsMap Tryz.prog 34 R b nn D0:=by
  have hbl:=hown.lt;obtain⟨es,clock,hb,Ft,hs,hD⟩:=hown;exact⟨es,clock,(hW.block b hbl).trans hb,Ft,hs,hD⟩
 exact Oo F n h10 hro hn l Bm b nn D0 J hY W hJ ((hW.cell (p:=⟨Bm,0,none⟩) hBm).trans hm) hown' h0
theorem MapU.zQ{W:World}{M:Nat}{f:Int->Option Int}{s:Nat}(h:MapU W M f s)(w:World)(Bm:Nat)(hBm:Bm<w.heap.size)(hm:w.cell? ⟨Bm,0,none⟩=some (.map (some M)))(hW:Below W.heap.size W w):
  SeqGives Fence.wide 1 Tryz.prog 141 #[.pointer (some ⟨Bm,0,none⟩)] aW (λss=>ss.Nodup∧∀x,x∈ss ↔ (a_ x∧(f x).isSome=true)) s w:=by
 obtain⟨D,h1,h2,h3⟩:=h;have hl:=h1.lt;have h1':w.ownsMap Tryz.prog 34 (plainElem Tryz.prog 34) M s D:=by
  obtain⟨es,clock,hb,Ft,hs,hD⟩:=h1;exact⟨es,clock,(hW.block M hl).trans hb,Ft,hs,hD⟩
 have hg:=Gy Fence.wide 1 trivial rfl (aB _) Bm M s D w hBm hm h1';rw[h2]at hg;intro l J W' hW' hJ hY h0;refine(hg l J W' hW' hJ hY h0).mono ?_;rintro e W2 ⟨hv,ss,hk,hj⟩;refine⟨hv,ss,⟨hk.1,λx=> ?_⟩,hj⟩;constructor
 ·intro hx;have hw:=bounds_u32 (hk.2.1 x hx);have hU:a_ x:=⟨hw.1,by have:=hw.2;omega⟩;exact⟨hU,by rw[<-(h3 x hU).1];exact(hk.2.2 x).1 hx⟩
 ·rintro⟨hU,hs⟩;exact(hk.2.2 x).2 (by rw[(h3 x hU).1];exact hs)
open Go.RowKit Go.Maps Go.Sort
theorem rf:(Tryz.prog.info? 34).map (λi=>(i.zero,i.size,i.bytes))=some (some (.int .u32 0),1,4):=by kernel_rfl
def apA:Code:=.region 2 #[{dst:=some 5,op:=.assign (.tmp 7),type:=34,pos:="iter.go:51",after:=#[],guard:=none}] false
def apB:Code:=.block 1 (.region 3 #[{dst:=some 8,op:=.load 36 (.tmp 2),type:=36,pos:="iter.go:52",after:=#[],guard:=none},{dst:=some 9,op:=.move (.tmp 5),type:=34,pos:="iter.go:52",after:=#[],guard:=none},{dst:=some 10,op:=.buildSlice 36 1 #[(0,.tmp 9)],type:=36,pos:="iter.go:52",after:=#[{on:=1,ground:=.data}],guard:=none},{dst:=some 11,op:=.call {callee:=.builtin .append,args:=#[.tmp 8,.tmp 10],argTypes:=#[36,36]},type:=36,pos:="iter.go:52",after:=#[{on:=0,ground:=.data},{on:=2,ground:=.data}],guard:=none},{dst:=none,op:=.store 36 (.tmp 2) (.tmp 11),type:=0,pos:="iter.go:52",after:=#[{on:=3,ground:=.data},{on:=3,ground:=.chain},{on:=0,ground:=.phase},{on:=1,ground:=.phase},{on:=2,ground:=.phase},{on:=3,ground:=.phase}],guard:=none}] false)
def apRec(fn:FuncId)(sv:Value)(Bs D:Nat)(st:LoopState)(pend:Option Code):Loop:=
 {state:=st,pending:=pend,fn,tmps:=#[.slice none 0 0,sv,.pointer (some ⟨Bs,0,none⟩),undef,.slice none 0 0,undef,sv,undef,undef,undef,undef,undef,undef],params:=#[7],assign:=apA,body:=apB,defers:=D}
structure ApAt(w0:World)(fn:FuncId)(sv:Value)(Bs l D:Nat)(ss:List Int)(W:World):Prop where
 box:∃v,W.heap[Bs]?=some (.cells #[v] 36 (0,0))∧W.ownsRow w0.heap.size 34 1 v ss.length (ss.map aW)∧(v=.slice none 0 0 ↔ ss=[])
 L:W.heap[l]?=some (.loop (apRec fn sv Bs D .ready none))
 K:W.heap[D]?=some (.deferred (some []))
 below:Below w0.heap.size w0 W
theorem ap_abides(w0:World)(fn:FuncId)(sv:Value)(Bs l D B:Nat)(hB:w0.heap.size<=B):AbidesFrom B (ApAt w0 fn sv Bs l D):=λs W W' row h hg hrow=>by
 have hrow':∀r,row=some r->∃o:Obj,W.heap[r]?=some o∧o.isWalk=true:=λr e=>(hrow r e).2;obtain⟨v,hv,hr,hn⟩:=h.box;exact⟨⟨v,(grownBy_keeps hg hrow' hv rfl).trans hv,ownsRow_abides_a hr hg hrow',hn⟩,(grownBy_keeps hg hrow' h.L rfl).trans h.L,(grownBy_keeps hg hrow' h.K rfl).trans h.K,
  h.below.grown hg h.below.size (λk e=>dH hB (hrow k e).1)⟩
theorem Vj(F:Fence)(m:Nat)(w0:World)(fn:FuncId)(hfn:F.fn fn)(sv:Value)(Bs l D:Nat)(hBl:Bs≠l)(hDl:D≠l)(hDB:D≠Bs)(h0B:w0.heap.size<=Bs)(h0l:w0.heap.size<=l)
  (N:Nat) (hN:N<=maxLen) (hNb:N * 4<=140737488355328) (ss:List Int) (x:Int) (W:World) (h:ApAt w0 fn sv Bs l D ss W) (hlen:ss.length<N):
  YieldAt F m Tryz.prog l #[aW x] W λe W'=>e=.returned (.bool true)∧ApAt w0 fn sv Bs l D (ss++ [x]) W'∧KeepsWalks W W':=by
 obtain⟨i0,hi,hz0,hz1,hz2⟩:=info_parts rf;obtain⟨v,hv,hrow,_⟩:=h.box;refine⟨fn,#[.slice none 0 0,sv,.pointer (some ⟨Bs,0,none⟩),undef,.slice none 0 0,undef,sv,aW x,undef,undef,undef,undef,undef],apA,apB,by simpa[apRec]using run_yield (P:=Tryz.prog) (args:=#[aW x]) h.L rfl,roundIn_of_wpIn hfn ?_⟩;have hl:l<W.heap.size:=(iC.1 h.L).1;have hbr:=run_beginRound (P:=Tryz.prog) h.L rfl;obtain⟨W2,hW2⟩:∃W2,W.putObj l (.loop {apRec fn sv Bs D .ready none with state:=.busy})=W2:=⟨_,rfl⟩;rw[hW2]at hbr;have hg2:W.grownBy W2 (some l):=by rw[<-hW2];exact grownBy_putObj_a _ _ _
 have hk2:KeepsWalks W W2:=by rw[<-hW2];exact KeepsWalks.putObj _ h.L rfl
 have hv2:W2.heap[Bs]?=some (.cells #[v] 36 (0,0)):=by rw[<-hW2];exact(World.putObj_heap_other hBl).trans hv
 have hK2:W2.heap[D]?=some (.deferred (some [])):=by rw[<-hW2];exact(World.putObj_heap_other hDl).trans h.K
 have hL2:W2.heap[l]?=some (.loop {apRec fn sv Bs D .ready none with state:=.busy}):=by rw[<-hW2];exact World.putObj_heap_same hl
 have hrow2:W2.ownsRow w0.heap.size 34 1 v ss.length (ss.map aW):=hrow.kept hg2 (ownsRow_ne_a hrow h.L (λcur e=>by cases e));have hb2:Below w0.heap.size w0 W2:=h.below.grown hg2 h.below.size (λk e=>by cases e;exact h0l);obtain⟨hc2,hf2⟩:=cell_of_box_a hv2;have hBlt:Bs<W2.heap.size:=(iC.1 hv2).1;have hl2:l<W2.heap.size:=(iC.1 hL2).1;have hDlt:D<W2.heap.size:=(iC.1 hK2).1;have ne_of:∀ {j:Nat} {o:Obj},W2.heap[j]?=some o->(∀cur,o≠ .cells cur 34 (0,0))->some j≠v.ownBlock:=λhj hno=>by
  rcases ownsRow_ne_a hrow2 hj hno with e|e
  ·rw[e];simp
  ·exact λe'=>e e'.symm
 clear hW2;unfold apA
 gi_wp2_with (rw[Oper.semAt_eq _ _ _ (λc h=>by cases h)];go_simp;try go_bits)
 unfold apB
 gi_wp2_with (first
  |(gi_at_builtin;refine wpListIn_append_own _ rfl _ _ 36 rfl w0.heap.size 34 i0 (.int .u32 0) 1 4 Tryz.underlying36 hi hz0 hz1 hz2 rfl (by decide) _ _ _ rfl (hrow2.alloc _) ⟨W2.heap.size,0,none⟩ 1 1 [aW x] rfl rfl (cell_one_new _ _ _) (by simp[Value.oneCell',aW]) (by omega) (by omega) (by have:=hb2.size;simp;omega) ?_;intro v' w3 hown' hg3 hnil3;have hv3:w3.heap[Bs]?=some (.cells #[v] 36 (0,0)):=(hg3.block Bs (by simp;omega) (ne_of hv2 (λcur e=>by cases e))).trans ((Below.heap_alloc _ _ Bs hBlt).trans hv2);obtain⟨hc3,hf3⟩:=cell_of_box_a hv3;obtain⟨g',cap',cur',rfl,hbase',hgb',hr1,hr2,hr3,hr4⟩:∃g' cap' cur',v'=.slice (some ⟨g',0,none⟩) (ss.length+1) cap'∧w0.heap.size<=g'∧w3.heap[g']?=some (.cells cur' 34 (0,0))∧ss.length+1<=cap'∧cap'<=maxLen∧cur'.size=cap' * 1∧cur'.toList.take ((ss.length+1)* 1)=ss.map aW++ [aW x]:=(by rcases hown'.2 with⟨_,h0⟩|h'<;>first|exact absurd h0 (by omega)|exact h');go_frame)
  |(rw[Oper.semAt_eq _ _ _ (λc h=>by cases h)];go_simp;try go_bits))
 have hg3':(W2.alloc (.cells #[aW x] 34)).grownBy w3 v.ownBlock:=hg3;have hL3:w3.heap[l]?=some (.loop {apRec fn sv Bs D .ready none with state:=.busy}):=(hg3'.block l (by simp;omega) (ne_of hL2 (λcur e=>by cases e))).trans ((Below.heap_alloc _ _ l hl2).trans hL2);have hK3:w3.heap[D]?=some (.deferred (some [])):=(hg3'.block D (by simp;omega) (ne_of hK2 (λcur e=>by cases e))).trans ((Below.heap_alloc _ _ D hDlt).trans hK2);obtain⟨w4,hw4⟩:∃w4,w3.setCell ⟨Bs,0,none⟩ (.slice (some ⟨g',0,none⟩) (ss.length+1) cap')=w4:=⟨_,rfl⟩;rw[hw4];have hg4:w3.grownBy w4 (some Bs):=by rw[<-hw4];exact grownBy_setCell0_a _ _ _
 have hv4:w4.heap[Bs]?=some (.cells #[.slice (some ⟨g',0,none⟩) (ss.length+1) cap'] 36 (0,0)):=by rw[<-hw4];exact heap_setCell_box_a _ hv3
 have hL4:w4.heap[l]?=some (.loop {apRec fn sv Bs D .ready none with state:=.busy}):=(hg4.block l (iC.1 hL3).1 (λe=>hBl (by cases e;rfl))).trans hL3;have hK4:w4.heap[D]?=some (.deferred (some [])):=(hg4.block D (iC.1 hK3).1 (λe=>hDB (by cases e;rfl))).trans hK3;have hrow4:=hown'.kept hg4 (ownsRow_ne_a hown' hv3 (λcur e=>by cases e));have hl4:l<w4.heap.size:=(iC.1 hL4).1;have hb3:Below w0.heap.size w0 w3:=(hb2.alloc hb2.size _).grown hg3' (by have:=hb2.size;simp;omega) (λk e=>(hrow2.lt k e).1);have hb4:Below w0.heap.size w0 w4:=hb3.grown hg4 hb3.size (λk e=>by cases e;exact h0B);have hk4:KeepsWalks W w4:=((hk2.trans (KeepsWalks.alloc _ _)).trans (KeepsWalks.of_grownBy hg3' (ownsRow_not_walk_a (hrow2.alloc _)))).trans (by rw[<-hw4];exact KeepsWalks.setCell _ _ _);clear hw4;refine⟨_,_,run_endRound none hL4,rfl,⟨⟨_,(World.putObj_heap_other hBl).trans hv4,?_,by simp⟩,World.putObj_heap_same hl4,(World.putObj_heap_other hDl).trans hK4,hb4.grown (grownBy_putObj_a _ _ _) hb4.size (λk e=>by cases e;exact h0l)⟩,hk4.trans (KeepsWalks.putObj _ hL4 rfl)⟩;have:=hrow4.kept (grownBy_putObj_a w4 l (.loop { {apRec fn sv Bs D .ready none with state:=.busy}with state:=if (none:Option Code).isNone then .ready else .done,pending:=none})) (ownsRow_ne_a hrow4 hL4 (λcur e=>by cases e));simpa using this
theorem appendSeq_in(F:Fence)(n:Nat)(h11:F.fn 171)(hro:F.round=none)(hn:2<=n)(g:Nat)(lb:Array Value)(hFg:F.fn g)(eg:∀args w,(callFunc g args).run Tryz.prog w=.ok (.enter g args) w)
  (S:List Int->Prop) (N:Nat) (hN:N<=maxLen) (hNb:N * 4<=140737488355328) (w:World) (hseq:SeqGives F (n - 1) Tryz.prog g lb aW S N w):
  CallsIn F n Tryz.prog 171 #[.slice none 0 0,.func (.func g) #[] lb] w λe w'=>∃(v:Value) (ss:List Int),e=.returned v∧S ss∧w'.ownsRow w.heap.size 34 1 v ss.length (ss.map aW)∧(v=.slice none 0 0 ↔ ss=[])∧Below w.heap.size w w':=by
 have h1:1<=n:=by omega
 refine callsIn_of_wp_marks Tryz.func171 rfl h11 ?_ hro;simp only[Tryz.ntmps171,List.size_toArray,dY,List.length_nil,Nat.reduceAdd,Nat.reduceSub,Array.replicate_succ,Array.replicate_zero,List.push_toArray,List.append_toArray,List.nil_append,List.cons_append]
 gi_wp2
 refine wpIn_rangeFunc ?_;intro fn hfn;rw[hro];obtain⟨W0,hW0⟩:∃W0,w.alloc (.cells #[.slice none 0 0] 36)=W0:=⟨_,rfl⟩;have hs0:W0.heap.size=w.heap.size+1:=by rw[<-hW0];simp
 have hv0:W0.heap[w.heap.size]?=some (.cells #[.slice none 0 0] 36 (0,0)):=by rw[<-hW0];exact World.alloc_heap_new w _
 have hb0:Below w.heap.size w W0:=by rw[<-hW0];exact(aU _ w).alloc (aB _) _
 rw[hW0];obtain⟨W1,hW1⟩:∃W1,(W0.alloc (.deferred (some []))).alloc (.loop (apRec fn (.func (.func g) #[] lb) w.heap.size W0.heap.size .ready none))=W1:=⟨_,rfl⟩;have hold:∀k,k<W0.heap.size->W1.heap[k]?=W0.heap[k]?:=λk hk=>by
  rw[<-hW1];exact(Below.heap_alloc _ _ k (by simp;omega)).trans (Below.heap_alloc _ _ k hk)
 have hb1:Below w.heap.size w W1:=by rw[<-hW1];exact(hb0.alloc hb0.size _).alloc (by have:=hb0.size;simp;omega) _
 have hs1:W1.heap.size=W0.heap.size+2:=by rw[<-hW1];simp
 have hM:ApAt w fn (.func (.func g) #[] lb) w.heap.size (W0.heap.size+1) W0.heap.size [] W1:=
  ⟨⟨_,(hold w.heap.size (by omega)).trans hv0,⟨rfl,.inl ⟨rfl,rfl⟩⟩,by simp⟩,
  by rw[<-hW1];have:=World.alloc_heap_new (W0.alloc (.deferred (some []))) (.loop (apRec fn (.func (.func g) #[] lb) w.heap.size W0.heap.size .ready none));rwa [World.size_alloc]at this,
  by rw[<-hW1];exact(Below.heap_alloc _ _ _ (by simp)).trans (World.alloc_heap_new W0 _),hb1⟩
 refine⟨W0.heap.size+1,[{target:=.collected W0.heap.size,args:=#[]}],W1,{target:=.fn (.func g) lb,args:=#[.func (.yield (W0.heap.size+1)) #[] #[]]},W1,g,
  #[.func (.yield (W0.heap.size+1)) #[] #[]]++lb,W1,?_,?_,?_,?_,λ_=>h1,?_⟩
 ·rw[<-hW1];exact run_enterLoop_outer _ _ _ _ _
 ·simp[resolve,go_sem]
 ·intro f' hf';simp[Target.leads]at hf';subst hf';exact hFg
 ·simp[invoke,go_sem,eg]
 ·refine(hseq (W0.heap.size+1) (ApAt w fn (.func (.func g) #[] lb) w.heap.size (W0.heap.size+1) W0.heap.size) W1 hb1 (ap_abides _ _ _ _ _ _ _ hb1.size)
   (λpre x W hJ hl=>Vj F (n - 1 - 1) w fn hfn _ w.heap.size (W0.heap.size+1) W0.heap.size (by omega) (by omega) (by omega) (aB _) (by omega) N hN hNb pre x W hJ hl) hM).mono ?_
  rintro e W2 ⟨⟨v0,rfl⟩,ss,hS,h2⟩;obtain⟨v,hv,hrow,hnil⟩:=h2.box;have hend:=run_endLoop (P:=Tryz.prog) h2.L (by simp[apRec]);obtain⟨W3,hW3⟩:∃W3,W2.putObj (W0.heap.size+1) (.loop {apRec fn (.func (.func g) #[] lb) w.heap.size W0.heap.size .ready none with state:=.exhausted})=W3:=⟨_,rfl⟩;rw[hW3]at hend;have hg3:W2.grownBy W3 (some (W0.heap.size+1)):=by rw[<-hW3];exact grownBy_putObj_a _ _ _
  have hv3:W3.heap[w.heap.size]?=some (.cells #[v] 36 (0,0)):=by rw[<-hW3];exact(World.putObj_heap_other (by omega)).trans hv
  have hK3:W3.heap[W0.heap.size]?=some (.deferred (some [])):=by rw[<-hW3];exact(World.putObj_heap_other (by omega)).trans h2.K
  have hrow3:=hrow.kept hg3 (ownsRow_ne_a hrow h2.L (λcur e=>by cases e));have hb3:Below w.heap.size w W3:=h2.below.grown hg3 h2.below.size (λk e=>by cases e;omega);obtain⟨hc3,hf3⟩:=cell_of_box_a hv3;clear hW3;refine⟨none,W3,hend,?_⟩
  gi_wp2
  rw[<-hs0];refine⟨by simp,.inl ⟨_,_,rfl,run_takeDeferred hK3,?_⟩⟩;exact⟨_,results_tmp rfl _ _ _,v,ss,rfl,hS,hrow3.kept (grownBy_putObj_a _ _ _) (ownsRow_ne_a hrow3 hK3 (λcur e=>by cases e)),hnil,hb3.grown (grownBy_putObj_a _ _ _) hb3.size (λk e=>by cases e;omega)⟩
theorem collect_in(F:Fence)(n:Nat)(h8:F.fn 139)(h11:F.fn 171)(hro:F.round=none)(hn:3<=n)(g:Nat)(lb:Array Value)(hFg:F.fn g)(eg:∀args w,(callFunc g args).run Tryz.prog w=.ok (.enter g args) w)
  (S:List Int->Prop) (N:Nat) (hN:N<=maxLen) (hNb:N * 4<=140737488355328) (w:World) (hseq:SeqGives F (n - 1 - 1) Tryz.prog g lb aW S N w):
  CallsIn F n Tryz.prog 139 #[.func (.func g) #[] lb] w λe w'=>∃(v:Value) (ss:List Int),e=.returned v∧S ss∧w'.ownsRow w.heap.size 34 1 v ss.length (ss.map aW)∧(v=.slice none 0 0 ↔ ss=[])∧Below w.heap.size w w':=by
 have h1:1<=n:=by omega
 refine callsIn_of_wp Tryz.func139 rfl h8 ?_ hro;simp only[Tryz.ntmps139,List.size_toArray,dY,List.length_nil,Nat.reduceAdd,Nat.reduceSub,Array.replicate_succ,Array.replicate_zero,List.push_toArray,List.append_toArray,List.nil_append,List.cons_append]
 gi_wp2_with (gi_at_call 171;refine(appendSeq_in F (n - 1) h11 hro (by omega) g lb hFg eg S N hN hNb _ hseq).mono ?_;rintro e w' ⟨v,ss,rfl,hS,hrow,hnil,hb⟩)
 go_ret;exact⟨v,ss,rfl,hS,hrow,hnil,hb⟩
variable{W:World}
theorem Mq{base:Nat}{v:Value}{n:Nat}{cs:List Int}(h:W.ownsRow base 34 1 v n (cs.map aW)):Src Tryz.prog 1 36 v n (cs.map aW) W:=by
 obtain⟨ao,c,rfl,hH⟩:=ay h;exact hH.src Tryz.underlying36 c h.1 (by decide) (λu hu=>by
  obtain⟨y,_,rfl⟩:=dh.1 hu;rfl)
theorem Q6(v:Value)(n:Nat)(cs:List Int)(hn:n<=1000000)(w:World)(h:w.ownsRow 0 34 1 v n (cs.map aW)):
  Calls Tryz.prog 135 #[v] w λe w'=>∃v',e=.returned v'∧w'.ownsRow w.heap.size 34 1 v' n (cs.map aW)∧Below w.heap.size w w':=by
 obtain⟨i0,hi,hz0,hz1,hz2⟩:=info_parts rf;have hsrc:=Mq h;have hbe:Below w.heap.size w (w.alloc (.cells #[] 34)):=bC;have hoe:(w.alloc (.cells #[] 34)).ownsRow w.heap.size 34 1 (.slice (some ⟨w.heap.size,0,none⟩) 0 0) 0 []:=
  ⟨rfl,.inr ⟨w.heap.size,0,_,rfl,aB _,bS w _,aB _,by decide,rfl,rfl⟩⟩
 have hne:w.heap.size<=(w.alloc (.cells #[] 34)).heap.size:=by simp
 have hsrc':Src Tryz.prog 1 36 v n (cs.map aW) (w.alloc (.cells #[] 34)):=Mq (aL h hbe);rcases h.2 with⟨rfl,rfl⟩|⟨g,cap,cur,rfl,rest⟩
 ·have hq:=λW=>Lib.run_eql_slice_nil (P:=Tryz.prog) W 36 34 none 0 0 0 0 Tryz.underlying36;simp only[Option.isNone_none]at hq;have hcs:cs.map aW=[]:=qz h.1;clear hsrc hbe hoe hne hsrc';go_enter Tryz.func135,Tryz.ntmps135;go_wp2;go_ret;exact⟨_,rfl,⟨h.1,.inl ⟨rfl,rfl⟩⟩,aU _ _⟩
 ·have hq:=λW=>Lib.run_eql_slice_nil (P:=Tryz.prog) W 36 34 (some ⟨g,0,none⟩) n cap 0 0 Tryz.underlying36;simp only[Option.isNone_some]at hq;clear rest hsrc;go_enter Tryz.func135,Tryz.ntmps135;go_wp2_with(at_builtin;refine iN _ rfl _ _ 36 36 rfl w.heap.size 34 i0 (.int .u32 0) 1 4 Tryz.underlying36 hi hz0 hz1 hz2 rfl (.slice (some ⟨w.heap.size,0,none⟩) 0 0) 0 [] rfl hoe (by simp) (.slice (some ⟨g,0,none⟩) n cap) n (cs.map aW) rfl hsrc' ?c1 ?c2 hne ?_)
  case c1=>unfold maxLen;omega
  case c2=>omega
  intro v7 W7 iy gW _;have JV:=hbe.grown gW hne (λk hk=>(hoe.lt k hk).1);clear hq hsrc' hbe hoe hne gW;go_wp2;go_ret;exact⟨v7,rfl,by simpa using iy,JV⟩
@[reducible] def tT(W : World)(B : Nat)(x : Rt)(v : Value): World := ((((((W.setCell ⟨B, 0, none⟩ (.int .u32 x.dest)).setCell ⟨B, 1, none⟩ (.int .u32 x.seq)).setCell ⟨B, 2, none⟩ (.int .i64 x.hops)).setCell ⟨B, 3, none⟩ (.int .u32 x.next)).setCell ⟨B, 4, none⟩ (.bool x.valid)).setCell ⟨B, 5, none⟩ (.int .u64 x.exp)).setCell ⟨B, 6, none⟩ v
theorem eu.store{B:Nat}{y:Rt}{u:Value}(h:eu B y u W)(x:Rt)(v:Value):eu B x v (tT W B x v):=by
 unfold eu at h ⊢;simp[World.setCell,Array.getElem?_modify,h]
theorem l_(W:World)(B:Nat)(x:Rt)(v:Value):W.grownBy (tT W B x v) (some B):=
 ah (ah (ah (ah (ah (ah (ah (aC _ _) 0 _) 1 _) 2 _) 3 _) 4 _) 5 _) 6 _
theorem KV(B:Nat)(x:Rt)(ao:Option Addr)(c:Nat)(hn:x.bN.length<=4)(w:World)(h:eu B x (.slice ao x.bN.length c) w)(hr:w.ownsRow 0 34 1 (.slice ao x.bN.length c) x.bN.length (x.bN.map aW)):
  Calls Tryz.prog 96 #[.pointer (some ⟨B,0,none⟩)] w λe w'=>∃v',e=.returned (JU x v')∧w'.ownsRow w.heap.size 34 1 v' x.bN.length (x.bN.map aW)∧Below w.heap.size w w':=by
 obtain⟨c0,c1,c2,c3,c4,c5,c6⟩:=(h.later ((aU _ w).alloc (aB _) (bZ ⟨0,0,0,0,false,0,[]⟩ (.slice none 0 0)))).cell;obtain⟨e0,e1,e2,e3,e4,e5,e6⟩:=(h.later (((aU _ w).alloc (aB _) (bZ ⟨0,0,0,0,false,0,[]⟩ (.slice none 0 0))).alloc (by simp) (bZ x (.slice ao x.bN.length c)))).cell;have hb1:Below w.heap.size w ((w.alloc (bZ ⟨0,0,0,0,false,0,[]⟩ (.slice none 0 0))).alloc (bZ x (.slice ao x.bN.length c))):=(bC).alloc (by simp) _;have hZ:=(eu.new ⟨0,0,0,0,false,0,[]⟩ (.slice none 0 0) w).later ((aU _ _).alloc (aB _) (bZ x (.slice ao x.bN.length c)));have hN:=eu.new x (.slice ao x.bN.length c) (w.alloc (bZ ⟨0,0,0,0,false,0,[]⟩ (.slice none 0 0)));rw[World.size_alloc]at hN;have hr1:=aL hr hb1;have hs2:w.heap.size+2<=((w.alloc (bZ ⟨0,0,0,0,false,0,[]⟩ (.slice none 0 0))).alloc (bZ x (.slice ao x.bN.length c))).heap.size:=by simp
 dsimp only[bZ]at hb1 hZ hN hr1 hs2 c0 c1 c2 c3 c4 c5 c6 e0 e1 e2 e3 e4 e5 e6;go_enter Tryz.func96,Tryz.ntmps96;go_wp2_with fail;clear c0 c1 c2 c3 c4 c5 c6 e0 e1 e2 e3 e4 e5 e6;generalize World.alloc _ _=W1 at hb1 hZ hN hr1 hs2 ⊢;refine(Q6 (.slice ao x.bN.length c) x.bN.length x.bN (by omega) _ hr1).mono ?_;rintro e W2 ⟨v',rfl,ho2,hb2⟩;obtain⟨sH,c2',rfl,_⟩:=ay ho2;have hZ2:=hZ.later hb2;have Gs:=hN.later hb2;have hbb:=hb1.trans (hb2.mono hb1.size);have hsz:=hb1.size;have f6:=Gs.free 6;have hzf:=hZ2.free;obtain⟨n0,n1,n2,n3,n4,n5,n6⟩:=Gs.cell;obtain⟨z0,z1,z2,z3,z4,z5,z6⟩:=hZ2.cell;have Bt:=Gs.aaz (.slice sH x.bN.length c2') x.bN;have hg3:W2.grownBy (W2.setCell ⟨w.heap.size+1,6,none⟩ (.slice sH x.bN.length c2')) (some (w.heap.size+1)):=ah (aC _ _) 6 _;have hZ3:=hZ2.block (hg3.block w.heap.size (by have:=Gs.lt;omega) (by simp));have hF:=hZ3.store x (.slice sH x.bN.length c2');have hg4:=l_ (W2.setCell ⟨w.heap.size+1,6,none⟩ (.slice sH x.bN.length c2')) w.heap.size x (.slice sH x.bN.length c2');have hlt:=ho2.lt;have ho3:=ho2.kept hg3 (.inr (λe=>by have:=(hlt _ e).1;omega));have DX:=ho3.kept hg4 (.inr (λe=>by have:=(hlt _ e).1;omega));have hG:Below w.heap.size w (tT (W2.setCell ⟨w.heap.size+1,6,none⟩ (.slice sH x.bN.length c2')) w.heap.size x (.slice sH x.bN.length c2')):=(hbb.grown hg3 hbb.size (λk e=>by cases e;omega)).grown hg4 (dH hbb.size hg3.size) (λk e=>by cases e;exact aB _);clear hZ hN hr1 hb2 hb1 Bt hg3 hZ3 hg4 ho3 hlt;go_wp2;dsimp only[tT]at hF hG DX;generalize World.setCell _ _ _=W8 at hF hG DX ⊢;obtain⟨q0,q1,q2,q3,q4,q5,q6⟩:=hF.cell;exact bodyPost_ret (v:=JU x (.slice sH x.bN.length c2')) (by simp[results,Tryz.results96,go_sem,q0,q1,q2,q3,q4,q5,q6]) rfl ⟨_,rfl,ownsRow_base_a DX (by omega),hG⟩
theorem yO(B:Nat)(x:Rt)(v:Value)(hn:x.bN.length<=4)(w:World)(h:eu B x v w)(hr:w.ownsRow 0 34 1 v x.bN.length (x.bN.map aW)):
  Calls Tryz.prog 96 #[.pointer (some ⟨B,0,none⟩)] w λe w'=>∃v',e=.returned (JU x v')∧w'.ownsRow w.heap.size 34 1 v' x.bN.length (x.bN.map aW)∧Below w.heap.size w w':=by
 obtain⟨ao,c,rfl,_⟩:=ay hr;exact KV B x ao c hn w h hr
theorem FT(B:Nat)(x:Rt)(v:Value)(s:Int)(w:World)(h:eu B x v w):
  Calls Tryz.prog 113 #[.pointer (some ⟨B,0,none⟩),.int .u32 s] w λe w'=>e=.returned (.tuple #[])∧eu B (qE x s) (.slice none 0 0) w'∧w.grownBy w' (some B):=by
 obtain⟨c0,c1,c2,c3,c4,c5,c6⟩:=h.cell;have hf:=h.free;have h1:Hid (∀y:Int,y=max (gr x.seq) s->eu B (qE x s) (.slice none 0 0) ((((w.setCell ⟨B,1,none⟩ (.int .u32 y)).setCell ⟨B,4,none⟩ (.bool false)).setCell ⟨B,5,none⟩ (.int .u64 0)).setCell ⟨B,6,none⟩ (.slice none 0 0))):=by
  rintro y rfl;exact(((h.set1 (max (gr x.seq) s)).aeC false).OL 0).aaz (.slice none 0 0) []
 have hg:∀u,w.grownBy ((((w.setCell ⟨B,1,none⟩ u).setCell ⟨B,4,none⟩ (.bool false)).setCell ⟨B,5,none⟩ (.int .u64 0)).setCell ⟨B,6,none⟩ (.slice none 0 0)) (some B):=
  λu=>ah (ah (ah (ah (aC _ _) 1 _) 4 _) 5 _) 6 _
 go_enter Tryz.func113,Tryz.ntmps113;go_wp2_with fail;refine(oL _ _).mono ?_;rintro e w1 ⟨rfl,rfl⟩;go_wp2;all_goals
  go_returns;exact⟨rfl,h1.out _ (by omega),hg _⟩
end Go.Proofs.YtakaadcpaeiccabGreat
