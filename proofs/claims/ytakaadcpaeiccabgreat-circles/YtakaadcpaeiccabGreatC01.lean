import Derived.WalkKit
import Derived.WalkLawsBesides
import Derived.Laws.BitsAllLaws
import Derived.Test.YtakaadcpaeiccabGreatProg
import Derived.WalkSpells
import Derived.Handy
import Derived.Deep.Light
import Derived.Deep.AppendSrc
import Derived.OwnWalk
import Derived.ProofKit
import Derived.OpenShut
import Derived.Deep.Slices
import Derived.Deep.Strs
set_option maxHeartbeats 1000000
namespace Go.Proofs.YtakaadcpaeiccabGreat
structure ah where
 aS:Int
 kind:Int
 hops:Int
 iK:Bool
 id:Int
 dest:Int
 aW:Int
 aI:Int
 dm:Int
 life:Int
 la:Option Addr
 ln:Nat
 lc:Nat
 pay:ByteArray
@[reducible] def ah.val (p : ah) : Value :=
 .agg #[.int .i64 p.aS,.int .i64 p.kind,.int .i64 p.hops,.bool p.iK,.int .u32 p.id,.int .u32 p.dest,.int .u32 p.aW,.int .u32 p.aI,.int .u32 p.dm,.int .u32 p.life,.slice p.la p.ln p.lc,.string p.pay]
@[reducible] def ah.box (p : ah) : Obj :=
 .cells #[.int .i64 p.aS,.int .i64 p.kind,.int .i64 p.hops,.bool p.iK,.int .u32 p.id,.int .u32 p.dest,.int .u32 p.aW,.int .u32 p.aI,.int .u32 p.dm,.int .u32 p.life,.slice p.la p.ln p.lc,.string p.pay]73
structure ah.Wf(p:ah):Prop where
 Vk:-9223372036854775808≤p.aS
 Vj:p.aS≤9223372036854775807
 afA:-9223372036854775808≤p.kind
 afz:p.kind≤9223372036854775807
 LH:-9223372036854775808≤p.hops
 LG:p.hops≤9223372036854775807
 id0:0≤p.id
 id1:p.id<4294967296
 ady:0≤p.dest
 adx:p.dest<4294967296
 YX:0≤p.aW
 YW:p.aW<4294967296
 adu:0≤p.aI
 adt:p.aI<4294967296
 ads:0≤p.dm
 adq:p.dm<4294967296
 ab7:0≤p.life
 ab6:p.life<4294967296
 ln1:p.ln≤65536
 ad1:p.pay.size≤65536
def ah.cnt(p:ah):Int:=if p.kind=3 then p.ln else if p.kind=9 then p.pay.size else p.hops
def rY(k c:Int):Bool:=
 if k=1∨k=2 then decide(0≤c∧c≤255)else if k=3 then decide(1≤c∧c≤8)else if k=9 then decide(c≤16)else false
def ah.jV(p:ah):Bool:=
 decide(p.id=0∧p.dest=0∧p.aW=0∧p.aI=0∧p.dm=0∧p.life=0∧p.hops=0∧p.iK=false∧p.ln=0∧p.pay.size=0)
theorem Wm(a b:Int)(h1:0≤a)(h2:a<4294967296)(h3:0≤b)(h4:b<4294967296):0≤bits .or .u32 a b∧bits .or .u32 a b<4294967296:=by
 rw [u32_or a b h1 h2 h3 h4];have:a.toNat|||b.toNat<2 ^ 32:=Nat.or_lt_two_pow(by omega)(by omega);omega
theorem Q4(a b:Int)(h1:0≤a)(h2:a<4294967296)(h3:0≤b)(h4:b<4294967296):bits .or .u32 a b=0 ↔ a=0∧b=0:=by
 rw [u32_or a b h1 h2 h3 h4];constructor
 ·intro h;have h':a.toNat|||b.toNat=0:=by omega
  have:=Nat.or_eq_zero_iff.1 h';omega
 ·rintro⟨rfl,rfl⟩;rfl
theorem ab2 {a b c d e f:Int}(a0:0≤a)(a1:a<4294967296)(b0:0≤b)(b1:b<4294967296)(c0:0≤c)(c1:c<4294967296)
  (d0:0≤d)(d1:d<4294967296)(e0:0≤e)(e1:e<4294967296)(f0:0≤f)(f1:f<4294967296):
  bits .or .u32(bits .or .u32(bits .or .u32(bits .or .u32(bits .or .u32 a b)c)d)e)f=0 ↔ a=0∧b=0∧c=0∧d=0∧e=0∧f=0:=by
 have h1:=Wm a b a0 a1 b0 b1;have h2:=Wm _ c h1.1 h1.2 c0 c1;have h3:=Wm _ d h2.1 h2.2 d0 d1;have h4:=Wm _ e h3.1 h3.2 e0 e1;rw [Q4 _ f h4.1 h4.2 f0 f1,Q4 _ e h3.1 h3.2 e0 e1,Q4 _ d h2.1 h2.2 d0 d1,Q4 _ c h1.1 h1.2 c0 c1,Q4 a b a0 a1 b0 b1];simp only [and_assoc]
theorem Ty(s:ByteArray):s.toList.isEmpty=decide(s.size=0):=by
 rw [←decide_eq_emptyBytes s]
 congr 1
 apply propext;constructor
 ·rintro rfl;rfl
 ·intro h;apply ByteArray.ext;exact Array.eq_empty_of_size_eq_zero h
def U(xs:List Int):List Value:=xs.map(Value.int .u8)
theorem Ae(a b:List Int):U a++U b=U(a++b):=by simp [U]
def b4(n:Int):List Int:=[n / 16777216,n / 65536%256,n / 256%256,n%256]
theorem kH(n:Int):(b4 n).length=4:=rfl
theorem Ll {α:Type} {R:Nat→α→Prop}:∀(n:Nat),(∀i,i<n→∃x,R i x)→∃L:List α,L.length=n∧∀j,j<n→∃x,L[j]?=some x∧R j x
 |0,_=>⟨[],rfl,fun j hj=>by omega⟩
 |n+1,h=>by
  obtain⟨L,hl,hL⟩:=Ll n(fun i hi=>h i(by omega));obtain⟨x,hx⟩:=h n(by omega);refine⟨L++ [x],by simp [hl],fun j hj=> ?_⟩;by_cases hjn:j<n
  ·obtain⟨y,h1,h2⟩:=hL j hjn;exact⟨y,by rw [List.getElem?_append_left(by omega)];exact h1,h2⟩
  ·obtain rfl:j=n:=by omega
   exact⟨x,by rw [List.getElem?_append_right(by omega)];simp [hl],hx⟩
open Go.RowKit
theorem kT {a b:Bool}(h:a=b):Ending.returned(.bool a)=.returned(.bool b):=by rw [h]
theorem uw {k:IntKind} {a b:Int}(h:a=b):Ending.returned(.int k a)=.returned(.int k b):=by rw [h]
theorem Tu(k c:Int)(w:World):
  Calls Tryz.prog 125 #[.int .i64 k,.int .i64 c]w fun e w'=>e=.returned(.bool(rY k c))∧w'=w:=by
 go_enter Tryz.func125,Tryz.ntmps125
 go_wp2
 all_goals(go_ret;go_light;refine⟨kT ?_,rfl⟩;simp_all [rY];try omega)
theorem OP(p:ah)(w:World):
  Calls Tryz.prog 151 #[p.val]w fun e w'=>e=.returned(.int .u8(if p.iK then 8 else 0))∧Below w.heap.size w w':=by
 go_enter Tryz.func151,Tryz.ntmps151
 go_wp2
 all_goals(go_ret;refine⟨?_,(Below.refl _ _).alloc(Nat.le_refl _)_⟩;simp [*])
theorem Co(p:ah)(w:World):
  Calls Tryz.prog 126 #[p.val]w fun e w'=>e=.returned(.int .i64 p.cnt)∧Below w.heap.size w w':=by
 go_enter Tryz.func126,Tryz.ntmps126
 go_wp2
 all_goals(go_ret;go_light;refine⟨uw ?_,(Below.refl _ _).alloc(Nat.le_refl _)_⟩;simp_all [ah.cnt])
theorem wV(p:ah)(hp:p.Wf)(w:World):
  Calls Tryz.prog 127 #[p.val]w fun e w'=>e=.returned(.bool p.jV)∧Below w.heap.size w w':=by
 obtain⟨_,_,_,_,_,_,i0,i1,d0,d1,s0,s1,f0,f1,fs0,fs1,l0,l1,_,_⟩:=hp;go_enter Tryz.func127,Tryz.ntmps127
 go_wp2
 all_goals(go_ret;go_light;refine⟨kT ?_,(Below.refl _ _).alloc(Nat.le_refl _)_⟩)
 all_goals(have h:=ab2 i0 i1 d0 d1 s0 s1 f0 f1 fs0 fs1 l0 l1;simp_all [ah.jV,Ty])
 all_goals trace_state
section
variable {P:Program}(w:World)
theorem lq(t tx ty e:TypeId)(i:TypeInfo)(ht:P.underlying t=some(.slice e))(hi:P.info? e=some i)
  (g sLen sCap:Nat)(cur:Array Value)(hg:w.heap[g]?=some(.cells cur e(0,0)))
  (x:Value)(m:Nat)(news:List Value)(hs:Src P i.size tx x m news w)
  (hroom:sLen+m≤sCap)(hfit:sLen * i.size+news.length≤cur.size):
  (Builtin.append_ #[t,tx]ty #[.slice(some⟨g,0,none⟩)sLen sCap,x]).run P w=
   .ok(.slice(some⟨g,0,none⟩)(sLen+m)sCap)(w.setRow g(cur.toList.take(sLen * i.size)++news++cur.toList.drop(sLen * i.size+news.length)).toArray):=by
 have hst:=run_storeCells_at P g(sLen * i.size)e news 0 cur w hg(by simpa using hfit)hs.one;simp only [Nat.add_zero]at hst;rcases hs.kind with⟨e',hk⟩|hk<;>simp [Builtin.append_,run_underlying ht,run_underlying hk,sizeOf,typeInfo,hi,hs.len,hroom,hs.cells,Addr.add_lit,hst]
theorem sV(base:Nat)(t tx ty e:TypeId)(i:TypeInfo)(z:Value)(size bytes:Nat)(ht:P.underlying t=some(.slice e))(hi:P.info? e=some i)(hz:i.zero=some z)
  (hsize:i.size=size)(hby:i.bytes=bytes)(hzs:z.cells.size=size)
  (v:Value)(n:Nat)(xs:List Value)(hown:w.ownsRow base e size v n xs)(hv:v≠ .slice none 0 0)
  (x:Value)(m:Nat)(news:List Value)(hs:Src P size tx x m news w)
  (h63:n+m≤maxLen)(hbytes:(n+m)* bytes≤140737488355328)(hbase:base≤w.heap.size):
  ∃v' w',(Builtin.append_ #[t,tx]ty #[v,x]).run P w=.ok v' w'∧w'.ownsRow base e size v'(n+m)(xs++news)∧w.grownBy w' v.ownBlock∧v'≠ .slice none 0 0:=by
 subst hsize;subst hby;have hl:=hs.newsLen;have hsmall:n+m≤9223372036854775807:=by simp only [maxLen]at h63;omega
 have hlen:(xs++news).length=(n+m)* i.size:=by rw [List.length_append,hown.1,hl,Nat.add_mul]
 rcases hown.2 with⟨rfl,rfl⟩|⟨g,cap,cur,rfl,hbg,hg,hnc,hcm,hcs,htake⟩
 ·exact absurd rfl hv
 ·by_cases hroom:n+m≤cap
  ·have hfit:n * i.size+news.length≤cur.size:=by rw [hl,hcs,←Nat.add_mul];exact Nat.mul_le_mul_right _ hroom
   have hr:=lq(P:=P)w t tx ty e i ht hi g n cap cur hg x m news hs hroom hfit;refine⟨_,_,hr,⟨hlen,.inr⟨g,cap,_,rfl,hbg,setRow_heap w g cur _ e _ hg,hroom,hcm,?_,?_⟩⟩,⟨rfl,rfl,rfl,by simp,fun k _ hk=>setRow_other w g k _(fun e=>hk(by simp [Value.ownBlock,e]))⟩,by simp⟩
   ·simp only [List.size_toArray,List.length_append,List.length_take,List.length_drop,Array.length_toList];omega
   ·rw [htake,←hlen];exact List.take_left
  ·have holds:∀j u,xs[j]?=some u→w.cell?((⟨g,0,none⟩:Addr).add j)=some u:=hown.cells(g:=g)rfl;have hfo:=run_firstCells_some(P:=P)w.drew i.size n⟨g,0,none⟩n cap xs hown.1(by simpa using holds);have hr:=run_append_grow_src(P:=P)w t tx ty e i z ht hi hz(some⟨g,0,none⟩)n cap xs hfo x m news hs(by omega)(by omega)(growslice_fits(by omega)hbytes);have hge:=grownCap_ge w(n+m)cap e;have hcm:grownCap w(n+m)cap e≤maxLen:=grownCap_le_maxLen w(n+m)cap e h63;refine⟨_,_,hr,⟨hlen,.inr⟨w.heap.size,_,_,rfl,hbase,heap_alloc_new w.drew _,hge,hcm,?_,?_⟩⟩,⟨rfl,rfl,rfl,by simp,fun k hk _=>heap_alloc_old w.drew _ k hk⟩,by simp⟩
   ·simp only [Array.size_append,List.size_toArray,size_zeroCells,hzs,hlen,←Nat.add_mul]
    congr 1
    omega
   ·simp only [Array.toList_append];rw [←hlen];exact List.take_left
theorem tZ {o:Oper} {a:Act} {K:Act→World→Prop} {Q:Exit→Act→World→Prop}(s x:Operand)(t tx:TypeId)
  (ho:o.op=.call {callee:=.builtin .append,args:=#[s,x],argTypes:=#[t,tx]})
  (base:Nat)(e:TypeId)(i:TypeInfo)(z:Value)(size bytes:Nat)(ht:P.underlying t=some(.slice e))(hi:P.info? e=some i)(hz:i.zero=some z)
  (hsize:i.size=size)(hby:i.bytes=bytes)(hzs:z.cells.size=size)
  (v:Value)(n:Nat)(xs:List Value)(hsv:a.eval s=v)(hown:w.ownsRow base e size v n xs)(hv:v≠ .slice none 0 0)
  (xv:Value)(m:Nat)(news:List Value)(hx:a.eval x=xv)(hs:Src P size tx xv m news w)
  (h63:n+m≤maxLen)(hbytes:(n+m)* bytes≤140737488355328)(hbase:base≤w.heap.size)
  (h:∀v' w',w'.ownsRow base e size v'(n+m)(xs++news)→w.grownBy w' v.ownBlock→v'≠ .slice none 0 0→K(a.put o.dst v')w'):o.wp P a w K Q:=by
 obtain⟨v',w',hr,h2,h3,h4⟩:=sV(P:=P)w base t tx o.type e i z size bytes ht hi hz hsize hby hzs v n xs hown hv xv m news hs h63 hbytes hbase;unfold Oper.wp execOp;simp only [ho,resolve,invoke,builtin,Sem.run_bind,Sem.run_pure,Result.andThen_ok,List.map_toArray,List.map_cons,List.map_nil,hsv,hx,hr];exact h v' w' h2 h3 h4
theorem ik {ops:Array Oper} {rest:List Oper} {o:Oper} {a:Act} {Q:Exit→Act→World→Prop}(hgd:o.guard=none)(s x:Operand)(t tx:TypeId)
  (ho:o.op=.call {callee:=.builtin .append,args:=#[s,x],argTypes:=#[t,tx]})
  (base:Nat)(e:TypeId)(i:TypeInfo)(z:Value)(size bytes:Nat)(ht:P.underlying t=some(.slice e))(hi:P.info? e=some i)(hz:i.zero=some z)
  (hsize:i.size=size)(hby:i.bytes=bytes)(hzs:z.cells.size=size)
  (v:Value)(n:Nat)(xs:List Value)(hsv:a.eval s=v)(hown:w.ownsRow base e size v n xs)(hv:v≠ .slice none 0 0)
  (xv:Value)(m:Nat)(news:List Value)(hx:a.eval x=xv)(hs:Src P size tx xv m news w)
  (h63:n+m≤maxLen)(hbytes:(n+m)* bytes≤140737488355328)(hbase:base≤w.heap.size)
  (h:∀v' w',w'.ownsRow base e size v'(n+m)(xs++news)→w.grownBy w' v.ownBlock→v'≠ .slice none 0 0→wpList P ops Q rest(a.put o.dst v')w'):wpList P ops Q(o::rest)a w:=
 wpList_plain hgd fun _ hK=>tZ w s x t tx ho base e i z size bytes ht hi hz hsize hby hzs v n xs hsv hown hv xv m news hx hs h63 hbytes hbase fun v' w' h2 h3 h4=>hK _ _(h v' w' h2 h3 h4)
end
open Go.ChangeShapes Go.WideShapes Go.Deep
def f_(W:World)(ao:Option Addr)(cs:List Value):Prop:=
 ∀(j:Nat)(u:Value),cs[j]?=some u→∃b o,ao=some⟨b,o,none⟩∧b<W.heap.size∧W.cell?⟨b,o+j,none⟩=some u
theorem f_.below {W W':World} {ao:Option Addr} {cs:List Value}(h:f_ W ao cs)(hb:Below W.heap.size W W'):f_ W' ao cs:=by
 intro j u hj;obtain⟨b,o,h1,h2,h3⟩:=h j u hj;exact⟨b,o,h1,Nat.lt_of_lt_of_le h2 hb.size,(hb.cell(p:=⟨b,o+j,none⟩)h2).trans h3⟩
theorem f_.one {W:World} {ao:Option Addr} {cs:List Value}(h:f_ W ao cs) {b o:Nat}(hb:ao=some⟨b,o,none⟩) {j:Nat} {u:Value}(hj:cs[j]?=some u):W.cell?⟨b,o+j,none⟩=some u:=by
 obtain⟨b',o',h1,h2,h3⟩:=h j u hj;rw [hb]at h1;simp only [Option.some.injEq,Addr.mk.injEq,and_true]at h1;obtain⟨rfl,rfl⟩:=h1;exact h3
theorem f_.src {P:Program} {t e:TypeId}(ht:P.underlying t=some(.slice e)) {W:World} {ao:Option Addr} {cs:List Value}(h:f_ W ao cs) {size n:Nat}(c:Nat)(hl:cs.length=n * size)(hs:0<size)(h1:∀u∈cs,u.oneCell'=true):
  Src P size t(.slice ao n c)n cs W:=by
 by_cases h0:cs=[]
 ·subst h0;obtain rfl:n=0:=by
   rcases Nat.Yz.1 hl.symm with h|h
   ·exact h
   ·omega
  cases ao with
  |none=>exact Src.ofNil W ht c
  |some a=>exact Src.ofSlice W ht a 0 c [](by simp)(fun j u hj=>by simp at hj)(fun u hu=>by cases hu)
 ·obtain⟨u,hu⟩:∃u,cs[0]?=some u:=by
   cases cs with
   |nil=>exact absurd rfl h0
   |cons u r=>exact⟨u,rfl⟩
  obtain⟨b,o,rfl,_⟩:=h 0 u hu;refine Src.ofSlice W ht _ n c cs hl(fun j u hj=> ?_)h1;have hadd:(⟨b,o,none⟩:Addr).add j=⟨b,o+j,none⟩:=by unfold Addr.add;split<;>simp_all
  rw [hadd];exact h.one rfl hj
theorem f_.ofRow {W:World} {base e size n cap g:Nat} {cs:List Value}(h:W.ownsRow base e size(.slice(some⟨g,0,none⟩)n cap)n cs):f_ W(some⟨g,0,none⟩)cs:=by
 intro j u hj;have hlt:g<W.heap.size:=(h.lt g rfl).2;have hjl:j<cs.length:=by
  rcases Nat.lt_or_ge j cs.length with h|h
  ·exact h
  ·rw [List.getElem?_eq_none h]at hj;cases hj
 exact⟨g,0,rfl,hlt,by rw [Nat.zero_add,h.cellAt j(by rw [←h.1];exact hjl),hj]⟩
def rR(c n:Int):Int:=(if c<0 then -(c+1)else c)%n
theorem QO(c n:Int)(c0:-9223372036854775808≤c)(c1:c≤9223372036854775807)(n0:0<n)(n1:n≤9223372036854775807)(w:World):
  Calls Tryz.prog 9 #[.int .i64 c,.int .i64 n]w fun e w'=>e=.returned(.int .i64(rR c n))∧w'=w:=by
 by_cases h:c<0
 ·have e:rR c n=-((c+1).tmod n):=by
   unfold rR;rw [if_pos h,←Int.neg_tmod,Int.tmod_eq_emod_of_nonneg(by omega)]
  go_enter Tryz.func9,Tryz.ntmps9
  go_wp2
  go_ret
  exact⟨uw e.symm,rfl⟩
 ·have e:rR c n=c%n:=by
   unfold rR;rw [if_neg h]
  go_enter Tryz.func9,Tryz.ntmps9
  go_wp2
  go_ret
  exact⟨rfl,rfl⟩
theorem Wi(c n:Int)(n0:0<n):0≤rR c n∧rR c n<n:=⟨Int.emod_nonneg _(by omega),Int.Tz _ n0⟩
theorem ak {W:World} {base e size:Nat} {v:Value} {n:Nat} {xs:List Value}(h:W.ownsRow base e size v n xs):∃ao c,v=.slice ao n c∧f_ W ao xs:=by
 rcases id h.2 with⟨rfl,h0⟩|⟨g,cap,cur,rfl,_⟩
 ·subst h0;refine⟨none,0,rfl,fun j u hj=> ?_⟩;have hl:=h.1;rw [Nat.zero_mul]at hl;obtain rfl:=List.eq_nil_of_length_eq_zero hl;simp at hj
 ·exact⟨_,cap,rfl,f_.ofRow h⟩
theorem aM {W W':World} {base e size:Nat} {v:Value} {n:Nat} {xs:List Value}(h:W.ownsRow base e size v n xs)(hb:Below W.heap.size W W'):W'.ownsRow base e size v n xs:=
 h.kept(row:=none)⟨hb.os,hb.tape,hb.output,hb.size,fun k hk _=>hb.block k hk⟩(by cases v.ownBlock<;>simp)
theorem bS {W:World} {base e size:Nat} {v:Value} {n:Nat} {xs:List Value}(h:W.ownsRow base e size v n xs)(hn:0<n):
  ∃g cap,v=.slice(some⟨g,0,none⟩)n cap∧base≤g:=by
 rcases h.2 with⟨_,h0⟩|⟨g,cap,cur,rfl,hb,_⟩
 ·omega
 ·exact⟨g,cap,rfl,hb⟩
theorem flat_get {α β:Type}(f:α→List β)(size:Nat)(hs:0<size)(hf:∀x,(f x).length=size):∀(L:List α)(j:Nat),(L.flatMap f)[j]?=(L[j / size]?).bind fun x=>(f x)[j%size]?
 | [],j=>by simp
 |a::L,j=>by
  rw [List.flatMap_cons];by_cases h:j<size
  ·rw [List.getElem?_append_left(by rw [hf];exact h),Nat.div_eq_of_lt h,Nat.mod_eq_of_lt h];rfl
  ·rw [List.getElem?_append_right(by rw [hf];omega),hf,flat_get f size hs hf L(j - size)];have e1:j / size=(j - size)/ size+1:=by
    conv=>lhs;rw [show j=(j - size)+size by omega]
    rw [Nat.add_div_right _ hs]
   have e2:j%size=(j - size)%size:=by
    conv=>lhs;rw [show j=(j - size)+size by omega]
    rw [Nat.add_mod_right]
   rw [e1,e2,List.getElem?_cons_succ]
theorem qN {α β:Type}(f:α→List β)(size:Nat)(hf:∀x,(f x).length=size):∀(L:List α),(L.flatMap f).length=L.length * size
 | []=>by simp
 |a::L=>by
  rw [List.flatMap_cons,List.length_append,hf,qN f size hf L,List.length_cons,Nat.succ_mul,Nat.add_comm]
theorem jT {α β:Type}(f:α→List β)(size:Nat)(hs:0<size)(hf:∀x,(f x).length=size)(L:List α)(k i:Nat)(hi:i<size) {x:α}(hx:L[k]?=some x):(L.flatMap f)[k * size+i]?=(f x)[i]?:=by
 rw [flat_get f size hs hf];have e1:(k * size+i)/ size=k:=by
  rw [Nat.add_comm,Nat.Mj _ _ hs,Nat.div_eq_of_lt hi,Nat.zero_add]
 have e2:(k * size+i)%size=i:=by
  rw [Nat.add_comm,Nat.Eh,Nat.mod_eq_of_lt hi]
 rw [e1,e2,hx];rfl
section
variable {H:Type} {enc:TypeId×Value→H} {P:Program}
theorem NG {W:World} {t e:TypeId} {fuel:Nat} {c:Value} {x:DataW H×List MemPlace}(ht:P.underlying t=some(.slice e)) {size:Nat}(hc:P.cellsOf e=size)(hs:0<size) {α:Type}(f:α→List Value)(Q:α→Prop)(hf:∀x,(f x).length=size)
  (hd:∀n cs y,DataW.trod enc P W 0(fun _=>true)true n e cs=some y→cs.length=size→∃x:α,cs=f x∧Q x)
  (h:DataW.trod enc P W 0(fun _=>true)true fuel t [c]=some x):
  ∃(ao:Option Addr)(n cap:Nat)(L:List α),c=.slice ao n cap∧L.length=n∧n≤maxLen∧f_ W ao(L.flatMap f)∧∀x∈L,Q x:=by
 rcases open_slice ht h with⟨hcs,_⟩|⟨a,len,cap,m,n,D,Pl,hcs,_,hl,hmx,hm,_,hx⟩
 ·simp only [List.cons.injEq,and_true]at hcs;exact⟨none,0,0,[],hcs,rfl,Nat.zero_le _,fun j u hj=>by simp at hj,fun x hx=>by simp at hx⟩
 ·simp only [List.cons.injEq,and_true]at hcs;simp only [if_true]at hm;rw [hc]at hx;have aab:0<len→a.spot=none:=by
   intro h0;obtain⟨cs',h1,_⟩:=hx 0(by omega);obtain⟨_,hlen,hget⟩:=World.cells?_some h1;have q0:=hget 0(by omega);have hsome:cs'[0]?=some cs'[0]:=List.getElem?_eq_getElem(by omega);rw [hsome]at q0;have h:=World.cell?_spot q0;simpa [Addr.add]using h
  have key:∀i,i<len→∃y:α,Q y∧∃b off,a=⟨b,off,none⟩∧b<W.heap.size∧∀j u,(f y)[j]?=some u→W.cell?⟨b,off+(i * size+j),none⟩=some u:=by
   intro i hi;obtain⟨cs',h1,h2⟩:=hx i(by omega);obtain⟨_,hlen,hget⟩:=World.cells?_some h1;obtain⟨y,rfl,hq⟩:=hd _ _ _ h2 hlen;obtain⟨b,off,spot⟩:=a;obtain rfl:spot=none:=aab(by omega);have hcell:∀j u,(f y)[j]?=some u→W.cell?⟨b,off+(i * size+j),none⟩=some u:=by
    intro j u hj;have hjl:j<size:=by
     rcases Nat.lt_or_ge j(f y).length with h|h
     ·rw [hlen]at h;exact h
     ·rw [List.getElem?_eq_none h]at hj;cases hj
    have q:=hget j hjl;rw [add_plain,add_plain,hj]at q;rw [←Nat.add_assoc];exact q
   obtain⟨u,hu⟩:∃u,(f y)[0]?=some u:=⟨_,List.getElem?_eq_getElem(by omega)⟩;exact⟨y,hq,b,off,rfl,World.block_lt_of_cell? W _(hcell 0 u hu),hcell⟩
  obtain⟨L,hL,hLx⟩:=Ll len key;refine⟨some a,len,cap,L,hcs,hL,by omega,fun j u hj=> ?_,fun x hx=> ?_⟩
  ·rw [flat_get f size hs hf]at hj;have hjl:j / size<len:=by
    rcases Nat.lt_or_ge(j / size)len with h|h
    ·exact h
    ·rw [List.getElem?_eq_none(by omega)]at hj;cases hj
   obtain⟨y,hy,_,b,off,rfl,hb,hcell⟩:=hLx _ hjl;rw [hy]at hj;have:=hcell _ _ hj;rw [Nat.div_add_mod' j size]at this;exact⟨b,off,rfl,hb,this⟩
  ·obtain⟨j,hj,rfl⟩:=List.mem_iff_getElem.1 hx;obtain⟨y,hy,hq,_⟩:=hLx j(by omega);rw [List.getElem?_eq_getElem hj]at hy;cases hy;exact hq
end
end Go.Proofs.YtakaadcpaeiccabGreat
namespace Go.Proofs.YtakaadcpaeiccabGreat.Hp
abbrev Tm:=Int×Int×Int
def z:Tm:=(0,0,0)
def G7(a b:Tm):Bool:=if a.1=b.1 then decide(a.2.1<b.2.1)else decide(a.1<b.1)
def Le(a b:Tm):Prop:=G7 b a=false
theorem Le.iff {a b:Tm}:Le a b ↔ a.1<b.1∨(a.1=b.1∧a.2.1≤b.2.1):=by
 unfold Le G7;split<;>simp<;>omega
theorem Mi {a b:Tm}:G7 a b=true ↔ a.1<b.1∨(a.1=b.1∧a.2.1<b.2.1):=by
 unfold G7;split<;>simp<;>omega
theorem Le.refl(a:Tm):Le a a:=Le.iff.2(by omega)
theorem Le.trans {a b c:Tm}(h1:Le a b)(h2:Le b c):Le a c:=by
 rw [Le.iff]at *;omega
theorem Le.of {a b:Tm}(h:G7 a b=true):Le a b:=by
 rw [Mi]at h;rw [Le.iff];omega
def at'(h:List Tm)(i:Nat):Tm:=h.getD i z
theorem rD {h:List Tm} {i:Nat} {x:Tm}(hx:h[i]?=some x):at' h i=x:=by simp [at',List.getD,hx]
theorem iT {h:List Tm} {i:Nat}(hi:i<h.length):h[i]?=some(at' h i):=by simp [at',List.getD,List.getElem?_eq_getElem hi]
def sw(h:List Tm)(i j:Nat):List Tm:=(h.set i(at' h j)).set j(at' h i)
theorem dG(h:List Tm)(i j:Nat):(sw h i j).length=h.length:=by simp [sw]
theorem xA {h:List Tm} {i j:Nat}(hi:i<h.length)(hj:j<h.length)(k:Nat):at'(sw h i j)k=if k=j then at' h i else if k=i then at' h j else at' h k:=by
 unfold at' sw;simp only [List.getD,List.getElem?_set,List.length_set];by_cases h1:k=j
 ·subst h1;simp [hj];rfl
 ·rw [if_neg h1,if_neg(Ne.symm h1)];by_cases h2:k=i
  ·subst h2;simp [hi];rfl
  ·rw [if_neg h2,if_neg(Ne.symm h2)]
theorem ui {h:List Tm} {i j:Nat}(hi:i<h.length)(hj:j<h.length):(sw h i j).Perm h:=by
 have e1:at' h i=h[i]:=by simp [at',List.getD,List.getElem?_eq_getElem hi]
 have e2:at' h j=h[j]:=by simp [at',List.getD,List.getElem?_eq_getElem hj]
 unfold sw;rw [e1,e2];exact List.VN hi hj
def par(j:Nat):Nat:=(j - 1)/ 2
def Ok(h:List Tm)(j:Nat):Prop:=Le(at' h(par j))(at' h j)
def Heap(h:List Tm):Prop:=∀j,0<j→j<h.length→Ok h j
def Over(h:List Tm)(i:Nat):Prop:=0<i→∀c,0<c→c<h.length→par c=i→Le(at' h(par i))(at' h c)
def Both(h:List Tm)(i:Nat):Prop:=(∀j,0<j→j<h.length→j≠i→par j≠i→Ok h j)∧Over h i
def Up(h:List Tm)(i:Nat):Prop:=(∀j,0<j→j<h.length→j≠i→Ok h j)∧Over h i
def Down(h:List Tm)(i:Nat):Prop:=(∀j,0<j→j<h.length→par j≠i→Ok h j)∧Over h i
theorem iQ {j:Nat}(h:0<j):par j<j:=by unfold par;omega
theorem Up.both {h:List Tm} {i:Nat}(u:Up h i):Both h i:=⟨fun j h1 h2 h3 _=>u.1 j h1 h2 h3,u.2⟩
theorem Heap.down {h:List Tm}(u:Heap h)(i:Nat):Down h i:=by
 refine⟨fun j h1 h2 _=>u j h1 h2,fun hi c h1 h2 h3=> ?_⟩;have hc:=u c h1 h2;unfold Ok at hc;rw [h3]at hc;have hl:=iQ h1;exact(u i hi(by omega)).trans hc
theorem Vf {h:List Tm} {k:Nat}(u:Both h k)(h0:0<k)(hk:k<h.length)(ha:G7(at' h k)(at' h(par k))=true):Up(sw h k(par k))(par k):=by
 have hp:=iQ h0;have hs:=xA hk(show par k<h.length by omega);have hle:=Le.of ha;refine⟨fun j h1 h2 h3=> ?_,fun h1 c h2 h3 h4=> ?_⟩
 ·rw [dG]at h2;unfold Ok;rw [hs,hs];rw [if_neg h3];by_cases hjk:j=k
  ·subst hjk;rw [if_pos rfl,if_pos rfl];exact hle
  ·rw [if_neg hjk];by_cases hpp:par j=par k
   ·rw [if_pos hpp];have:=u.1 j h1 h2 hjk(by omega);unfold Ok at this;rw [hpp]at this;exact hle.trans this
   ·rw [if_neg hpp];by_cases hpk:par j=k
    ·rw [if_pos hpk];exact u.2 h0 j h1 h2 hpk
    ·rw [if_neg hpk];exact u.1 j h1 h2 hjk hpk
 ·rw [dG]at h3;have hpp:=iQ h1;rw [hs,hs,if_neg(by omega),if_neg(by omega)];have hup:Le(at' h(par(par k)))(at' h(par k)):=u.1(par k)h1(by omega)(by omega)(by omega);rw [if_neg(by have:=iQ h2;omega)];by_cases hck:c=k
  ·rw [if_pos hck];exact hup
  ·rw [if_neg hck];have:=u.1 c h2 h3 hck(by omega);unfold Ok at this;rw [h4]at this;exact hup.trans this
theorem Up.top {h:List Tm}(u:Up h 0):Heap h:=fun j h1 h2=>u.1 j h1 h2(by omega)
theorem Up.done {h:List Tm} {k:Nat}(u:Up h k)(ho:Ok h k):Heap h:=fun j h1 h2=>by
 by_cases hj:j=k
 ·subst hj;exact ho
 ·exact u.1 j h1 h2 hj
theorem Both.down {h:List Tm} {i:Nat}(u:Both h i)(ho:i=0∨Ok h i):Down h i:=by
 refine⟨fun j h1 h2 h3=> ?_,u.2⟩;by_cases hj:j=i
 ·subst hj;rcases ho with rfl|ho
  ·omega
  ·exact ho
 ·exact u.1 j h1 h2 hj h3
theorem OW {h:List Tm} {k c:Nat}(u:Down h k)(hc0:0<c)(hc:c<h.length)(hp:par c=k)(ha:G7(at' h c)(at' h k)=true)
  (hm:∀d,0<d→d<h.length→par d=k→Le(at' h c)(at' h d)):Down(sw h k c)c:=by
 have hkc:=iQ hc0;have hk:k<h.length:=by omega
 have hs:=xA hk hc;have hle:=Le.of ha;refine⟨fun j h1 h2 h3=> ?_,fun _ d h2 h3 h4=> ?_⟩
 ·rw [dG]at h2;unfold Ok;rw [hs,hs,if_neg h3];by_cases hpk:par j=k
  ·rw [if_pos hpk];by_cases hjc:j=c
   ·rw [if_pos hjc];exact hle
   ·rw [if_neg hjc,if_neg(by have:=iQ h1;omega)];exact hm j h1 h2 hpk
  ·rw [if_neg hpk,if_neg(by rintro rfl;exact hpk hp)];by_cases hjk:j=k
   ·subst hjk;rw [if_pos rfl];have:=u.2 h1 c hc0 hc hp;exact this
   ·rw [if_neg hjk];exact u.1 j h1 h2 hpk
 ·rw [dG]at h3;have hpd:=iQ h2;rw [hs,hs,hp,if_neg(by omega),if_pos rfl,if_neg(by omega),if_neg(by omega)];have:=u.1 d h2 h3(by omega);unfold Ok at this;rw [h4]at this;exact this
theorem Down.done {h:List Tm} {k:Nat}(u:Down h k)(hm:∀d,0<d→d<h.length→par d=k→Le(at' h k)(at' h d)):Heap h:=fun j h1 h2=>by
 by_cases hp:par j=k
 ·unfold Ok;rw [hp];exact hm j h1 h2 hp
 ·exact u.1 j h1 h2 hp
theorem Heap.least {h:List Tm}(u:Heap h):∀j,j<h.length→Le(at' h 0)(at' h j):=by
 intro j
 induction j using Nat.strongRecOn with
 |ind j ih=>
  intro hj;by_cases h0:j=0
  ·subst h0;exact Le.refl _
  ·have hp:=iQ(show 0<j by omega);exact(ih _ hp(by omega)).trans(u j(by omega)hj)
def out(h:List Tm)(i:Nat):List Tm:=(sw h i(h.length - 1)).take(h.length - 1)
theorem oZ(h:List Tm)(i:Nat):(out h i).length=h.length - 1:=by simp [out,dG]
theorem T_ {h:List Tm} {i:Nat}(hi:i<h.length) {k:Nat}(hk:k<h.length - 1):at'(out h i)k=if k=i then at' h(h.length - 1)else at' h k:=by
 have hs:=xA hi(show h.length - 1<h.length by omega)k;rw [if_neg(by omega)]at hs;rw [←hs];unfold out at';simp only [List.getD,List.getElem?_take,if_pos hk]
theorem QW {h:List Tm} {i:Nat}(u:Heap h)(hi:i<h.length - 1):Both(out h i)i:=by
 have ha:=fun {k}(hk:k<h.length - 1)=>T_(show i<h.length by omega)hk;refine⟨fun j h1 h2 h3 h4=> ?_,fun h1 c h2 h3 h4=> ?_⟩
 ·rw [oZ]at h2;have hp:=iQ h1;unfold Ok;rw [ha h2,ha(by omega),if_neg h3,if_neg h4];exact u j h1(by omega)
 ·rw [oZ]at h3;have hp:=iQ h1;have hq:=iQ h2;rw [ha h3,ha(by omega),if_neg(by omega),if_neg(by omega)];have a:=u i h1(by omega);have b:=u c h2(by omega);unfold Ok at a b;rw [h4]at b;exact a.trans b
theorem QV {h:List Tm}(u:Heap h)(h0:0<h.length):Heap(out h(h.length - 1)):=by
 have ha:=fun {k}(hk:k<h.length - 1)=>T_(show h.length - 1<h.length by omega)hk;intro j h1 h2;rw [oZ]at h2;have hp:=iQ h1;unfold Ok;rw [ha h2,ha(by omega),if_neg(by omega),if_neg(by omega)];exact u j h1(by omega)
theorem QU {h:List Tm} {i:Nat}(hi:i<h.length):(at' h i::out h i).Perm h:=by
 have hp:=ui hi(show h.length - 1<h.length by omega);have hl:(sw h i(h.length - 1))[h.length - 1]?=some(at' h i):=by
  rw [iT(by rw [dG];omega),xA hi(by omega),if_pos rfl]
 have e:sw h i(h.length - 1)=out h i++ [at' h i]:=by
  conv=>lhs;rw [←List.take_append_drop(h.length - 1)(sw h i(h.length - 1))]
  unfold out
  congr 1
  have hd:(sw h i(h.length - 1)).length=h.length:=dG _ _ _;rw [List.drop_eq_getElem_cons(by omega),List.drop_of_length_le(by omega)];rw [List.getElem?_eq_getElem(by omega)]at hl;rw [Option.some.inj hl]
 rw [e]at hp;exact(List.Nk(l₁:=[at' h i])(l₂:=out h i)).trans hp
theorem Ue {h:List Tm}(u:Heap h)(x:Tm):Both(h++ [x])h.length:=by
 have ha:∀k,k<h.length→at'(h++ [x])k=at' h k:=by
  intro k hk;simp [at',List.getD,List.getElem?_append_left hk]
 refine⟨fun j h1 h2 h3 _=> ?_,fun h1 c h2 h3 h4=> ?_⟩
 ·rw [List.length_append,List.length_singleton]at h2;have hp:=iQ h1;unfold Ok;rw [ha j(by omega),ha _(by omega)];exact u j h1(by omega)
 ·rw [List.length_append,List.length_singleton]at h3;have:=iQ h2;omega
theorem Down.leaf {h:List Tm} {i:Nat}(u:Down h i)(hi:h.length≤2 * i+1):Heap h:=u.done fun d h1 h2 h3=>by
 unfold par at h3;omega
end Go.Proofs.YtakaadcpaeiccabGreat.Hp
