import Derived.Test.YtakaadcpaeiccabGreatC02
import Derived.Recover
import Derived.Defers
import Derived.Lib.EndianBits
import Derived.Laws.IdiomStrings
set_option maxHeartbeats 1000000
namespace Go.Proofs.YtakaadcpaeiccabGreat
open Go.RowKit
def ah.nums(p:ah):List(Nat×Int):=
 if p.kind=1 then [(4,p.id),(5,p.dest),(6,p.aW),(7,p.aI),(8,p.dm)]
 else if p.kind=2 then [(5,p.dest),(6,p.aW),(7,p.aI),(9,p.life)]
 else if p.kind=9 then [(4,p.id),(5,p.dest),(7,p.aI)]
 else []
def ptrs(B:Nat)(l:List(Nat×Int)):Array Value:=(l.map fun x=>Value.pointer(some⟨B,x.1,none⟩)).toArray
def adG(B:Nat)(l:List(Nat×Int))(ao:Option Addr)(base:Nat)(W:World):Prop:=
 ∀j,j<l.length→∃N,ao=some⟨N,0,none⟩∧base≤N∧W.heap[N]?=some(.cells(ptrs B l)189(0,0))
theorem FE(p:ah)(B:Nat)(w:World)(hc:w.cell?⟨B,1,none⟩=some(.int .i64 p.kind)):
  Calls Tryz.prog 86 #[.pointer(some⟨B,0,none⟩)]w fun e w'=>∃ao,e=.returned(.slice ao p.nums.length p.nums.length)∧Below w.heap.size w w'∧adG B p.nums ao w.heap.size w':=by
 have hnew:∀o,(w.alloc o).drew.heap[w.heap.size]?=some o:=fun o=>heap_alloc_new w o;by_cases h1:p.kind=1
 ·rw [h1]at hc;refine(ru B w hc).mono ?_;rintro e w'⟨rfl,rfl⟩;simp only [ah.nums,h1,if_true];exact⟨_,rfl,((Below.refl _ _).alloc(Nat.le_refl _)_).drew,fun j _=>⟨_,rfl,Nat.le_refl _,hnew _⟩⟩
 by_cases h2:p.kind=2
 ·rw [h2]at hc;refine(rq B w hc).mono ?_;rintro e w'⟨rfl,rfl⟩;have:p.nums=[(5,p.dest),(6,p.aW),(7,p.aI),(9,p.life)]:=by simp [ah.nums,h2]
  rw [this];exact⟨_,rfl,((Below.refl _ _).alloc(Nat.le_refl _)_).drew,fun j _=>⟨_,rfl,Nat.le_refl _,hnew _⟩⟩
 by_cases h9:p.kind=9
 ·rw [h9]at hc;refine(rf B w hc).mono ?_;rintro e w'⟨rfl,rfl⟩;have:p.nums=[(4,p.id),(5,p.dest),(7,p.aI)]:=by simp [ah.nums,h9]
  rw [this];exact⟨_,rfl,((Below.refl _ _).alloc(Nat.le_refl _)_).drew,fun j _=>⟨_,rfl,Nat.le_refl _,hnew _⟩⟩
 ·refine(ky B p.kind(by simpa using h1)(by simpa using h2)(by simpa using h9)w hc).mono ?_;rintro e w'⟨rfl,rfl⟩;have:p.nums=[]:=by simp [ah.nums,h1,h2,h9]
  rw [this];exact⟨none,rfl,Below.refl _ _,fun j hj=>absurd hj(by simp)⟩
theorem yt.below' {p:ah} {w W W1:World}(h:yt p w W)(hb:Below(w.heap.size+1)W W1):yt p w W1:=by
 obtain⟨c0,c1,c2,c3,c4,c5,c6,c7,c8,c9,c10,c11,hs,hB⟩:=h;have k:∀i,W1.cell?⟨w.heap.size,i,none⟩=W.cell?⟨w.heap.size,i,none⟩:=fun i=>hb.cell(p:=⟨w.heap.size,i,none⟩)(Nat.lt_succ_self _);exact⟨(k _).trans c0,(k _).trans c1,(k _).trans c2,(k _).trans c3,(k _).trans c4,(k _).trans c5,(k _).trans c6,(k _).trans c7,(k _).trans c8,(k _).trans c9,(k _).trans c10,(k _).trans c11,
  Nat.lt_of_lt_of_le hs hb.size,hB.trans(hb.mono(Nat.le_succ _))⟩
theorem FD(p:ah):p.nums.length≤5:=by
 unfold ah.nums;split
 ·simp
 split
 ·simp
 split<;>simp
def ah.jW(p:ah)(k:Nat):List Int:=(p.nums.take k).flatMap fun x=>b4 x.2
theorem NP {p:ah} {k o:Nat} {x:Int}(h:p.nums[k]?=some(o,x)):p.jW(k+1)=p.jW k++b4 x:=by
 unfold ah.jW;rw [List.take_add_one,h];simp
theorem OO(l:List(Nat×Int)):(l.flatMap fun x=>b4 x.2).length=4 * l.length:=by
 induction l with
 |nil=>rfl
 |cons a l ih=>simp only [List.flatMap_cons,List.length_append,ih,kH,List.length_cons];omega
theorem uE(p:ah)(k:Nat):(p.jW k).length≤20:=by
 unfold ah.jW;rw [OO];have:=FD p;have:=List.Rz k p.nums;have:=List.xO k p.nums;omega
theorem yt.Zn(p:ah)(w:World):yt p w(w.alloc p.box):=
 ⟨World.cell?_alloc_new w _ _ _,World.cell?_alloc_new w _ _ _,World.cell?_alloc_new w _ _ _,World.cell?_alloc_new w _ _ _,World.cell?_alloc_new w _ _ _,World.cell?_alloc_new w _ _ _,
 World.cell?_alloc_new w _ _ _,World.cell?_alloc_new w _ _ _,World.cell?_alloc_new w _ _ _,World.cell?_alloc_new w _ _ _,World.cell?_alloc_new w _ _ _,World.cell?_alloc_new w _ _ _,
 by simp,(Below.refl _ _).alloc(Nat.le_refl _)_⟩
theorem yt.drew' {p:ah} {w W:World}(h:yt p w W):yt p w W.drew:=by
 obtain⟨c0,c1,c2,c3,c4,c5,c6,c7,c8,c9,c10,c11,hs,hB⟩:=h;exact⟨c0,c1,c2,c3,c4,c5,c6,c7,c8,c9,c10,c11,hs,hB.drew⟩
theorem NM {p:ah} {w W:World}(hp:p.Wf)(h:yt p w W)(k:Nat)(hk:k<p.nums.length):
  ∃o x,p.nums[k]?=some(o,x)∧W.cell?⟨w.heap.size,o,none⟩=some(.int .u32 x)∧0≤x∧x<4294967296:=by
 obtain⟨c0,c1,c2,c3,c4,c5,c6,c7,c8,c9,c10,c11,hs,hB⟩:=h;obtain⟨h1,h2,h3,h4,h5,h6,i0,i1,d0,d1,s0,s1,f0,f1,g0,g1,l0,l1,h19,h20⟩:=hp;have hall:∀ox∈p.nums,W.cell?⟨w.heap.size,ox.1,none⟩=some(.int .u32 ox.2)∧0≤ox.2∧ox.2<4294967296:=by
  unfold ah.nums;split
  ·simp [*]
  split
  ·simp [*]
  split
  ·simp [*]
  ·simp
 have hm:=hall _(List.getElem_mem hk);exact⟨_,_,List.getElem?_eq_getElem hk,hm.1,hm.2⟩
structure iI(p:ah)(w:World)(ao:Option Addr)(wr:World)(b:Value)(xs:List Int):Prop where
 ZZ:yt p w wr
 own:wr.ownsRow(w.heap.size+1)5 1 b xs.length(U xs)
 nn:b≠ .slice none 0 0
 ptr:adG w.heap.size p.nums ao(w.heap.size+1)wr
theorem iI.base {p:ah} {w:World} {ao:Option Addr} {wr:World} {b:Value} {xs:List Int}(h:iI p w ao wr b xs):w.heap.size+1≤wr.heap.size:=by
 obtain⟨_,_,_,_,_,_,_,_,_,_,_,_,hs,_⟩:=h.ZZ;omega
theorem NE {W:World} {base:Nat} {b:Value} {n:Nat} {xs:List Value}(h:W.ownsRow base 5 1 b n xs) {N:Nat} {c:Array Value} {f:Nat×Nat}
  (hN:W.heap[N]?=some(.cells c 189 f)):some N≠b.ownBlock:=by
 intro he;rcases h.2 with⟨rfl,_⟩|⟨g,cap,cur,rfl,_,hg,_⟩
 ·simp [Value.ownBlock]at he
 ·simp [Value.ownBlock]at he;subst he;rw [hN]at hg;simp at hg
theorem QS(base:Nat)(w:World)(x0 x1 x2 x3 x4:Int)(hb:base≤w.heap.size):
  (w.alloc(.cells #[.int .u8 x0,.int .u8 x1,.int .u8 x2,.int .u8 x3,.int .u8 x4]5)).ownsRow base 5 1(.slice(some⟨w.heap.size,0,none⟩)5 5) [x0,x1,x2,x3,x4].length(U [x0,x1,x2,x3,x4]):=
 ⟨rfl,.inr⟨w.heap.size,5,_,rfl,hb,heap_alloc_new w _,Nat.le_refl _,by decide,rfl,rfl⟩⟩
theorem iI.step {p:ah} {w:World} {ao:Option Addr} {wr w1:World} {b v':Value} {xs ys:List Int}(h:iI p w ao wr b xs)
  (hg:wr.grownBy w1 b.ownBlock)(ho:w1.ownsRow(w.heap.size+1)5 1 v' ys.length(U ys))(hv:v'≠ .slice none 0 0):iI p w ao w1 v' ys:=by
 have hlt:=h.own.lt;have hb:Below(w.heap.size+1)wr w1:=(Below.refl _ _).grown hg h.base fun k hk=>(hlt k hk).1;refine⟨h.ZZ.below' hb,ho,hv,fun j hj=> ?_⟩;obtain⟨N,h1,h2,h3⟩:=h.ptr j hj;refine⟨N,h1,h2,?_⟩;rw [hg.block N(Array.getElem?_eq_some_iff.1 h3).1(NE h.own h3)];exact h3
theorem iI.alloc {p:ah} {w:World} {ao:Option Addr} {wr:World} {b:Value} {xs:List Int}(h:iI p w ao wr b xs)(o:Obj):iI p w ao(wr.alloc o)b xs:=by
 refine⟨h.ZZ.below'((Below.refl _ _).alloc h.base _),h.own.alloc o,h.nn,fun j hj=> ?_⟩;obtain⟨N,h1,h2,h3⟩:=h.ptr j hj;refine⟨N,h1,h2,?_⟩;rw [Below.heap_alloc wr o N(Array.getElem?_eq_some_iff.1 h3).1];exact h3
theorem iI.drew {p:ah} {w:World} {ao:Option Addr} {wr:World} {b:Value} {xs:List Int}(h:iI p w ao wr b xs):iI p w ao wr.drew b xs:=by
 obtain⟨h1,h2,h3,h4⟩:=h;obtain⟨c0,c1,c2,c3,c4,c5,c6,c7,c8,c9,c10,c11,hs,hB⟩:=h1;exact⟨⟨c0,c1,c2,c3,c4,c5,c6,c7,c8,c9,c10,c11,hs,hB.drew⟩,h2.drew,h3,h4⟩
theorem iI.V8 {p:ah} {w:World} {ao:Option Addr} {wr:World} {b:Value} {xs:List Int}(h:iI p w ao wr b xs)(k:Nat)(hk:k<p.nums.length) {o:Nat} {x:Int}(hox:p.nums[k]?=some(o,x)):
  ∃N,ao=some⟨N,0,none⟩∧wr.cell?⟨N,k,none⟩=some(.pointer(some⟨w.heap.size,o,none⟩)):=by
 obtain⟨N,h1,h2,h3⟩:=h.ptr k hk;refine⟨N,h1,?_⟩;rw [cell_of_row wr N k _ _ _ h3];simp [ptrs,hox]
def aF(s:ByteArray):List Int:=s.data.toList.map fun b=>(b.toNat:Int)
theorem xy(s:ByteArray):byteCells s=U(aF s):=by simp [byteCells,U,aF]
theorem dx(s:ByteArray):(aF s).length=s.size:=by simp [aF]
@[reducible] def Ey (n : Nat) (d s : Int) (W : World) : Prop :=
 W.heap[n]?=some(.cells #[.int .u32 d,.int .u32 s]237(0,0))∧W.cell?⟨n,0,none⟩=some(.int .u32 d)∧W.cell?⟨n,1,none⟩=some(.int .u32 s)
theorem Ey.start(w:World)(d s:Int):Ey w.heap.size d s(w.alloc(.cells #[.int .u32 d,.int .u32 s]237)).drew:=
 ⟨heap_alloc_new w _,World.cell?_alloc_new w _ _ _,World.cell?_alloc_new w _ _ _⟩
theorem Ey.grown {n:Nat} {d s:Int} {W W1:World} {base:Nat} {b:Value} {m:Nat} {xs:List Value}(h:Ey n d s W)(ho:W.ownsRow base 5 1 b m xs)(hg:W.grownBy W1 b.ownBlock):Ey n d s W1:=by
 obtain⟨h1,h2,h3⟩:=h;have hne:some n≠b.ownBlock:=by
  intro he;rcases ho.2 with⟨rfl,_⟩|⟨g,cap,cur,rfl,_,hg,_⟩
  ·simp [Value.ownBlock]at he
  ·simp [Value.ownBlock]at he;subst he;rw [h1]at hg;simp at hg
 exact⟨(hg.block n(Array.getElem?_eq_some_iff.1 h1).1 hne).trans h1,hg.cell h2 hne,hg.cell h3 hne⟩
def gL(L:List(Int×Int))(k:Nat):List Int:=(L.take k).flatMap fun x=>b4 x.1++b4 x.2
theorem Jd {L:List(Int×Int)} {k:Nat} {d s:Int}(h:L[k]?=some(d,s)):gL L(k+1)=gL L k++b4 d++b4 s:=by
 unfold gL;rw [List.take_add_one,h];simp
theorem v_(l:List(Int×Int)):(l.flatMap fun x=>b4 x.1++b4 x.2).length=8 * l.length:=by
 induction l with
 |nil=>rfl
 |cons a l ih=>simp only [List.flatMap_cons,List.length_append,ih,kH,List.length_cons];omega
theorem BU(L:List(Int×Int))(k:Nat):(gL L k).length≤8 * L.length:=by
 unfold gL;rw [v_];have:=List.xO k L;omega
theorem BI {W:World} {base e size:Nat} {v:Value} {n:Nat} {xs:List Value}(h:W.ownsRow base e size v n xs)(hv:v≠ .slice none 0 0):
  ∃g cap,v=.slice(some⟨g,0,none⟩)n cap∧base≤g:=by
 rcases h.2 with⟨rfl,_⟩|⟨g,cap,cur,rfl,hb,_⟩
 ·exact absurd rfl hv
 ·exact⟨g,cap,rfl,hb⟩
@[reducible] def broken : List PanicEntry := [{ v := .iface 47 (.int .i64 1), recovered := false }]
theorem require_ok(w:World):Calls Tryz.prog 85 #[.bool true]w fun e w'=>e=.returned(.tuple #[])∧w'=w:=by
 go_enter Tryz.func85,Tryz.ntmps85
 go_wp2
 go_returns
 exact⟨rfl,rfl⟩
theorem bK(w:World):Calls Tryz.prog 85 #[.bool false]w fun e w'=>e=.panicked broken∧w'=w:=by
 go_enter Tryz.func85,Tryz.ntmps85
 go_wp2
 exact⟨rfl,rfl,rfl⟩
def eH(W:World)(v:Value)(xs:List Int):Prop:=
 (∀x∈xs,0≤x∧x≤255)∧((v=.slice none 0 0∧xs=[])∨
  ∃b o c,v=.slice(some⟨b,o,none⟩)xs.length c∧xs.length≤c∧c≤9223372036854775807∧∀(j:Nat)(x:Int),xs[j]?=some x→W.cell?⟨b,o+j,none⟩=some(.int .u8 x))
def Rd(R:Nat)(xs:List Int)(W:World):Prop:=∃v,W.cell?⟨R,0,none⟩=some v∧W.frozen?⟨R,0,none⟩=false∧eH W v xs
theorem eH.set {W:World} {v u u':Value} {xs:List Int} {R:Nat}(h:eH W v xs)(hR:W.cell?⟨R,0,none⟩=some u)(hu:∀k n,u≠ .int k n):eH(W.setCell⟨R,0,none⟩u')v xs:=by
 refine⟨h.1,?_⟩;rcases h.2 with h|⟨b,o,c,rfl,h1,h2,h3⟩
 ·exact .inl h
 ·refine .inr⟨b,o,c,rfl,h1,h2,fun j x hx=> ?_⟩;have hc:=h3 j x hx;rw [World.cell?_setCell_other _ _ _ _(fun e=>by rw [←e,hR]at hc;exact hu _ _(Option.some.inj hc))];exact hc
theorem eH.part {W:World} {b o c:Nat} {xs:List Int}(hb:∀x∈xs,0≤x∧x≤255)(h1:xs.length≤c)(h2:c≤9223372036854775807)(h3:∀(j:Nat)(x:Int),xs[j]?=some x→W.cell?⟨b,o+j,none⟩=some(.int .u8 x))(n:Nat)(hn:n≤xs.length):
  eH W(.slice(some⟨b,o,none⟩)n c)(xs.take n)∧eH W(.slice(some⟨b,o+n,none⟩)(xs.length - n)(c - n))(xs.drop n):=by
 refine⟨⟨fun x hx=>hb x(List.mem_of_mem_take hx),.inr⟨b,o,c,?_,?_,h2,fun j x hx=> ?_⟩⟩,⟨fun x hx=>hb x(List.mem_of_mem_drop hx),.inr⟨b,o+n,c - n,?_,?_,by omega,fun j x hx=> ?_⟩⟩⟩
 ·rw [List.length_take,Nat.min_eq_left hn]
 ·rw [List.length_take];omega
 ·rw [List.getElem?_take]at hx;split at hx
  ·exact h3 j x hx
  ·cases hx
 ·rw [List.length_drop]
 ·rw [List.length_drop];omega
 ·rw [List.getElem?_drop]at hx;have:=h3(n+j)x hx;rw [Nat.add_assoc];exact this
theorem MO(R:Nat)(b o l c:Nat)(n:Nat)(w:World)(hn:n≤l)(hlc:l≤c)(hr:w.cell?⟨R,0,none⟩=some(.slice(some⟨b,o,none⟩)l c))(hf:w.frozen?⟨R,0,none⟩=false):
  Calls Tryz.prog 89 #[.pointer(some⟨R,0,none⟩),.int .i64 n]w fun e w'=>e=.returned(.slice(some⟨b,o,none⟩)n c)∧
   ((c=n∧w'=w.setCell⟨R,0,none⟩(.slice(some⟨b,o,none⟩)(l - n)0))∨w'=w.setCell⟨R,0,none⟩(.slice(some⟨b,o+n,none⟩)(l - n)(c - n))):=by
 go_enter Tryz.func89,Tryz.ntmps89
 go_wp2_with(go_at_call 85;refine(require_ok _).mono ?_;rintro e w1⟨rfl,rfl⟩)
 case inl=>go_ret;exact⟨rfl,.inl rfl⟩
 case inr=>go_ret;exact⟨rfl,rfl⟩
theorem Iu(R:Nat)(a:Option Addr)(l c:Nat)(n:Nat)(w:World)(hn:l<n)(hr:w.cell?⟨R,0,none⟩=some(.slice a l c)):
  Calls Tryz.prog 89 #[.pointer(some⟨R,0,none⟩),.int .i64 n]w fun e w'=>e=.panicked broken∧w'=w:=by
 have hd:decide(n≤l)=false:=decide_eq_false(by omega);go_enter Tryz.func89,Tryz.ntmps89
 go_wp2_with(go_at_call 85;refine(bK _).mono ?_;rintro e w1⟨rfl,rfl⟩)
 exact⟨rfl,rfl,rfl⟩
theorem EP(R:Nat)(w:World)(hr:w.cell?⟨R,0,none⟩=some(.slice none 0 0))(hf:w.frozen?⟨R,0,none⟩=false):
  Calls Tryz.prog 89 #[.pointer(some⟨R,0,none⟩),.int .i64 0]w fun e w'=>e=.returned(.slice none 0 0)∧w'=w.setCell⟨R,0,none⟩(.slice none 0 0):=by
 go_enter Tryz.func89,Tryz.ntmps89
 go_wp2_with(go_at_call 85;refine(require_ok _).mono ?_;rintro e w1⟨rfl,rfl⟩)
 all_goals(go_ret;exact⟨rfl,rfl⟩)
def adE(R:Nat)(n:Nat)(xs:List Int)(W:World)(e:Ending)(w':World):Prop:=
 (n≤xs.length∧(∃v,e=.returned v∧eH w' v(xs.take n))∧Rd R(xs.drop n)w'∧W.grownBy w'(some R)∧Below R W w')∨(xs.length<n∧e=.panicked broken∧w'=W)
theorem vX(W:World)(R:Nat)(u:Value):W.grownBy(W.setCell⟨R,0,none⟩u)(some R):=⟨rfl,rfl,rfl,by simp,fun k _ hk=>Below.heap_setCell W⟨R,0,none⟩u k(fun e=>hk(by simp [e]))⟩
theorem wz(W:World)(R:Nat)(u:Value):Below R W(W.setCell⟨R,0,none⟩u):=(Below.refl _ _).setCell(p:=⟨R,0,none⟩)(Nat.le_refl _)_
theorem uh(R n:Nat)(xs:List Int)(W:World)(h:Rd R xs W):
  Calls Tryz.prog 89 #[.pointer(some⟨R,0,none⟩),.int .i64 n]W fun e w'=>adE R n xs W e w':=by
 obtain⟨v,hr,hf,hb,hv⟩:=h;by_cases hn:n≤xs.length
 ·rcases hv with⟨rfl,rfl⟩|⟨b,o,c,rfl,h1,h2,h3⟩
  ·obtain rfl:n=0:=by simpa using hn
   refine(EP R W hr hf).mono ?_;rintro e w'⟨rfl,rfl⟩;have hr0:∀W':World,eH W'(.slice none 0 0) []:=fun W'=>⟨by simp,.inl⟨rfl,rfl⟩⟩;exact .inl⟨hn,⟨_,rfl,hr0 _⟩,⟨_,World.cell?_setCell_same _ _ _ hr,(World.frozen?_setCell _ _ _ _).trans hf,hr0 _⟩,vX _ _ _,wz _ _ _⟩
  ·have Si:=eH.part hb h1 h2 h3 n hn;refine(MO R b o xs.length c n W hn h1 hr hf).mono ?_;rintro e w'⟨rfl,⟨hcn,rfl⟩|rfl⟩
   ·refine .inl⟨hn,⟨_,rfl,Si.1.set hr(by simp)⟩,⟨_,World.cell?_setCell_same _ _ _ hr,(World.frozen?_setCell _ _ _ _).trans hf,?_⟩,vX _ _ _,wz _ _ _⟩;have hx:xs.drop n=[]:=List.drop_eq_nil_of_le(by omega);rw [hx];refine⟨by simp,.inr⟨b,o,0,?_,by simp,by omega,by simp⟩⟩;rw [show xs.length - n=([]:List Int).length by simp;omega]
   ·exact .inl⟨hn,⟨_,rfl,Si.1.set hr(by simp)⟩,⟨_,World.cell?_setCell_same _ _ _ hr,(World.frozen?_setCell _ _ _ _).trans hf,Si.2.set hr(by simp)⟩,vX _ _ _,wz _ _ _⟩
 ·have hs:∃a c,v=.slice a xs.length c:=by
   rcases hv with⟨rfl,rfl⟩|⟨b,o,c,rfl,_⟩
   ·exact⟨_,_,rfl⟩
   ·exact⟨_,_,rfl⟩
  obtain⟨a,c,rfl⟩:=hs;refine(Iu R a xs.length c n W(by omega)hr).mono ?_;rintro e w'⟨rfl,rfl⟩;exact .inr⟨by omega,rfl,rfl⟩
theorem lT {W:World} {v:Value} {xs:List Int}(h:eH W v xs) {j:Nat} {x:Int}(hx:xs[j]?=some x):
  0≤x∧x≤255∧∃b o c,v=.slice(some⟨b,o,none⟩)xs.length c∧W.cell?⟨b,o+j,none⟩=some(.int .u8 x):=by
 have hb:=h.1 x(List.mem_of_getElem? hx);rcases h.2 with⟨_,rfl⟩|⟨b,o,c,rfl,_,_,h3⟩
 ·simp at hx
 ·exact⟨hb.1,hb.2,b,o,c,rfl,h3 j x hx⟩
theorem Df(R:Nat)(xs:List Int)(W:World)(h:Rd R xs W):
  Calls Tryz.prog 84 #[.pointer(some⟨R,0,none⟩)]W fun e w'=>(∃x ys,xs=x::ys∧0≤x∧x≤255∧e=.returned(.int .i64 x)∧Rd R ys w'∧W.grownBy w'(some R)∧Below R W w')∨(xs=[]∧e=.panicked broken∧w'=W):=by
 go_enter Tryz.func84,Tryz.ntmps84
 go_wp2_with fail
 refine(uh R 1 xs W h).mono ?_;rintro e w1(⟨hn,⟨v,rfl,hv⟩,hrd,hg,hbl⟩|⟨hn,rfl,rfl⟩)
 ·obtain⟨x,ys,rfl⟩:∃x ys,xs=x::ys:=by
   cases xs with
   |nil=>simp at hn
   |cons x ys=>exact⟨x,ys,rfl⟩
  obtain⟨hx0,hx1,b,o,c,hv',hcell⟩:=lT hv(j:=0)(x:=x)rfl;simp only [List.take_succ_cons,List.take_zero,List.length_cons,List.length_nil,Nat.zero_add,Nat.add_zero]at hv' hcell;subst hv';clear hv;go_wp2
  go_ret
  exact .inl⟨x,ys,rfl,hx0,hx1,rfl,hrd,hg,hbl⟩
 ·obtain rfl:xs=[]:=List.eq_nil_of_length_eq_zero(by omega);exact⟨rfl,.inr⟨rfl,rfl,rfl⟩⟩
theorem adp {c:Nat}(hc:c<4294967296)(h:(bits .and .u32(c:Int)1==1)=true):bits .xor .u32((c:Int)/ 2)3988292384=((EJ.g c:Nat):Int):=by
 rw [show(1:Int)=((1:Nat):Int)from rfl,u32_and_nat c 1 hc(by omega),Nat.and_one_is_mod]at h;have h1:c%2=1:=by
  have:=beq_iff_eq.1 h;omega
 rw [show(c:Int)/ 2=((c / 2:Nat):Int)by omega,show(3988292384:Int)=((3988292384:Nat):Int)from rfl,u32_xor_nat(c / 2)3988292384(by omega)(by omega)];unfold EJ.g;rw [if_pos h1]
theorem aaZ {c:Nat}(hc:c<4294967296)(h:(bits .and .u32(c:Int)1==1)=false):(c:Int)/ 2=((EJ.g c:Nat):Int):=by
 rw [show(1:Int)=((1:Nat):Int)from rfl,u32_and_nat c 1 hc(by omega),Nat.and_one_is_mod]at h;have h1:¬c%2=1:=by
  have:=beq_eq_false_iff_ne.1 h;omega
 unfold EJ.g;rw [if_neg h1];omega
theorem AU(n:Int)(h0:0≤n)(h1:n≤255)(w:World):
  Calls Tryz.prog 91 #[.int .u8 n]w fun e w'=>e=.returned(.int .u32(EJ.tab n.toNat:Nat))∧w'=w:=by
 obtain⟨m,rfl⟩:=Int.eq_ofNat_of_zero_le h0;go_enter Tryz.func91,Tryz.ntmps91
 go_wp2
 go_loop [3,7](fun s i=>∃k:Nat,k≤8∧i=.int .i64 k∧s=.int .u32(EJ.gs k m:Nat))(fun _ i=>8 - (intOf i).toNat)
 case atStart=>exact⟨0,by omega,rfl,rfl⟩
 case round=>
  obtain⟨k,hk,rfl,rfl⟩:=hrel;have hc:EJ.gs k m<4294967296:=EJ.Tp(by omega)k;by_cases hlt:k<8
  ·go_wp2
   ·rename_i h;have he:=adp hc h;go_round
    case rel=>exact⟨k+1,by omega,by go_num,by rw [he];rfl⟩
    case measure=>simp [intOf];omega
   ·rename_i h;have he:=aaZ hc h;go_round
    case rel=>exact⟨k+1,by omega,by go_num,by rw [he];rfl⟩
    case measure=>simp [intOf];omega
  ·go_wp2
   go_ret
   obtain rfl:k=8:=by omega
   exact⟨rfl,rfl⟩
def Wy(xs:List Int):List Nat:=xs.map Int.toNat
theorem ZP {xs:List Int}(h:∀x∈xs,0≤x∧x≤255):∀x∈Wy xs,x<256:=by
 intro x hx;simp only [Wy,List.mem_map]at hx;obtain⟨y,hy,rfl⟩:=hx;have:=h y hy;omega
def zX(xs:List Int):Nat:=EJ.run(Wy xs)4294967295
def crc(xs:List Int):Int:=4294967295 - (zX xs:Int)
theorem Ee {xs:List Int}(h:∀x∈xs,0≤x∧x≤255):zX xs<4294967296:=EJ.Qv _(by omega)(ZP h)
theorem TH {xs:List Int}(h:∀x∈xs,0≤x∧x≤255):0≤crc xs∧crc xs<4294967296:=by
 have:=Ee h;unfold crc;omega
theorem OX(xs:List Int)(x:Int):zX(xs++ [x])=EJ.step(zX xs)x.toNat:=by
 unfold zX Wy;rw [List.map_append,EJ.yP];rfl
theorem Qi {s:Nat} {x:Int}(hs:s<4294967296)(h0:0≤x)(h1:x≤255):
  bits .xor .u32((EJ.tab(bits .xor .u8((s:Int)%256)x).toNat:Nat):Int)((s:Int)/ 256)=((EJ.step s x.toNat:Nat):Int):=by
 obtain⟨m,rfl⟩:=Int.eq_ofNat_of_zero_le h0;rw [show(s:Int)%256=((s%256:Nat):Int)by omega,u8_xor_nat(s%256)m(by omega)(by omega),Int.toNat_natCast,
  show(s:Int)/ 256=((s / 256:Nat):Int)by omega,u32_xor_nat _ _(EJ.Qf(by have:=EJ.yw(Nat.mod_lt s(by decide:0<256))(show m<256 by omega);omega))(by omega)]
 rfl
theorem MQ(xs:List Int)(k:Nat) {x:Int}(h:xs[k]?=some x):xs.take(k+1)=xs.take k++ [x]:=by
 rw [List.take_add_one,h];rfl
theorem Zk {xs:List Int}(h:∀x∈xs,0≤x∧x≤255)(k:Nat):∀x∈xs.take k,0≤x∧x≤255:=fun x hx=>h x(List.mem_of_mem_take hx)
theorem XR {c:Nat}(hc:c<4294967296):bits .xor .u32 IntKind.u32.max(c:Int)=4294967295 - (c:Int):=by
 rw [show IntKind.u32.max=((4294967295:Nat):Int)from rfl,u32_xor_nat 4294967295 c(by omega)hc];have h:=congrArg BitVec.toNat(BitVec.allOnes_xor(w:=32)(x:=BitVec.ofNat 32 c));rw [BitVec.toNat_xor,BitVec.toNat_not,BitVec.toNat_ofNat,BitVec.UQ,Nat.mod_eq_of_lt hc]at h;simp only [Nat.reducePow,Nat.add_one_sub_one]at h;omega
theorem Kv(v:Value)(xs:List Int)(w:World)(hv:eH w v xs):
  Calls Tryz.prog 58 #[v]w fun e w'=>e=.returned(.int .u32(crc xs))∧w'=w:=by
 obtain⟨a,c,rfl⟩:∃a c,v=.slice a xs.length c:=by
  rcases hv.2 with⟨rfl,rfl⟩|⟨b,o,c,rfl,_⟩
  ·exact⟨_,_,rfl⟩
  ·exact⟨_,_,rfl⟩
 have hlen:xs.length≤9223372036854775807:=by
  rcases hv.2 with⟨_,rfl⟩|⟨b,o,c,_,h1,h2,_⟩
  ·simp
  ·omega
 have hb:=hv.1;go_enter Tryz.func58,Tryz.ntmps58
 go_wp2
 go_loop [3,8](fun s i=>∃k:Nat,k≤xs.length∧i=.int .i64 k∧s=.int .u32(zX(xs.take k):Nat))(fun _ i=>xs.length - (intOf i).toNat)
 case atStart=>exact⟨0,by omega,rfl,rfl⟩
 case round=>
  obtain⟨k,hk,rfl,rfl⟩:=hrel;have hc:=Ee(Zk hb k);by_cases hlt:k<xs.length
  ·obtain⟨x,hx⟩:∃x,xs[k]?=some x:=⟨_,List.getElem?_eq_getElem hlt⟩;obtain⟨hx0,hx1,b,o,c',he,hcell⟩:=lT hv hx;simp only [Value.slice.injEq]at he;obtain⟨rfl,he1,rfl⟩:=he;clear he1;have hst:Hid _:=Qi hc hx0 hx1;have hsn:Hid _:=OX(xs.take k)x;have hts:Hid _:=MQ xs k hx;have hq:0≤bits .xor .u8((zX(xs.take k):Int)%256)x∧bits .xor .u8((zX(xs.take k):Int)%256)x≤255:=by
    obtain⟨m,rfl⟩:=Int.eq_ofNat_of_zero_le hx0;rw [show(zX(xs.take k):Int)%256=((zX(xs.take k)%256:Nat):Int)by omega,u8_xor_nat _ m(by omega)(by omega)];have:=EJ.yw(Nat.mod_lt(zX(xs.take k))(by decide:0<256))(show m<256 by omega);omega
   clear hx hv hb;go_wp2_with(go_at_call 91;refine(AU _ hq.1 hq.2 _).mono ?_;rintro e w1⟨rfl,rfl⟩)
   go_round
   case rel=>exact⟨k+1,by omega,by go_num,by rw [hst.out,hts.out,hsn.out]⟩
   case measure=>simp [intOf];omega
  ·go_wp2
   go_ret
   obtain rfl:k=xs.length:=by omega
   simp only [List.take_length];exact⟨uw(XR(Ee hb)),trivial⟩
theorem ol {W:World} {v:Value} {xs:List Int}(h:eH W v xs):(convert 58 9 v).run Tryz.prog W=.ok(.string(strOfNums xs))W:=by
 rcases h.2 with⟨rfl,rfl⟩|⟨b,o,c,rfl,_,_,h3⟩
 ·exact run_convert_bytes_nil(P:=Tryz.prog)W 58 5 Tryz.underlying58 Tryz.underlying5 0 0 9 Tryz.underlying9
 ·refine run_convert_bytes_arg(P:=Tryz.prog)W 58 5 Tryz.underlying58 Tryz.underlying5 b o xs.length c xs rfl ?_ 9 Tryz.underlying9;intro i hi;rw [h3 i xs[i](List.getElem?_eq_getElem hi)];simp [hi]
theorem XZ {n:Int}(h0:0≤n)(h1:n<4294967296):∀x∈b4 n,0≤x∧x≤255:=by
 intro x hx;simp only [b4,List.mem_cons,List.not_mem_nil,or_false]at hx;rcases hx with rfl|rfl|rfl|rfl<;>omega
theorem nM(s:ByteArray):∀x∈aF s,0≤x∧x≤255:=by
 intro x hx;simp only [aF,List.mem_map]at hx;obtain⟨b,_,rfl⟩:=hx;have:=b.toNat_lt;omega
theorem qz {W:World} {base:Nat} {v:Value} {xs:List Int}(h:W.ownsRow base 5 1 v xs.length(U xs))(hb:∀x∈xs,0≤x∧x≤255):eH W v xs:=by
 refine⟨hb,?_⟩;rcases id h.2 with⟨rfl,h0⟩|⟨g,cap,cur,rfl,_,_,h1,h2,_⟩
 ·exact .inl⟨rfl,List.eq_nil_of_length_eq_zero h0⟩
 ·refine .inr⟨g,0,cap,rfl,h1,by unfold maxLen at h2;omega,fun j x hx=> ?_⟩;have hj:j<xs.length:=by
   rcases Nat.lt_or_ge j xs.length with h|h
   ·exact h
   ·rw [List.getElem?_eq_none h]at hx;cases hx
  rw [Nat.zero_add,h.cellAt j(by omega)];simp [U,hx]
theorem Qy(s:ByteArray)(hs:s.size≤65536)(w:World)(fz:Nat×Nat):eH(w.drew.alloc(.cells(bytesRow s(grownCap w s.size 0 5))5 fz))(.slice(some⟨w.heap.size,0,none⟩)s.size(grownCap w s.size 0 5))(aF s):=by
 refine⟨nM s,.inr⟨w.heap.size,0,_,by rw [dx],by rw [dx];exact grownCap_ge _ _ _ _,?_,fun j x hx=> ?_⟩⟩
 ·exact grownCap_le_maxLen w s.size 0 _(by unfold maxLen;omega)
 ·have hj:j<s.size:=by
   rcases Nat.lt_or_ge j s.size with h|h
   ·exact h
   ·rw [List.getElem?_eq_none(by rw [dx];exact h)]at hx;cases hx
  have hh:=heap_alloc_new w.drew(.cells(bytesRow s(grownCap w s.size 0 5))5 fz);rw [Nat.zero_add];refine(cell_of_row _ _ j _ _ _ hh).trans ?_;unfold bytesRow;rw [Array.getElem?_append_left(by simpa using hj)];simp only [aF,List.getElem?_map]at hx;simp only [Array.getElem?_map];cases hq:s.data[j]? with
  |none=>simp [hq]at hx
  |some b=>
   simp [hq]at hx;subst hx;rfl
theorem aC(A:World)(r:Option Nat):A.grownBy A r:=⟨rfl,rfl,rfl,Nat.le_refl _,fun _ _ _=>rfl⟩
theorem aa {A B:World} {g:Nat}(h:A.grownBy B(some g))(j:Nat)(v:Value):A.grownBy(B.setCell⟨g,j,none⟩v)(some g):=
 ⟨h.os,h.tape,h.output,by simpa using h.size,fun i hi hne=>(Below.heap_setCell B⟨g,j,none⟩v i(fun e=>hne(by rw [e]))).trans(h.block i hi hne)⟩
theorem eH.kept {W W':World} {v:Value} {xs:List Int}(h:eH W v xs)(hb:Below W.heap.size W W'):eH W' v xs:=by
 refine⟨h.1,?_⟩;rcases h.2 with h|⟨b,o',c,rfl,k1,k2,k3⟩
 ·exact .inl h
 ·exact .inr⟨b,o',c,rfl,k1,k2,fun j x hx=>(hb.cell(World.block_lt_of_cell? W _(k3 j x hx))).trans(k3 j x hx)⟩
theorem Rd.kept {R:Nat} {xs:List Int} {W W':World}(h:Rd R xs W)(hb:Below W.heap.size W W'):Rd R xs W':=by
 obtain⟨v,h1,h2,hx,h3⟩:=h;have hlt:=World.block_lt_of_cell? W _ h1;refine⟨v,(hb.cell hlt).trans h1,(hb.frozen hlt).trans h2,hx,?_⟩;rcases h3 with h|⟨b,o',c,rfl,k1,k2,k3⟩
 ·exact .inl h
 ·exact .inr⟨b,o',c,rfl,k1,k2,fun j x hx=>(hb.cell(World.block_lt_of_cell? W _(k3 j x hx))).trans(k3 j x hx)⟩
end Go.Proofs.YtakaadcpaeiccabGreat
