import Derived.Test.YtakaadcpaeiccabGreatC04
import Derived.Shelf.SlIter.Collect
import Derived.Maps.AppendAt
namespace Go.Proofs.YtakaadcpaeiccabGreat
def pJ(x:Bool×Int×Int):List Int:=yS x.1 x.2.1 x.2.2
def norm(x:Bool×Int×Int):Bool×Int×Int:=(x.1,if x.1 then 0 else x.2.1,x.2.2)
def bn(L:List(Bool×Int×Int)):List Int:=L.flatMap pJ
def pW(L:List(Bool×Int×Int)):Prop:=∀x∈L,(0≤x.2.1∧x.2.1<4294967296)∧0≤x.2.2∧x.2.2<4294967296
theorem g_(L:List(Bool×Int×Int)):(bn L).length=13 * L.length:=by
 induction L with
 |nil=>rfl
 |cons a L ih=>
  simp only [bn,List.flatMap_cons,List.length_append,List.length_cons]at ih ⊢;rw [ih,show(pJ a).length=13 from rfl];omega
theorem jU(a b:List(Bool×Int×Int)):bn(a++b)=bn a++bn b:=by simp [bn]
theorem Jz(x:Bool×Int×Int)(L:List(Bool×Int×Int)):bn(x::L)=pJ x++bn L:=rfl
theorem D6 {L:List(Bool×Int×Int)}(h:pW L):∀x∈bn L,0≤x∧x≤255:=by
 intro x hx;simp only [bn,List.mem_flatMap]at hx;obtain⟨y,hy,hx⟩:=hx;have:=h y hy;exact Qz this.1.1 this.1.2 this.2.1 this.2.2 x hx
theorem Rl(n:Int):n4(n / 16777216)(n / 65536%256)(n / 256%256)(n%256)=n:=by
 unfold n4;omega
theorem QG(x:Bool×Int×Int)(ys:List Int):rO(pJ x++ys)=x.1:=by
 obtain⟨o,a,s⟩:=x;cases o<;>rfl
theorem QH(x:Bool×Int×Int)(ys:List Int):rA(pJ x++ys)=if x.1 then 0 else x.2.1:=by
 obtain⟨o,a,s⟩:=x;cases o
 ·exact Rl a
 ·rfl
theorem QF(x:Bool×Int×Int)(ys:List Int):rS(pJ x++ys)=x.2.2:=by
 obtain⟨o,a,s⟩:=x;exact Rl s
theorem Nb(x:Bool×Int×Int):yS x.1(if x.1 then 0 else x.2.1)x.2.2=pJ x:=by
 obtain⟨o,a,s⟩:=x;cases o<;>rfl
theorem Wo(x:Bool×Int×Int)(ys:List Int):AX(pJ x++ys)=true:=by
 have hl:(pJ x).length=13:=rfl;unfold AX;rw [QG,QH,QF,Nb,List.take_append_of_le_length(by omega),List.take_of_length_le(by omega),decide_eq_true rfl,Bool.and_true];exact decide_eq_true(by rw [List.length_append];omega)
theorem NH {xs:List Int}(h:xs.length<13):AX xs=false:=by
 unfold AX;rw [decide_eq_false(by omega),Bool.false_and]
theorem QC(L:List(Bool×Int×Int))(r:List Int)(hr:AX r=false):∀f,(bn L++r).length≤f→IM f(bn L++r)=L.map norm:=by
 induction L with
 |nil=>
  intro f _;simp only [bn,List.flatMap_nil,List.nil_append,List.map_nil];exact QA hr f
 |cons x L ih=>
  intro f hf;have hl:(pJ x).length=13:=rfl;have he:bn(x::L)++r=pJ x++(bn L++r):=by simp [bn]
  rw [he]at hf ⊢;rw [KH(Wo x _)hf,QG,QH,QF];rw [List.Bd(by omega),List.drop_of_length_le(by omega),List.nil_append,ih _(by rw [List.length_append,hl]at hf;omega)];rfl
theorem Lt(L:List(Bool×Int×Int))(r:List Int)(hr:AX r=false):jl(bn L++r)=L.map norm:=QC L r hr _(Nat.le_refl _)
theorem vR(L:List(Bool×Int×Int)):jl(bn L)=L.map norm:=by
 have:=Lt L []rfl
 rwa [List.append_nil]at this
theorem GG(L:List(Bool×Int×Int))(k:Nat)(hk:k<13 * L.length):
  ∃x,L[k / 13]?=some x∧bn L=bn(L.take(k / 13))++(pJ x++bn(L.drop(k / 13+1))):=by
 have hq:k / 13<L.length:=by omega
 refine⟨L[k / 13],List.getElem?_eq_getElem hq,?_⟩;have e:L=L.take(k / 13)++L[k / 13]::L.drop(k / 13+1):=by
  rw [List.LZ,List.take_append_drop]
 conv=>lhs;rw [e]
 rw [jU,Jz]
theorem ZY(L:List(Bool×Int×Int))(k:Nat)(hk:k<13 * L.length):jl((bn L).take k)=(L.take(k / 13)).map norm:=by
 obtain⟨x,_,he⟩:=GG L k hk;have hl:(bn(L.take(k / 13))).length=13 * (k / 13):=by
  rw [g_,List.length_take,Nat.min_eq_left(by omega)]
 rw [he,List.Ym,List.take_of_length_le(by omega)];refine Lt _ _(NH ?_);rw [List.length_take,hl];omega
def gJ(f:Int→Option Int)(r:Bool×Int×Int):Int→Option Int:=if r.1 then f else jJ f r.2.1(some(max((f r.2.1).getD 0)r.2.2))
def kQ(c:Option Int)(r:Bool×Int×Int):Option Int:=if r.1 then some(max(c.getD 0)r.2.2)else c
def lU(L:List(Bool×Int×Int)):Int→Option Int:=L.foldl gJ fun _=>none
def qb(L:List(Bool×Int×Int)):Option Int:=L.foldl kQ none
theorem FN(L:List(Bool×Int×Int))(r:Bool×Int×Int):lU(L++ [r])=gJ(lU L)r:=by simp [lU]
theorem zg(L:List(Bool×Int×Int))(r:Bool×Int×Int):qb(L++ [r])=kQ(qb L)r:=by simp [qb]
def dw:Option Int→List(Bool×Int×Int)
 |none=> []
 |some s=> [(true,0,s)]
def fV(f:Int→Option Int)(ss:List Int):List(Bool×Int×Int):=ss.map fun a=>(false,a,(f a).getD 0)
def iw(f:Int→Option Int)(c:Option Int)(out:List(Bool×Int×Int)):Prop:=
 ∃ss:List Int,ss.Pairwise(·<·)∧(∀a,a∈ss ↔ (f a).isSome=true)∧out=dw c++fV f ss
theorem BS {l l':List Int}(h:l.Pairwise(·<·))(h':l'.Pairwise(·<·))(hm:∀a,a∈l ↔ a∈l'):l=l':=by
 have n1:l.Nodup:=h.imp(fun hab=>by omega);have n2:l'.Nodup:=h'.imp(fun hab=>by omega);have hp:=(List.perm_ext_iff_of_nodup n1 n2).2 hm;refine List.Perm.eq_of_pairwise(le:=fun a b=>a<b)(fun a b _ _ h1 h2=>by omega)h h' hp
theorem iw.unique {f:Int→Option Int} {c:Option Int} {o1 o2:List(Bool×Int×Int)}(h1:iw f c o1)(h2:iw f c o2):o1=o2:=by
 obtain⟨s1,p1,m1,rfl⟩:=h1;obtain⟨s2,p2,m2,rfl⟩:=h2;rw [BS p1 p2(fun a=>by rw [m1,m2])]
def yU:List(Bool×Int×Int)→Bool×Int×Int→List(Bool×Int×Int)
 | [],r=> [r]
 |x::l,r=>if x.1=r.1∧x.2.1=r.2.1 then(x.1,x.2.1,max r.2.2 x.2.2)::l
  else if r.1=true∨(x.1=false∧x.2.1>r.2.1)then r::x::l
  else x::yU l r
def mq(a:Int):List Int→List Int
 | []=> [a]
 |x::l=>if x=a then x::l else if x>a then a::x::l else x::mq a l
theorem zn(a:Int)(l:List Int)(b:Int):b∈mq a l ↔ b=a∨b∈l:=by
 induction l with
 |nil=>simp [mq]
 |cons x l ih=>
  unfold mq;split
  ·rename_i h;subst h;simp
  ·split
   ·simp
   ·simp [ih];constructor<;>rintro(h|h|h)<;>simp [h]
theorem Lu(a:Int)(l:List Int)(h:l.Pairwise(·<·)):(mq a l).Pairwise(·<·):=by
 induction l with
 |nil=>simp [mq]
 |cons x l ih=>
  unfold mq;have hx:=List.pairwise_cons.1 h;split
  ·exact h
  ·split
   ·refine List.pairwise_cons.2⟨fun b hb=> ?_,h⟩;rcases List.mem_cons.1 hb with rfl|hb
    ·omega
    ·have:=hx.1 b hb;omega
   ·refine List.pairwise_cons.2⟨fun b hb=> ?_,ih hx.2⟩;rcases(zn a l b).1 hb with rfl|hb
    ·omega
    ·exact hx.1 b hb
theorem QL(f:Int→Option Int)(a s:Int)(ss:List Int)(h:ss.Pairwise(·<·))(hm:∀b∈ss,(f b).isSome=true)(hf:a ∉ ss→(f a).getD 0≤s):
  yU(fV f ss)(false,a,s)=fV(jJ f a(some(max((f a).getD 0)s)))(mq a ss):=by
 induction ss with
 |nil=>
  have:=hf(by simp);simp [fV,yU,mq,jJ];omega
 |cons x l ih=>
  have hx:=List.pairwise_cons.1 h;have hother:∀m:List Int,(∀b∈m,b≠a)→fV(jJ f a(some(max((f a).getD 0)s)))m=fV f m:=by
   intro m hmm;unfold fV;refine List.map_congr_left fun b hb=> ?_;simp [jJ,hmm b hb]
  simp only [fV,List.map_cons,yU,mq];by_cases e:x=a
  ·subst e;simp only [and_self,if_true];rw [List.map_cons];have:=hother l(fun b hb=>by have:=hx.1 b hb;omega);simp only [fV]at this;rw [this];simp [jJ];omega
  ·simp only [e,and_false,if_false,Bool.false_eq_true,false_or,true_and];by_cases g:x>a
   ·simp only [g,if_true];have hn:a ∉ x::l:=by
     intro hb;rcases List.mem_cons.1 hb with hb|hb
     ·omega
     ·have:=hx.1 a hb;omega
    have h1:=hother(x::l)(fun b hb=>by rintro rfl;exact hn hb);simp only [fV]at h1;rw [List.map_cons,h1];have:=hf hn;simp [jJ];omega
   ·simp only [g,if_false];have h1:=hother [x](by simp;exact e);simp only [fV,List.map_cons,List.map_nil,List.cons.injEq,and_true]at h1;have:=ih hx.2(fun b hb=>hm b(by simp [hb]))(fun hn=>hf(by simp;exact⟨fun e'=>e e'.symm,hn⟩));simp only [fV]at this;rw [List.map_cons,h1,this]
theorem iw.put {f:Int→Option Int} {c:Option Int} {out:List(Bool×Int×Int)}(h:iw f c out)(r:Bool×Int×Int)(hs:0≤r.2.2):iw(gJ f r)(kQ c r)(yU out(norm r)):=by
 obtain⟨ss,hp,hm,rfl⟩:=h;obtain⟨o,a,s⟩:=r;cases o
 ·refine⟨mq a ss,Lu a ss hp,fun b=> ?_,?_⟩
  ·rw [zn,hm];by_cases e:b=a
   ·simp [gJ,jJ,e]
   ·simp [gJ,jJ,e]
  ·have hq:=QL f a s ss hp(fun b hb=>(hm b).1 hb)(fun hn=>by
    have:f a=none:=by
     cases hfa:f a with
     |none=>rfl
     |some v=>exact absurd((hm a).2(by simp [hfa]))hn
    simp [this];exact hs)
   cases c with
   |none=>simpa [dw,kQ,gJ,norm]using hq
   |some t=>
    simp only [dw,kQ,gJ,norm,List.cons_append,List.nil_append,yU,Bool.false_eq_true,if_false];simp only [Bool.true_eq_false,false_and,if_false,or_self];rw [hq]
 ·refine⟨ss,hp,fun b=>by simpa [gJ]using hm b,?_⟩;simp only [gJ,kQ,if_true,norm];cases c with
  |none=>
   simp only [dw,List.nil_append,Option.vZ];rw [Int.max_eq_right hs];cases ss<;>simp [fV,yU]
  |some t=>simp [dw,yU,Int.ab4]
theorem iw.nil:iw(fun _=>none)none []:=⟨[],List.Pairwise.nil,fun a=>by simp,rfl⟩
def MB(f:Int→Option Int):Prop:=∀a v,f a=some v→bg a∧bg v
def OB(c:Option Int):Prop:=∀v,c=some v→bg v
theorem Cw {a b:Int}(h:bg a)(h':bg b):bg(max a b):=by
 unfold bg at *;omega
theorem MB.getD {f:Int→Option Int}(h:MB f)(a:Int):bg((f a).getD 0):=by
 cases e:f a with
 |none=>simp [bg]
 |some v=>exact(h a v e).2
theorem OB.getD {c:Option Int}(h:OB c):bg(c.getD 0):=by
 cases e:c with
 |none=>simp [bg]
 |some v=>exact h v e
theorem MB.step {f:Int→Option Int}(h:MB f) {r:Bool×Int×Int}(ha:bg r.2.1)(hs:bg r.2.2):MB(gJ f r):=by
 obtain⟨o,a,s⟩:=r;cases o
 ·intro b v hb;simp only [gJ,Bool.false_eq_true,if_false,jJ]at hb;by_cases e:b=a
  ·simp only [e,if_true,Option.some.injEq]at hb;subst hb;exact⟨e▸ha,Cw(h.getD a)hs⟩
  ·simp only [e,if_false]at hb;exact h b v hb
 ·exact h
theorem OB.step {c:Option Int}(h:OB c) {r:Bool×Int×Int}(hs:bg r.2.2):OB(kQ c r):=by
 obtain⟨o,a,s⟩:=r;cases o
 ·exact h
 ·intro v hv;simp only [kQ,if_true,Option.some.injEq]at hv;subst hv;exact Cw h.getD hs
def Af(k:Int):Prop:=0≤k∧k≤18446744073709551615
structure Rt where
 dest:Int
 seq:Int
 hops:Int
 next:Int
 valid:Bool
 exp:Int
 bB:List Int
structure Rt.Ok(x:Rt):Prop where
 dest:bg x.dest
 seq:bg x.seq
 hops:oC x.hops
 next:bg x.next
 exp:Af x.exp
 O_:x.bB.length≤4
 bB:∀b∈x.bB,bg b
 wC:x.bB.Pairwise(·<·)
def gr(s:Int):Int:=max s((s+1)%4294967296)
theorem tK {s:Int}(h:bg s):bg(gr s):=by unfold bg gr at *;omega
def rk(x:Rt):Int:=if x.valid then x.seq else x.seq - 1
def U6(x y:Rt):Bool:=if rk x=rk y then decide(x.hops<y.hops)else decide(rk x>rk y)
theorem Xu(x y:Rt):(!U6 x y)=(decide(rk x<rk y)||(decide(rk x=rk y)&&decide(x.hops≥y.hops))):=by
 unfold U6;by_cases h:rk x=rk y
 ·simp only [h,if_true,decide_true,Bool.true_and];by_cases h2:x.hops<y.hops
  ·simp [h2]
  ·simp [h2];omega
 ·simp only [h,if_false,decide_false,Bool.false_and,Bool.or_false];by_cases h2:rk x>rk y
  ·simp [h2];omega
  ·simp [h2];omega
def pY(x:Rt)(s:Int):Rt:={x with seq:=max(gr x.seq)s,valid:=false,exp:=0,bB:=[]}
theorem uV {x:Rt}(h:x.Ok) {s:Int}(hs:bg s):(pY x s).Ok:=
 ⟨h.dest,Cw(tK h.seq)hs,h.hops,h.next,by simp [pY,Af],by simp [pY],by simp [pY],by simp [pY]⟩
def Asc(A:List Rt):Prop:=A.Pairwise fun x y=>x.dest<y.dest
def pos:List Rt→Int→Nat
 | [],_=>0
 |x::A,d=>if x.dest<d then pos A d+1 else 0
def aJ(A:List Rt)(d:Int):Option Rt:=A.find? fun x=>x.dest==d
def gI(A:List Rt)(d:Int)(f:Rt→Rt):List Rt:=A.map fun x=>if x.dest=d then f x else x
def tF(A:List Rt)(x:Rt):List Rt:=A.take(pos A x.dest)++x::A.drop(pos A x.dest)
theorem ZF(A:List Rt)(d:Int):pos A d≤A.length:=by
 induction A with
 |nil=>simp [pos]
 |cons x A ih=>unfold pos;split<;>simp<;>omega
theorem C8(A:List Rt)(d:Int):∀j,j<pos A d→∃x,A[j]?=some x∧x.dest<d:=by
 induction A with
 |nil=>intro j hj;simp [pos]at hj
 |cons x A ih=>
  intro j hj;unfold pos at hj;split at hj
  ·rename_i h;cases j with
   |zero=>exact⟨x,rfl,h⟩
   |succ j=>simpa using ih j(by omega)
  ·omega
theorem IU {A:List Rt} {d:Int} {x:Rt}(h:A[pos A d]?=some x):d≤x.dest:=by
 induction A with
 |nil=>simp at h
 |cons y A ih=>
  unfold pos at h;split at h
  ·rename_i hy;exact ih(by simpa using h)
  ·rename_i hy;simp at h;subst h;omega
theorem Asc.get {A:List Rt}(h:Asc A) {i j:Nat} {x y:Rt}(hi:A[i]?=some x)(hj:A[j]?=some y)(hij:i<j):x.dest<y.dest:=by
 obtain⟨h1,rfl⟩:=List.getElem?_eq_some_iff.1 hi;obtain⟨h2,rfl⟩:=List.getElem?_eq_some_iff.1 hj;exact List.pairwise_iff_getElem.1 h i j h1 h2 hij
theorem Asc.inj {A:List Rt}(h:Asc A) {x y:Rt}(hx:x∈A)(hy:y∈A)(he:x.dest=y.dest):x=y:=by
 obtain⟨i,hi⟩:=List.getElem?_of_mem hx;obtain⟨j,hj⟩:=List.getElem?_of_mem hy;rcases Nat.lt_trichotomy i j with hij|hij|hij
 ·have:=h.get hi hj hij;omega
 ·subst hij;rw [hi]at hj;cases hj;rfl
 ·have:=h.get hj hi hij;omega
theorem bN {A:List Rt} {d:Int} {x:Rt}(h:aJ A d=some x):x∈A∧x.dest=d:=by
 unfold aJ at h;exact⟨List.mem_of_find?_eq_some h,by simpa using List.find?_some h⟩
theorem jm {A:List Rt}(h:Asc A) {x:Rt}(hx:x∈A):aJ A x.dest=some x:=by
 cases e:aJ A x.dest with
 |none=>
  unfold aJ at e;rw [List.find?_eq_none]at e;exact absurd(by simp)(e x hx)
 |some y=>
  have:=bN e;rw [h.inj this.1 hx this.2]
theorem gM {A:List Rt} {d:Int}:aJ A d=none ↔ ∀x∈A,x.dest≠d:=by
 unfold aJ;rw [List.find?_eq_none];simp
theorem Je {A:List Rt}(h:Asc A)(d:Int):aJ A d=(A[pos A d]?).bind fun x=>if x.dest=d then some x else none:=by
 cases e:A[pos A d]? with
 |none=>
  rw [Option.bind_none,gM];intro x hx hd;obtain⟨j,hj⟩:=List.getElem?_of_mem hx;have hjl:=(List.getElem?_eq_some_iff.1 hj).1;have hp:A.length≤pos A d:=List.getElem?_eq_none_iff.1 e;obtain⟨y,hy,hl⟩:=C8 A d j(by omega);rw [hj]at hy;cases hy;omega
 |some y=>
  rw [Option.bind_some];have hge:=IU e;split
  ·rename_i hd;rw [←hd];exact jm h(List.mem_of_getElem? e)
  ·rename_i hd;rw [gM];intro x hx hxd;obtain⟨j,hj⟩:=List.getElem?_of_mem hx;rcases Nat.lt_trichotomy j(pos A d)with hij|hij|hij
   ·obtain⟨z,hz,hl⟩:=C8 A d j hij;rw [hj]at hz;cases hz;omega
   ·subst hij;rw [hj]at e;cases e;exact hd hxd
   ·have:=h.get e hj hij;omega
theorem N7 {A:List Rt}(h:Asc A) {d:Int} {x:Rt}(hx:aJ A d=some x):A[pos A d]?=some x∧x.dest=d:=by
 have hd:=(bN hx).2;rw [Je h]at hx;cases e:A[pos A d]? with
 |none=>rw [e]at hx;cases hx
 |some y=>
  rw [e,Option.bind_some]at hx;split at hx
  ·exact⟨hx,hd⟩
  ·cases hx
theorem mO(A:List Rt)(d:Int)(f:Rt→Rt):(gI A d f).length=A.length:=by simp [gI]
theorem nV {A:List Rt} {d:Int}(h:aJ A d=none)(f:Rt→Rt):gI A d f=A:=by
 rw [gM]at h;unfold gI;conv=>rhs;rw [←List.map_id A]
 exact List.map_congr_left fun x hx=>by simp [h x hx]
theorem Rm {A:List Rt}(h:Asc A) {d:Int} {i:Nat} {x:Rt}(hi:A[i]?=some x)(hd:x.dest=d)(f:Rt→Rt):gI A d f=A.set i(f x):=by
 apply List.ext_getElem?;intro j;unfold gI;rw [List.getElem?_map,List.getElem?_set];by_cases hij:i=j
 ·subst hij;obtain⟨hl,rfl⟩:=List.getElem?_eq_some_iff.1 hi;rw [if_pos rfl,if_pos hl,List.getElem?_eq_getElem hl,Option.map_some,if_pos hd]
 ·simp only [hij,if_false];cases e:A[j]? with
  |none=>rfl
  |some y=>
   simp only [Option.map_some];rw [if_neg];intro kD;rcases Nat.lt_or_gt_of_ne hij with hlt|hlt
   ·have:=h.get hi e hlt;omega
   ·have:=h.get e hi hlt;omega
theorem zl {A:List Rt}(h:Asc A)(d:Int)(f:Rt→Rt)(hf:∀x,(f x).dest=x.dest):Asc(gI A d f):=by
 unfold Asc gI;rw [List.pairwise_map];have hd:∀x:Rt,(if x.dest=d then f x else x).dest=x.dest:=by
  intro x;split
  ·exact hf x
  ·rfl
 refine h.imp fun {x y}hxy=> ?_;rw [hd,hd];exact hxy
theorem zk {A:List Rt} {d:Int} {f:Rt→Rt} {y:Rt}(hy:y∈gI A d f):(∃x∈A,x.dest=d∧y=f x)∨(y∈A∧y.dest≠d):=by
 unfold gI at hy;obtain⟨x,hx,rfl⟩:=List.mem_map.1 hy;by_cases e:x.dest=d
 ·exact .inl⟨x,hx,e,by simp [e]⟩
 ·refine .inr ?_;simp only [e,if_false];exact⟨hx,e⟩
theorem wY(A:List Rt)(x:Rt):(tF A x).length=A.length+1:=by
 have:=ZF A x.dest;simp [tF];omega
theorem qC {A:List Rt} {x y:Rt}:y∈tF A x ↔ y=x∨y∈A:=by
 unfold tF;rw [List.mem_append,List.mem_cons];constructor
 ·rintro(h|h|h)
  ·exact .inr(List.mem_of_mem_take h)
  ·exact .inl h
  ·exact .inr(List.mem_of_mem_drop h)
 ·rintro(h|h)
  ·exact .inr(.inl h)
  ·rw [←List.take_append_drop(pos A x.dest)A]at h;rcases List.mem_append.1 h with h|h
   ·exact .inl h
   ·exact .inr(.inr h)
theorem Gf {A:List Rt}(h:Asc A) {x:Rt}(hx:aJ A x.dest=none):Asc(tF A x):=by
 have hn:=gM.1 hx;unfold Asc tF;rw [List.eU];refine⟨h.sublist(List.Vu _ _),?_,?_⟩
 ·rw [List.pairwise_cons];refine⟨fun y hy=> ?_,h.sublist(List.XM _ _)⟩;obtain⟨j,hj⟩:=List.getElem?_of_mem hy;rw [List.getElem?_drop]at hj;have hne:=hn y(List.mem_of_getElem? hj);rcases Nat.eq_zero_or_pos j with e|e
  ·subst e;have:=IU hj;omega
  ·cases e0:A[pos A x.dest]? with
   |none=>
    have:=List.getElem?_eq_none_iff.1 e0;have:=(List.getElem?_eq_some_iff.1 hj).1;omega
   |some z=>
    have h1:=IU e0;have h2:=h.get e0 hj(by omega);omega
 ·intro y hy z hz;obtain⟨j,hj⟩:=List.getElem?_of_mem hy;rw [List.getElem?_take]at hj;split at hj
  ·rename_i hjp;obtain⟨w,hw,hl⟩:=C8 A x.dest j hjp;rw [hj]at hw;cases hw;rcases List.mem_cons.1 hz with rfl|hz
   ·exact hl
   ·obtain⟨i,hi⟩:=List.getElem?_of_mem hz;rw [List.getElem?_drop]at hi;exact h.get hj hi(by omega)
  ·cases hj
open Go.RowKit Go.Maps
def CX(v:Value):Option(DataW Unit×List MemPlace):=
 match v with
 | .pointer none=>some(.lit(.int .i64(-1)),[])
 | .pointer(some⟨b,0,none⟩)=>some(.lit(.int .i64 b),[])
 |_=>none
def fJ:Option Nat→Value
 |none=> .pointer none
 |some b=> .pointer(some⟨b,0,none⟩)
def kU:Option Nat→Int
 |none=>-1
 |some b=>b
theorem oQ(o:Option Nat):CX(fJ o)=some(.lit(.int .i64(kU o)),[]):=by cases o<;>rfl
theorem uA {v:Value} {o:Option Nat} {ps:List MemPlace}(h:CX v=some(.lit(.int .i64(kU o)),ps)):v=fJ o:=by
 unfold CX at h;split at h
 ·simp only [Option.some.injEq,Prod.mk.injEq,DataW.lit.injEq,Lit.int.injEq,true_and]at h;cases o with
  |none=>rfl
  |some b=>
   have:=h.1;simp only [kU]at this;omega
 ·rename_i b;simp only [Option.some.injEq,Prod.mk.injEq,DataW.lit.injEq,Lit.int.injEq,true_and]at h;cases o with
  |none=>
   have:=h.1;simp only [kU]at this;omega
  |some c=>
   have:=h.1;simp only [kU]at this;obtain rfl:b=c:=by omega
   rfl
 ·cases h
theorem Kn(w:World):(zeroValue 161).run Tryz.prog w=.ok(.pointer none)w:=by kernel_rfl
def eD(f:Int→Option Nat)(k:Int)(v:Option Nat):Int→Option Nat:=fun x=>if x=k then v else f x
def eX(W:World)(M:Nat)(f:Int→Option Nat)(s:Nat):Prop:=
 ∃D:DataW Unit,W.ownsMap Tryz.prog 34 CX M s D∧Maps.size D=s∧
  ∀k,bg k→Maps.has D(.int .u32 k)=(f k).isSome∧D.atKey(.int .u32 k)(.lit(.int .i64(-1)))=.lit(.int .i64(kU(f k)))
theorem eX.block {W W':World} {M:Nat} {f:Int→Option Nat} {s:Nat}(h:eX W M f s)(he:W'.heap[M]?=W.heap[M]?):eX W' M f s:=by
 obtain⟨D,⟨es,clock,hb,Ft,hs,hD⟩,h2,h3⟩:=h;exact⟨D,⟨es,clock,he.trans hb,Ft,hs,hD⟩,h2,h3⟩
theorem eX.lt {W:World} {M:Nat} {f:Int→Option Nat} {s:Nat}(h:eX W M f s):M<W.heap.size:=by
 obtain⟨D,h1,_⟩:=h;exact h1.lt
theorem eX.made(w:World):eX(w.alloc(.map #[]0))w.heap.size(fun _=>none)0:=
 ⟨.map [],World.ownsMap_made w _ _ _,rfl,fun _ _=>⟨rfl,rfl⟩⟩
theorem eX.put {W:World} {M:Nat} {f:Int→Option Nat} {s:Nat}(h:eX W M f s)(hs:s<maxLen) {k:Int}(hk:bg k)(B:Nat):
  ∃W',(Instr.mapUpdate 156(.map(some M))(.int .u32 k)(.pointer(some⟨B,0,none⟩))).run Tryz.prog W=.ok()W'∧eX W' M(eD f k(some B))(if(f k).isSome then s else s+1)∧W.grownBy W'(some M):=by
 obtain⟨D,h1,h2,h3⟩:=h;obtain⟨W',hr,ho,ht⟩:=h1.store fF Tryz.underlying156 hs hk.key(oQ(some B));have hm:=h1.isMap;have htd:=h1.tidy fF;have hkl:WideAt.IsKeyLit(.int .u32 k):=by trivial
 have hsz:Maps.size(D.put(.int .u32 k)(.lit(.int .i64(kU(some B)))))=if(f k).isSome then s else s+1:=by
  rw [size_put htd,(h3 k hk).1,h2]
 refine⟨W',hr,⟨_,?_,hsz,fun x hx=> ?_⟩,ht.grown⟩
 ·have:=fD ho;rw [hsz]at this;exact this
 ·by_cases e:x=k
  ·subst e;refine⟨by rw [has_put_same hm hkl];simp [eD],?_⟩;rw [atKey_put_same hm hkl];simp [eD]
  ·have hne:(Lit.int .u32 x)≠ .int .u32 k:=fun h=>e(by cases h;rfl);refine⟨by rw [has_put_other hne];simp [eD,e,(h3 x hx).1],?_⟩;rw [atKey_put_other hne,(h3 x hx).2];simp [eD,e]
theorem eX.look {W:World} {M:Nat} {f:Int→Option Nat} {s:Nat}(h:eX W M f s) {k:Int}(hk:bg k):
  (Instr.lookup 156(.map(some M))(.int .u32 k)false).run Tryz.prog W=.ok(fJ(f k))W:=by
 obtain⟨D,h1,h2,h3⟩:=h;obtain⟨v,ps,hr,hv⟩:=h1.lookup fF Tryz.underlying156(Kn W)(oQ none)hk.key;have h4:=(h3 k hk).2;simp only [kU]at hv h4;rw [h4]at hv;rw [hr,uA(o:=f k)hv]
theorem eX.look_ok {W:World} {M:Nat} {f:Int→Option Nat} {s:Nat}(h:eX W M f s) {k:Int}(hk:bg k):
  (Instr.lookup 156(.map(some M))(.int .u32 k)true).run Tryz.prog W=.ok(.tuple #[fJ(f k),.bool(f k).isSome])W:=by
 obtain⟨D,h1,h2,h3⟩:=h;obtain⟨v,ps,hr,hv⟩:=h1.look_ok fF Tryz.underlying156(Kn W)(oQ none)hk.key;have h4:=(h3 k hk).2;simp only [kU]at hv h4;rw [h4]at hv;rw [hr,uA(o:=f k)hv,(h3 k hk).1]
theorem eX.len {W:World} {M:Nat} {f:Int→Option Nat} {s:Nat}(h:eX W M f s)(ty:TypeId):
  (Builtin.len_ #[156]ty #[.map(some M)]).run Tryz.prog W=.ok(.int .i64 s)W:=by
 obtain⟨D,h1,h2,h3⟩:=h;rw [h1.len Tryz.underlying156 ty,h2]
theorem JZ(L:List(Bool×Int×Int)):∀u∈RC L,u.oneCell'=true:=by
 intro u hu;simp only [RC,List.mem_flatMap,List.mem_cons,List.not_mem_nil,or_false]at hu;obtain⟨x,_,rfl|rfl|rfl⟩:=hu<;>rfl
theorem qd.kept {B:Nat} {o:Bool} {a s:Int} {W W':World} {r:Option Nat}(h:qd B o a s W)(hg:W.grownBy W' r)(hr:some B≠r):qd B o a s W':=(hg.block B h.lt hr).trans h
theorem below_grown {A B:World}(h:Below A.heap.size A B)(r:Option Nat):A.grownBy B r:=⟨h.os,h.tape,h.output,h.size,fun k hk _=>h.block k hk⟩
end Go.Proofs.YtakaadcpaeiccabGreat
