import Derived.Test.YtakaadcpaeiccabGreatV00
import Derived.WalkKit
import Derived.WalkLawsBesides
import Derived.Laws.BitsAllLaws
import Derived.Test.YtakaadcpaeiccabGreatProg
import Derived.WalkSpells
import Derived.Handy
import Derived.Deep.Light
set_option maxHeartbeats 400000
namespace Go.Proofs.YtakaadcpaeiccabGreat
structure aD where
 ttl:Int
 kind:Int
 hops:Int
 unk:Bool
 id:Int
 dest:Int
 bA:Int
 aH:Int
 dQ:Int
 life:Int
 la:Option Addr
 ln:Nat
 lc:Nat
 pay:ByteArray
@[reducible] def aD.val(p : aD): Value :=
 .agg #[.int .i64 p.ttl,.int .i64 p.kind,.int .i64 p.hops,.bool p.unk,.int .u32 p.id,.int .u32 p.dest,.int .u32 p.bA,.int .u32 p.aH,.int .u32 p.dQ,.int .u32 p.life,.slice p.la p.ln p.lc,.string p.pay]
@[reducible] def aD.box(p : aD): Obj :=
 .cells #[.int .i64 p.ttl,.int .i64 p.kind,.int .i64 p.hops,.bool p.unk,.int .u32 p.id,.int .u32 p.dest,.int .u32 p.bA,.int .u32 p.aH,.int .u32 p.dQ,.int .u32 p.life,.slice p.la p.ln p.lc,.string p.pay] 73
structure aD.Wf(p:aD):Prop where
 Vr:-9223372036854775808<=p.ttl
 Vq:p.ttl<=9223372036854775807
 ae6:-9223372036854775808<=p.kind
 ae5:p.kind<=9223372036854775807
 Mg:-9223372036854775808<=p.hops
 Mf:p.hops<=9223372036854775807
 id0:0<=p.id
 id1:p.id<4294967296
 ada:0<=p.dest
 ac9:p.dest<4294967296
 YS:0<=p.bA
 YR:p.bA<4294967296
 ac5:0<=p.aH
 ac2:p.aH<4294967296
 ac1:0<=p.dQ
 ac0:p.dQ<4294967296
 abX:0<=p.life
 abW:p.life<4294967296
 ln1:p.ln<=65536
 ady:p.pay.size<=65536
def aD.cnt(p:aD):Int:=if p.kind=3 then p.ln else if p.kind=9 then p.pay.size else p.hops
def oL(k c:Int):Bool:=
 if k=1∨k=2 then decide (0<=c∧c<=255)else if k=3 then decide (1<=c∧c<=8)else if k=9 then decide (c<=16)else false
def aD.kY(p:aD):Bool:=
 decide (p.id=0∧p.dest=0∧p.bA=0∧p.aH=0∧p.dQ=0∧p.life=0∧p.hops=0∧p.unk=false∧p.ln=0∧p.pay.size=0)
theorem Wq(a b:Int)(h1:0<=a)(h2:a<4294967296)(h3:0<=b)(h4:b<4294967296):0<=bits .or .u32 a b∧bits .or .u32 a b<4294967296:=by
 rw[u32_or a b h1 h2 h3 h4];have:a.toNat|||b.toNat<2 ^ 32:=Nat.or_lt_two_pow (by omega) (by omega);omega
theorem Ra(a b:Int)(h1:0<=a)(h2:a<4294967296)(h3:0<=b)(h4:b<4294967296):bits .or .u32 a b=0 ↔ a=0∧b=0:=by
 rw[u32_or a b h1 h2 h3 h4];constructor
 ·intro h;have h':a.toNat|||b.toNat=0:=by omega
  have:=Nat.or_eq_zero_iff.1 h';omega
 ·rintro⟨rfl,rfl⟩;rfl
theorem abT{a b c d e f:Int}(a0:0<=a)(a1:a<4294967296)(b0:0<=b)(b1:b<4294967296)(c0:0<=c)(c1:c<4294967296)
  (d0:0<=d) (d1:d<4294967296) (e0:0<=e) (e1:e<4294967296) (f0:0<=f) (f1:f<4294967296):
  bits .or .u32 (bits .or .u32 (bits .or .u32 (bits .or .u32 (bits .or .u32 a b) c) d) e) f=0 ↔ a=0∧b=0∧c=0∧d=0∧e=0∧f=0:=by
 have h1:=Wq a b a0 a1 b0 b1;have h2:=Wq _ c h1.1 h1.2 c0 c1;have h3:=Wq _ d h2.1 h2.2 d0 d1;have h4:=Wq _ e h3.1 h3.2 e0 e1;rw[Ra _ f h4.1 h4.2 f0 f1,Ra _ e h3.1 h3.2 e0 e1,Ra _ d h2.1 h2.2 d0 d1,Ra _ c h1.1 h1.2 c0 c1,Ra a b a0 a1 b0 b1];simp only[and_assoc]
theorem TH(s:ByteArray):s.toList.isEmpty=decide (s.size=0):=by
 rw[<-decide_eq_emptyBytes s]
 congr 1
 apply propext;constructor
 ·rintro rfl;rfl
 ·intro h;apply ByteArray.ext;exact Array.eq_empty_of_size_eq_zero h
def U(xs:List Int):List Value:=xs.map (Value.int .u8)
theorem Bd(a b:List Int):U a++U b=U (a++b):=by simp[U]
def b4(n:Int):List Int:=[n / 16777216,n / 65536%256,n / 256%256,n%256]
theorem kZ(n:Int):(b4 n).length=4:=rfl
theorem LY{α:Type}{R:Nat->α->Prop}:∀(n:Nat),(∀i,i<n->∃x,R i x)->∃L:List α,L.length=n∧∀j,j<n->∃x,L[j]?=some x∧R j x
 |0,_=>⟨[],rfl,λj hj=>by omega⟩
 |n+1,h=>by
  obtain⟨L,hl,hL⟩:=LY n (λi hi=>h i (by omega));obtain⟨x,hx⟩:=h n (by omega);refine⟨L++ [x],by simp[hl],λj hj=> ?_⟩;by_cases hjn:j<n
  ·obtain⟨y,h1,h2⟩:=hL j hjn;exact⟨y,by rw[List.getElem?_append_left (by omega)];exact h1,h2⟩
  ·obtain rfl:j=n:=by omega
   exact⟨x,by rw[List.getElem?_append_right (by omega)];simp[hl],hx⟩
open Go.RowKit
theorem lI{a b:Bool}(h:a=b):Ending.returned (.bool a)=.returned (.bool b):=by rw[h]
theorem uY{k:IntKind}{a b:Int}(h:a=b):Ending.returned (.int k a)=.returned (.int k b):=by rw[h]
theorem Tz(k c:Int)(w:World):
  Calls Tryz.prog 125 #[.int .i64 k,.int .i64 c] w λe w'=>e=.returned (.bool (oL k c))∧w'=w:=by
 go_enter Tryz.func125,Tryz.ntmps125;go_wp2;all_goals (go_ret;go_light;refine⟨lI ?_,rfl⟩;simp_all [oL];try omega)
theorem O7(p:aD)(w:World):
  Calls Tryz.prog 151 #[p.val] w λe w'=>e=.returned (.int .u8 (if p.unk then 8 else 0))∧Below w.heap.size w w':=by
 go_enter Tryz.func151,Tryz.ntmps151;go_wp2;all_goals (go_ret;refine⟨?_,bC⟩;simp[*])
theorem Dq(p:aD)(w:World):
  Calls Tryz.prog 126 #[p.val] w λe w'=>e=.returned (.int .i64 p.cnt)∧Below w.heap.size w w':=by
 go_enter Tryz.func126,Tryz.ntmps126;go_wp2;all_goals (go_ret;go_light;refine⟨uY ?_,bC⟩;simp_all [aD.cnt])
theorem xZ(p:aD)(hp:p.Wf)(w:World):
  Calls Tryz.prog 127 #[p.val] w λe w'=>e=.returned (.bool p.kY)∧Below w.heap.size w w':=by
 obtain⟨_,_,_,_,_,_,i0,i1,d0,d1,s0,s1,f0,f1,fs0,fs1,l0,l1,_,_⟩:=hp;go_enter Tryz.func127,Tryz.ntmps127;go_wp2;all_goals (go_ret;go_light;refine⟨lI ?_,bC⟩)
 all_goals (have h:=abT i0 i1 d0 d1 s0 s1 f0 f1 fs0 fs1 l0 l1;simp_all [aD.kY,TH])
 all_goals trace_state
end Go.Proofs.YtakaadcpaeiccabGreat
