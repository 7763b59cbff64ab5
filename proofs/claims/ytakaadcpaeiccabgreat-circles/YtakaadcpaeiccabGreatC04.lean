import Derived.Test.YtakaadcpaeiccabGreatC03
import Derived.Recover
import Derived.Defers
import Derived.Lib.EndianBits
import Derived.Laws.IdiomStrings
import Derived.Lib.Bytes
set_option maxHeartbeats 2000000
set_option maxRecDepth 100000
namespace Go.Proofs.YtakaadcpaeiccabGreat
open Go.RowKit
variable{xs:List Int}{v:Value}{W:World}
@[reducible] def broken: List PanicEntry := [{ v := .iface 47 (.int .i64 1), recovered := false }]
theorem require_ok(w:World):Calls Tryz.prog 85 #[.bool true] w λe w'=>e=.returned (.tuple #[])∧w'=w:=by
 go_enter Tryz.func85,Tryz.ntmps85;go_wp2;go_returns;exact⟨rfl,rfl⟩
theorem eD(w:World):Calls Tryz.prog 85 #[.bool false] w λe w'=>e=.panicked broken∧w'=w:=by
 go_enter Tryz.func85,Tryz.ntmps85;go_wp2;exact⟨rfl,rfl,rfl⟩
def fu(W:World)(v:Value)(xs:List Int):Prop:=
 (∀x∈xs,0<=x∧x<=255)∧((v=.slice none 0 0∧xs=[])∨
  ∃b o c,v=.slice (some ⟨b,o,none⟩) xs.length c∧xs.length<=c∧c<=9223372036854775807∧∀(j:Nat) (x:Int),xs[j]?=some x->W.cell? ⟨b,o+j,none⟩=some (.int .u8 x))
def Rd(R:Nat)(xs:List Int)(W:World):Prop:=∃v,W.cell? ⟨R,0,none⟩=some v∧W.frozen? ⟨R,0,none⟩=false∧fu W v xs
theorem fu.set{u u':Value}{R:Nat}(h:fu W v xs)(hR:W.cell? ⟨R,0,none⟩=some u)(hu:∀k n,u≠ .int k n):fu (W.setCell ⟨R,0,none⟩ u') v xs:=by
 refine⟨h.1,?_⟩;rcases h.2 with h|⟨b,o,c,rfl,h1,h2,h3⟩
 ·exact .inl h
 ·refine .inr ⟨b,o,c,rfl,h1,h2,λj x hx=> ?_⟩;have hc:=h3 j x hx;rw[World.cell?_setCell_other _ _ _ _ (λe=>by rw[<-e,hR]at hc;exact hu _ _ (Option.some.inj hc))];exact hc
theorem fu.part{b o c:Nat}(hb:∀x∈xs,0<=x∧x<=255)(h1:xs.length<=c)(h2:c<=9223372036854775807)(h3:∀(j:Nat) (x:Int),xs[j]?=some x->W.cell? ⟨b,o+j,none⟩=some (.int .u8 x))(n:Nat)(hn:n<=xs.length):
  fu W (.slice (some ⟨b,o,none⟩) n c) (xs.take n)∧fu W (.slice (some ⟨b,o+n,none⟩) (xs.length - n) (c - n)) (xs.drop n):=by
 refine⟨⟨λx hx=>hb x (List.mem_of_mem_take hx),.inr ⟨b,o,c,?_,?_,h2,λj x hx=> ?_⟩⟩,⟨λx hx=>hb x (List.mem_of_mem_drop hx),.inr ⟨b,o+n,c - n,?_,?_,by omega,λj x hx=> ?_⟩⟩⟩
 ·rw[List.length_take,Nat.min_eq_left hn]
 ·rw[List.length_take];omega
 ·rw[List.getElem?_take]at hx;split at hx
  ·exact h3 j x hx
  ·cases hx
 ·rw[List.length_drop]
 ·rw[List.length_drop];omega
 ·rw[List.getElem?_drop]at hx;have:=h3 (n+j) x hx;rw[Nat.add_assoc];exact this
theorem NM(R:Nat)(b o l c:Nat)(n:Nat)(w:World)(hn:n<=l)(hlc:l<=c)(hr:w.cell? ⟨R,0,none⟩=some (.slice (some ⟨b,o,none⟩) l c))(hf:w.frozen? ⟨R,0,none⟩=false):
  Calls Tryz.prog 89 #[.pointer (some ⟨R,0,none⟩),.int .i64 n] w λe w'=>e=.returned (.slice (some ⟨b,o,none⟩) n c)∧
   ((c=n∧w'=w.setCell ⟨R,0,none⟩ (.slice (some ⟨b,o,none⟩) (l - n) 0))∨w'=w.setCell ⟨R,0,none⟩ (.slice (some ⟨b,o+n,none⟩) (l - n) (c - n))):=by
 go_enter Tryz.func89,Tryz.ntmps89;go_wp2_with(go_at_call 85;refine(require_ok _).mono ?_;rintro e w1 ⟨rfl,rfl⟩)
 case inl=>go_ret;exact⟨rfl,.inl rfl⟩
 case inr=>go_ret;exact⟨rfl,rfl⟩
theorem Jw(R:Nat)(a:Option Addr)(l c:Nat)(n:Nat)(w:World)(hn:l<n)(hr:w.cell? ⟨R,0,none⟩=some (.slice a l c)):
  Calls Tryz.prog 89 #[.pointer (some ⟨R,0,none⟩),.int .i64 n] w λe w'=>e=.panicked broken∧w'=w:=by
 have hd:decide (n<=l)=false:=fA (by omega);go_enter Tryz.func89,Tryz.ntmps89;go_wp2_with(go_at_call 85;refine(eD _).mono ?_;rintro e w1 ⟨rfl,rfl⟩);exact⟨rfl,rfl,rfl⟩
theorem take_nil(R:Nat)(w:World)(hr:w.cell? ⟨R,0,none⟩=some (.slice none 0 0))(hf:w.frozen? ⟨R,0,none⟩=false):
  Calls Tryz.prog 89 #[.pointer (some ⟨R,0,none⟩),.int .i64 0] w λe w'=>e=.returned (.slice none 0 0)∧w'=w.setCell ⟨R,0,none⟩ (.slice none 0 0):=by
 go_enter Tryz.func89,Tryz.ntmps89;go_wp2_with(go_at_call 85;refine(require_ok _).mono ?_;rintro e w1 ⟨rfl,rfl⟩);all_goals (go_ret;exact⟨rfl,rfl⟩)
def aei(R:Nat)(n:Nat)(xs:List Int)(W:World)(e:Ending)(w':World):Prop:=
 (n<=xs.length∧(∃v,e=.returned v∧fu w' v (xs.take n))∧Rd R (xs.drop n) w'∧W.grownBy w' (some R)∧Below R W w')∨(xs.length<n∧e=.panicked broken∧w'=W)
theorem wW(W:World)(R:Nat)(u:Value):W.grownBy (W.setCell ⟨R,0,none⟩ u) (some R):=⟨rfl,rfl,rfl,by simp,λk _ hk=>iV W ⟨R,0,none⟩ u k (λe=>hk (by simp[e]))⟩
theorem xA(W:World)(R:Nat)(u:Value):Below R W (W.setCell ⟨R,0,none⟩ u):=(aV _ _).setCell (p:=⟨R,0,none⟩) (aD _) _
theorem zC(R n:Nat)(xs:List Int)(W:World)(h:Rd R xs W):
  Calls Tryz.prog 89 #[.pointer (some ⟨R,0,none⟩),.int .i64 n] W λe w'=>aei R n xs W e w':=by
 obtain⟨v,hr,hf,hb,hv⟩:=h;by_cases hn:n<=xs.length
 ·rcases hv with⟨rfl,rfl⟩|⟨b,o,c,rfl,h1,h2,h3⟩
  ·obtain rfl:n=0:=by simpa using hn
   refine(take_nil R W hr hf).mono ?_;rintro e w' ⟨rfl,rfl⟩;have hr0:∀W':World,fu W' (.slice none 0 0) []:=λW'=>⟨by simp,.inl ⟨rfl,rfl⟩⟩;exact .inl ⟨hn,⟨_,rfl,hr0 _⟩,⟨_,World.cell?_setCell_same _ _ _ hr,(World.frozen?_setCell _ _ _ _).trans hf,hr0 _⟩,wW _ _ _,xA _ _ _⟩
  ·have hpart:=fu.part hb h1 h2 h3 n hn;refine(NM R b o xs.length c n W hn h1 hr hf).mono ?_;rintro e w' ⟨rfl,⟨hcn,rfl⟩|rfl⟩
   ·refine .inl ⟨hn,⟨_,rfl,hpart.1.set hr (by simp)⟩,⟨_,World.cell?_setCell_same _ _ _ hr,(World.frozen?_setCell _ _ _ _).trans hf,?_⟩,wW _ _ _,xA _ _ _⟩;have hx:xs.drop n=[]:=List.drop_eq_nil_of_le (by omega);rw[hx];refine⟨by simp,.inr ⟨b,o,0,?_,by simp,by omega,by simp⟩⟩;rw[show xs.length - n=([]:List Int).length by simp;omega]
   ·exact .inl ⟨hn,⟨_,rfl,hpart.1.set hr (by simp)⟩,⟨_,World.cell?_setCell_same _ _ _ hr,(World.frozen?_setCell _ _ _ _).trans hf,hpart.2.set hr (by simp)⟩,wW _ _ _,xA _ _ _⟩
 ·have hs:∃a c,v=.slice a xs.length c:=by
   rcases hv with⟨rfl,rfl⟩|⟨b,o,c,rfl,_⟩
   ·exact⟨_,_,rfl⟩
   ·exact⟨_,_,rfl⟩
  obtain⟨a,c,rfl⟩:=hs;refine(Jw R a xs.length c n W (by omega) hr).mono ?_;rintro e w' ⟨rfl,rfl⟩;exact .inr ⟨by omega,rfl,rfl⟩
theorem mG(h:fu W v xs){j:Nat}{x:Int}(hx:xs[j]?=some x):
  0<=x∧x<=255∧∃b o c,v=.slice (some ⟨b,o,none⟩) xs.length c∧W.cell? ⟨b,o+j,none⟩=some (.int .u8 x):=by
 have hb:=h.1 x (gG hx);rcases h.2 with⟨_,rfl⟩|⟨b,o,c,rfl,_,_,h3⟩
 ·simp at hx
 ·exact⟨hb.1,hb.2,b,o,c,rfl,h3 j x hx⟩
theorem Eh(R:Nat)(xs:List Int)(W:World)(h:Rd R xs W):
  Calls Tryz.prog 84 #[.pointer (some ⟨R,0,none⟩)] W λe w'=>(∃x ys,xs=x::ys∧0<=x∧x<=255∧e=.returned (.int .i64 x)∧Rd R ys w'∧W.grownBy w' (some R)∧Below R W w')∨(xs=[]∧e=.panicked broken∧w'=W):=by
 go_enter Tryz.func84,Tryz.ntmps84;go_wp2_with fail;refine(zC R 1 xs W h).mono ?_;rintro e w1 (⟨hn,⟨v,rfl,hv⟩,hrd,hg,hbl⟩|⟨hn,rfl,rfl⟩)
 ·obtain⟨x,ys,rfl⟩:∃x ys,xs=x::ys:=by
   cases xs with
   |nil=>simp at hn
   |cons x ys=>exact⟨x,ys,rfl⟩
  obtain⟨hx0,hx1,b,o,c,hv',hcell⟩:=mG hv (j:=0) (x:=x) rfl;simp only[List.take_succ_cons,List.take_zero,dU,List.length_nil,Nat.zero_add,Nat.add_zero]at hv' hcell;subst hv';clear hv;go_wp2;go_ret;exact .inl ⟨x,ys,rfl,hx0,hx1,rfl,hrd,hg,hbl⟩
 ·obtain rfl:xs=[]:=qz (by omega);exact⟨rfl,.inr ⟨rfl,rfl,rfl⟩⟩
variable{xs:List Int}{c:Nat}
theorem ad6(hc:c<4294967296)(h:(bits .and .u32 (c:Int) 1==1)=true):bits .xor .u32 ((c:Int)/ 2) 3988292384=((FT.g c:Nat):Int):=by
 rw[show(1:Int)=((1:Nat):Int)from rfl,u32_and_nat c 1 hc (by omega),Nat.and_one_is_mod]at h;have h1:c%2=1:=by
  have:=beq_iff_eq.1 h;omega
 rw[show(c:Int)/ 2=((c / 2:Nat):Int)by omega,show(3988292384:Int)=((3988292384:Nat):Int)from rfl,u32_xor_nat (c / 2) 3988292384 (by omega) (by omega)];unfold FT.g;rw[aQ h1]
theorem abG(hc:c<4294967296)(h:(bits .and .u32 (c:Int) 1==1)=false):(c:Int)/ 2=((FT.g c:Nat):Int):=by
 rw[show(1:Int)=((1:Nat):Int)from rfl,u32_and_nat c 1 hc (by omega),Nat.and_one_is_mod]at h;have h1:¬c%2=1:=by
  have:=beq_eq_false_iff_ne.1 h;omega
 unfold FT.g;rw[aM h1];omega
theorem BR(n:Int)(h0:0<=n)(h1:n<=255)(w:World):
  Calls Tryz.prog 91 #[.int .u8 n] w λe w'=>e=.returned (.int .u32 (FT.tab n.toNat:Nat))∧w'=w:=by
 obtain⟨m,rfl⟩:=Int.eq_ofNat_of_zero_le h0;go_enter Tryz.func91,Tryz.ntmps91;go_wp2;go_loop [3,7] (λs i=>∃k:Nat,k<=8∧i=.int .i64 k∧s=.int .u32 (FT.gs k m:Nat)) (λ_ i=>8 - (intOf i).toNat)
 case atStart=>exact⟨0,by omega,rfl,rfl⟩
 case round=>
  obtain⟨k,hk,rfl,rfl⟩:=hrel;have hc:FT.gs k m<4294967296:=FT.Ul (by omega) k;by_cases hlt:k<8
  ·go_wp2
   ·rename_i h;have he:=ad6 hc h;go_round
    case rel=>exact⟨k+1,by omega,by go_num,by rw[he];rfl⟩
    case measure=>simp[intOf];omega
   ·rename_i h;have he:=abG hc h;go_round
    case rel=>exact⟨k+1,by omega,by go_num,by rw[he];rfl⟩
    case measure=>simp[intOf];omega
  ·go_wp2;go_ret;obtain rfl:k=8:=by omega
   exact⟨rfl,rfl⟩
def Xt(xs:List Int):List Nat:=xs.map Int.toNat
theorem aay(h:∀x∈xs,0<=x∧x<=255):∀x∈Xt xs,x<256:=by
 intro x hx;simp only[Xt,di]at hx;obtain⟨y,hy,rfl⟩:=hx;have:=h y hy;omega
def A7(xs:List Int):Nat:=FT.run (Xt xs) 4294967295
def crc(xs:List Int):Int:=4294967295 - (A7 xs:Int)
theorem Fb(h:∀x∈xs,0<=x∧x<=255):A7 xs<4294967296:=FT.Rc _ (by omega) (aay h)
theorem UA(h:∀x∈xs,0<=x∧x<=255):0<=crc xs∧crc xs<4294967296:=by
 have:=Fb h;unfold crc;omega
theorem PE(xs:List Int)(x:Int):A7 (xs++ [x])=FT.step (A7 xs) x.toNat:=by
 unfold A7 Xt;rw[List.map_append,FT.zR];rfl
theorem QW{s:Nat}{x:Int}(hs:s<4294967296)(h0:0<=x)(h1:x<=255):
  bits .xor .u32 ((FT.tab (bits .xor .u8 ((s:Int)%256) x).toNat:Nat):Int) ((s:Int)/ 256)=((FT.step s x.toNat:Nat):Int):=by
 obtain⟨m,rfl⟩:=Int.eq_ofNat_of_zero_le h0;rw[show(s:Int)%256=((s%256:Nat):Int)by omega,u8_xor_nat (s%256) m (by omega) (by omega),iU,
  show(s:Int)/ 256=((s / 256:Nat):Int)by omega,u32_xor_nat _ _ (FT.QT (by have:=FT.zu (Nat.mod_lt s (by decide:0<256)) (show m<256 by omega);omega)) (by omega)]
 rfl
theorem NN(xs:List Int)(k:Nat){x:Int}(h:xs[k]?=some x):xs.take (k+1)=xs.take k++ [x]:=by
 rw[List.take_add_one,h];rfl
theorem Z6(h:∀x∈xs,0<=x∧x<=255)(k:Nat):∀x∈xs.take k,0<=x∧x<=255:=λx hx=>h x (List.mem_of_mem_take hx)
theorem YD(hc:c<4294967296):bits .xor .u32 IntKind.u32.max (c:Int)=4294967295 - (c:Int):=by
 rw[show IntKind.u32.max=((4294967295:Nat):Int)from rfl,u32_xor_nat 4294967295 c (by omega) hc];have h:=congrArg BitVec.toNat (BitVec.allOnes_xor (w:=32) (x:=BitVec.ofNat 32 c));rw[BitVec.toNat_xor,BitVec.toNat_not,BitVec.toNat_ofNat,BitVec.toNat_allOnes,Nat.mod_eq_of_lt hc]at h;simp only[Nat.reducePow,Nat.add_one_sub_one]at h;omega
theorem LD(v:Value)(xs:List Int)(w:World)(hv:fu w v xs):
  Calls Tryz.prog 58 #[v] w λe w'=>e=.returned (.int .u32 (crc xs))∧w'=w:=by
 obtain⟨a,c,rfl⟩:∃a c,v=.slice a xs.length c:=by
  rcases hv.2 with⟨rfl,rfl⟩|⟨b,o,c,rfl,_⟩
  ·exact⟨_,_,rfl⟩
  ·exact⟨_,_,rfl⟩
 have hlen:xs.length<=9223372036854775807:=by
  rcases hv.2 with⟨_,rfl⟩|⟨b,o,c,_,h1,h2,_⟩
  ·simp
  ·omega
 have hb:=hv.1;go_enter Tryz.func58,Tryz.ntmps58;go_wp2;go_loop [3,8] (λs i=>∃k:Nat,k<=xs.length∧i=.int .i64 k∧s=.int .u32 (A7 (xs.take k):Nat)) (λ_ i=>xs.length - (intOf i).toNat)
 case atStart=>exact⟨0,by omega,rfl,rfl⟩
 case round=>
  obtain⟨k,hk,rfl,rfl⟩:=hrel;have hc:=Fb (Z6 hb k);by_cases hlt:k<xs.length
  ·obtain⟨x,hx⟩:∃x,xs[k]?=some x:=⟨_,cZ hlt⟩;obtain⟨hx0,hx1,b,o,c',he,hcell⟩:=mG hv hx;simp only[Value.slice.injEq]at he;obtain⟨rfl,he1,rfl⟩:=he;clear he1;have hst:Hid _:=QW hc hx0 hx1;have hsn:Hid _:=PE (xs.take k) x;have hts:Hid _:=NN xs k hx;have hq:0<=bits .xor .u8 ((A7 (xs.take k):Int)%256) x∧bits .xor .u8 ((A7 (xs.take k):Int)%256) x<=255:=by
    obtain⟨m,rfl⟩:=Int.eq_ofNat_of_zero_le hx0;rw[show(A7 (xs.take k):Int)%256=((A7 (xs.take k)%256:Nat):Int)by omega,u8_xor_nat _ m (by omega) (by omega)];have:=FT.zu (Nat.mod_lt (A7 (xs.take k)) (by decide:0<256)) (show m<256 by omega);omega
   clear hx hv hb;go_wp2_with(go_at_call 91;refine(BR _ hq.1 hq.2 _).mono ?_;rintro e w1 ⟨rfl,rfl⟩);go_round
   case rel=>exact⟨k+1,by omega,by go_num,by rw[hst.out,hts.out,hsn.out]⟩
   case measure=>simp[intOf];omega
  ·go_wp2;go_ret;obtain rfl:k=xs.length:=by omega
   simp only[List.take_length];exact⟨uW (YD (Fb hb)),trivial⟩
variable{xs:List Int}{v:Value}{W W':World}
theorem rW(h:fu W v xs):(convert 58 9 v).run Tryz.prog W=.ok (.string (strOfNums xs)) W:=by
 rcases h.2 with⟨rfl,rfl⟩|⟨b,o,c,rfl,_,_,h3⟩
 ·exact run_convert_bytes_nil (P:=Tryz.prog) W 58 5 Tryz.underlying58 Tryz.underlying5 0 0 9 Tryz.underlying9
 ·refine run_convert_bytes_arg (P:=Tryz.prog) W 58 5 Tryz.underlying58 Tryz.underlying5 b o xs.length c xs rfl ?_ 9 Tryz.underlying9;intro i hi;rw[h3 i xs[i] (cZ hi)];simp[hi]
theorem YK{n:Int}(h0:0<=n)(h1:n<4294967296):∀x∈b4 n,0<=x∧x<=255:=by
 intro x hx;simp only[b4,fe,List.not_mem_nil,or_false]at hx;rcases hx with rfl|rfl|rfl|rfl<;>omega
theorem ou(s:ByteArray):∀x∈aI s,0<=x∧x<=255:=by
 intro x hx;simp only[aI,di]at hx;obtain⟨b,_,rfl⟩:=hx;have:=b.toNat_lt;omega
theorem qQ{base:Nat}(h:W.ownsRow base 5 1 v xs.length (U xs))(hb:∀x∈xs,0<=x∧x<=255):fu W v xs:=by
 refine⟨hb,?_⟩;rcases id h.2 with⟨rfl,h0⟩|⟨g,cap,cur,rfl,_,_,h1,h2,_⟩
 ·exact .inl ⟨rfl,qz h0⟩
 ·refine .inr ⟨g,0,cap,rfl,h1,by unfold maxLen at h2;omega,λj x hx=> ?_⟩;have hj:j<xs.length:=by
   rcases Nat.lt_or_ge j xs.length with h|h
   ·exact h
   ·rw[List.getElem?_eq_none h]at hx;cases hx
  rw[Nat.zero_add,h.cellAt j (by omega)];simp[U,hx]
theorem Ri(s:ByteArray)(hs:s.size<=65536)(w:World)(fz:Nat×Nat):fu (w.drew.alloc (.cells (bytesRow s (grownCap w s.size 0 5)) 5 fz)) (.slice (some ⟨w.heap.size,0,none⟩) s.size (grownCap w s.size 0 5)) (aI s):=by
 refine⟨ou s,.inr ⟨w.heap.size,0,_,by rw[dA],by rw[dA];exact grownCap_ge _ _ _ _,?_,λj x hx=> ?_⟩⟩
 ·exact grownCap_le_maxLen w s.size 0 _ (by unfold maxLen;omega)
 ·have hj:j<s.size:=by
   rcases Nat.lt_or_ge j s.size with h|h
   ·exact h
   ·rw[List.getElem?_eq_none (by rw[dA];exact h)]at hx;cases hx
  have hh:=bS w.drew (.cells (bytesRow s (grownCap w s.size 0 5)) 5 fz);rw[Nat.zero_add];refine(aH _ _ j _ _ _ hh).trans ?_;unfold bytesRow;rw[Array.getElem?_append_left (by simpa using hj)];simp only[aI,kr]at hx;simp only[Array.getElem?_map];cases hq:s.data[j]? with
  |none=>simp[hq]at hx
  |some b=>
   simp[hq]at hx;subst hx;rfl
theorem aC(A:World)(r:Option Nat):A.grownBy A r:=⟨rfl,rfl,rfl,aD _,λ_ _ _=>rfl⟩
theorem ah{A B:World}{g:Nat}(h:A.grownBy B (some g))(j:Nat)(v:Value):A.grownBy (B.setCell ⟨g,j,none⟩ v) (some g):=
 ⟨h.os,h.tape,h.output,by simpa using h.size,λi hi hne=>(iV B ⟨g,j,none⟩ v i (λe=>hne (by rw[e]))).trans (h.block i hi hne)⟩
theorem fu.kept(h:fu W v xs)(hb:Below W.heap.size W W'):fu W' v xs:=by
 refine⟨h.1,?_⟩;rcases h.2 with h|⟨b,o',c,rfl,k1,k2,k3⟩
 ·exact .inl h
 ·exact .inr ⟨b,o',c,rfl,k1,k2,λj x hx=>(hb.cell (World.block_lt_of_cell? W _ (k3 j x hx))).trans (k3 j x hx)⟩
theorem Rd.kept{R:Nat}(h:Rd R xs W)(hb:Below W.heap.size W W'):Rd R xs W':=by
 obtain⟨v,h1,h2,hx,h3⟩:=h;have hlt:=World.block_lt_of_cell? W _ h1;refine⟨v,(hb.cell hlt).trans h1,(hb.frozen hlt).trans h2,hx,?_⟩;rcases h3 with h|⟨b,o',c,rfl,k1,k2,k3⟩
 ·exact .inl h
 ·exact .inr ⟨b,o',c,rfl,k1,k2,λj x hx=>(hb.cell (World.block_lt_of_cell? W _ (k3 j x hx))).trans (k3 j x hx)⟩
variable{o:Bool}{a s:Int}{W w:World}
@[reducible] def Gi(o : Bool)(a s : Int): Value := .agg #[.bool o, .int .u32 a, .int .u32 s]
@[reducible] def aZ(o : Bool)(a s : Int): Obj := .cells #[.bool o, .int .u32 a, .int .u32 s] 82
def uf(o:Bool)(a s:Int):List Int:=(if o then 1 else 2)::(b4 (if o then 0 else a)++b4 s)
def zU(o:Bool)(a s:Int):List Int:=uf o a s++b4 (crc (uf o a s))
theorem xP(o:Bool)(a s:Int):(uf o a s).length=9:=rfl
theorem JL(a0:0<=a)(a1:a<4294967296)(s0:0<=s)(s1:s<4294967296):∀x∈uf o a s,0<=x∧x<=255:=by
 intro x hx;simp only[uf,fe,eu]at hx;rcases hx with rfl|hx|hx
 ·cases o<;>simp
 ·cases o
  ·exact YK a0 a1 x hx
  ·exact YK (by simp) (by simp) x hx
 ·exact YK s0 s1 x hx
theorem Rj(a0:0<=a)(a1:a<4294967296)(s0:0<=s)(s1:s<4294967296):∀x∈zU o a s,0<=x∧x<=255:=by
 have hh:=JL (o:=o) a0 a1 s0 s1;intro x hx;rcases eu.1 hx with hx|hx
 ·exact hh x hx
 ·have:=UA hh;exact YK this.1 this.2 x hx
@[reducible] def Bo(a s : Int)(w W : World): Prop :=
 W.cell? ⟨w.heap.size,1,none⟩=some (.int .u32 a)∧W.cell? ⟨w.heap.size,2,none⟩=some (.int .u32 s)∧w.heap.size<W.heap.size∧Below w.heap.size w W
theorem Bo.start(o:Bool)(a s:Int)(w:World):Bo a s w (w.alloc (aZ o a s)):=
 ⟨j6 w _ _ _,j6 w _ _ _,by simp,bq⟩
theorem Bo.drew(h:Bo a s w W):Bo a s w W.drew:=⟨h.1,h.2.1,h.2.2.1,h.2.2.2.drew⟩
theorem Bo.alloc(h:Bo a s w W)(o:Obj):Bo a s w (W.alloc o):=by
 have hb:Below W.heap.size W (W.alloc o):=bq;exact⟨(hb.cell (p:=⟨w.heap.size,1,none⟩) h.2.2.1).trans h.1,(hb.cell (p:=⟨w.heap.size,2,none⟩) h.2.2.1).trans h.2.1,by simp;have:=h.2.2.1;omega,h.2.2.2.alloc (Nat.le_of_lt h.2.2.1) _⟩
theorem Bo.grown{W1:World}{v:Value}{n:Nat}{xs:List Value}(h:Bo a s w W)(ho:W.ownsRow (w.heap.size+1) 5 1 v n xs)(hg:W.grownBy W1 v.ownBlock):Bo a s w W1:=by
 have hne:some w.heap.size≠v.ownBlock:=λe=>by have:=(ho.lt _ e.symm).1;omega
 have hb:Below (w.heap.size+1) W W1:=(aV _ _).grown hg h.2.2.1 λk hk=>(ho.lt k hk).1;exact⟨hg.cell h.1 hne,hg.cell h.2.1 hne,fZ h.2.2.1 hg.size,h.2.2.2.trans (hb.mono (Nat.le_succ _))⟩
theorem L6(base:Nat)(w:World)(x0:Int)(hb:base<=w.heap.size):
  (w.alloc (.cells #[.int .u8 x0] 5)).ownsRow base 5 1 (.slice (some ⟨w.heap.size,0,none⟩) 1 1) [x0].length (U [x0]):=
 ⟨rfl,.inr ⟨w.heap.size,1,_,rfl,hb,bS w _,aD _,by decide,rfl,rfl⟩⟩
theorem qw(o:Bool)(a s:Int)(a0:0<=a)(a1:a<4294967296)(s0:0<=s)(s1:s<4294967296)(w:World):
  Calls Tryz.prog 23 #[Gi o a s] w λe w'=>∃v,e=.returned v∧Below w.heap.size w w'∧v≠ .slice none 0 0∧w'.ownsRow (w.heap.size+1) 5 1 v 13 (U (zU o a s)):=by
 cases o
 ·have hS:=Bo.start false a s w;dsimp only[aZ]at hS;have hl1:w.heap.size<(w.alloc (aZ false a s)).heap.size:=by simp
  dsimp only[aZ]at hl1;go_enter Tryz.func23,Tryz.ntmps23;go_wp2_with fail;generalize World.alloc _ _=W0 at hS hl1 ⊢;have yH:=(L6 (w.heap.size+1) W0 2 hl1).drew;go_region_held3 (Bo a s w) (first|exact Bo.drew (by assumption)|assumption|exact Bo.alloc (by assumption) _|exact Bo.grown (by assumption) yH l6|exact Bo.grown (by assumption) hown5 pV) (first
   |(go_at_call_of 57 (Value.int IntKind.u32 a);refine(dG (w.heap.size+1) _ a [2] _ a0 a1 yH (by simp) (by simp;omega) (by simp)).mono ?_;rintro e w5 ⟨v5,rfl,hown5,l6,Ca⟩)
   |(go_at_call_of 57 (Value.int IntKind.u32 s);refine(dG (w.heap.size+1) _ s ([2]++b4 a) _ s0 s1 hown5 Ca (dH (Nat.le_of_lt (by simp;omega)) l6.size) (by simp[lC])).mono ?_;rintro e w6 ⟨v6,rfl,hown6,pV,H8⟩))
  rename_i XZ;have hb:∀x∈uf false a s,0<=x∧x<=255:=JL a0 a1 s0 s1;have Ap:w6.ownsRow (w.heap.size+1) 5 1 v6 (uf false a s).length (U (uf false a s)):=hown6;have hr:=qQ Ap hb;have hc:=UA hb;clear hown6 pV hown5 l6 yH hS hl1 Ca;go_wp2_with fail;refine(LD _ (uf false a s) _ hr).mono ?_;rintro e w7 ⟨rfl,rfl⟩;go_wp2_with fail;refine(dG (w.heap.size+1) _ _ (uf false a s) _ hc.1 hc.2 Ap H8 XZ.2.2.1 (by rw[xP];omega)).mono ?_;rintro e w8 ⟨v8,rfl,Tx,Ka,aaY⟩;go_wp2_with fail;go_ret;exact⟨v8,rfl,XZ.2.2.2.grown Ka (Nat.le_of_lt XZ.2.2.1) (λk hk=>Nat.le_of_succ_le (Ap.lt k hk).1),aaY,Tx⟩
 ·have hS:=Bo.start true 0 s w;dsimp only[aZ]at hS;have hl1:w.heap.size<(w.alloc (aZ true 0 s)).heap.size:=by simp
  dsimp only[aZ]at hl1;go_enter Tryz.func23,Tryz.ntmps23;go_wp2_with fail;generalize World.alloc _ _=W0 at hS hl1 ⊢;have yH:=(L6 (w.heap.size+1) W0 1 hl1).drew;go_region_held3 (Bo 0 s w) (first|exact Bo.drew (by assumption)|assumption|exact Bo.alloc (by assumption) _|exact Bo.grown (by assumption) yH l6|exact Bo.grown (by assumption) hown5 pV) (first
   |(go_at_call_of 57 (Value.int IntKind.u32 0);refine(dG (w.heap.size+1) _ 0 [1] _ (by decide) (by decide) yH (by simp) (by simp;omega) (by simp)).mono ?_;rintro e w5 ⟨v5,rfl,hown5,l6,Ca⟩)
   |(go_at_call_of 57 (Value.int IntKind.u32 s);refine(dG (w.heap.size+1) _ s ([1]++b4 0) _ s0 s1 hown5 Ca (dH (Nat.le_of_lt (by simp;omega)) l6.size) (by simp[lC])).mono ?_;rintro e w6 ⟨v6,rfl,hown6,pV,H8⟩))
  rename_i XZ;have hb:∀x∈uf true 0 s,0<=x∧x<=255:=JL (by decide) (by decide) s0 s1;have Ap:w6.ownsRow (w.heap.size+1) 5 1 v6 (uf true 0 s).length (U (uf true 0 s)):=hown6;have hr:=qQ Ap hb;have hc:=UA hb;clear hown6 pV hown5 l6 yH hS hl1 Ca;go_wp2_with fail;refine(LD _ (uf true 0 s) _ hr).mono ?_;rintro e w7 ⟨rfl,rfl⟩;go_wp2_with fail;refine(dG (w.heap.size+1) _ _ (uf true 0 s) _ hc.1 hc.2 Ap H8 XZ.2.2.1 (by rw[xP];omega)).mono ?_;rintro e w8 ⟨v8,rfl,Tx,Ka,aaY⟩;go_wp2_with fail;go_ret;exact⟨v8,rfl,XZ.2.2.2.grown Ka (Nat.le_of_lt XZ.2.2.1) (λk hk=>Nat.le_of_succ_le (Ap.lt k hk).1),aaY,Tx⟩
def n4(a b c d:Int):Int:=a * 16777216+b * 65536+c * 256+d
theorem Eg(x y:Int)(hx:0<=x)(hx1:x<16777216)(hy:0<=y)(hy1:y<=255):bits .or .u32 (x * 256) y=x * 256+y:=by
 rw[bits_join .u32 32 (by decide) wraps_u32 8 (x * 256) y (by omega) (by omega) (by omega) hy (by omega) (by omega)]
theorem dI(R:Nat)(xs:List Int)(W:World)(h:Rd R xs W):
  Calls Tryz.prog 87 #[.pointer (some ⟨R,0,none⟩)] W λe w'=>(∃a b c d ys,xs=a::b::c::d::ys∧e=.returned (.int .u32 (n4 a b c d))∧Rd R ys w'∧W.grownBy w' (some R)∧Below R W w')∨(xs.length<4∧e=.panicked broken∧w'=W):=by
 go_enter Tryz.func87,Tryz.ntmps87;go_wp2_with fail;refine(zC R 4 xs W h).mono ?_;rintro e w1 (⟨hn,⟨v,rfl,hv⟩,hrd,hg,hbl⟩|⟨hn,rfl,rfl⟩)
 ·obtain⟨x0,x1,x2,x3,ys,rfl⟩:∃a b c d ys,xs=a::b::c::d::ys:=by
   match xs,hn with
   |a::b::c::d::ys,_=>exact⟨a,b,c,d,ys,rfl⟩
  obtain⟨p0,q0,b,o,c,hv',c0⟩:=mG hv (j:=0) (x:=x0) rfl;simp only[List.take_succ_cons,List.take_zero,dU,List.length_nil,Nat.zero_add,Nat.add_zero,Nat.reduceAdd]at hv' c0;subst hv';obtain⟨p1,q1,b1,o1,d1,e1,c1⟩:=mG hv (j:=1) (x:=x1) rfl;obtain⟨p2,q2,b2,o2,d2,e2,c2⟩:=mG hv (j:=2) (x:=x2) rfl;obtain⟨p3,q3,b3,o3,d3,e3,c3⟩:=mG hv (j:=3) (x:=x3) rfl;simp only[Value.slice.injEq,Option.some.injEq,Addr.mk.injEq,and_true]at e1 e2 e3;obtain⟨⟨rfl,rfl⟩,h41,rfl⟩:=e1;clear h41;obtain⟨⟨rfl,rfl⟩,h42,rfl⟩:=e2;clear h42;obtain⟨⟨rfl,rfl⟩,h43,rfl⟩:=e3;clear h43;have ae0:Rd R ys w1:=hrd;clear hv hrd hn h;go_wp2_with fail;go_loop [3,9] (λn i=>(i=.int .i64 0∧n=.int .u32 0)∨(i=.int .i64 1∧n=.int .u32 x0)∨(i=.int .i64 2∧n=.int .u32 (x0 * 256+x1))∨(i=.int .i64 3∧n=.int .u32 ((x0 * 256+x1)* 256+x2))∨(i=.int .i64 4∧n=.int .u32 (((x0 * 256+x1)* 256+x2)* 256+x3))) (λ_ i=>4 - (intOf i).toNat)
  case atStart=>exact .inl ⟨rfl,rfl⟩
  case round=>
   have k0:Hid (bits .or .u32 0 x0=x0):=by
    have:=Eg 0 x0 (by omega) (by omega) p0 q0;show bits .or .u32 0 x0=x0;simpa using this
   have k1:Hid _:=Eg x0 x1 p0 (by omega) p1 q1;have k2:Hid _:=Eg (x0 * 256+x1) x2 (by omega) (by omega) p2 q2;have k3:Hid _:=Eg ((x0 * 256+x1)* 256+x2) x3 (by omega) (by omega) p3 q3;rcases hrel with⟨rfl,rfl⟩|⟨rfl,rfl⟩|⟨rfl,rfl⟩|⟨rfl,rfl⟩|⟨rfl,rfl⟩
   ·clear c1 c2 c3;go_wp2;go_round
    case rel=>exact .inr (.inl ⟨rfl,by rw[k0.out]⟩)
    case measure=>simp[intOf]
   ·clear c0 c2 c3;go_wp2;go_round
    case rel=>exact .inr (.inr (.inl ⟨rfl,by rw[k1.out]⟩))
    case measure=>simp[intOf]
   ·clear c0 c1 c3;go_wp2;go_round
    case rel=>exact .inr (.inr (.inr (.inl ⟨rfl,by rw[k2.out]⟩)))
    case measure=>simp[intOf]
   ·clear c0 c1 c2;go_wp2;go_round
    case rel=>exact .inr (.inr (.inr (.inr ⟨rfl,by rw[k3.out]⟩)))
    case measure=>simp[intOf]
   ·go_wp2;go_ret;refine .inl ⟨x0,x1,x2,x3,ys,⟨rfl,rfl,rfl,rfl,rfl⟩,uW ?_,ae0,hg,hbl⟩;unfold n4;omega
 ·exact⟨rfl,.inr ⟨by omega,rfl,rfl⟩⟩
variable{xs:List Int}
theorem tK(h:∀x∈xs,0<=x∧x<=255):aI (strOfNums xs)=xs:=by
 unfold aI;rw[strOfNums_data,List.map_map];conv=>rhs;rw[<-List.map_id xs]
 refine List.map_congr_left λx hx=> ?_;have:=h x hx;simp only[Function.comp_apply,id,UInt8.toNat_ofNat'];omega
theorem acw{ys:List Int}(hx:∀x∈xs,0<=x∧x<=255)(hy:∀x∈ys,0<=x∧x<=255):((strOfNums xs).toList==(strOfNums ys).toList)=decide (xs=ys):=by
 rw[Bool.eq_iff_iff];simp only[beq_iff_eq,jg];constructor
 ·intro h;rw[<-tK hx,<-tK hy];unfold aI;have:(strOfNums xs).data.toList=(strOfNums ys).data.toList:=by
   rw[Lib.strOfNums_toList,Lib.strOfNums_toList]at h;exact h
  rw[this]
 ·rintro rfl;rfl
theorem Qn(v u:Value)(xs ys:List Int)(w:World)(hv:fu w v xs)(hu:fu w u ys):
  Calls Tryz.prog 101 #[v,u] w λe w'=>e=.returned (.bool (decide (xs=ys)))∧w'=w:=by
 have h1:=rW hv;have h2:=rW hu;have hx:=hv.1;have hy:=hu.1;clear hv hu;go_enter Tryz.func101,Tryz.ntmps101;go_wp2;go_ret;exact⟨lQ (acw hx hy),rfl⟩
variable{o:Bool}{a s:Int}{B N:Nat}{W W':World}
def qG(B:Nat)(o:Bool)(a s:Int)(W:World):Prop:=W.heap[B]?=some (aZ o a s)
theorem qG.cell(h:qG B o a s W):
  W.cell? ⟨B,0,none⟩=some (.bool o)∧W.cell? ⟨B,1,none⟩=some (.int .u32 a)∧W.cell? ⟨B,2,none⟩=some (.int .u32 s):=
 ⟨aH W B 0 _ _ _ h,aH W B 1 _ _ _ h,aH W B 2 _ _ _ h⟩
theorem qG.free(h:qG B o a s W)(i:Nat):W.frozen? ⟨B,i,none⟩=false:=by
 unfold qG at h;simp[World.frozen?,h]
theorem qG.lt(h:qG B o a s W):B<W.heap.size:=(gZ.1 h).1
theorem qG.below(h:qG B o a s W)(hb:Below N W W')(hN:B<N):qG B o a s W':=(hb.block _ hN).trans h
theorem qG.later(h:qG B o a s W)(hb:Below W.heap.size W W'):qG B o a s W':=h.below hb h.lt
theorem qG.new(o:Bool)(a s:Int)(W:World):qG W.heap.size o a s (W.alloc (aZ o a s)):=bS W _
@[reducible] def DR(W : World)(B : Nat)(o : Bool)(a s : Int): World := ((W.setCell ⟨B, 0, none⟩ (.bool o)).setCell ⟨B, 1, none⟩ (.int .u32 a)).setCell ⟨B, 2, none⟩ (.int .u32 s)
theorem qG.store(h:qG B o a s W)(o':Bool)(a' s':Int):qG B o' a' s' (DR W B o' a' s'):=by
 unfold qG at h ⊢;simp[World.setCell,Array.getElem?_modify,h]
theorem vS{w:World}(h:Below N w W)(hN:N<=B)(o:Bool)(a s:Int):Below N w (DR W B o a s):=
 ((h.setCell (p:=⟨B,0,none⟩) hN _).setCell (p:=⟨B,1,none⟩) hN _).setCell (p:=⟨B,2,none⟩) hN _
theorem Yk{c:Array Value}{e:TypeId}(h:W.heap[B]?=some (.cells c e (0,0)))(i:Nat):W.frozen? ⟨B,i,none⟩=false:=by
 simp[World.frozen?,h]
def rO(xs:List Int):Bool:=xs.getD 0 0==1
def rA(xs:List Int):Int:=n4 (xs.getD 1 0) (xs.getD 2 0) (xs.getD 3 0) (xs.getD 4 0)
def rS(xs:List Int):Int:=n4 (xs.getD 5 0) (xs.getD 6 0) (xs.getD 7 0) (xs.getD 8 0)
def BU(xs:List Int):Bool:=decide (13<=xs.length)&&decide (xs.take 13=zU (rO xs) (rA xs) (rS xs))
theorem Zh{b c d:Int}(ha:0<=a∧a<=255)(hb:0<=b∧b<=255)(hc:0<=c∧c<=255)(hd:0<=d∧d<=255):0<=n4 a b c d∧n4 a b c d<4294967296:=by
 unfold n4;omega
theorem aaC{xs:List Int}(h:13<=xs.length):∃x0 x1 x2 x3 x4 x5 x6 x7 x8 x9 x10 ZT ZR ys,xs=x0::x1::x2::x3::x4::x5::x6::x7::x8::x9::x10::ZT::ZR::ys:=by
 match xs,h with
 |x0::x1::x2::x3::x4::x5::x6::x7::x8::x9::x10::ZT::ZR::ys,_=>exact⟨x0,x1,x2,x3,x4,x5,x6,x7,x8,x9,x10,ZT,ZR,ys,rfl⟩
theorem wH(v:Value)(xs:List Int)(w:World)(hv:fu w v xs)(hs:xs.length<13):
  Calls Tryz.prog 68 #[v] w λe w'=>e=.returned (.tuple #[Gi false 0 0,.bool false])∧Below w.heap.size w w':=by
 obtain⟨a,c,rfl⟩:∃a c,v=.slice a xs.length c:=by
  rcases hv.2 with⟨rfl,rfl⟩|⟨b,o,c,rfl,_⟩
  ·exact⟨_,_,rfl⟩
  ·exact⟨_,_,rfl⟩
 have hd:decide ((xs.length:Int)<13)=true:=gm (by omega);clear hv;go_enter Tryz.func68,Tryz.ntmps68;go_wp2;go_returns;exact⟨rfl,bq⟩
theorem yF(v:Value)(xs:List Int)(w:World)(hv:fu w v xs)(hs:13<=xs.length):
  Calls Tryz.prog 68 #[v] w λe w'=>e=.returned (.tuple #[if BU xs then Gi (rO xs) (rA xs) (rS xs)else Gi false 0 0,.bool (BU xs)])∧Below w.heap.size w w':=by
 obtain⟨b,o,c,rfl,h1,h2,h3⟩:∃b o c,v=.slice (some ⟨b,o,none⟩) xs.length c∧xs.length<=c∧c<=9223372036854775807∧∀(j:Nat) (x:Int),xs[j]?=some x->w.cell? ⟨b,o+j,none⟩=some (.int .u8 x):=by
  rcases hv.2 with⟨rfl,rfl⟩|h
  ·simp at hs
  ·exact h
 have hp:=(fu.part hv.1 h1 h2 h3 13 hs).1;have hd:decide ((xs.length:Int)<13)=false:=fA (by omega);have hx:=hv.1;obtain⟨x0,x1,x2,x3,x4,x5,x6,x7,x8,x9,x10,ZT,ZR,ys,hxs⟩:=aaC hs;have hO:rO xs=(x0==1):=by rw[hxs];rfl
 have hA:rA xs=n4 x1 x2 x3 x4:=by rw[hxs];rfl
 have hS:rS xs=n4 x5 x6 x7 x8:=by rw[hxs];rfl
 have ht:xs.take 13=[x0,x1,x2,x3,x4,x5,x6,x7,x8,x9,x10,ZT,ZR]:=by rw[hxs];rfl
 have hk:BU xs=decide ([x0,x1,x2,x3,x4,x5,x6,x7,x8,x9,x10,ZT,ZR]=zU (x0==1) (n4 x1 x2 x3 x4) (n4 x5 x6 x7 x8)):=by
  unfold BU;rw[hO,hA,hS,ht,gm hs,Bool.true_and]
 have jO:0<=n4 x1 x2 x3 x4∧n4 x1 x2 x3 x4<4294967296:=by
  rw[hxs]at hx;exact Zh (hx x1 (by simp)) (hx x2 (by simp)) (hx x3 (by simp)) (hx x4 (by simp))
 have hbS:0<=n4 x5 x6 x7 x8∧n4 x5 x6 x7 x8<4294967296:=by
  rw[hxs]at hx;exact Zh (hx x5 (by simp)) (hx x6 (by simp)) (hx x7 (by simp)) (hx x8 (by simp))
 rw[hO,hA,hS];rw[ht]at hp;have hk':=(show Hid _ from hk);generalize BU xs=ok at hk' ⊢;clear hv h3 hx hxs hO hA hS ht hk;have hZ:qG w.heap.size false 0 0 ((w.alloc (aZ false 0 0)).alloc (.cells #[.slice (some ⟨b,o,none⟩) 13 c] 141)):=(qG.new false 0 0 w).later (bq);have hB:Below w.heap.size w ((w.alloc (aZ false 0 0)).alloc (.cells #[.slice (some ⟨b,o,none⟩) 13 c] 141)):=(bq).alloc (by simp) _;have hR:Rd (w.heap.size+1) [x0,x1,x2,x3,x4,x5,x6,x7,x8,x9,x10,ZT,ZR] ((w.alloc (aZ false 0 0)).alloc (.cells #[.slice (some ⟨b,o,none⟩) 13 c] 141)):=by
  have hh:=bS (w.alloc (aZ false 0 0)) (.cells #[.slice (some ⟨b,o,none⟩) 13 c] 141);rw[World.size_alloc]at hh;exact⟨_,aH _ _ 0 _ _ _ hh,Yk hh 0,hp.kept hB⟩
 dsimp only[aZ]at hZ hB hR;go_enter Tryz.func68,Tryz.ntmps68;go_wp2_with fail;generalize World.alloc _ _=W1 at hZ hB hR ⊢;refine(Eh _ _ _ hR).mono ?_;rintro e W2 (⟨x,zs,he,hx0,hx1,rfl,hR2,hg2,hb2⟩|⟨he,_⟩)
 case inr=>cases he
 cases he;have hZ2:=hZ.below hb2 (Nat.lt_succ_self _);have hB2:=hB.trans (hb2.mono (Nat.le_succ _));clear hZ hB hR hg2 hb2;go_wp2_with fail;refine(dI _ _ _ hR2).mono ?_;rintro e W3 (⟨a',b',c',d',zs,he,rfl,Pd,hg3,hb3⟩|⟨he,_⟩)
 case inr=>simp at he
 cases he;have hZ3:=hZ2.below hb3 (Nat.lt_succ_self _);have hB3:=hB2.trans (hb3.mono (Nat.le_succ _));clear hZ2 hB2 hR2 hg3 hb3;go_wp2_with fail;refine(dI _ _ _ Pd).mono ?_;rintro e W4 (⟨a',b',c',d',zs,he,rfl,M8,hg4,hb4⟩|⟨he,_⟩)
 case inr=>simp at he
 cases he;have hZ4:=hZ3.below hb4 (Nat.lt_succ_self _);have hB4:=hB3.trans (hb4.mono (Nat.le_succ _));clear hZ3 hB3 Pd hg4 hb4 M8;have hN:=qG.new (x0==1) (n4 x1 x2 x3 x4) (n4 x5 x6 x7 x8) W4;have hbn:Below W4.heap.size W4 (W4.alloc (aZ (x0==1) (n4 x1 x2 x3 x4) (n4 x5 x6 x7 x8))):=bq;have hZ5:=hZ4.later hbn;have uI:=hB4.trans (hbn.mono hB4.size);dsimp only[aZ]at hN hZ5 uI;clear hbn hZ4 hB4;go_wp2_with fail;clear hN;have hN:=qG.new (x0==1) (n4 x1 x2 x3 x4) (n4 x5 x6 x7 x8) W4;dsimp only[aZ]at hN;generalize W4.heap.size=R5 at hN ⊢;generalize World.alloc _ _=W5 at hN hZ5 uI ⊢;refine(qw (x0==1) (n4 x1 x2 x3 x4) (n4 x5 x6 x7 x8) jO.1 jO.2 hbS.1 hbS.2 _).mono ?_;rintro e W6 ⟨v6,rfl,hb6,H8,hown6⟩;have Qv:=hN.later hb6;have hZ6:=hZ5.later hb6;have Cf:=uI.trans (hb6.mono uI.size);have hp6:=hp.kept Cf;have sM:fu W6 v6 (zU (x0==1) (n4 x1 x2 x3 x4) (n4 x5 x6 x7 x8)):=qQ (base:=W5.heap.size+1) hown6 (Rj jO.1 jO.2 hbS.1 hbS.2);clear hN hZ5 uI hb6 H8 hown6 hp;go_wp2_with fail;refine(Qn _ _ _ _ _ hp6 sM).mono ?_;rintro e W7 ⟨rfl,rfl⟩;rw[<-hk'.out];clear hk' sM hp6 jO hbS;obtain⟨n0,n1,n2⟩:=Qv.cell;obtain⟨z0,z1,z2⟩:=hZ6.cell;have zf:=hZ6.free;have hw:=hZ6.lt;cases ok
 ·have hF:=hZ6.store false 0 0;have hG:=vS Cf (aD _) false 0 0;go_wp2;dsimp only[DR]at hF hG;generalize World.setCell _ _ _=W8 at hF hG ⊢;obtain⟨q0,q1,q2⟩:=hF.cell;exact bodyPost_ret (v:=.tuple #[Gi false 0 0,.bool false]) (by simp[results,Tryz.results68,go_sem,q0,q1,q2]) rfl ⟨rfl,hG⟩
 ·have hF:=hZ6.store (x0==1) (n4 x1 x2 x3 x4) (n4 x5 x6 x7 x8);have hG:=vS Cf (aD _) (x0==1) (n4 x1 x2 x3 x4) (n4 x5 x6 x7 x8);go_wp2;dsimp only[DR]at hF hG;generalize World.setCell _ _ _=W8 at hF hG ⊢;obtain⟨q0,q1,q2⟩:=hF.cell;exact bodyPost_ret (v:=.tuple #[Gi (x0==1) (n4 x1 x2 x3 x4) (n4 x5 x6 x7 x8),.bool true]) (by simp[results,Tryz.results68,go_sem,q0,q1,q2]) rfl ⟨rfl,hG⟩
theorem zV(v:Value)(xs:List Int)(w:World)(hv:fu w v xs):
  Calls Tryz.prog 68 #[v] w λe w'=>e=.returned (.tuple #[if BU xs then Gi (rO xs) (rA xs) (rS xs)else Gi false 0 0,.bool (BU xs)])∧Below w.heap.size w w':=by
 by_cases hs:13<=xs.length
 ·exact yF v xs w hv hs
 ·have hk:BU xs=false:=by simp[BU,hs]
  rw[hk];exact wH v xs w hv (by omega)
variable{xs:List Int}
theorem qX:(Tryz.prog.info? 82).map (λi=>(i.zero,i.size,i.bytes))=some (some (.agg #[.bool false,.int .u32 0,.int .u32 0]),3,12):=by kernel_rfl
theorem Jz{w:World}{v:Value}(hv:fu w v xs)(k:Nat)(hk:k<=xs.length)(i:Int)(hi:i=k):
  ∃u,(∀W:World,(Instr.slice 58 v (some (.int .i64 i)) none none).run Tryz.prog W=.ok u W)∧∀W:World,fu W v xs->fu W u (xs.drop k):=by
 have ht:Tryz.prog.underlying 58=some (.slice (Tryz.prog.elem 58)):=by simp[Program.elem,Tryz.underlying58]
 have hz:∀w,(Go.sizeOf (Tryz.prog.elem 58)).run Tryz.prog w=.ok 1 w:=by
  intro w;simp[go_sem,Program.elem,Tryz.underlying58]
 subst hi;rcases hv.2 with⟨rfl,rfl⟩|⟨b,o,c,rfl,h1,h2,_⟩
 ·obtain rfl:k=0:=by simpa using hk
  refine⟨.slice none 0 0,λW=> ?_,λW h=>h⟩;rw[run_slice_l W 58 _ _ _ ht .i64 _ (by omega) (by omega),hz];rfl
 ·refine⟨sliced (some ⟨b,o,none⟩) k xs.length c 1,λW=> ?_,λW h=> ?_⟩
  ·rw[run_slice_l W 58 _ _ _ ht .i64 _ (by omega) (by omega),hz];rfl
  ·rcases h.2 with⟨he,_⟩|⟨b',o',c',he,_,_,h3⟩
   ·cases he
   ·simp only[Value.slice.injEq,Option.some.injEq,Addr.mk.injEq,and_true]at he;obtain⟨⟨rfl,rfl⟩,_,rfl⟩:=he;have hp:=(fu.part h.1 h1 h2 h3 k hk).2;unfold sliced;split
    ·rename_i hc;have hx:xs.drop k=[]:=List.drop_eq_nil_of_le (by omega);rw[hx];refine⟨by simp,.inr ⟨b,o,c - k,?_,by simp,by omega,by simp⟩⟩;rw[show xs.length - k=([]:List Int).length by simp;omega]
    ·have e:(some (⟨b,o,none⟩:Addr)).map (·.add (k * 1))=some ⟨b,o+k,none⟩:=by simp[Addr.add]
     rw[e];exact hp
def RC(L:List (Bool×Int×Int)):List Value:=L.flatMap λx=> [.bool x.1,.int .u32 x.2.1,.int .u32 x.2.2]
theorem lG(a b:List (Bool×Int×Int)):RC (a++b)=RC a++RC b:=by simp[RC]
theorem U5(x:Bool×Int×Int):RC [x]=[.bool x.1,.int .u32 x.2.1,.int .u32 x.2.2]:=rfl
def JM:Nat->List Int->List (Bool×Int×Int)
 |0,_=> []
 |f+1,xs=>if BU xs then(rO xs,rA xs,rS xs)::JM f (xs.drop 13)else []
def jl(xs:List Int):List (Bool×Int×Int):=JM xs.length xs
theorem Mc(h:BU xs=true):13<=xs.length:=by
 simp only[BU,fF,jg]at h;exact h.1
theorem Rk(h:BU xs=false)(f:Nat):JM f xs=[]:=by
 cases f<;>simp[JM,h]
theorem LU(h:BU xs=true){f:Nat}(hf:xs.length<=f):JM f xs=(rO xs,rA xs,rS xs)::JM (f - 1) (xs.drop 13):=by
 have:=Mc h;obtain⟨g,rfl⟩:∃g,f=g+1:=⟨f - 1,by omega⟩;simp[JM,h]
theorem lq(W:World)(o:Bool)(a s:Int):∀(j:Nat) (u:Value),(RC [(o,a,s)])[j]?=some u->(W.alloc (aZ o a s)).cell? ((⟨W.heap.size,0,none⟩:Addr).add j)=some u:=by
 intro j u hj;have hh:=bS W (aZ o a s);rw[U5]at hj
 match j,hj with
 |0,hj=>exact(aH _ _ 0 _ _ _ hh).trans hj
 |1,hj=>exact(aH _ _ 1 _ _ _ hh).trans hj
 |2,hj=>exact(aH _ _ 2 _ _ _ hh).trans hj
 |j+3,hj=>simp at hj
theorem nO(o:Bool)(a s:Int):∀u∈RC [(o,a,s)],u.oneCell'=true:=by
 intro u hu;simp only[U5,fe,List.not_mem_nil,or_false]at hu;rcases hu with rfl|rfl|rfl<;>rfl
theorem yT(v:Value)(xs:List Int)(hxs:xs.length<=1000000)(w:World)(hv:fu w v xs):
  Calls Tryz.prog 41 #[v] w λe w'=>∃u,e=.returned (.tuple #[u,.int .i64 (13 * (jl xs).length:Nat)])∧Below w.heap.size w w'∧w'.ownsRow w.heap.size 82 3 u (jl xs).length (RC (jl xs)):=by
 obtain⟨i0,hi,hz0,hz1,hz2⟩:=info_parts qX;go_enter Tryz.func41,Tryz.ntmps41;go_wp2_with fail;go_loopw [4,5] (λl t wr=>∃(k:Nat) (L:List (Bool×Int×Int)),L.length=k∧13 * k<=xs.length∧t=.int .i64 (13 * (k:Int))∧wr.ownsRow w.heap.size 82 3 l k (RC L)∧Below w.heap.size w wr∧jl xs=L++JM (xs.length - k) (xs.drop (13 * k))) (λ_ t _=>xs.length - (intOf t).toNat)
 case atStart=>exact⟨0,[],rfl,by omega,rfl,⟨rfl,.inl ⟨rfl,rfl⟩⟩,aV _ _,rfl⟩
 case round=>
  obtain⟨k,L,hLk,VO,rfl,ho,hB,hj⟩:=hrel;obtain⟨u,hsl,hu⟩:=Jz hv (13 * k) VO (13 * (k:Int)) (by omega);have hur:=hu _ (hv.kept hB);have hj':=(show Hid _ from hj);have hLk':=(show Hid _ from hLk);clear hj hu hLk;go_wp2_with fail;refine(zV _ _ _ hur).mono ?_;rintro e W1 ⟨rfl,hb1⟩;have ho1:=ho.kept (w':=W1) (row:=none) ⟨hb1.os,hb1.tape,hb1.output,hb1.size,λk hk _=>hb1.block k hk⟩ (by cases u4.ownBlock<;>simp);have hB1:=hB.trans (hb1.mono hB.size);clear ho hB hb1 hsl hur;have hdl:(xs.drop (13 * k)).length=xs.length - 13 * k:=List.length_drop;cases hok:BU (xs.drop (13 * k))
  ·have hj0:jl xs=L:=by rw[hj'.out,Rk hok,iD]
   have hj1:Hid ((jl xs).length=k):=by
    show(jl xs).length=k;rw[hj0];exact hLk'.out
   have hj2:Hid (RC (jl xs)=RC L):=by
    show RC (jl xs)=RC L;rw[hj0]
   clear hj0 hok hdl;have ho2:=ho1.alloc (aZ false 0 0);have hB2:Below w.heap.size w (W1.alloc (aZ false 0 0)):=hB1.alloc hB1.size _;dsimp only[aZ]at ho2 hB2;go_wp2;go_ret2;refine⟨u4,?_,hB2,?_⟩
   ·rw[hj1.out];simp
   ·rw[hj1.out,hj2.out];exact ho2
  ·have hge:=Mc hok;have hst:Hid (JM (xs.length - k) (xs.drop (13 * k))=(rO (xs.drop (13 * k)),rA (xs.drop (13 * k)),rS (xs.drop (13 * k)))::JM (xs.length - (k+1)) (xs.drop (13 * (k+1)))):=by
    show _=_;rw[LU hok (by omega),List.drop_drop,show 13 * k+13=13 * (k+1)by omega,show xs.length - k - 1=xs.length - (k+1)by omega]
   generalize rO (xs.drop (13 * k))=o at hst ⊢;generalize rA (xs.drop (13 * k))=a at hst ⊢;generalize rS (xs.drop (13 * k))=s at hst ⊢;clear hok;have ho2:=(ho1.alloc (aZ o a s)).alloc (aZ o a s);have hc2:=lq (W1.alloc (aZ o a s)) o a s;have hB2:Below w.heap.size w ((W1.alloc (aZ o a s)).alloc (aZ o a s)):=(hB1.alloc hB1.size _).alloc (by have:=hB1.size;simp;omega) _;have hs1:=hB1.size;have hlt:=ho2.lt;rw[World.size_alloc]at hc2;dsimp only[aZ]at ho2 hc2 hB2 hlt;go_wp2_with(at_builtin;refine wpList_append_own _ rfl _ _ 79 rfl w.heap.size 82 i0 (.agg #[.bool false,.int .u32 0,.int .u32 0]) 3 12 Tryz.underlying79 hi hz0 hz1 hz2 rfl (by decide) u4 k (RC L) rfl ho2 ⟨W1.heap.size+1,0,none⟩ 1 1 (RC [(o,a,s)]) rfl rfl hc2 (nO o a s) ?c1 ?c2 ?c3 ?_)
   case c1=>unfold maxLen;omega
   case c2=>omega
   case c3=>simp;omega
   intro v' W3 ho3 hg3 _;have hB3:=hB2.grown hg3 hB2.size (λk hk=>(hlt k hk).1);clear ho2 hc2 hB2 hg3 hlt;go_wp2;go_roundw
   case rel=>
    refine⟨k+1,L++ [(o,a,s)],by rw[dw,hLk'.out];rfl,by omega,by go_num,?_,hB3,?_⟩
    ·rw[lG];exact ho3
    ·rw[hj'.out,hst.out,List.append_assoc];rfl
   case measure=>simp[intOf];omega
def qg(x:Bool×Int×Int):List Int:=zU x.1 x.2.1 x.2.2
def norm(x:Bool×Int×Int):Bool×Int×Int:=(x.1,if x.1 then 0 else x.2.1,x.2.2)
def bE(L:List (Bool×Int×Int)):List Int:=L.flatMap qg
def qx(L:List (Bool×Int×Int)):Prop:=∀x∈L,(0<=x.2.1∧x.2.1<4294967296)∧0<=x.2.2∧x.2.2<4294967296
theorem iF(L:List (Bool×Int×Int)):(bE L).length=13 * L.length:=by
 induction L with
 |nil=>rfl
 |cons a L ih=>
  simp only[bE,List.flatMap_cons,dw,dU]at ih ⊢;rw[ih,show(qg a).length=13 from rfl];omega
theorem kN(a b:List (Bool×Int×Int)):bE (a++b)=bE a++bE b:=by simp[bE]
theorem Kt(x:Bool×Int×Int)(L:List (Bool×Int×Int)):bE (x::L)=qg x++bE L:=rfl
theorem EW{L:List (Bool×Int×Int)}(h:qx L):∀x∈bE L,0<=x∧x<=255:=by
 intro x hx;simp only[bE,List.mem_flatMap]at hx;obtain⟨y,hy,hx⟩:=hx;have:=h y hy;exact Rj this.1.1 this.1.2 this.2.1 this.2.2 x hx
theorem Sd(n:Int):n4 (n / 16777216) (n / 65536%256) (n / 256%256) (n%256)=n:=by
 unfold n4;omega
theorem Rp(x:Bool×Int×Int)(ys:List Int):rO (qg x++ys)=x.1:=by
 obtain⟨o,a,s⟩:=x;cases o<;>rfl
theorem Rq(x:Bool×Int×Int)(ys:List Int):rA (qg x++ys)=if x.1 then 0 else x.2.1:=by
 obtain⟨o,a,s⟩:=x;cases o
 ·exact Sd a
 ·rfl
theorem Ro(x:Bool×Int×Int)(ys:List Int):rS (qg x++ys)=x.2.2:=by
 obtain⟨o,a,s⟩:=x;exact Sd s
theorem Oc(x:Bool×Int×Int):zU x.1 (if x.1 then 0 else x.2.1) x.2.2=qg x:=by
 obtain⟨o,a,s⟩:=x;cases o<;>rfl
theorem Xj(x:Bool×Int×Int)(ys:List Int):BU (qg x++ys)=true:=by
 have hl:(qg x).length=13:=rfl;unfold BU;rw[Rp,Rq,Ro,Oc,List.take_append_of_le_length (by omega),ko (by omega),gm rfl,Bool.and_true];exact gm (by rw[dw];omega)
theorem Oy{xs:List Int}(h:xs.length<13):BU xs=false:=by
 unfold BU;rw[fA (by omega),Bool.false_and]
theorem Rl(L:List (Bool×Int×Int))(r:List Int)(hr:BU r=false):∀f,(bE L++r).length<=f->JM f (bE L++r)=L.map norm:=by
 induction L with
 |nil=>
  intro f _;simp only[bE,List.flatMap_nil,List.nil_append,List.map_nil];exact Rk hr f
 |cons x L ih=>
  intro f hf;have hl:(qg x).length=13:=rfl;have he:bE (x::L)++r=qg x++(bE L++r):=by simp[bE]
  rw[he]at hf ⊢;rw[LU (Xj x _) hf,Rp,Rq,Ro];rw[List.drop_append_of_le_length (by omega),List.drop_of_length_le (by omega),List.nil_append,ih _ (by rw[dw,hl]at hf;omega)];rfl
theorem ML(L:List (Bool×Int×Int))(r:List Int)(hr:BU r=false):jl (bE L++r)=L.map norm:=Rl L r hr _ (aD _)
theorem wQ(L:List (Bool×Int×Int)):jl (bE L)=L.map norm:=by
 have:=ML L [] rfl
 rwa [iD]at this
theorem Io(L:List (Bool×Int×Int))(k:Nat)(hk:k<13 * L.length):
  ∃x,L[k / 13]?=some x∧bE L=bE (L.take (k / 13))++(qg x++bE (L.drop (k / 13+1))):=by
 have hq:k / 13<L.length:=by omega
 refine⟨L[k / 13],cZ hq,?_⟩;have e:L=L.take (k / 13)++L[k / 13]::L.drop (k / 13+1):=by
  rw[List.getElem_cons_drop,List.take_append_drop]
 conv=>lhs;rw[e]
 rw[kN,Kt]
theorem aaE(L:List (Bool×Int×Int))(k:Nat)(hk:k<13 * L.length):jl ((bE L).take k)=(L.take (k / 13)).map norm:=by
 obtain⟨x,_,he⟩:=Io L k hk;have hl:(bE (L.take (k / 13))).length=13 * (k / 13):=by
  rw[iF,List.length_take,Nat.min_eq_left (by omega)]
 rw[he,List.take_append,ko (by omega)];refine ML _ _ (Oy ?_);rw[List.length_take,hl];omega
variable{f:Int->Option Int}{c:Option Int}
def stepM(f:Int->Option Int)(r:Bool×Int×Int):Int->Option Int:=if r.1 then f else kC f r.2.1 (some (max ((f r.2.1).getD 0) r.2.2))
def lK(c:Option Int)(r:Bool×Int×Int):Option Int:=if r.1 then some (max (c.getD 0) r.2.2)else c
def mI(L:List (Bool×Int×Int)):Int->Option Int:=L.foldl stepM λ_=>none
def qF(L:List (Bool×Int×Int)):Option Int:=L.foldl lK none
theorem GN(L:List (Bool×Int×Int))(r:Bool×Int×Int):mI (L++ [r])=stepM (mI L) r:=by simp[mI]
theorem Ab(L:List (Bool×Int×Int))(r:Bool×Int×Int):qF (L++ [r])=lK (qF L) r:=by simp[qF]
def dz:Option Int->List (Bool×Int×Int)
 |none=> []
 |some s=> [(true,0,s)]
def gL(f:Int->Option Int)(ss:List Int):List (Bool×Int×Int):=ss.map λa=>(false,a,(f a).getD 0)
def iO(f:Int->Option Int)(c:Option Int)(out:List (Bool×Int×Int)):Prop:=
 ∃ss:List Int,ss.Pairwise (·<·)∧(∀a,a∈ss ↔ (f a).isSome=true)∧out=dz c++gL f ss
theorem C8{l l':List Int}(h:l.Pairwise (·<·))(h':l'.Pairwise (·<·))(hm:∀a,a∈l ↔ a∈l'):l=l':=by
 have n1:l.Nodup:=h.imp (λhab=>by omega);have n2:l'.Nodup:=h'.imp (λhab=>by omega);have hp:=(List.perm_ext_iff_of_nodup n1 n2).2 hm;refine List.Perm.eq_of_pairwise (le:=λa b=>a<b) (λa b _ _ h1 h2=>by omega) h h' hp
theorem iO.unique{o1 o2:List (Bool×Int×Int)}(h1:iO f c o1)(h2:iO f c o2):o1=o2:=by
 obtain⟨s1,p1,m1,rfl⟩:=h1;obtain⟨s2,p2,m2,rfl⟩:=h2;rw[C8 p1 p2 (λa=>by rw[m1,m2])]
def zW:List (Bool×Int×Int)->Bool×Int×Int->List (Bool×Int×Int)
 | [],r=> [r]
 |x::l,r=>if x.1=r.1∧x.2.1=r.2.1 then(x.1,x.2.1,max r.2.2 x.2.2)::l
  else if r.1=true∨(x.1=false∧x.2.1>r.2.1)then r::x::l
  else x::zW l r
def nD(a:Int):List Int->List Int
 | []=> [a]
 |x::l=>if x=a then x::l else if x>a then a::x::l else x::nD a l
theorem Ah(a:Int)(l:List Int)(b:Int):b∈nD a l ↔ b=a∨b∈l:=by
 induction l with
 |nil=>simp[nD]
 |cons x l ih=>
  unfold nD;split
  ·rename_i h;subst h;simp
  ·split
   ·simp
   ·simp[ih];constructor<;>rintro(h|h|h)<;>simp[h]
theorem MN(a:Int)(l:List Int)(h:l.Pairwise (·<·)):(nD a l).Pairwise (·<·):=by
 induction l with
 |nil=>simp[nD]
 |cons x l ih=>
  unfold nD;have hx:=List.pairwise_cons.1 h;split
  ·exact h
  ·split
   ·refine List.pairwise_cons.2 ⟨λb hb=> ?_,h⟩;rcases fe.1 hb with rfl|hb
    ·omega
    ·have:=hx.1 b hb;omega
   ·refine List.pairwise_cons.2 ⟨λb hb=> ?_,ih hx.2⟩;rcases(Ah a l b).1 hb with rfl|hb
    ·omega
    ·exact hx.1 b hb
theorem Rv(f:Int->Option Int)(a s:Int)(ss:List Int)(h:ss.Pairwise (·<·))(hm:∀b∈ss,(f b).isSome=true)(hf:a ∉ ss->(f a).getD 0<=s):
  zW (gL f ss) (false,a,s)=gL (kC f a (some (max ((f a).getD 0) s))) (nD a ss):=by
 induction ss with
 |nil=>
  have:=hf (by simp);simp[gL,zW,nD,kC];omega
 |cons x l ih=>
  have hx:=List.pairwise_cons.1 h;have hother:∀m:List Int,(∀b∈m,b≠a)->gL (kC f a (some (max ((f a).getD 0) s))) m=gL f m:=by
   intro m hmm;unfold gL;refine List.map_congr_left λb hb=> ?_;simp[kC,hmm b hb]
  simp only[gL,List.map_cons,zW,nD];by_cases e:x=a
  ·subst e;simp only[and_self,if_true];rw[List.map_cons];have:=hother l (λb hb=>by have:=hx.1 b hb;omega);simp only[gL]at this;rw[this];simp[kC];omega
  ·simp only[e,and_false,if_false,Bool.false_eq_true,false_or,true_and];by_cases g:x>a
   ·simp only[g,if_true];have hn:a ∉ x::l:=by
     intro hb;rcases fe.1 hb with hb|hb
     ·omega
     ·have:=hx.1 a hb;omega
    have h1:=hother (x::l) (λb hb=>by rintro rfl;exact hn hb);simp only[gL]at h1;rw[List.map_cons,h1];have:=hf hn;simp[kC];omega
   ·simp only[g,if_false];have h1:=hother [x] (by simp;exact e);simp only[gL,List.map_cons,List.map_nil,List.cons.injEq,and_true]at h1;have:=ih hx.2 (λb hb=>hm b (by simp[hb])) (λhn=>hf (by simp;exact⟨λe'=>e e'.symm,hn⟩));simp only[gL]at this;rw[List.map_cons,h1,this]
theorem iO.put{out:List (Bool×Int×Int)}(h:iO f c out)(r:Bool×Int×Int)(hs:0<=r.2.2):iO (stepM f r) (lK c r) (zW out (norm r)):=by
 obtain⟨ss,hp,hm,rfl⟩:=h;obtain⟨o,a,s⟩:=r;cases o
 ·refine⟨nD a ss,MN a ss hp,λb=> ?_,?_⟩
  ·rw[Ah,hm];by_cases e:b=a
   ·simp[stepM,kC,e]
   ·simp[stepM,kC,e]
  ·have hq:=Rv f a s ss hp (λb hb=>(hm b).1 hb) (λhn=>by
    have:f a=none:=by
     cases hfa:f a with
     |none=>rfl
     |some v=>exact absurd ((hm a).2 (by simp[hfa])) hn
    simp[this];exact hs)
   cases c with
   |none=>simpa[dz,lK,stepM,norm]using hq
   |some t=>
    simp only[dz,lK,stepM,norm,List.cons_append,List.nil_append,zW,Bool.false_eq_true,if_false];simp only[Bool.true_eq_false,false_and,if_false,or_self];rw[hq]
 ·refine⟨ss,hp,λb=>by simpa[stepM]using hm b,?_⟩;simp only[stepM,lK,if_true,norm];cases c with
  |none=>
   simp only[dz,List.nil_append,Option.getD_none];rw[Int.max_eq_right hs];cases ss<;>simp[gL,zW]
  |some t=>simp[dz,zW,Int.max_comm]
theorem iO.nil:iO (λ_=>none) none []:=⟨[],List.Pairwise.nil,λa=>by simp,rfl⟩
def MB(f:Int->Option Int):Prop:=∀a v,f a=some v->bB a∧bB v
def OB(c:Option Int):Prop:=∀v,c=some v->bB v
theorem DI{a b:Int}(h:bB a)(h':bB b):bB (max a b):=by
 unfold bB at *;omega
theorem MB.getD(h:MB f)(a:Int):bB ((f a).getD 0):=by
 cases e:f a with
 |none=>simp[bB]
 |some v=>exact(h a v e).2
theorem OB.getD(h:OB c):bB (c.getD 0):=by
 cases e:c with
 |none=>simp[bB]
 |some v=>exact h v e
theorem MB.step(h:MB f){r:Bool×Int×Int}(ha:bB r.2.1)(hs:bB r.2.2):MB (stepM f r):=by
 obtain⟨o,a,s⟩:=r;cases o
 ·intro b v hb;simp only[stepM,Bool.false_eq_true,if_false,kC]at hb;by_cases e:b=a
  ·simp only[e,if_true,Option.some.injEq]at hb;subst hb;exact⟨e▸ha,DI (h.getD a) hs⟩
  ·simp only[e,if_false]at hb;exact h b v hb
 ·exact h
theorem OB.step(h:OB c){r:Bool×Int×Int}(hs:bB r.2.2):OB (lK c r):=by
 obtain⟨o,a,s⟩:=r;cases o
 ·exact h
 ·intro v hv;simp only[lK,if_true,Option.some.injEq]at hv;subst hv;exact DI h.getD hs
end Go.Proofs.YtakaadcpaeiccabGreat
