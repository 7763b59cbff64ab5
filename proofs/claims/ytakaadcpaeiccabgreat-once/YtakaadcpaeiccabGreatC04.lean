import Derived.Test.YtakaadcpaeiccabGreatC03
import Derived.Recover
import Derived.Defers
import Derived.Lib.EndianBits
import Derived.Laws.IdiomStrings
import Derived.Lib.Bytes
set_option maxHeartbeats 2000000
set_option maxRecDepth 100000
namespace Go.Proofs.YtakaadcpaeiccabGreat
open Go.RowKit
variable{xs:List Int}{v:Value}{W:World}
@[reducible] def broken: List PanicEntry := [{ v := .iface 47 (.int .i64 1), recovered := false }]
theorem require_ok(w:World):Calls Tryz.prog 85 #[.bool true] w λe w'=>e=.returned (.tuple #[])∧w'=w:=by
 go_enter Tryz.func85,Tryz.ntmps85;go_wp2;go_returns;exact⟨rfl,rfl⟩
theorem eP(w:World):Calls Tryz.prog 85 #[.bool false] w λe w'=>e=.panicked broken∧w'=w:=by
 go_enter Tryz.func85,Tryz.ntmps85;go_wp2;exact⟨rfl,rfl,rfl⟩
def fe(W:World)(v:Value)(xs:List Int):Prop:=
 (∀x∈xs,0<=x∧x<=255)∧((v=.slice none 0 0∧xs=[])∨
  ∃b o c,v=.slice (some ⟨b,o,none⟩) xs.length c∧xs.length<=c∧c<=9223372036854775807∧∀(j:Nat) (x:Int),xs[j]?=some x->W.cell? ⟨b,o+j,none⟩=some (.int .u8 x))
def Rd(R:Nat)(xs:List Int)(W:World):Prop:=∃v,W.cell? ⟨R,0,none⟩=some v∧W.frozen? ⟨R,0,none⟩=false∧fe W v xs
theorem fe.set{u u':Value}{R:Nat}(h:fe W v xs)(hR:W.cell? ⟨R,0,none⟩=some u)(hu:∀k n,u≠ .int k n):fe (W.setCell ⟨R,0,none⟩ u') v xs:=by
 refine⟨h.1,?_⟩;rcases h.2 with h|⟨b,o,c,rfl,h1,h2,h3⟩
 ·exact .inl h
 ·refine .inr ⟨b,o,c,rfl,h1,h2,λj x hx=> ?_⟩;have hc:=h3 j x hx;rw[World.cell?_setCell_other _ _ _ _ (λe=>by rw[<-e,hR]at hc;exact hu _ _ (Option.some.inj hc))];exact hc
theorem fe.part{b o c:Nat}(hb:∀x∈xs,0<=x∧x<=255)(h1:xs.length<=c)(h2:c<=9223372036854775807)(h3:∀(j:Nat) (x:Int),xs[j]?=some x->W.cell? ⟨b,o+j,none⟩=some (.int .u8 x))(n:Nat)(hn:n<=xs.length):
  fe W (.slice (some ⟨b,o,none⟩) n c) (xs.take n)∧fe W (.slice (some ⟨b,o+n,none⟩) (xs.length - n) (c - n)) (xs.drop n):=by
 refine⟨⟨λx hx=>hb x (List.mem_of_mem_take hx),.inr ⟨b,o,c,?_,?_,h2,λj x hx=> ?_⟩⟩,⟨λx hx=>hb x (List.mem_of_mem_drop hx),.inr ⟨b,o+n,c - n,?_,?_,by omega,λj x hx=> ?_⟩⟩⟩
 ·rw[List.length_take,Nat.min_eq_left hn]
 ·rw[List.length_take];omega
 ·rw[List.getElem?_take]at hx;split at hx
  ·exact h3 j x hx
  ·cases hx
 ·rw[List.length_drop]
 ·rw[List.length_drop];omega
 ·rw[List.getElem?_drop]at hx;have:=h3 (n+j) x hx;rw[Nat.add_assoc];exact this
theorem Ow(R:Nat)(b o l c:Nat)(n:Nat)(w:World)(hn:n<=l)(hlc:l<=c)(hr:w.cell? ⟨R,0,none⟩=some (.slice (some ⟨b,o,none⟩) l c))(hf:w.frozen? ⟨R,0,none⟩=false):
  Calls Tryz.prog 89 #[.pointer (some ⟨R,0,none⟩),.int .i64 n] w λe w'=>e=.returned (.slice (some ⟨b,o,none⟩) n c)∧
   ((c=n∧w'=w.setCell ⟨R,0,none⟩ (.slice (some ⟨b,o,none⟩) (l - n) 0))∨w'=w.setCell ⟨R,0,none⟩ (.slice (some ⟨b,o+n,none⟩) (l - n) (c - n))):=by
 go_enter Tryz.func89,Tryz.ntmps89;go_wp2_with(go_at_call 85;refine(require_ok _).mono ?_;rintro e w1 ⟨rfl,rfl⟩)
 case inl=>go_ret;exact⟨rfl,.inl rfl⟩
 case inr=>go_ret;exact⟨rfl,rfl⟩
theorem Kb(R:Nat)(a:Option Addr)(l c:Nat)(n:Nat)(w:World)(hn:l<n)(hr:w.cell? ⟨R,0,none⟩=some (.slice a l c)):
  Calls Tryz.prog 89 #[.pointer (some ⟨R,0,none⟩),.int .i64 n] w λe w'=>e=.panicked broken∧w'=w:=by
 have hd:decide (n<=l)=false:=fD (by omega);go_enter Tryz.func89,Tryz.ntmps89;go_wp2_with(go_at_call 85;refine(eP _).mono ?_;rintro e w1 ⟨rfl,rfl⟩);exact⟨rfl,rfl,rfl⟩
theorem take_nil(R:Nat)(w:World)(hr:w.cell? ⟨R,0,none⟩=some (.slice none 0 0))(hf:w.frozen? ⟨R,0,none⟩=false):
  Calls Tryz.prog 89 #[.pointer (some ⟨R,0,none⟩),.int .i64 0] w λe w'=>e=.returned (.slice none 0 0)∧w'=w.setCell ⟨R,0,none⟩ (.slice none 0 0):=by
 go_enter Tryz.func89,Tryz.ntmps89;go_wp2_with(go_at_call 85;refine(require_ok _).mono ?_;rintro e w1 ⟨rfl,rfl⟩);all_goals (go_ret;exact⟨rfl,rfl⟩)
def aek(R:Nat)(n:Nat)(xs:List Int)(W:World)(e:Ending)(w':World):Prop:=
 (n<=xs.length∧(∃v,e=.returned v∧fe w' v (xs.take n))∧Rd R (xs.drop n) w'∧W.grownBy w' (some R)∧Below R W w')∨(xs.length<n∧e=.panicked broken∧w'=W)
theorem xQ(W:World)(R:Nat)(u:Value):W.grownBy (W.setCell ⟨R,0,none⟩ u) (some R):=⟨rfl,rfl,rfl,by simp,λk _ hk=>kS W ⟨R,0,none⟩ u k (λe=>hk (by simp[e]))⟩
theorem xZ(W:World)(R:Nat)(u:Value):Below R W (W.setCell ⟨R,0,none⟩ u):=(aU _ _).setCell (p:=⟨R,0,none⟩) (aB _) _
theorem Ag(R n:Nat)(xs:List Int)(W:World)(h:Rd R xs W):
  Calls Tryz.prog 89 #[.pointer (some ⟨R,0,none⟩),.int .i64 n] W λe w'=>aek R n xs W e w':=by
 obtain⟨v,hr,hf,hb,hv⟩:=h;by_cases hn:n<=xs.length
 ·rcases hv with⟨rfl,rfl⟩|⟨b,o,c,rfl,h1,h2,h3⟩
  ·obtain rfl:n=0:=by simpa using hn
   refine(take_nil R W hr hf).mono ?_;rintro e w' ⟨rfl,rfl⟩;have hr0:∀W':World,fe W' (.slice none 0 0) []:=λW'=>⟨by simp,.inl ⟨rfl,rfl⟩⟩;exact .inl ⟨hn,⟨_,rfl,hr0 _⟩,⟨_,World.cell?_setCell_same _ _ _ hr,(World.frozen?_setCell _ _ _ _).trans hf,hr0 _⟩,xQ _ _ _,xZ _ _ _⟩
  ·have hpart:=fe.part hb h1 h2 h3 n hn;refine(Ow R b o xs.length c n W hn h1 hr hf).mono ?_;rintro e w' ⟨rfl,⟨hcn,rfl⟩|rfl⟩
   ·refine .inl ⟨hn,⟨_,rfl,hpart.1.set hr (by simp)⟩,⟨_,World.cell?_setCell_same _ _ _ hr,(World.frozen?_setCell _ _ _ _).trans hf,?_⟩,xQ _ _ _,xZ _ _ _⟩;have hx:xs.drop n=[]:=List.drop_eq_nil_of_le (by omega);rw[hx];refine⟨by simp,.inr ⟨b,o,0,?_,by simp,by omega,by simp⟩⟩;rw[show xs.length - n=([]:List Int).length by simp;omega]
   ·exact .inl ⟨hn,⟨_,rfl,hpart.1.set hr (by simp)⟩,⟨_,World.cell?_setCell_same _ _ _ hr,(World.frozen?_setCell _ _ _ _).trans hf,hpart.2.set hr (by simp)⟩,xQ _ _ _,xZ _ _ _⟩
 ·have hs:∃a c,v=.slice a xs.length c:=by
   rcases hv with⟨rfl,rfl⟩|⟨b,o,c,rfl,_⟩
   ·exact⟨_,_,rfl⟩
   ·exact⟨_,_,rfl⟩
  obtain⟨a,c,rfl⟩:=hs;refine(Kb R a xs.length c n W (by omega) hr).mono ?_;rintro e w' ⟨rfl,rfl⟩;exact .inr ⟨by omega,rfl,rfl⟩
theorem mE(h:fe W v xs){j:Nat}{x:Int}(hx:xs[j]?=some x):
  0<=x∧x<=255∧∃b o c,v=.slice (some ⟨b,o,none⟩) xs.length c∧W.cell? ⟨b,o+j,none⟩=some (.int .u8 x):=by
 have hb:=h.1 x (gI hx);rcases h.2 with⟨_,rfl⟩|⟨b,o,c,rfl,_,_,h3⟩
 ·simp at hx
 ·exact⟨hb.1,hb.2,b,o,c,rfl,h3 j x hx⟩
theorem EP(R:Nat)(xs:List Int)(W:World)(h:Rd R xs W):
  Calls Tryz.prog 84 #[.pointer (some ⟨R,0,none⟩)] W λe w'=>(∃x ys,xs=x::ys∧0<=x∧x<=255∧e=.returned (.int .i64 x)∧Rd R ys w'∧W.grownBy w' (some R)∧Below R W w')∨(xs=[]∧e=.panicked broken∧w'=W):=by
 go_enter Tryz.func84,Tryz.ntmps84;go_wp2_with fail;refine(Ag R 1 xs W h).mono ?_;rintro e w1 (⟨hn,⟨v,rfl,hv⟩,hrd,hg,hbl⟩|⟨hn,rfl,rfl⟩)
 ·obtain⟨x,ys,rfl⟩:∃x ys,xs=x::ys:=by
   cases xs with
   |nil=>simp at hn
   |cons x ys=>exact⟨x,ys,rfl⟩
  obtain⟨hx0,hx1,b,o,c,hv',hcell⟩:=mE hv (j:=0) (x:=x) rfl;simp only[List.take_succ_cons,List.take_zero,dY,List.length_nil,Nat.zero_add,Nat.add_zero]at hv' hcell;subst hv';clear hv;go_wp2;go_ret;exact .inl ⟨x,ys,rfl,hx0,hx1,rfl,hrd,hg,hbl⟩
 ·obtain rfl:xs=[]:=qz (by omega);exact⟨rfl,.inr ⟨rfl,rfl,rfl⟩⟩
variable{xs:List Int}{c:Nat}
theorem ad8(hc:c<4294967296)(h:(bits .and .u32 (c:Int) 1==1)=true):bits .xor .u32 ((c:Int)/ 2) 3988292384=((Gw.g c:Nat):Int):=by
 rw[show(1:Int)=((1:Nat):Int)from rfl,u32_and_nat c 1 hc (by omega),Nat.and_one_is_mod]at h;have h1:c%2=1:=by
  have:=beq_iff_eq.1 h;omega
 rw[show(c:Int)/ 2=((c / 2:Nat):Int)by omega,show(3988292384:Int)=((3988292384:Nat):Int)from rfl,u32_xor_nat (c / 2) 3988292384 (by omega) (by omega)];unfold Gw.g;rw[aM h1]
theorem abX(hc:c<4294967296)(h:(bits .and .u32 (c:Int) 1==1)=false):(c:Int)/ 2=((Gw.g c:Nat):Int):=by
 rw[show(1:Int)=((1:Nat):Int)from rfl,u32_and_nat c 1 hc (by omega),Nat.and_one_is_mod]at h;have h1:¬c%2=1:=by
  have:=beq_eq_false_iff_ne.1 h;omega
 unfold Gw.g;rw[aH h1];omega
theorem CF(n:Int)(h0:0<=n)(h1:n<=255)(w:World):
  Calls Tryz.prog 91 #[.int .u8 n] w λe w'=>e=.returned (.int .u32 (Gw.tab n.toNat:Nat))∧w'=w:=by
 obtain⟨m,rfl⟩:=Int.eq_ofNat_of_zero_le h0;go_enter Tryz.func91,Tryz.ntmps91;go_wp2;go_loop [3,7] (λs i=>∃k:Nat,k<=8∧i=.int .i64 k∧s=.int .u32 (Gw.gs k m:Nat)) (λ_ i=>8 - (intOf i).toNat)
 case atStart=>exact⟨0,by omega,rfl,rfl⟩
 case round=>
  obtain⟨k,hk,rfl,rfl⟩:=hrel;have hc:Gw.gs k m<4294967296:=Gw.UF (by omega) k;by_cases hlt:k<8
  ·go_wp2
   ·rename_i h;have he:=ad8 hc h;go_round
    case rel=>exact⟨k+1,by omega,by go_num,by rw[he];rfl⟩
    case measure=>simp[intOf];omega
   ·rename_i h;have he:=abX hc h;go_round
    case rel=>exact⟨k+1,by omega,by go_num,by rw[he];rfl⟩
    case measure=>simp[intOf];omega
  ·go_wp2;go_ret;obtain rfl:k=8:=by omega
   exact⟨rfl,rfl⟩
def XO(xs:List Int):List Nat:=xs.map Int.toNat
theorem aaR(h:∀x∈xs,0<=x∧x<=255):∀x∈XO xs,x<256:=by
 intro x hx;simp only[XO,dh]at hx;obtain⟨y,hy,rfl⟩:=hx;have:=h y hy;omega
def BO(xs:List Int):Nat:=Gw.run (XO xs) 4294967295
def crc(xs:List Int):Int:=4294967295 - (BO xs:Int)
theorem FY(h:∀x∈xs,0<=x∧x<=255):BO xs<4294967296:=Gw.RO _ (by omega) (aaR h)
theorem UY(h:∀x∈xs,0<=x∧x<=255):0<=crc xs∧crc xs<4294967296:=by
 have:=FY h;unfold crc;omega
theorem Qr(xs:List Int)(x:Int):BO (xs++ [x])=Gw.step (BO xs) x.toNat:=by
 unfold BO XO;rw[List.map_append,Gw.Av];rfl
theorem Rx{s:Nat}{x:Int}(hs:s<4294967296)(h0:0<=x)(h1:x<=255):
  bits .xor .u32 ((Gw.tab (bits .xor .u8 ((s:Int)%256) x).toNat:Nat):Int) ((s:Int)/ 256)=((Gw.step s x.toNat:Nat):Int):=by
 obtain⟨m,rfl⟩:=Int.eq_ofNat_of_zero_le h0;rw[show(s:Int)%256=((s%256:Nat):Int)by omega,u8_xor_nat (s%256) m (by omega) (by omega),jm,
  show(s:Int)/ 256=((s / 256:Nat):Int)by omega,u32_xor_nat _ _ (Gw.Rv (by have:=Gw.Aa (Nat.mod_lt s (by decide:0<256)) (show m<256 by omega);omega)) (by omega)]
 rfl
theorem Ox(xs:List Int)(k:Nat){x:Int}(h:xs[k]?=some x):xs.take (k+1)=xs.take k++ [x]:=by
 rw[List.take_add_one,h];rfl
theorem aan(h:∀x∈xs,0<=x∧x<=255)(k:Nat):∀x∈xs.take k,0<=x∧x<=255:=λx hx=>h x (List.mem_of_mem_take hx)
theorem Y0(hc:c<4294967296):bits .xor .u32 IntKind.u32.max (c:Int)=4294967295 - (c:Int):=by
 rw[show IntKind.u32.max=((4294967295:Nat):Int)from rfl,u32_xor_nat 4294967295 c (by omega) hc];have h:=congrArg BitVec.toNat (BitVec.allOnes_xor (w:=32) (x:=BitVec.ofNat 32 c));rw[BitVec.toNat_xor,BitVec.toNat_not,BitVec.toNat_ofNat,BitVec.toNat_allOnes,Nat.mod_eq_of_lt hc]at h;simp only[Nat.reducePow,Nat.add_one_sub_one]at h;omega
theorem Ml(v:Value)(xs:List Int)(w:World)(hv:fe w v xs):
  Calls Tryz.prog 58 #[v] w λe w'=>e=.returned (.int .u32 (crc xs))∧w'=w:=by
 obtain⟨a,c,rfl⟩:∃a c,v=.slice a xs.length c:=by
  rcases hv.2 with⟨rfl,rfl⟩|⟨b,o,c,rfl,_⟩
  ·exact⟨_,_,rfl⟩
  ·exact⟨_,_,rfl⟩
 have hlen:xs.length<=9223372036854775807:=by
  rcases hv.2 with⟨_,rfl⟩|⟨b,o,c,_,h1,h2,_⟩
  ·simp
  ·omega
 have hb:=hv.1;go_enter Tryz.func58,Tryz.ntmps58;go_wp2;go_loop [3,8] (λs i=>∃k:Nat,k<=xs.length∧i=.int .i64 k∧s=.int .u32 (BO (xs.take k):Nat)) (λ_ i=>xs.length - (intOf i).toNat)
 case atStart=>exact⟨0,by omega,rfl,rfl⟩
 case round=>
  obtain⟨k,hk,rfl,rfl⟩:=hrel;have hc:=FY (aan hb k);by_cases hlt:k<xs.length
  ·obtain⟨x,hx⟩:∃x,xs[k]?=some x:=⟨_,cK hlt⟩;obtain⟨hx0,hx1,b,o,c',he,hcell⟩:=mE hv hx;simp only[Value.slice.injEq]at he;obtain⟨rfl,he1,rfl⟩:=he;clear he1;have hst:Hid _:=Rx hc hx0 hx1;have hsn:Hid _:=Qr (xs.take k) x;have hts:Hid _:=Ox xs k hx;have hq:0<=bits .xor .u8 ((BO (xs.take k):Int)%256) x∧bits .xor .u8 ((BO (xs.take k):Int)%256) x<=255:=by
    obtain⟨m,rfl⟩:=Int.eq_ofNat_of_zero_le hx0;rw[show(BO (xs.take k):Int)%256=((BO (xs.take k)%256:Nat):Int)by omega,u8_xor_nat _ m (by omega) (by omega)];have:=Gw.Aa (Nat.mod_lt (BO (xs.take k)) (by decide:0<256)) (show m<256 by omega);omega
   clear hx hv hb;go_wp2_with(go_at_call 91;refine(CF _ hq.1 hq.2 _).mono ?_;rintro e w1 ⟨rfl,rfl⟩);go_round
   case rel=>exact⟨k+1,by omega,by go_num,by rw[hst.out,hts.out,hsn.out]⟩
   case measure=>simp[intOf];omega
  ·go_wp2;go_ret;obtain rfl:k=xs.length:=by omega
   simp only[List.take_length];exact⟨vz (Y0 (FY hb)),trivial⟩
variable{xs:List Int}{v:Value}{W W':World}
theorem oO(h:fe W v xs):(convert 58 9 v).run Tryz.prog W=.ok (.string (strOfNums xs)) W:=by
 rcases h.2 with⟨rfl,rfl⟩|⟨b,o,c,rfl,_,_,h3⟩
 ·exact run_convert_bytes_nil (P:=Tryz.prog) W 58 5 Tryz.underlying58 Tryz.underlying5 0 0 9 Tryz.underlying9
 ·refine run_convert_bytes_arg (P:=Tryz.prog) W 58 5 Tryz.underlying58 Tryz.underlying5 b o xs.length c xs rfl ?_ 9 Tryz.underlying9;intro i hi;rw[h3 i xs[i] (cK hi)];simp[hi]
theorem Y9{n:Int}(h0:0<=n)(h1:n<4294967296):∀x∈b4 n,0<=x∧x<=255:=by
 intro x hx;simp only[b4,eD,List.not_mem_nil,or_false]at hx;rcases hx with rfl|rfl|rfl|rfl<;>omega
theorem mD(s:ByteArray):∀x∈ak s,0<=x∧x<=255:=by
 intro x hx;simp only[ak,dh]at hx;obtain⟨b,_,rfl⟩:=hx;have:=b.toNat_lt;omega
theorem qW{base:Nat}(h:W.ownsRow base 5 1 v xs.length (U xs))(hb:∀x∈xs,0<=x∧x<=255):fe W v xs:=by
 refine⟨hb,?_⟩;rcases id h.2 with⟨rfl,h0⟩|⟨g,cap,cur,rfl,_,_,h1,h2,_⟩
 ·exact .inl ⟨rfl,qz h0⟩
 ·refine .inr ⟨g,0,cap,rfl,h1,by unfold maxLen at h2;omega,λj x hx=> ?_⟩;have hj:j<xs.length:=by
   rcases Nat.lt_or_ge j xs.length with h|h
   ·exact h
   ·rw[List.getElem?_eq_none h]at hx;cases hx
  rw[Nat.zero_add,h.cellAt j (by omega)];simp[U,hx]
theorem RQ(s:ByteArray)(hs:s.size<=65536)(w:World)(fz:Nat×Nat):fe (w.drew.alloc (.cells (bytesRow s (grownCap w s.size 0 5)) 5 fz)) (.slice (some ⟨w.heap.size,0,none⟩) s.size (grownCap w s.size 0 5)) (ak s):=by
 refine⟨mD s,.inr ⟨w.heap.size,0,_,by rw[bW],by rw[bW];exact grownCap_ge _ _ _ _,?_,λj x hx=> ?_⟩⟩
 ·exact grownCap_le_maxLen w s.size 0 _ (by unfold maxLen;omega)
 ·have hj:j<s.size:=by
   rcases Nat.lt_or_ge j s.size with h|h
   ·exact h
   ·rw[List.getElem?_eq_none (by rw[bW];exact h)]at hx;cases hx
  have hh:=bS w.drew (.cells (bytesRow s (grownCap w s.size 0 5)) 5 fz);rw[Nat.zero_add];refine(aG _ _ j _ _ _ hh).trans ?_;unfold bytesRow;rw[Array.getElem?_append_left (by simpa using hj)];simp only[ak,jQ]at hx;simp only[Array.getElem?_map];cases hq:s.data[j]? with
  |none=>simp[hq]at hx
  |some b=>
   simp[hq]at hx;subst hx;rfl
theorem aC(A:World)(r:Option Nat):A.grownBy A r:=⟨rfl,rfl,rfl,aB _,λ_ _ _=>rfl⟩
theorem ah{A B:World}{g:Nat}(h:A.grownBy B (some g))(j:Nat)(v:Value):A.grownBy (B.setCell ⟨g,j,none⟩ v) (some g):=
 ⟨h.os,h.tape,h.output,by simpa using h.size,λi hi hne=>(kS B ⟨g,j,none⟩ v i (λe=>hne (by rw[e]))).trans (h.block i hi hne)⟩
theorem fe.kept(h:fe W v xs)(hb:Below W.heap.size W W'):fe W' v xs:=by
 refine⟨h.1,?_⟩;rcases h.2 with h|⟨b,o',c,rfl,k1,k2,k3⟩
 ·exact .inl h
 ·exact .inr ⟨b,o',c,rfl,k1,k2,λj x hx=>(hb.cell (World.block_lt_of_cell? W _ (k3 j x hx))).trans (k3 j x hx)⟩
theorem Rd.kept{R:Nat}(h:Rd R xs W)(hb:Below W.heap.size W W'):Rd R xs W':=by
 obtain⟨v,h1,h2,hx,h3⟩:=h;have hlt:=World.block_lt_of_cell? W _ h1;refine⟨v,(hb.cell hlt).trans h1,(hb.frozen hlt).trans h2,hx,?_⟩;rcases h3 with h|⟨b,o',c,rfl,k1,k2,k3⟩
 ·exact .inl h
 ·exact .inr ⟨b,o',c,rfl,k1,k2,λj x hx=>(hb.cell (World.block_lt_of_cell? W _ (k3 j x hx))).trans (k3 j x hx)⟩
variable{o:Bool}{a s:Int}{W w:World}
@[reducible] def G9(o : Bool)(a s : Int): Value := .agg #[.bool o, .int .u32 a, .int .u32 s]
@[reducible] def aY(o : Bool)(a s : Int): Obj := .cells #[.bool o, .int .u32 a, .int .u32 s] 82
def ul(o:Bool)(a s:Int):List Int:=(if o then 1 else 2)::(b4 (if o then 0 else a)++b4 s)
def AA(o:Bool)(a s:Int):List Int:=ul o a s++b4 (crc (ul o a s))
theorem yD(o:Bool)(a s:Int):(ul o a s).length=9:=rfl
theorem Kq(a0:0<=a)(a1:a<4294967296)(s0:0<=s)(s1:s<4294967296):∀x∈ul o a s,0<=x∧x<=255:=by
 intro x hx;simp only[ul,eD,dG]at hx;rcases hx with rfl|hx|hx
 ·cases o<;>simp
 ·cases o
  ·exact Y9 a0 a1 x hx
  ·exact Y9 (by simp) (by simp) x hx
 ·exact Y9 s0 s1 x hx
theorem RS(a0:0<=a)(a1:a<4294967296)(s0:0<=s)(s1:s<4294967296):∀x∈AA o a s,0<=x∧x<=255:=by
 have hh:=Kq (o:=o) a0 a1 s0 s1;intro x hx;rcases dG.1 hx with hx|hx
 ·exact hh x hx
 ·have:=UY hh;exact Y9 this.1 this.2 x hx
@[reducible] def Cf(a s : Int)(w W : World): Prop :=
 W.cell? ⟨w.heap.size,1,none⟩=some (.int .u32 a)∧W.cell? ⟨w.heap.size,2,none⟩=some (.int .u32 s)∧w.heap.size<W.heap.size∧Below w.heap.size w W
theorem Cf.start(o:Bool)(a s:Int)(w:World):Cf a s w (w.alloc (aY o a s)):=
 ⟨jP w _ _ _,jP w _ _ _,by simp,bC⟩
theorem Cf.drew(h:Cf a s w W):Cf a s w W.drew:=⟨h.1,h.2.1,h.2.2.1,h.2.2.2.drew⟩
theorem Cf.alloc(h:Cf a s w W)(o:Obj):Cf a s w (W.alloc o):=by
 have hb:Below W.heap.size W (W.alloc o):=bC;exact⟨(hb.cell (p:=⟨w.heap.size,1,none⟩) h.2.2.1).trans h.1,(hb.cell (p:=⟨w.heap.size,2,none⟩) h.2.2.1).trans h.2.1,by simp;have:=h.2.2.1;omega,h.2.2.2.alloc (Nat.le_of_lt h.2.2.1) _⟩
theorem Cf.grown{W1:World}{v:Value}{n:Nat}{xs:List Value}(h:Cf a s w W)(ho:W.ownsRow (w.heap.size+1) 5 1 v n xs)(hg:W.grownBy W1 v.ownBlock):Cf a s w W1:=by
 have hne:some w.heap.size≠v.ownBlock:=λe=>by have:=(ho.lt _ e.symm).1;omega
 have hb:Below (w.heap.size+1) W W1:=(aU _ _).grown hg h.2.2.1 λk hk=>(ho.lt k hk).1;exact⟨hg.cell h.1 hne,hg.cell h.2.1 hne,fO h.2.2.1 hg.size,h.2.2.2.trans (hb.mono (Nat.le_succ _))⟩
theorem MN(base:Nat)(w:World)(x0:Int)(hb:base<=w.heap.size):
  (w.alloc (.cells #[.int .u8 x0] 5)).ownsRow base 5 1 (.slice (some ⟨w.heap.size,0,none⟩) 1 1) [x0].length (U [x0]):=
 ⟨rfl,.inr ⟨w.heap.size,1,_,rfl,hb,bS w _,aB _,by decide,rfl,rfl⟩⟩
theorem qw(o:Bool)(a s:Int)(a0:0<=a)(a1:a<4294967296)(s0:0<=s)(s1:s<4294967296)(w:World):
  Calls Tryz.prog 23 #[G9 o a s] w λe w'=>∃v,e=.returned v∧Below w.heap.size w w'∧v≠ .slice none 0 0∧w'.ownsRow (w.heap.size+1) 5 1 v 13 (U (AA o a s)):=by
 cases o
 ·have hS:=Cf.start false a s w;dsimp only[aY]at hS;have hl1:w.heap.size<(w.alloc (aY false a s)).heap.size:=by simp
  dsimp only[aY]at hl1;go_enter Tryz.func23,Tryz.ntmps23;go_wp2_with fail;generalize World.alloc _ _=W0 at hS hl1 ⊢;have zu:=(MN (w.heap.size+1) W0 2 hl1).drew;go_region_held3 (Cf a s w) (first|exact Cf.drew (by assumption)|assumption|exact Cf.alloc (by assumption) _|exact Cf.grown (by assumption) zu lY|exact Cf.grown (by assumption) hown5 pW) (first
   |(go_at_call_of 57 (Value.int IntKind.u32 a);refine(dF (w.heap.size+1) _ a [2] _ a0 a1 zu (by simp) (by simp;omega) (by simp)).mono ?_;rintro e w5 ⟨v5,rfl,hown5,lY,CS⟩)
   |(go_at_call_of 57 (Value.int IntKind.u32 s);refine(dF (w.heap.size+1) _ s ([2]++b4 a) _ s0 s1 hown5 CS (dH (Nat.le_of_lt (by simp;omega)) lY.size) (by simp[lm])).mono ?_;rintro e w6 ⟨v6,rfl,hown6,pW,IZ⟩))
  rename_i Ym;have hb:∀x∈ul false a s,0<=x∧x<=255:=Kq a0 a1 s0 s1;have Bh:w6.ownsRow (w.heap.size+1) 5 1 v6 (ul false a s).length (U (ul false a s)):=hown6;have hr:=qW Bh hb;have hc:=UY hb;clear hown6 pW hown5 lY zu hS hl1 CS;go_wp2_with fail;refine(Ml _ (ul false a s) _ hr).mono ?_;rintro e w7 ⟨rfl,rfl⟩;go_wp2_with fail;refine(dF (w.heap.size+1) _ _ (ul false a s) _ hc.1 hc.2 Bh IZ Ym.2.2.1 (by rw[yD];omega)).mono ?_;rintro e w8 ⟨v8,rfl,Ua,KQ,abl⟩;go_wp2_with fail;go_ret;exact⟨v8,rfl,Ym.2.2.2.grown KQ (Nat.le_of_lt Ym.2.2.1) (λk hk=>Nat.le_of_succ_le (Bh.lt k hk).1),abl,Ua⟩
 ·have hS:=Cf.start true 0 s w;dsimp only[aY]at hS;have hl1:w.heap.size<(w.alloc (aY true 0 s)).heap.size:=by simp
  dsimp only[aY]at hl1;go_enter Tryz.func23,Tryz.ntmps23;go_wp2_with fail;generalize World.alloc _ _=W0 at hS hl1 ⊢;have zu:=(MN (w.heap.size+1) W0 1 hl1).drew;go_region_held3 (Cf 0 s w) (first|exact Cf.drew (by assumption)|assumption|exact Cf.alloc (by assumption) _|exact Cf.grown (by assumption) zu lY|exact Cf.grown (by assumption) hown5 pW) (first
   |(go_at_call_of 57 (Value.int IntKind.u32 0);refine(dF (w.heap.size+1) _ 0 [1] _ (by decide) (by decide) zu (by simp) (by simp;omega) (by simp)).mono ?_;rintro e w5 ⟨v5,rfl,hown5,lY,CS⟩)
   |(go_at_call_of 57 (Value.int IntKind.u32 s);refine(dF (w.heap.size+1) _ s ([1]++b4 0) _ s0 s1 hown5 CS (dH (Nat.le_of_lt (by simp;omega)) lY.size) (by simp[lm])).mono ?_;rintro e w6 ⟨v6,rfl,hown6,pW,IZ⟩))
  rename_i Ym;have hb:∀x∈ul true 0 s,0<=x∧x<=255:=Kq (by decide) (by decide) s0 s1;have Bh:w6.ownsRow (w.heap.size+1) 5 1 v6 (ul true 0 s).length (U (ul true 0 s)):=hown6;have hr:=qW Bh hb;have hc:=UY hb;clear hown6 pW hown5 lY zu hS hl1 CS;go_wp2_with fail;refine(Ml _ (ul true 0 s) _ hr).mono ?_;rintro e w7 ⟨rfl,rfl⟩;go_wp2_with fail;refine(dF (w.heap.size+1) _ _ (ul true 0 s) _ hc.1 hc.2 Bh IZ Ym.2.2.1 (by rw[yD];omega)).mono ?_;rintro e w8 ⟨v8,rfl,Ua,KQ,abl⟩;go_wp2_with fail;go_ret;exact⟨v8,rfl,Ym.2.2.2.grown KQ (Nat.le_of_lt Ym.2.2.1) (λk hk=>Nat.le_of_succ_le (Bh.lt k hk).1),abl,Ua⟩
def n4(a b c d:Int):Int:=a * 16777216+b * 65536+c * 256+d
theorem EO(x y:Int)(hx:0<=x)(hx1:x<16777216)(hy:0<=y)(hy1:y<=255):bits .or .u32 (x * 256) y=x * 256+y:=by
 rw[bits_join .u32 32 (by decide) wraps_u32 8 (x * 256) y (by omega) (by omega) (by omega) hy (by omega) (by omega)]
theorem dI(R:Nat)(xs:List Int)(W:World)(h:Rd R xs W):
  Calls Tryz.prog 87 #[.pointer (some ⟨R,0,none⟩)] W λe w'=>(∃a b c d ys,xs=a::b::c::d::ys∧e=.returned (.int .u32 (n4 a b c d))∧Rd R ys w'∧W.grownBy w' (some R)∧Below R W w')∨(xs.length<4∧e=.panicked broken∧w'=W):=by
 go_enter Tryz.func87,Tryz.ntmps87;go_wp2_with fail;refine(Ag R 4 xs W h).mono ?_;rintro e w1 (⟨hn,⟨v,rfl,hv⟩,hrd,hg,hbl⟩|⟨hn,rfl,rfl⟩)
 ·obtain⟨x0,x1,x2,x3,ys,rfl⟩:∃a b c d ys,xs=a::b::c::d::ys:=by
   match xs,hn with
   |a::b::c::d::ys,_=>exact⟨a,b,c,d,ys,rfl⟩
  obtain⟨p0,q0,b,o,c,hv',c0⟩:=mE hv (j:=0) (x:=x0) rfl;simp only[List.take_succ_cons,List.take_zero,dY,List.length_nil,Nat.zero_add,Nat.add_zero,Nat.reduceAdd]at hv' c0;subst hv';obtain⟨p1,q1,b1,o1,d1,e1,c1⟩:=mE hv (j:=1) (x:=x1) rfl;obtain⟨p2,q2,b2,o2,d2,e2,c2⟩:=mE hv (j:=2) (x:=x2) rfl;obtain⟨p3,q3,b3,o3,d3,e3,c3⟩:=mE hv (j:=3) (x:=x3) rfl;simp only[Value.slice.injEq,Option.some.injEq,Addr.mk.injEq,and_true]at e1 e2 e3;obtain⟨⟨rfl,rfl⟩,h41,rfl⟩:=e1;clear h41;obtain⟨⟨rfl,rfl⟩,h42,rfl⟩:=e2;clear h42;obtain⟨⟨rfl,rfl⟩,h43,rfl⟩:=e3;clear h43;have ae5:Rd R ys w1:=hrd;clear hv hrd hn h;go_wp2_with fail;go_loop [3,9] (λn i=>(i=.int .i64 0∧n=.int .u32 0)∨(i=.int .i64 1∧n=.int .u32 x0)∨(i=.int .i64 2∧n=.int .u32 (x0 * 256+x1))∨(i=.int .i64 3∧n=.int .u32 ((x0 * 256+x1)* 256+x2))∨(i=.int .i64 4∧n=.int .u32 (((x0 * 256+x1)* 256+x2)* 256+x3))) (λ_ i=>4 - (intOf i).toNat)
  case atStart=>exact .inl ⟨rfl,rfl⟩
  case round=>
   have k0:Hid (bits .or .u32 0 x0=x0):=by
    have:=EO 0 x0 (by omega) (by omega) p0 q0;show bits .or .u32 0 x0=x0;simpa using this
   have k1:Hid _:=EO x0 x1 p0 (by omega) p1 q1;have k2:Hid _:=EO (x0 * 256+x1) x2 (by omega) (by omega) p2 q2;have k3:Hid _:=EO ((x0 * 256+x1)* 256+x2) x3 (by omega) (by omega) p3 q3;rcases hrel with⟨rfl,rfl⟩|⟨rfl,rfl⟩|⟨rfl,rfl⟩|⟨rfl,rfl⟩|⟨rfl,rfl⟩
   ·clear c1 c2 c3;go_wp2;go_round
    case rel=>exact .inr (.inl ⟨rfl,by rw[k0.out]⟩)
    case measure=>simp[intOf]
   ·clear c0 c2 c3;go_wp2;go_round
    case rel=>exact .inr (.inr (.inl ⟨rfl,by rw[k1.out]⟩))
    case measure=>simp[intOf]
   ·clear c0 c1 c3;go_wp2;go_round
    case rel=>exact .inr (.inr (.inr (.inl ⟨rfl,by rw[k2.out]⟩)))
    case measure=>simp[intOf]
   ·clear c0 c1 c2;go_wp2;go_round
    case rel=>exact .inr (.inr (.inr (.inr ⟨rfl,by rw[k3.out]⟩)))
    case measure=>simp[intOf]
   ·go_wp2;go_ret;refine .inl ⟨x0,x1,x2,x3,ys,⟨rfl,rfl,rfl,rfl,rfl⟩,vz ?_,ae5,hg,hbl⟩;unfold n4;omega
 ·exact⟨rfl,.inr ⟨by omega,rfl,rfl⟩⟩
variable{xs:List Int}
theorem tQ(h:∀x∈xs,0<=x∧x<=255):ak (strOfNums xs)=xs:=by
 unfold ak;rw[strOfNums_data,List.map_map];conv=>rhs;rw[<-List.map_id xs]
 refine List.map_congr_left λx hx=> ?_;have:=h x hx;simp only[Function.comp_apply,id,UInt8.toNat_ofNat'];omega
theorem acS{ys:List Int}(hx:∀x∈xs,0<=x∧x<=255)(hy:∀x∈ys,0<=x∧x<=255):((strOfNums xs).toList==(strOfNums ys).toList)=decide (xs=ys):=by
 rw[Bool.eq_iff_iff];simp only[beq_iff_eq,iM];constructor
 ·intro h;rw[<-tQ hx,<-tQ hy];unfold ak;have:(strOfNums xs).data.toList=(strOfNums ys).data.toList:=by
   rw[Lib.strOfNums_toList,Lib.strOfNums_toList]at h;exact h
  rw[this]
 ·rintro rfl;rfl
theorem QZ(v u:Value)(xs ys:List Int)(w:World)(hv:fe w v xs)(hu:fe w u ys):
  Calls Tryz.prog 101 #[v,u] w λe w'=>e=.returned (.bool (decide (xs=ys)))∧w'=w:=by
 have h1:=oO hv;have h2:=oO hu;have hx:=hv.1;have hy:=hu.1;clear hv hu;go_enter Tryz.func101,Tryz.ntmps101;go_wp2;go_ret;exact⟨lM (acS hx hy),rfl⟩
variable{o:Bool}{a s:Int}{B N:Nat}{W W':World}
def qJ(B:Nat)(o:Bool)(a s:Int)(W:World):Prop:=W.heap[B]?=some (aY o a s)
theorem qJ.cell(h:qJ B o a s W):
  W.cell? ⟨B,0,none⟩=some (.bool o)∧W.cell? ⟨B,1,none⟩=some (.int .u32 a)∧W.cell? ⟨B,2,none⟩=some (.int .u32 s):=
 ⟨aG W B 0 _ _ _ h,aG W B 1 _ _ _ h,aG W B 2 _ _ _ h⟩
theorem qJ.free(h:qJ B o a s W)(i:Nat):W.frozen? ⟨B,i,none⟩=false:=by
 unfold qJ at h;simp[World.frozen?,h]
theorem qJ.lt(h:qJ B o a s W):B<W.heap.size:=(iC.1 h).1
theorem qJ.below(h:qJ B o a s W)(hb:Below N W W')(hN:B<N):qJ B o a s W':=(hb.block _ hN).trans h
theorem qJ.later(h:qJ B o a s W)(hb:Below W.heap.size W W'):qJ B o a s W':=h.below hb h.lt
theorem qJ.new(o:Bool)(a s:Int)(W:World):qJ W.heap.size o a s (W.alloc (aY o a s)):=bS W _
@[reducible] def Ep(W : World)(B : Nat)(o : Bool)(a s : Int): World := ((W.setCell ⟨B, 0, none⟩ (.bool o)).setCell ⟨B, 1, none⟩ (.int .u32 a)).setCell ⟨B, 2, none⟩ (.int .u32 s)
theorem qJ.store(h:qJ B o a s W)(o':Bool)(a' s':Int):qJ B o' a' s' (Ep W B o' a' s'):=by
 unfold qJ at h ⊢;simp[World.setCell,Array.getElem?_modify,h]
theorem wu{w:World}(h:Below N w W)(hN:N<=B)(o:Bool)(a s:Int):Below N w (Ep W B o a s):=
 ((h.setCell (p:=⟨B,0,none⟩) hN _).setCell (p:=⟨B,1,none⟩) hN _).setCell (p:=⟨B,2,none⟩) hN _
theorem YH{c:Array Value}{e:TypeId}(h:W.heap[B]?=some (.cells c e (0,0)))(i:Nat):W.frozen? ⟨B,i,none⟩=false:=by
 simp[World.frozen?,h]
def rO(xs:List Int):Bool:=xs.getD 0 0==1
def rA(xs:List Int):Int:=n4 (xs.getD 1 0) (xs.getD 2 0) (xs.getD 3 0) (xs.getD 4 0)
def rS(xs:List Int):Int:=n4 (xs.getD 5 0) (xs.getD 6 0) (xs.getD 7 0) (xs.getD 8 0)
def CK(xs:List Int):Bool:=decide (13<=xs.length)&&decide (xs.take 13=AA (rO xs) (rA xs) (rS xs))
theorem ZC{b c d:Int}(ha:0<=a∧a<=255)(hb:0<=b∧b<=255)(hc:0<=c∧c<=255)(hd:0<=d∧d<=255):0<=n4 a b c d∧n4 a b c d<4294967296:=by
 unfold n4;omega
theorem aaW{xs:List Int}(h:13<=xs.length):∃x0 x1 x2 x3 x4 x5 x6 x7 x8 x9 x10 x11 x12 ys,xs=x0::x1::x2::x3::x4::x5::x6::x7::x8::x9::x10::x11::x12::ys:=by
 match xs,h with
 |x0::x1::x2::x3::x4::x5::x6::x7::x8::x9::x10::x11::x12::ys,_=>exact⟨x0,x1,x2,x3,x4,x5,x6,x7,x8,x9,x10,x11,x12,ys,rfl⟩
theorem xA(v:Value)(xs:List Int)(w:World)(hv:fe w v xs)(hs:xs.length<13):
  Calls Tryz.prog 68 #[v] w λe w'=>e=.returned (.tuple #[G9 false 0 0,.bool false])∧Below w.heap.size w w':=by
 obtain⟨a,c,rfl⟩:∃a c,v=.slice a xs.length c:=by
  rcases hv.2 with⟨rfl,rfl⟩|⟨b,o,c,rfl,_⟩
  ·exact⟨_,_,rfl⟩
  ·exact⟨_,_,rfl⟩
 have hd:decide ((xs.length:Int)<13)=true:=gu (by omega);clear hv;go_enter Tryz.func68,Tryz.ntmps68;go_wp2;go_returns;exact⟨rfl,bC⟩
theorem zo(v:Value)(xs:List Int)(w:World)(hv:fe w v xs)(hs:13<=xs.length):
  Calls Tryz.prog 68 #[v] w λe w'=>e=.returned (.tuple #[if CK xs then G9 (rO xs) (rA xs) (rS xs)else G9 false 0 0,.bool (CK xs)])∧Below w.heap.size w w':=by
 obtain⟨b,o,c,rfl,h1,h2,h3⟩:∃b o c,v=.slice (some ⟨b,o,none⟩) xs.length c∧xs.length<=c∧c<=9223372036854775807∧∀(j:Nat) (x:Int),xs[j]?=some x->w.cell? ⟨b,o+j,none⟩=some (.int .u8 x):=by
  rcases hv.2 with⟨rfl,rfl⟩|h
  ·simp at hs
  ·exact h
 have hp:=(fe.part hv.1 h1 h2 h3 13 hs).1;have hd:decide ((xs.length:Int)<13)=false:=fD (by omega);have hx:=hv.1;obtain⟨x0,x1,x2,x3,x4,x5,x6,x7,x8,x9,x10,x11,x12,ys,hxs⟩:=aaW hs;have hO:rO xs=(x0==1):=by rw[hxs];rfl
 have hA:rA xs=n4 x1 x2 x3 x4:=by rw[hxs];rfl
 have hS:rS xs=n4 x5 x6 x7 x8:=by rw[hxs];rfl
 have ht:xs.take 13=[x0,x1,x2,x3,x4,x5,x6,x7,x8,x9,x10,x11,x12]:=by rw[hxs];rfl
 have hk:CK xs=decide ([x0,x1,x2,x3,x4,x5,x6,x7,x8,x9,x10,x11,x12]=AA (x0==1) (n4 x1 x2 x3 x4) (n4 x5 x6 x7 x8)):=by
  unfold CK;rw[hO,hA,hS,ht,gu hs,Bool.true_and]
 have jM:0<=n4 x1 x2 x3 x4∧n4 x1 x2 x3 x4<4294967296:=by
  rw[hxs]at hx;exact ZC (hx x1 (by simp)) (hx x2 (by simp)) (hx x3 (by simp)) (hx x4 (by simp))
 have hbS:0<=n4 x5 x6 x7 x8∧n4 x5 x6 x7 x8<4294967296:=by
  rw[hxs]at hx;exact ZC (hx x5 (by simp)) (hx x6 (by simp)) (hx x7 (by simp)) (hx x8 (by simp))
 rw[hO,hA,hS];rw[ht]at hp;have hk':=(show Hid _ from hk);generalize CK xs=ok at hk' ⊢;clear hv h3 hx hxs hO hA hS ht hk;have hZ:qJ w.heap.size false 0 0 ((w.alloc (aY false 0 0)).alloc (.cells #[.slice (some ⟨b,o,none⟩) 13 c] 141)):=(qJ.new false 0 0 w).later (bC);have hB:Below w.heap.size w ((w.alloc (aY false 0 0)).alloc (.cells #[.slice (some ⟨b,o,none⟩) 13 c] 141)):=(bC).alloc (by simp) _;have hR:Rd (w.heap.size+1) [x0,x1,x2,x3,x4,x5,x6,x7,x8,x9,x10,x11,x12] ((w.alloc (aY false 0 0)).alloc (.cells #[.slice (some ⟨b,o,none⟩) 13 c] 141)):=by
  have hh:=bS (w.alloc (aY false 0 0)) (.cells #[.slice (some ⟨b,o,none⟩) 13 c] 141);rw[World.size_alloc]at hh;exact⟨_,aG _ _ 0 _ _ _ hh,YH hh 0,hp.kept hB⟩
 dsimp only[aY]at hZ hB hR;go_enter Tryz.func68,Tryz.ntmps68;go_wp2_with fail;generalize World.alloc _ _=W1 at hZ hB hR ⊢;refine(EP _ _ _ hR).mono ?_;rintro e W2 (⟨x,zs,he,hx0,hx1,rfl,hR2,hg2,hb2⟩|⟨he,_⟩)
 case inr=>cases he
 cases he;have hZ2:=hZ.below hb2 (Nat.lt_succ_self _);have hB2:=hB.trans (hb2.mono (Nat.le_succ _));clear hZ hB hR hg2 hb2;go_wp2_with fail;refine(dI _ _ _ hR2).mono ?_;rintro e W3 (⟨a',b',c',d',zs,he,rfl,P8,hg3,hb3⟩|⟨he,_⟩)
 case inr=>simp at he
 cases he;have hZ3:=hZ2.below hb3 (Nat.lt_succ_self _);have hB3:=hB2.trans (hb3.mono (Nat.le_succ _));clear hZ2 hB2 hR2 hg3 hb3;go_wp2_with fail;refine(dI _ _ _ P8).mono ?_;rintro e W4 (⟨a',b',c',d',zs,he,rfl,NF,hg4,hb4⟩|⟨he,_⟩)
 case inr=>simp at he
 cases he;have hZ4:=hZ3.below hb4 (Nat.lt_succ_self _);have hB4:=hB3.trans (hb4.mono (Nat.le_succ _));clear hZ3 hB3 P8 hg4 hb4 NF;have hN:=qJ.new (x0==1) (n4 x1 x2 x3 x4) (n4 x5 x6 x7 x8) W4;have hbn:Below W4.heap.size W4 (W4.alloc (aY (x0==1) (n4 x1 x2 x3 x4) (n4 x5 x6 x7 x8))):=bC;have hZ5:=hZ4.later hbn;have uO:=hB4.trans (hbn.mono hB4.size);dsimp only[aY]at hN hZ5 uO;clear hbn hZ4 hB4;go_wp2_with fail;clear hN;have hN:=qJ.new (x0==1) (n4 x1 x2 x3 x4) (n4 x5 x6 x7 x8) W4;dsimp only[aY]at hN;generalize W4.heap.size=R5 at hN ⊢;generalize World.alloc _ _=W5 at hN hZ5 uO ⊢;refine(qw (x0==1) (n4 x1 x2 x3 x4) (n4 x5 x6 x7 x8) jM.1 jM.2 hbS.1 hbS.2 _).mono ?_;rintro e W6 ⟨v6,rfl,hb6,IZ,hown6⟩;have Q_:=hN.later hb6;have hZ6:=hZ5.later hb6;have CX:=uO.trans (hb6.mono uO.size);have hp6:=hp.kept CX;have uz:fe W6 v6 (AA (x0==1) (n4 x1 x2 x3 x4) (n4 x5 x6 x7 x8)):=qW (base:=W5.heap.size+1) hown6 (RS jM.1 jM.2 hbS.1 hbS.2);clear hN hZ5 uO hb6 IZ hown6 hp;go_wp2_with fail;refine(QZ _ _ _ _ _ hp6 uz).mono ?_;rintro e W7 ⟨rfl,rfl⟩;rw[<-hk'.out];clear hk' uz hp6 jM hbS;obtain⟨n0,n1,n2⟩:=Q_.cell;obtain⟨z0,z1,z2⟩:=hZ6.cell;have zf:=hZ6.free;have hw:=hZ6.lt;cases ok
 ·have hF:=hZ6.store false 0 0;have hG:=wu CX (aB _) false 0 0;go_wp2;dsimp only[Ep]at hF hG;generalize World.setCell _ _ _=W8 at hF hG ⊢;obtain⟨q0,q1,q2⟩:=hF.cell;exact bodyPost_ret (v:=.tuple #[G9 false 0 0,.bool false]) (by simp[results,Tryz.results68,go_sem,q0,q1,q2]) rfl ⟨rfl,hG⟩
 ·have hF:=hZ6.store (x0==1) (n4 x1 x2 x3 x4) (n4 x5 x6 x7 x8);have hG:=wu CX (aB _) (x0==1) (n4 x1 x2 x3 x4) (n4 x5 x6 x7 x8);go_wp2;dsimp only[Ep]at hF hG;generalize World.setCell _ _ _=W8 at hF hG ⊢;obtain⟨q0,q1,q2⟩:=hF.cell;exact bodyPost_ret (v:=.tuple #[G9 (x0==1) (n4 x1 x2 x3 x4) (n4 x5 x6 x7 x8),.bool true]) (by simp[results,Tryz.results68,go_sem,q0,q1,q2]) rfl ⟨rfl,hG⟩
theorem AB(v:Value)(xs:List Int)(w:World)(hv:fe w v xs):
  Calls Tryz.prog 68 #[v] w λe w'=>e=.returned (.tuple #[if CK xs then G9 (rO xs) (rA xs) (rS xs)else G9 false 0 0,.bool (CK xs)])∧Below w.heap.size w w':=by
 by_cases hs:13<=xs.length
 ·exact zo v xs w hv hs
 ·have hk:CK xs=false:=by simp[CK,hs]
  rw[hk];exact xA v xs w hv (by omega)
variable{xs:List Int}
theorem rq:(Tryz.prog.info? 82).map (λi=>(i.zero,i.size,i.bytes))=some (some (.agg #[.bool false,.int .u32 0,.int .u32 0]),3,12):=by kernel_rfl
theorem Kg{w:World}{v:Value}(hv:fe w v xs)(k:Nat)(hk:k<=xs.length)(i:Int)(hi:i=k):
  ∃u,(∀W:World,(Instr.slice 58 v (some (.int .i64 i)) none none).run Tryz.prog W=.ok u W)∧∀W:World,fe W v xs->fe W u (xs.drop k):=by
 have ht:Tryz.prog.underlying 58=some (.slice (Tryz.prog.elem 58)):=by simp[Program.elem,Tryz.underlying58]
 have hz:∀w,(Go.sizeOf (Tryz.prog.elem 58)).run Tryz.prog w=.ok 1 w:=by
  intro w;simp[go_sem,Program.elem,Tryz.underlying58]
 subst hi;rcases hv.2 with⟨rfl,rfl⟩|⟨b,o,c,rfl,h1,h2,_⟩
 ·obtain rfl:k=0:=by simpa using hk
  refine⟨.slice none 0 0,λW=> ?_,λW h=>h⟩;rw[run_slice_l W 58 _ _ _ ht .i64 _ (by omega) (by omega),hz];rfl
 ·refine⟨sliced (some ⟨b,o,none⟩) k xs.length c 1,λW=> ?_,λW h=> ?_⟩
  ·rw[run_slice_l W 58 _ _ _ ht .i64 _ (by omega) (by omega),hz];rfl
  ·rcases h.2 with⟨he,_⟩|⟨b',o',c',he,_,_,h3⟩
   ·cases he
   ·simp only[Value.slice.injEq,Option.some.injEq,Addr.mk.injEq,and_true]at he;obtain⟨⟨rfl,rfl⟩,_,rfl⟩:=he;have hp:=(fe.part h.1 h1 h2 h3 k hk).2;unfold sliced;split
    ·rename_i hc;have hx:xs.drop k=[]:=List.drop_eq_nil_of_le (by omega);rw[hx];refine⟨by simp,.inr ⟨b,o,c - k,?_,by simp,by omega,by simp⟩⟩;rw[show xs.length - k=([]:List Int).length by simp;omega]
    ·have e:(some (⟨b,o,none⟩:Addr)).map (·.add (k * 1))=some ⟨b,o+k,none⟩:=by simp[Addr.add]
     rw[e];exact hp
def RC(L:List (Bool×Int×Int)):List Value:=L.flatMap λx=> [.bool x.1,.int .u32 x.2.1,.int .u32 x.2.2]
theorem lD(a b:List (Bool×Int×Int)):RC (a++b)=RC a++RC b:=by simp[RC]
theorem Vq(x:Bool×Int×Int):RC [x]=[.bool x.1,.int .u32 x.2.1,.int .u32 x.2.2]:=rfl
def Kr:Nat->List Int->List (Bool×Int×Int)
 |0,_=> []
 |f+1,xs=>if CK xs then(rO xs,rA xs,rS xs)::Kr f (xs.drop 13)else []
def jl(xs:List Int):List (Bool×Int×Int):=Kr xs.length xs
theorem MV(h:CK xs=true):13<=xs.length:=by
 simp only[CK,eF,iM]at h;exact h.1
theorem RU(h:CK xs=false)(f:Nat):Kr f xs=[]:=by
 cases f<;>simp[Kr,h]
theorem MH(h:CK xs=true){f:Nat}(hf:xs.length<=f):Kr f xs=(rO xs,rA xs,rS xs)::Kr (f - 1) (xs.drop 13):=by
 have:=MV h;obtain⟨g,rfl⟩:∃g,f=g+1:=⟨f - 1,by omega⟩;simp[Kr,h]
theorem kY(W:World)(o:Bool)(a s:Int):∀(j:Nat) (u:Value),(RC [(o,a,s)])[j]?=some u->(W.alloc (aY o a s)).cell? ((⟨W.heap.size,0,none⟩:Addr).add j)=some u:=by
 intro j u hj;have hh:=bS W (aY o a s);rw[Vq]at hj
 match j,hj with
 |0,hj=>exact(aG _ _ 0 _ _ _ hh).trans hj
 |1,hj=>exact(aG _ _ 1 _ _ _ hh).trans hj
 |2,hj=>exact(aG _ _ 2 _ _ _ hh).trans hj
 |j+3,hj=>simp at hj
theorem nJ(o:Bool)(a s:Int):∀u∈RC [(o,a,s)],u.oneCell'=true:=by
 intro u hu;simp only[Vq,eD,List.not_mem_nil,or_false]at hu;rcases hu with rfl|rfl|rfl<;>rfl
theorem zJ(v:Value)(xs:List Int)(hxs:xs.length<=1000000)(w:World)(hv:fe w v xs):
  Calls Tryz.prog 41 #[v] w λe w'=>∃u,e=.returned (.tuple #[u,.int .i64 (13 * (jl xs).length:Nat)])∧Below w.heap.size w w'∧w'.ownsRow w.heap.size 82 3 u (jl xs).length (RC (jl xs)):=by
 obtain⟨i0,hi,hz0,hz1,hz2⟩:=info_parts rq;go_enter Tryz.func41,Tryz.ntmps41;go_wp2_with fail;go_loopw [4,5] (λl t wr=>∃(k:Nat) (L:List (Bool×Int×Int)),L.length=k∧13 * k<=xs.length∧t=.int .i64 (13 * (k:Int))∧wr.ownsRow w.heap.size 82 3 l k (RC L)∧Below w.heap.size w wr∧jl xs=L++Kr (xs.length - k) (xs.drop (13 * k))) (λ_ t _=>xs.length - (intOf t).toNat)
 case atStart=>exact⟨0,[],rfl,by omega,rfl,⟨rfl,.inl ⟨rfl,rfl⟩⟩,aU _ _,rfl⟩
 case round=>
  obtain⟨k,L,hLk,Wi,rfl,ho,hB,hj⟩:=hrel;obtain⟨u,hsl,hu⟩:=Kg hv (13 * k) Wi (13 * (k:Int)) (by omega);have hur:=hu _ (hv.kept hB);have hj':=(show Hid _ from hj);have hLk':=(show Hid _ from hLk);clear hj hu hLk;go_wp2_with fail;refine(AB _ _ _ hur).mono ?_;rintro e W1 ⟨rfl,hb1⟩;have ho1:=ho.kept (w':=W1) (row:=none) ⟨hb1.os,hb1.tape,hb1.output,hb1.size,λk hk _=>hb1.block k hk⟩ (by cases u4.ownBlock<;>simp);have hB1:=hB.trans (hb1.mono hB.size);clear ho hB hb1 hsl hur;have hdl:(xs.drop (13 * k)).length=xs.length - 13 * k:=List.length_drop;cases hok:CK (xs.drop (13 * k))
  ·have hj0:jl xs=L:=by rw[hj'.out,RU hok,gU]
   have hj1:Hid ((jl xs).length=k):=by
    show(jl xs).length=k;rw[hj0];exact hLk'.out
   have hj2:Hid (RC (jl xs)=RC L):=by
    show RC (jl xs)=RC L;rw[hj0]
   clear hj0 hok hdl;have ho2:=ho1.alloc (aY false 0 0);have hB2:Below w.heap.size w (W1.alloc (aY false 0 0)):=hB1.alloc hB1.size _;dsimp only[aY]at ho2 hB2;go_wp2;go_ret2;refine⟨u4,?_,hB2,?_⟩
   ·rw[hj1.out];simp
   ·rw[hj1.out,hj2.out];exact ho2
  ·have hge:=MV hok;have hst:Hid (Kr (xs.length - k) (xs.drop (13 * k))=(rO (xs.drop (13 * k)),rA (xs.drop (13 * k)),rS (xs.drop (13 * k)))::Kr (xs.length - (k+1)) (xs.drop (13 * (k+1)))):=by
    show _=_;rw[MH hok (by omega),List.drop_drop,show 13 * k+13=13 * (k+1)by omega,show xs.length - k - 1=xs.length - (k+1)by omega]
   generalize rO (xs.drop (13 * k))=o at hst ⊢;generalize rA (xs.drop (13 * k))=a at hst ⊢;generalize rS (xs.drop (13 * k))=s at hst ⊢;clear hok;have ho2:=(ho1.alloc (aY o a s)).alloc (aY o a s);have hc2:=kY (W1.alloc (aY o a s)) o a s;have hB2:Below w.heap.size w ((W1.alloc (aY o a s)).alloc (aY o a s)):=(hB1.alloc hB1.size _).alloc (by have:=hB1.size;simp;omega) _;have hs1:=hB1.size;have hlt:=ho2.lt;rw[World.size_alloc]at hc2;dsimp only[aY]at ho2 hc2 hB2 hlt;go_wp2_with(at_builtin;refine wpList_append_own _ rfl _ _ 79 rfl w.heap.size 82 i0 (.agg #[.bool false,.int .u32 0,.int .u32 0]) 3 12 Tryz.underlying79 hi hz0 hz1 hz2 rfl (by decide) u4 k (RC L) rfl ho2 ⟨W1.heap.size+1,0,none⟩ 1 1 (RC [(o,a,s)]) rfl rfl hc2 (nJ o a s) ?c1 ?c2 ?c3 ?_)
   case c1=>unfold maxLen;omega
   case c2=>omega
   case c3=>simp;omega
   intro v' W3 ho3 hg3 _;have hB3:=hB2.grown hg3 hB2.size (λk hk=>(hlt k hk).1);clear ho2 hc2 hB2 hg3 hlt;go_wp2;go_roundw
   case rel=>
    refine⟨k+1,L++ [(o,a,s)],by rw[dx,hLk'.out];rfl,by omega,by go_num,?_,hB3,?_⟩
    ·rw[lD];exact ho3
    ·rw[hj'.out,hst.out,List.append_assoc];rfl
   case measure=>simp[intOf];omega
def qg(x:Bool×Int×Int):List Int:=AA x.1 x.2.1 x.2.2
def norm(x:Bool×Int×Int):Bool×Int×Int:=(x.1,if x.1 then 0 else x.2.1,x.2.2)
def bB(L:List (Bool×Int×Int)):List Int:=L.flatMap qg
def qx(L:List (Bool×Int×Int)):Prop:=∀x∈L,(0<=x.2.1∧x.2.1<4294967296)∧0<=x.2.2∧x.2.2<4294967296
theorem iF(L:List (Bool×Int×Int)):(bB L).length=13 * L.length:=by
 induction L with
 |nil=>rfl
 |cons a L ih=>
  simp only[bB,List.flatMap_cons,dx,dY]at ih ⊢;rw[ih,show(qg a).length=13 from rfl];omega
theorem kL(a b:List (Bool×Int×Int)):bB (a++b)=bB a++bB b:=by simp[bB]
theorem K7(x:Bool×Int×Int)(L:List (Bool×Int×Int)):bB (x::L)=qg x++bB L:=rfl
theorem FP{L:List (Bool×Int×Int)}(h:qx L):∀x∈bB L,0<=x∧x<=255:=by
 intro x hx;simp only[bB,List.mem_flatMap]at hx;obtain⟨y,hy,hx⟩:=hx;have:=h y hy;exact RS this.1.1 this.1.2 this.2.1 this.2.2 x hx
theorem S_(n:Int):n4 (n / 16777216) (n / 65536%256) (n / 256%256) (n%256)=n:=by
 unfold n4;omega
theorem R4(x:Bool×Int×Int)(ys:List Int):rO (qg x++ys)=x.1:=by
 obtain⟨o,a,s⟩:=x;cases o<;>rfl
theorem R6(x:Bool×Int×Int)(ys:List Int):rA (qg x++ys)=if x.1 then 0 else x.2.1:=by
 obtain⟨o,a,s⟩:=x;cases o
 ·exact S_ a
 ·rfl
theorem RZ(x:Bool×Int×Int)(ys:List Int):rS (qg x++ys)=x.2.2:=by
 obtain⟨o,a,s⟩:=x;exact S_ s
theorem OV(x:Bool×Int×Int):AA x.1 (if x.1 then 0 else x.2.1) x.2.2=qg x:=by
 obtain⟨o,a,s⟩:=x;cases o<;>rfl
theorem XE(x:Bool×Int×Int)(ys:List Int):CK (qg x++ys)=true:=by
 have hl:(qg x).length=13:=rfl;unfold CK;rw[R4,R6,RZ,OV,List.take_append_of_le_length (by omega),jD (by omega),gu rfl,Bool.and_true];exact gu (by rw[dx];omega)
theorem O_{xs:List Int}(h:xs.length<13):CK xs=false:=by
 unfold CK;rw[fD (by omega),Bool.false_and]
theorem RV(L:List (Bool×Int×Int))(r:List Int)(hr:CK r=false):∀f,(bB L++r).length<=f->Kr f (bB L++r)=L.map norm:=by
 induction L with
 |nil=>
  intro f _;simp only[bB,List.flatMap_nil,List.nil_append,List.map_nil];exact RU hr f
 |cons x L ih=>
  intro f hf;have hl:(qg x).length=13:=rfl;have he:bB (x::L)++r=qg x++(bB L++r):=by simp[bB]
  rw[he]at hf ⊢;rw[MH (XE x _) hf,R4,R6,RZ];rw[List.drop_append_of_le_length (by omega),List.drop_of_length_le (by omega),List.nil_append,ih _ (by rw[dx,hl]at hf;omega)];rfl
theorem Nl(L:List (Bool×Int×Int))(r:List Int)(hr:CK r=false):jl (bB L++r)=L.map norm:=RV L r hr _ (aB _)
theorem xK(L:List (Bool×Int×Int)):jl (bB L)=L.map norm:=by
 have:=Nl L [] rfl
 rwa [gU]at this
theorem Je(L:List (Bool×Int×Int))(k:Nat)(hk:k<13 * L.length):
  ∃x,L[k / 13]?=some x∧bB L=bB (L.take (k / 13))++(qg x++bB (L.drop (k / 13+1))):=by
 have hq:k / 13<L.length:=by omega
 refine⟨L[k / 13],cK hq,?_⟩;have e:L=L.take (k / 13)++L[k / 13]::L.drop (k / 13+1):=by
  rw[List.getElem_cons_drop,List.take_append_drop]
 conv=>lhs;rw[e]
 rw[kL,K7]
theorem aaY(L:List (Bool×Int×Int))(k:Nat)(hk:k<13 * L.length):jl ((bB L).take k)=(L.take (k / 13)).map norm:=by
 obtain⟨x,_,he⟩:=Je L k hk;have hl:(bB (L.take (k / 13))).length=13 * (k / 13):=by
  rw[iF,List.length_take,Nat.min_eq_left (by omega)]
 rw[he,List.take_append,jD (by omega)];refine Nl _ _ (O_ ?_);rw[List.length_take,hl];omega
variable{f:Int->Option Int}{c:Option Int}
def stepM(f:Int->Option Int)(r:Bool×Int×Int):Int->Option Int:=if r.1 then f else ku f r.2.1 (some (max ((f r.2.1).getD 0) r.2.2))
def lH(c:Option Int)(r:Bool×Int×Int):Option Int:=if r.1 then some (max (c.getD 0) r.2.2)else c
def mG(L:List (Bool×Int×Int)):Int->Option Int:=L.foldl stepM λ_=>none
def qI(L:List (Bool×Int×Int)):Option Int:=L.foldl lH none
theorem Ik(L:List (Bool×Int×Int))(r:Bool×Int×Int):mG (L++ [r])=stepM (mG L) r:=by simp[mG]
theorem AV(L:List (Bool×Int×Int))(r:Bool×Int×Int):qI (L++ [r])=lH (qI L) r:=by simp[qI]
def dz:Option Int->List (Bool×Int×Int)
 |none=> []
 |some s=> [(true,0,s)]
def gM(f:Int->Option Int)(ss:List Int):List (Bool×Int×Int):=ss.map λa=>(false,a,(f a).getD 0)
def iT(f:Int->Option Int)(c:Option Int)(out:List (Bool×Int×Int)):Prop:=
 ∃ss:List Int,ss.Pairwise (·<·)∧(∀a,a∈ss ↔ (f a).isSome=true)∧out=dz c++gM f ss
theorem DU{l l':List Int}(h:l.Pairwise (·<·))(h':l'.Pairwise (·<·))(hm:∀a,a∈l ↔ a∈l'):l=l':=by
 have n1:l.Nodup:=h.imp (λhab=>by omega);have n2:l'.Nodup:=h'.imp (λhab=>by omega);have hp:=(List.perm_ext_iff_of_nodup n1 n2).2 hm;refine List.Perm.eq_of_pairwise (le:=λa b=>a<b) (λa b _ _ h1 h2=>by omega) h h' hp
theorem iT.unique{o1 o2:List (Bool×Int×Int)}(h1:iT f c o1)(h2:iT f c o2):o1=o2:=by
 obtain⟨s1,p1,m1,rfl⟩:=h1;obtain⟨s2,p2,m2,rfl⟩:=h2;rw[DU p1 p2 (λa=>by rw[m1,m2])]
def AJ:List (Bool×Int×Int)->Bool×Int×Int->List (Bool×Int×Int)
 | [],r=> [r]
 |x::l,r=>if x.1=r.1∧x.2.1=r.2.1 then(x.1,x.2.1,max r.2.2 x.2.2)::l
  else if r.1=true∨(x.1=false∧x.2.1>r.2.1)then r::x::l
  else x::AJ l r
def ng(a:Int):List Int->List Int
 | []=> [a]
 |x::l=>if x=a then x::l else if x>a then a::x::l else x::ng a l
theorem A_(a:Int)(l:List Int)(b:Int):b∈ng a l ↔ b=a∨b∈l:=by
 induction l with
 |nil=>simp[ng]
 |cons x l ih=>
  unfold ng;split
  ·rename_i h;subst h;simp
  ·split
   ·simp
   ·simp[ih];constructor<;>rintro(h|h|h)<;>simp[h]
theorem Np(a:Int)(l:List Int)(h:l.Pairwise (·<·)):(ng a l).Pairwise (·<·):=by
 induction l with
 |nil=>simp[ng]
 |cons x l ih=>
  unfold ng;have hx:=List.pairwise_cons.1 h;split
  ·exact h
  ·split
   ·refine List.pairwise_cons.2 ⟨λb hb=> ?_,h⟩;rcases eD.1 hb with rfl|hb
    ·omega
    ·have:=hx.1 b hb;omega
   ·refine List.pairwise_cons.2 ⟨λb hb=> ?_,ih hx.2⟩;rcases(A_ a l b).1 hb with rfl|hb
    ·omega
    ·exact hx.1 b hb
theorem R8(f:Int->Option Int)(a s:Int)(ss:List Int)(h:ss.Pairwise (·<·))(hm:∀b∈ss,(f b).isSome=true)(hf:a ∉ ss->(f a).getD 0<=s):
  AJ (gM f ss) (false,a,s)=gM (ku f a (some (max ((f a).getD 0) s))) (ng a ss):=by
 induction ss with
 |nil=>
  have:=hf (by simp);simp[gM,AJ,ng,ku];omega
 |cons x l ih=>
  have hx:=List.pairwise_cons.1 h;have hother:∀m:List Int,(∀b∈m,b≠a)->gM (ku f a (some (max ((f a).getD 0) s))) m=gM f m:=by
   intro m hmm;unfold gM;refine List.map_congr_left λb hb=> ?_;simp[ku,hmm b hb]
  simp only[gM,List.map_cons,AJ,ng];by_cases e:x=a
  ·subst e;simp only[and_self,if_true];rw[List.map_cons];have:=hother l (λb hb=>by have:=hx.1 b hb;omega);simp only[gM]at this;rw[this];simp[ku];omega
  ·simp only[e,and_false,if_false,Bool.false_eq_true,false_or,true_and];by_cases g:x>a
   ·simp only[g,if_true];have hn:a ∉ x::l:=by
     intro hb;rcases eD.1 hb with hb|hb
     ·omega
     ·have:=hx.1 a hb;omega
    have h1:=hother (x::l) (λb hb=>by rintro rfl;exact hn hb);simp only[gM]at h1;rw[List.map_cons,h1];have:=hf hn;simp[ku];omega
   ·simp only[g,if_false];have h1:=hother [x] (by simp;exact e);simp only[gM,List.map_cons,List.map_nil,List.cons.injEq,and_true]at h1;have:=ih hx.2 (λb hb=>hm b (by simp[hb])) (λhn=>hf (by simp;exact⟨λe'=>e e'.symm,hn⟩));simp only[gM]at this;rw[List.map_cons,h1,this]
theorem iT.put{out:List (Bool×Int×Int)}(h:iT f c out)(r:Bool×Int×Int)(hs:0<=r.2.2):iT (stepM f r) (lH c r) (AJ out (norm r)):=by
 obtain⟨ss,hp,hm,rfl⟩:=h;obtain⟨o,a,s⟩:=r;cases o
 ·refine⟨ng a ss,Np a ss hp,λb=> ?_,?_⟩
  ·rw[A_,hm];by_cases e:b=a
   ·simp[stepM,ku,e]
   ·simp[stepM,ku,e]
  ·have hq:=R8 f a s ss hp (λb hb=>(hm b).1 hb) (λhn=>by
    have:f a=none:=by
     cases hfa:f a with
     |none=>rfl
     |some v=>exact absurd ((hm a).2 (by simp[hfa])) hn
    simp[this];exact hs)
   cases c with
   |none=>simpa[dz,lH,stepM,norm]using hq
   |some t=>
    simp only[dz,lH,stepM,norm,List.cons_append,List.nil_append,AJ,Bool.false_eq_true,if_false];simp only[Bool.true_eq_false,false_and,if_false,or_self];rw[hq]
 ·refine⟨ss,hp,λb=>by simpa[stepM]using hm b,?_⟩;simp only[stepM,lH,if_true,norm];cases c with
  |none=>
   simp only[dz,List.nil_append,Option.getD_none];rw[Int.max_eq_right hs];cases ss<;>simp[gM,AJ]
  |some t=>simp[dz,AJ,Int.max_comm]
theorem iT.nil:iT (λ_=>none) none []:=⟨[],List.Pairwise.nil,λa=>by simp,rfl⟩
def MB(f:Int->Option Int):Prop:=∀a v,f a=some v->a_ a∧a_ v
def OB(c:Option Int):Prop:=∀v,c=some v->a_ v
theorem Em{a b:Int}(h:a_ a)(h':a_ b):a_ (max a b):=by
 unfold a_ at *;omega
theorem MB.getD(h:MB f)(a:Int):a_ ((f a).getD 0):=by
 cases e:f a with
 |none=>simp[a_]
 |some v=>exact(h a v e).2
theorem OB.getD(h:OB c):a_ (c.getD 0):=by
 cases e:c with
 |none=>simp[a_]
 |some v=>exact h v e
theorem MB.step(h:MB f){r:Bool×Int×Int}(ha:a_ r.2.1)(hs:a_ r.2.2):MB (stepM f r):=by
 obtain⟨o,a,s⟩:=r;cases o
 ·intro b v hb;simp only[stepM,Bool.false_eq_true,if_false,ku]at hb;by_cases e:b=a
  ·simp only[e,if_true,Option.some.injEq]at hb;subst hb;exact⟨e▸ha,Em (h.getD a) hs⟩
  ·simp only[e,if_false]at hb;exact h b v hb
 ·exact h
theorem OB.step(h:OB c){r:Bool×Int×Int}(hs:a_ r.2.2):OB (lH c r):=by
 obtain⟨o,a,s⟩:=r;cases o
 ·exact h
 ·intro v hv;simp only[lH,if_true,Option.some.injEq]at hv;subst hv;exact Em h.getD hs
end Go.Proofs.YtakaadcpaeiccabGreat
