import Derived.Test.YtakaadcpaeiccabGreatC07
import Derived.Deep.Cut
set_option maxHeartbeats 4000000
set_option maxRecDepth 100000
namespace Go.Proofs.YtakaadcpaeiccabGreat
open Go.RowKit Go.Maps
theorem MF(T:Nat)(d now:Int)(w:World)(hv:Calls Tryz.prog 116 #[.pointer(some⟨T,0,none⟩),.int .u32 d](w.alloc(b_ bW(.slice none 0 0)))fun e w'=>e=.returned(.pointer none)∧w'=(w.alloc(b_ bW(.slice none 0 0)))):
  Calls Tryz.prog 79 #[.pointer(some⟨T,0,none⟩),.int .u32 d,.int .u64 now]w fun e w'=>e=.returned(.tuple #[Ia bW(.slice none 0 0),.bool false])∧Below w.heap.size w w':=by
 have hb:Below w.heap.size w(w.alloc(b_ bW(.slice none 0 0))):=(Below.refl _ _).alloc(Nat.le_refl _)_;have hZ:=dP.new bW(.slice none 0 0)w;have HV:=(show Hid _ from hv);clear hv;dsimp only [b_,bW]at hb hZ HV;go_enter Tryz.func79,Tryz.ntmps79
 go_wp2_with fail
 generalize World.alloc _ _=W1 at hb hZ HV ⊢;refine Calls.mono HV.out ?_;rintro e w1⟨rfl,rfl⟩;clear HV;obtain⟨z0,z1,z2,z3,z4,z5,z6⟩:=hZ.cell;have zf:=hZ.free;have hF:=hZ.store bW(.slice none 0 0);have hG:=hb.grown(lK w1 w.heap.size bW(.slice none 0 0))hb.size(fun k e=>by cases e;exact Nat.le_refl _);dsimp only [bW]at z0 z1 z2 z3 z4 z5 z6;clear hb hZ;go_wp2
 dsimp only [sK,bW]at hF hG;generalize World.setCell _ _ _=W8 at hF hG ⊢;obtain⟨q0,q1,q2,q3,q4,q5,q6⟩:=hF.cell;exact bodyPost_ret(v:=.tuple #[Ia bW(.slice none 0 0),.bool false])(by simp [results,Tryz.results79,go_sem,q0,q1,q2,q3,q4,q5,q6,bW])rfl⟨rfl,hG⟩
theorem UJ(T:Nat)(d now:Int)(B:Nat)(x:Rt)(v:Value)(hx:x.exp≤now)(w:World)(h:dP B x v w)(hv:Calls Tryz.prog 116 #[.pointer(some⟨T,0,none⟩),.int .u32 d](w.alloc(b_ bW(.slice none 0 0)))fun e w'=>e=.returned(.pointer(some⟨B,0,none⟩))∧w'=(w.alloc(b_ bW(.slice none 0 0)))):
  Calls Tryz.prog 79 #[.pointer(some⟨T,0,none⟩),.int .u32 d,.int .u64 now]w fun e w'=>e=.returned(.tuple #[Ia bW(.slice none 0 0),.bool false])∧Below w.heap.size w w':=by
 have hd:decide(x.exp≤now)=true:=decide_eq_true hx;have hb:Below w.heap.size w(w.alloc(b_ bW(.slice none 0 0))):=(Below.refl _ _).alloc(Nat.le_refl _)_;have hZ:=dP.new bW(.slice none 0 0)w;have hL:=h.later hb;have HV:=(show Hid _ from hv);clear hv;dsimp only [b_,bW]at hb hZ HV hL;go_enter Tryz.func79,Tryz.ntmps79
 go_wp2_with fail
 generalize World.alloc _ _=W1 at hb hZ HV hL ⊢;refine Calls.mono HV.out ?_;rintro e w1⟨rfl,rfl⟩;clear HV;obtain⟨_,_,_,_,_,c5,_⟩:=hL.cell;obtain⟨z0,z1,z2,z3,z4,z5,z6⟩:=hZ.cell;have zf:=hZ.free;have hF:=hZ.store bW(.slice none 0 0);have hG:=hb.grown(lK w1 w.heap.size bW(.slice none 0 0))hb.size(fun k e=>by cases e;exact Nat.le_refl _);dsimp only [bW]at z0 z1 z2 z3 z4 z5 z6;clear hb hZ hL;go_wp2
 dsimp only [sK,bW]at hF hG;generalize World.setCell _ _ _=W8 at hF hG ⊢;obtain⟨q0,q1,q2,q3,q4,q5,q6⟩:=hF.cell;exact bodyPost_ret(v:=.tuple #[Ia bW(.slice none 0 0),.bool false])(by simp [results,Tryz.results79,go_sem,q0,q1,q2,q3,q4,q5,q6,bW])rfl⟨rfl,hG⟩
theorem UI(T:Nat)(d now:Int)(B:Nat)(x:Rt)(v:Value)(hx:¬x.exp≤now)(hn:x.bB.length≤4)(w:World)(h:dP B x v w)(hr:w.ownsRow 0 34 1 v x.bB.length(x.bB.map aU))(hv:Calls Tryz.prog 116 #[.pointer(some⟨T,0,none⟩),.int .u32 d](w.alloc(b_ bW(.slice none 0 0)))fun e w'=>e=.returned(.pointer(some⟨B,0,none⟩))∧w'=(w.alloc(b_ bW(.slice none 0 0)))):
  Calls Tryz.prog 79 #[.pointer(some⟨T,0,none⟩),.int .u32 d,.int .u64 now]w fun e w'=>∃v',e=.returned(.tuple #[Ia x v',.bool true])∧w'.ownsRow w.heap.size 34 1 v' x.bB.length(x.bB.map aU)∧Below w.heap.size w w':=by
 have hd:decide(x.exp≤now)=false:=decide_eq_false hx;have hb:Below w.heap.size w(w.alloc(b_ bW(.slice none 0 0))):=(Below.refl _ _).alloc(Nat.le_refl _)_;have hs1:w.heap.size+1≤(w.alloc(b_ bW(.slice none 0 0))).heap.size:=by simp
 have hZ:=dP.new bW(.slice none 0 0)w;have hL:=h.later hb;have hR:=aM hr hb;have HV:=(show Hid _ from hv);clear hv;dsimp only [b_,bW]at hb hs1 hZ HV hL hR;go_enter Tryz.func79,Tryz.ntmps79
 go_wp2_with fail
 generalize World.alloc _ _=W1 at hb hs1 hZ HV hL hR ⊢;refine Calls.mono HV.out ?_;rintro e w1⟨rfl,rfl⟩;clear HV;obtain⟨_,_,_,_,_,c5,_⟩:=hL.cell;go_wp2_with fail
 refine(xg B x v hn _ hL hR).mono ?_;rintro e w2⟨v',rfl,ho2,hb2⟩;obtain⟨rE,c2',rfl,_⟩:=ak ho2;have hZ2:=hZ.later hb2;have hbb:=hb.trans(hb2.mono hb.size);obtain⟨z0,z1,z2,z3,z4,z5,z6⟩:=hZ2.cell;have zf:=hZ2.free;have hlt:=ho2.lt;have hF:=hZ2.store x(.slice rE x.bB.length c2');have hg4:=lK w2 w.heap.size x(.slice rE x.bB.length c2');have B_:=ho2.kept hg4(.inr(fun e=>by have:=(hlt _ e).1;omega));have hG:=hbb.grown hg4 hbb.size(fun k e=>by cases e;exact Nat.le_refl _);dsimp only at z0 z1 z2 z3 z4 z5 z6;clear hb hZ hL hR hb2 hbb ho2 hlt hg4 c5 hZ2;go_wp2
 dsimp only [sK]at hF hG B_;generalize World.setCell _ _ _=W8 at hF hG B_ ⊢;obtain⟨q0,q1,q2,q3,q4,q5,q6⟩:=hF.cell;exact bodyPost_ret(v:=.tuple #[Ia x(.slice rE x.bB.length c2'),.bool true])(by simp [results,Tryz.results79,go_sem,q0,q1,q2,q3,q4,q5,q6])rfl⟨_,rfl,ownsRow_base_a B_(by omega),hG⟩
theorem UK(me:Int)(T:Nat)(S:Nat→Prop)(A:List Rt)(d now:Int)(hd:bg d)(w:World)(h:Ag me T S A w):
  Calls Tryz.prog 79 #[.pointer(some⟨T,0,none⟩),.int .u32 d,.int .u64 now]w fun e w'=>∃v',e=.returned(.tuple #[Ia(bF A d now).1 v',.bool(bF A d now).2])∧w'.ownsRow w.heap.size 34 1 v'(bF A d now).1.bB.length((bF A d now).1.bB.map aU)∧Below w.heap.size w w':=by
 obtain⟨M,f,g,hM,hS⟩:=h;have hb:Below w.heap.size w(w.alloc(b_ bW(.slice none 0 0))):=(Below.refl _ _).alloc(Nat.le_refl _)_;have hv:=qW(hM.later hb)hd;unfold sH at hv;unfold bF;cases hl:aJ A d with
 |none=>
  rw [hl]at hv;refine(MF T d now w hv).mono ?_;rintro e w'⟨rfl,hb'⟩;exact⟨_,rfl,⟨rfl,.inl⟨rfl,rfl⟩⟩,hb'⟩
 |some x=>
  rw [hl]at hv;obtain⟨hx,hxd,B,hB,hL,hR⟩:=hM.line hl;rw [hB]at hv;cases hxv:x.valid with
  |false=>
   simp only [hxv]at hv;refine(MF T d now w hv).mono ?_;rintro e w'⟨rfl,hb'⟩;simp only [hxv,Bool.false_and];exact⟨_,rfl,⟨rfl,.inl⟨rfl,rfl⟩⟩,hb'⟩
  |true=>
   simp only [hxv,if_true,Option.map_some]at hv;by_cases hex:x.exp≤now
   ·refine(UJ T d now B x(g d)hex w hL hv).mono ?_;rintro e w'⟨rfl,hb'⟩;have:decide(x.exp>now)=false:=decide_eq_false(by omega);simp only [hxv,this,Bool.and_false];exact⟨_,rfl,⟨rfl,.inl⟨rfl,rfl⟩⟩,hb'⟩
   ·refine(UI T d now B x(g d)hex(hM.ok x hx).O_ w hL hR hv).mono ?_;rintro e w'⟨v',rfl,ho,hb'⟩;have:decide(x.exp>now)=true:=decide_eq_true(by omega);simp only [hxv,this,Bool.and_true,if_true];exact⟨v',rfl,ho,hb'⟩
@[reducible] def fo (d s h n e : Int) : Rt := ⟨d, s, h, n, true, e, []⟩
def yz(s h n e:Int)(y:Rt):Rt:=⟨y.dest,s,h,n,true,e,[]⟩
def iD(me:Int)(A:List Rt)(d s h n e:Int):List Rt×Int:=
 if d=me∨d=0 then(A,2)
 else match aJ A d with
  |some x=>if U6(fo d s h n e)x then(gI A d(yz s h n e),0)else(A,3)
  |none=>if 8≤A.length then(A,4)else(tF A(fo d s h n e),0)
theorem MT.fresh {me:Int} {T M:Nat} {f:Int→Option Nat} {g:Int→Value} {A:List Rt} {w:World}(h:MT me T M f g A w) {d:Int} {y:Rt}(kD:y.dest=d)(hok:y.Ok)(hbef:y.bB=[]) {N:Nat}(_hN:w.heap.size≤N) {w':World} {A':List Rt}
  (hL:dP N y(.slice none 0 0)w')(hm:eX w' M(eD f d(some N))A'.length)(hk:∀k,k<w.heap.size→k≠M→w'.heap[k]?=w.heap[k]?)
  (hmem:∀z∈A',z=y∨(z∈A∧z.dest≠d))(hy:y∈A')(hsub:∀z∈A,z.dest≠d→z∈A')(hasc:Asc A')(hlen:A'.length≤8):
  MT me T M(eD f d(some N))(fun e=>if e=d then .slice none 0 0 else g e)A' w'∧∀k,mg T M(eD f d(some N))(fun e=>if e=d then .slice none 0 0 else g e)A' k→mg T M f g A k∨k=N:=by
 have ae8:∃es cl,w.heap[M]?=some(.map es cl):=by
  obtain⟨D,⟨es,cl,hm,_⟩,_⟩:=h.map;exact⟨es,cl,hm⟩
 obtain⟨es,cl,hMm⟩:=ae8;have hTM:T≠M:=fun e=>by
  have:=h.blk;unfold EH at this;rw [e,hMm]at this;cases this
 have hfo:∀z:Rt,z.dest≠d→eD f d(some N)z.dest=f z.dest:=fun z hz=>if_neg hz;have vU:∀z:Rt,z.dest=d→eD f d(some N)z.dest=some N:=fun z hz=>if_pos hz;have hgo:∀z:Rt,z.dest≠d→(if z.dest=d then Value.slice none 0 0 else g z.dest)=g z.dest:=fun z hz=>if_neg hz;have hgd:∀z:Rt,z.dest=d→(if z.dest=d then Value.slice none 0 0 else g z.dest)=Value.slice none 0 0:=fun z hz=>if_pos hz;refine⟨⟨h.blk.block(hk T h.blk.lt hTM),hm,hasc,?_,?_,?_,?_,?_,hlen⟩,?_⟩
 ·intro z hz;rcases hmem z hz with rfl|⟨Ji,_⟩
  ·exact hok
  ·exact h.ok z Ji
 ·intro e B he hf;by_cases hed:e=d
  ·exact⟨y,hy,by rw [kD,hed]⟩
  ·unfold eD at hf;rw [if_neg hed]at hf;obtain⟨z,hz,Oa⟩:=h.dom e B he hf;exact⟨z,hsub z hz(by rw [Oa];exact hed),Oa⟩
 ·intro z hz;rcases hmem z hz with rfl|⟨Ji,hzd⟩
  ·refine⟨N,vU z kD,?_⟩;rw [hgd z kD];exact hL
  ·obtain⟨B,h1,h2⟩:=h.ln z Ji;refine⟨B,by rw [hfo z hzd];exact h1,?_⟩;rw [hgo z hzd];refine h2.block(hk B h2.lt fun e=> ?_);subst e;unfold dP at h2;rw [hMm]at h2;cases h2
 ·intro z hz;rcases hmem z hz with rfl|⟨Ji,hzd⟩
  ·rw [hgd z kD,hbef];exact⟨rfl,.inl⟨rfl,rfl⟩⟩
  ·rw [hgo z hzd];exact bD(h.row z Ji)fun k hk'=>hk k((h.row z Ji).lt k hk').2(fun e=>by
    subst e;exact aA(h.row z Ji)hMm(fun c e=>by cases e)hk')
 ·intro a ha b hb hab;rcases hmem a ha with rfl|⟨haA,had⟩
  ·rw [hgd a kD];exact .inl rfl
  ·rw [hgo a had];rcases hmem b hb with rfl|⟨jk,hbd⟩
   ·rw [hgd b kD];cases(g a.dest).ownBlock<;>simp [Value.ownBlock]
   ·rw [hgo b hbd];exact h.apart a haA b jk hab
 ·intro k hk';rcases hk' with rfl|rfl|⟨z,hz,hk'|hk'⟩
  ·exact .inl(.inl rfl)
  ·exact .inl(.inr(.inl rfl))
  ·rcases hmem z hz with rfl|⟨Ji,hzd⟩
   ·rw [vU z kD]at hk';exact .inr(Option.some.inj hk').symm
   ·rw [hfo z hzd]at hk';exact .inl(.inr(.inr⟨z,Ji,.inl hk'⟩))
  ·dsimp only at hk';rcases hmem z hz with rfl|⟨Ji,hzd⟩
   ·rw [hgd z kD]at hk';cases hk'
   ·rw [hgo z hzd]at hk';exact .inl(.inr(.inr⟨z,Ji,.inr hk'⟩))
theorem JP(T M:Nat)(me d s h n e:Int)(hd:d=me∨d=0)(w:World)(hT:EH T me M w):
  Calls Tryz.prog 161 #[.pointer(some⟨T,0,none⟩),.int .u32 d,.int .u32 s,.int .i64 h,.int .u32 n,.int .u64 e]w fun r w'=>r=.returned(.int .i64 2)∧w'=w:=by
 obtain⟨c0,c1⟩:=hT.cell;by_cases h1:d=me
 ·subst h1;go_enter Tryz.func161,Tryz.ntmps161
  go_wp2
  go_ret
  exact⟨rfl,rfl⟩
 ·have h2:d=0:=by rcases hd with h|h;exact absurd h h1;exact h
  subst h2;have hq:((0:Int)==me)=false:=by simpa using h1
  go_enter Tryz.func161,Tryz.ntmps161
  go_wp2
  go_ret
  exact⟨rfl,rfl⟩
@[reducible] def Cr (N B : Nat) (y x : Rt) (v : Value) (W0 W : World) : Prop :=
 (W.cell?⟨N,0,none⟩=some(.int .u32 y.dest)∧W.cell?⟨N,1,none⟩=some(.int .u32 y.seq)∧W.cell?⟨N,2,none⟩=some(.int .i64 y.hops)∧W.cell?⟨N,3,none⟩=some(.int .u32 y.next)∧W.cell?⟨N,4,none⟩=some(.bool y.valid)∧W.cell?⟨N,5,none⟩=some(.int .u64 y.exp)∧W.cell?⟨N,6,none⟩=some(.slice none 0 0))∧
 (W.cell?⟨B,0,none⟩=some(.int .u32 x.dest)∧W.cell?⟨B,1,none⟩=some(.int .u32 x.seq)∧W.cell?⟨B,2,none⟩=some(.int .i64 x.hops)∧W.cell?⟨B,3,none⟩=some(.int .u32 x.next)∧W.cell?⟨B,4,none⟩=some(.bool x.valid)∧W.cell?⟨B,5,none⟩=some(.int .u64 x.exp)∧W.cell?⟨B,6,none⟩=some v)∧
 Below W0.heap.size W0 W
theorem Cr.start {N B:Nat} {y x:Rt} {v:Value} {W0:World}(h1:dP N y(.slice none 0 0)W0)(h2:dP B x v W0):Cr N B y x v W0 W0:=⟨h1.cell,h2.cell,Below.refl _ _⟩
theorem Cr.drew {N B:Nat} {y x:Rt} {v:Value} {W0 W:World}(h:Cr N B y x v W0 W):Cr N B y x v W0 W.drew:=⟨h.1,h.2.1,h.2.2.trans⟨rfl,rfl,rfl,Nat.le_refl _,fun _ _=>rfl⟩⟩
theorem Cr.below {N B:Nat} {y x:Rt} {v:Value} {W0 W W1:World}(h1:dP N y(.slice none 0 0)W0)(h2:dP B x v W0)(h:Cr N B y x v W0 W)(hb:Below W.heap.size W W1):Cr N B y x v W0 W1:=by
 have hbb:=h.2.2.trans(hb.mono h.2.2.size);exact⟨(h1.later hbb).cell,(h2.later hbb).cell,hbb⟩
theorem JQ(T M B:Nat)(me d s h n e:Int)(hd:¬d=me)(hd0:¬d=0)(hs:bg s)(x:Rt)(hxs:bg x.seq)(v:Value)(hgr:U6(fo d s h n e)x=false)(w:World)(hT:EH T me M w)
  (hlk:(Instr.lookup 156(.map(some M))(.int .u32 d)true).run Tryz.prog(w.alloc(b_(fo d s h n e)(.slice none 0 0)))=.ok(.tuple #[.pointer(some⟨B,0,none⟩),.bool true])(w.alloc(b_(fo d s h n e)(.slice none 0 0))))(hL:dP B x v w):
  Calls Tryz.prog 161 #[.pointer(some⟨T,0,none⟩),.int .u32 d,.int .u32 s,.int .i64 h,.int .u32 n,.int .u64 e]w fun r w'=>r=.returned(.int .i64 3)∧Below w.heap.size w w':=by
 have hb:Below w.heap.size w(w.alloc(b_(fo d s h n e)(.slice none 0 0))):=(Below.refl _ _).alloc(Nat.le_refl _)_;have hN:=dP.new(fo d s h n e)(.slice none 0 0)w;have hL1:=hL.later hb;have q1:(d==me)=false:=by simpa using hd
 have q2:(d==0)=false:=by simpa using hd0
 obtain⟨c0,c1⟩:=hT.cell;obtain⟨t0,t1⟩:=(hT.block(hb.block T hT.lt)).cell;dsimp only [b_,fo]at hb hN hL1 t0 t1 hlk;have hcall:=fun W=>oO(fo d s h n e)hs(.slice none 0 0)W;have zG:=fun W=>oO x hxs v W;have HC1:=(show Hid _ from hcall);have HC2:=(show Hid _ from zG);have zF:∀W,Calls Tryz.prog 180 #[.agg #[.int .i64(rk(fo d s h n e)),.int .i64 h],.agg #[.int .i64(rk x),.int .i64 x.hops]]W fun r w'=>r=.returned(.bool false)∧Below W.heap.size W w':=fun W=>by
  rw [←hgr];exact xu _ _ _ _ W
 have HC3:=(show Hid _ from zF);clear hcall zG zF;go_enter Tryz.func161,Tryz.ntmps161
 go_wp2_with fail
 clear hlk t0 t1;generalize World.alloc _ _=W1 at hb hN hL1 ⊢;go_cut [51]from 41(fun r W=>r=.bool true∧Below W1.heap.size W1 W)
 case first=>
  have hS:Cr w.heap.size B(fo d s h n e)x v W1 W1:=Cr.start hN hL1;go_region_held3(Cr w.heap.size B(fo d s h n e)x v W1)(first|exact Cr.drew(by assumption)|assumption|exact Cr.below hN hL1(by assumption)(by assumption))(first
   |(go_at_call_of 179(Value.int IntKind.u32 s);refine Calls.mono(HC1.out _) ?_;rintro r w3⟨rfl,hb3⟩)
   |(go_at_call_of 179 v;refine Calls.mono(HC2.out _) ?_;rintro r w4⟨rfl,hb4⟩)
   |(go_at_call 180;refine Calls.mono(HC3.out _) ?_;rintro r w5⟨rfl,hb5⟩))
  all_goals
   rename_i hS5;have aaH:=(show Cr w.heap.size B(fo d s h n e)x v W1 _ from hS5).2.2;go_wp2_with fail
   go_meet
   exact⟨rfl,aaH⟩
 case rest=>
  obtain⟨rfl,hb2⟩:=hcut;go_wp2
  go_ret
  exact⟨rfl,hb.trans(hb2.mono hb.size)⟩
def UpP(M:Nat)(f:Int→Option Nat)(s0:Nat)(y:Rt)(w:World)(r:Ending)(w':World):Prop:=
 r=.returned(.int .i64 0)∧dP w.heap.size y(.slice none 0 0)w'∧eX w' M(eD f y.dest(some w.heap.size))(if(f y.dest).isSome then s0 else s0+1)∧w.grownBy w'(some M)
theorem JS(T M B s0:Nat)(me d s h n e:Int)(f:Int→Option Nat)(hd:¬d=me)(hd0:¬d=0)(DR:bg d)(hs:bg s)(x:Rt)(hxs:bg x.seq)(v:Value)(hgr:U6(fo d s h n e)x=true)(w:World)(hT:EH T me M w)(hm:eX w M f s0)(hs0:s0≤100)
  (hf:f d=some B)(hL:dP B x v w):
  Calls Tryz.prog 161 #[.pointer(some⟨T,0,none⟩),.int .u32 d,.int .u32 s,.int .i64 h,.int .u32 n,.int .u64 e]w(UpP M f s0(fo d s h n e)w):=by
 have hb:Below w.heap.size w(w.alloc(b_(fo d s h n e)(.slice none 0 0))):=(Below.refl _ _).alloc(Nat.le_refl _)_;have hN:=dP.new(fo d s h n e)(.slice none 0 0)w;have hL1:=hL.later hb;have hm1:=hm.block(hb.block M hm.lt);have hT1:=hT.block(hb.block T hT.lt);have hlk:=hm1.look_ok DR;rw [hf]at hlk;simp only [fJ,Option.gN]at hlk;have q1:(d==me)=false:=by simpa using hd
 have q2:(d==0)=false:=by simpa using hd0
 have hMl:=hm.lt;obtain⟨c0,c1⟩:=hT.cell;obtain⟨t0,t1⟩:=hT1.cell;dsimp only [b_,fo]at hb hN hL1 t0 t1 hlk hm1 hT1;have hcall:=fun W=>oO(fo d s h n e)hs(.slice none 0 0)W;have zG:=fun W=>oO x hxs v W;have HC1:=(show Hid _ from hcall);have HC2:=(show Hid _ from zG);have zF:∀W,Calls Tryz.prog 180 #[.agg #[.int .i64(rk(fo d s h n e)),.int .i64 h],.agg #[.int .i64(rk x),.int .i64 x.hops]]W fun r w'=>r=.returned(.bool true)∧Below W.heap.size W w':=fun W=>by
  rw [←hgr];exact xu _ _ _ _ W
 have HC3:=(show Hid _ from zF);clear hcall zG zF;go_enter Tryz.func161,Tryz.ntmps161
 go_wp2_with fail
 clear hlk t0 t1;generalize World.alloc _ _=W1 at hb hN hL1 hm1 hT1 ⊢;go_cut [51]from 41(fun r W=>r=.bool false∧Below W1.heap.size W1 W)
 case first=>
  have hS:Cr w.heap.size B(fo d s h n e)x v W1 W1:=Cr.start hN hL1;go_region_held3(Cr w.heap.size B(fo d s h n e)x v W1)(first|exact Cr.drew(by assumption)|assumption|exact Cr.below hN hL1(by assumption)(by assumption))(first
   |(go_at_call_of 179(Value.int IntKind.u32 s);refine Calls.mono(HC1.out _) ?_;rintro r w3⟨rfl,hb3⟩)
   |(go_at_call_of 179 v;refine Calls.mono(HC2.out _) ?_;rintro r w4⟨rfl,hb4⟩)
   |(go_at_call 180;refine Calls.mono(HC3.out _) ?_;rintro r w5⟨rfl,hb5⟩))
  all_goals
   rename_i hS5;have aaH:=(show Cr w.heap.size B(fo d s h n e)x v W1 _ from hS5).2.2;go_wp2_with fail
   go_meet
   exact⟨rfl,aaH⟩
 case rest=>
  obtain⟨rfl,hb2⟩:=hcut;have hbb:=hb.trans(hb2.mono hb.size);have EF:=hN.later hb2;have hm2:=hm1.block(hb2.block M hm1.lt);obtain⟨t0,t1⟩:=(hT1.block(hb2.block T hT1.lt)).cell;obtain⟨W6,hr,DI,fB⟩:=hm2.put(by unfold maxLen;omega)DR w.heap.size;have PO:=EF.block(fB.block _ EF.lt(fun e=>by cases e;omega));have hg:w.grownBy W6(some M):=⟨fB.os.trans hbb.os,fB.tape.trans hbb.tape,fB.output.trans hbb.output,Nat.le_trans hbb.size fB.size,fun k hk hn=>(fB.block k(Nat.lt_of_lt_of_le hk hbb.size)hn).trans(hbb.block k hk)⟩;clear hb hN hL1 hm1 hT1 hb2 hbb EF hm2 fB;go_wp2
  go_ret
  exact⟨rfl,PO,DI,hg⟩
theorem JR(T M s0:Nat)(me d s h n e:Int)(f:Int→Option Nat)(hd:¬d=me)(hd0:¬d=0)(DR:bg d)(w:World)(hT:EH T me M w)(hm:eX w M f s0)(hs0:s0≤100)
  (hf:f d=none):
  Calls Tryz.prog 161 #[.pointer(some⟨T,0,none⟩),.int .u32 d,.int .u32 s,.int .i64 h,.int .u32 n,.int .u64 e]w fun r w'=>if 8≤s0 then r=.returned(.int .i64 4)∧Below w.heap.size w w' else UpP M f s0(fo d s h n e)w r w':=by
 have hb:Below w.heap.size w(w.alloc(b_(fo d s h n e)(.slice none 0 0))):=(Below.refl _ _).alloc(Nat.le_refl _)_;have hN:=dP.new(fo d s h n e)(.slice none 0 0)w;have hm1:=hm.block(hb.block M hm.lt);have hT1:=hT.block(hb.block T hT.lt);have hlk:=hm1.look_ok DR;rw [hf]at hlk;simp only [fJ,Option.isSome_none]at hlk;have q1:(d==me)=false:=by simpa using hd
 have q2:(d==0)=false:=by simpa using hd0
 have hMl:=hm.lt;obtain⟨c0,c1⟩:=hT.cell;obtain⟨t0,t1⟩:=hT1.cell;dsimp only [b_,fo]at hb hN t0 t1 hlk hm1 hT1;go_enter Tryz.func161,Tryz.ntmps161
 go_wp2_with fail
 clear hlk t0 t1;generalize World.alloc _ _=W1 at hb hN hm1 hT1 ⊢;go_quiet(fail)
 go_wp2_with fail
 have hb2:Below W1.heap.size W1(W1.drewN nq):=below_drewN(Below.refl _ _)_;have hbb:=hb.trans(hb2.mono hb.size);have EF:=hN.later hb2;have hm2:=hm1.block(hb2.block M hm1.lt);have LU:=hT1.block(hb2.block T hT1.lt);clear hb hN hm1 hT1 hb2;generalize World.drewN _ _=W2 at hbb EF hm2 LU ⊢;refine(GA T M s0 me f _ LU hm2).mono ?_;rintro r w3⟨rfl,rfl⟩;obtain⟨t0,t1⟩:=LU.cell;by_cases h8:8≤s0
 ·have hd8:decide(8≤s0)=true:=decide_eq_true h8;go_wp2
  go_ret
  exact⟨rfl,hbb⟩
 ·have hd8:decide(8≤s0)=false:=decide_eq_false h8;obtain⟨W6,hr,DI,fB⟩:=hm2.put(by unfold maxLen;omega)DR w.heap.size;have PO:=EF.block(fB.block _ EF.lt(fun e=>by cases e;omega));have hg:w.grownBy W6(some M):=⟨fB.os.trans hbb.os,fB.tape.trans hbb.tape,fB.output.trans hbb.output,Nat.le_trans hbb.size fB.size,fun k hk hn=>(fB.block k(Nat.lt_of_lt_of_le hk hbb.size)hn).trans(hbb.block k hk)⟩;clear hbb EF hm2 LU fB;go_wp2
  go_ret
  exact⟨rfl,PO,DI,hg⟩
theorem Lc {d s h n e:Int}(hd:bg d)(hs:bg s)(hh:oC h)(hn:bg n)(he:Af e):(fo d s h n e).Ok:=⟨hd,hs,hh,hn,he,by simp,by simp,by simp⟩
theorem Ag.fresh {me:Int} {T M:Nat} {f:Int→Option Nat} {g:Int→Value} {A:List Rt} {S:Nat→Prop} {w w':World}(hM:MT me T M f g A w)(hS:∀k,mg T M f g A k→S k) {y:Rt}(hok:y.Ok)(hbef:y.bB=[]) {A':List Rt}(hL:dP w.heap.size y(.slice none 0 0)w')(hm:eX w' M(eD f y.dest(some w.heap.size))A'.length)(hg:w.grownBy w'(some M))
  (hmem:∀z∈A',z=y∨(z∈A∧z.dest≠y.dest))(hy:y∈A')(hsub:∀z∈A,z.dest≠y.dest→z∈A')(hasc:Asc A')(hlen:A'.length≤8):Ag me T(ext S w.heap.size w'.heap.size)A' w'∧Fx S w w':=by
 obtain⟨h1,h2⟩:=hM.fresh rfl hok hbef(Nat.le_refl _)hL hm(fun k hk hkM=>hg.block k hk(fun e=>hkM(by cases e;rfl)))hmem hy hsub hasc hlen;refine⟨⟨M,_,_,h1,fun k hk=> ?_⟩,Fx.grown hg(fun k e=>by cases e;exact hS _(.inr(.inl rfl)))⟩;rcases h2 k hk with h3|rfl
 ·exact .inl(hS k h3)
 ·exact .inr⟨Nat.le_refl _,hL.lt⟩
theorem JU(me:Int)(T:Nat)(S:Nat→Prop)(A:List Rt)(d s h n e:Int)(hd:bg d)(hs:bg s)(hh:oC h)(hn:bg n)(he:Af e)(w:World)(aeZ:Ag me T S A w):
  Calls Tryz.prog 161 #[.pointer(some⟨T,0,none⟩),.int .u32 d,.int .u32 s,.int .i64 h,.int .u32 n,.int .u64 e]w fun r w'=>r=.returned(.int .i64(iD me A d s h n e).2)∧Ag me T(ext S w.heap.size w'.heap.size)(iD me A d s h n e).1 w'∧Fx S w w':=by
 obtain⟨M,f,g,hM,hS⟩:=aeZ;have hold:∀w',Below w.heap.size w w'→Ag me T(ext S w.heap.size w'.heap.size)A w'∧Fx S w w':=fun w' hb=>⟨⟨M,f,g,hM.later hb,fun k hk=> .inl(hS k hk)⟩,Fx.below hb⟩;unfold iD;by_cases hown:d=me∨d=0
 ·rw [if_pos hown];refine(JP T M me d s h n e hown w hM.blk).mono ?_;rintro r w'⟨rfl,rfl⟩;exact⟨rfl,hold _(Below.refl _ _)⟩
 ·rw [if_neg hown];have hd1:¬d=me:=fun h=>hown(.inl h);have hd0:¬d=0:=fun h=>hown(.inr h);cases hl:aJ A d with
  |some x=>
   obtain⟨hx,hxd,B,hB,hL,hR⟩:=hM.line hl;dsimp only;cases hgr:U6(fo d s h n e)x with
   |false=>
    rw [if_neg(by simp)];have hb:Below w.heap.size w(w.alloc(b_(fo d s h n e)(.slice none 0 0))):=(Below.refl _ _).alloc(Nat.le_refl _)_;have hlk:=(hM.map.block(hb.block M hM.map.lt)).look_ok hd;rw [hB]at hlk;refine(JQ T M B me d s h n e hd1 hd0 hs x(hM.ok x hx).seq(g d)hgr w hM.blk hlk hL).mono ?_;rintro r w'⟨rfl,hb'⟩;exact⟨rfl,hold _ hb'⟩
   |true=>
    rw [if_pos rfl];refine(JS T M B A.length me d s h n e f hd1 hd0 hd hs x(hM.ok x hx).seq(g d)hgr w hM.blk hM.map(by have:=hM.len;omega)hB hL).mono ?_;rintro r w'⟨rfl,hL',hm',hg'⟩;rw [show(f(fo d s h n e).dest).isSome=true by rw [show(fo d s h n e).dest=d from rfl,hB];rfl,if_pos rfl]at hm';have hmem:∀z∈gI A d(yz s h n e),z=fo d s h n e∨(z∈A∧z.dest≠d):=by
     intro z hz;rcases zk hz with⟨z0,hz0,ad5,rfl⟩|hz
     ·left;unfold yz;rw [ad5]
     ·exact .inr hz
    have ad7:fo d s h n e∈gI A d(yz s h n e):=List.mem_map.2⟨x,hx,by rw [if_pos hxd];unfold yz;rw [hxd]⟩;refine⟨rfl,Ag.fresh(A':=gI A d(yz s h n e))hM hS(Lc hd hs hh hn he)rfl hL'(by rw [mO];exact hm')hg' hmem ad7(fun z hz hzd=>List.mem_map.2⟨z,hz,if_neg hzd⟩)(zl hM.wC _ _(fun _=>rfl))(by rw [mO];exact hM.len)⟩
  |none=>
   have hf:=hM.off hd hl;dsimp only;refine(JR T M A.length me d s h n e f hd1 hd0 hd w hM.blk hM.map(by have:=hM.len;omega)hf).mono ?_;intro r w' hr;by_cases h8:8≤A.length
   ·rw [if_pos h8]at hr ⊢;obtain⟨rfl,hb'⟩:=hr;exact⟨rfl,hold _ hb'⟩
   ·rw [if_neg h8]at hr ⊢;obtain⟨rfl,hL',hm',hg'⟩:=hr;rw [show(f(fo d s h n e).dest).isSome=false by rw [show(fo d s h n e).dest=d from rfl,hf];rfl,if_neg(by simp)]at hm';have hn':=gM.1 hl;refine⟨rfl,Ag.fresh(A':=tF A(fo d s h n e))hM hS(Lc hd hs hh hn he)rfl hL'(by rw [wY];exact hm')hg'(fun z hz=> ?_)(qC.2(.inl rfl))(fun z hz _=>qC.2(.inr hz))(Gf hM.wC hl)(by rw [wY];omega)⟩;rcases qC.1 hz with h1|h1
    ·exact .inl h1
    ·exact .inr⟨h1,hn' z h1⟩
end Go.Proofs.YtakaadcpaeiccabGreat
