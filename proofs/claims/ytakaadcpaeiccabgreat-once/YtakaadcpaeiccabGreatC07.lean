import Derived.Test.YtakaadcpaeiccabGreatC06
import Derived.Deep.Cut
set_option maxHeartbeats 4000000
set_option maxRecDepth 100000
namespace Go.Proofs.YtakaadcpaeiccabGreat
open Go.RowKit Go.Maps
theorem Ol(T:Nat)(d now:Int)(w:World)(hv:Calls Tryz.prog 116 #[.pointer (some ⟨T,0,none⟩),.int .u32 d] (w.alloc (bZ di (.slice none 0 0))) λe w'=>e=.returned (.pointer none)∧w'=(w.alloc (bZ di (.slice none 0 0)))):
  Calls Tryz.prog 79 #[.pointer (some ⟨T,0,none⟩),.int .u32 d,.int .u64 now] w λe w'=>e=.returned (.tuple #[JU di (.slice none 0 0),.bool false])∧Below w.heap.size w w':=by
 have hb:Below w.heap.size w (w.alloc (bZ di (.slice none 0 0))):=bC;have hZ:=eu.new di (.slice none 0 0) w;have HV:=(show Hid _ from hv);clear hv;dsimp only[bZ,di]at hb hZ HV;go_enter Tryz.func79,Tryz.ntmps79;go_wp2_with fail;generalize World.alloc _ _=W1 at hb hZ HV ⊢;refine aT HV.out ?_;rintro e w1 ⟨rfl,rfl⟩;clear HV;obtain⟨z0,z1,z2,z3,z4,z5,z6⟩:=hZ.cell;have zf:=hZ.free;have hF:=hZ.store di (.slice none 0 0);have hG:=hb.grown (l_ w1 w.heap.size di (.slice none 0 0)) hb.size (λk e=>by cases e;exact aB _);dsimp only[di]at z0 z1 z2 z3 z4 z5 z6;clear hb hZ;go_wp2;dsimp only[tT,di]at hF hG;generalize World.setCell _ _ _=W8 at hF hG ⊢;obtain⟨q0,q1,q2,q3,q4,q5,q6⟩:=hF.cell;exact bodyPost_ret (v:=.tuple #[JU di (.slice none 0 0),.bool false]) (by simp[results,Tryz.results79,go_sem,q0,q1,q2,q3,q4,q5,q6,di]) rfl ⟨rfl,hG⟩
theorem VQ(T:Nat)(d now:Int)(B:Nat)(x:Rt)(v:Value)(hx:x.exp<=now)(w:World)(h:eu B x v w)(hv:Calls Tryz.prog 116 #[.pointer (some ⟨T,0,none⟩),.int .u32 d] (w.alloc (bZ di (.slice none 0 0))) λe w'=>e=.returned (.pointer (some ⟨B,0,none⟩))∧w'=(w.alloc (bZ di (.slice none 0 0)))):
  Calls Tryz.prog 79 #[.pointer (some ⟨T,0,none⟩),.int .u32 d,.int .u64 now] w λe w'=>e=.returned (.tuple #[JU di (.slice none 0 0),.bool false])∧Below w.heap.size w w':=by
 have hd:decide (x.exp<=now)=true:=gu hx;have hb:Below w.heap.size w (w.alloc (bZ di (.slice none 0 0))):=bC;have hZ:=eu.new di (.slice none 0 0) w;have hL:=h.later hb;have HV:=(show Hid _ from hv);clear hv;dsimp only[bZ,di]at hb hZ HV hL;go_enter Tryz.func79,Tryz.ntmps79;go_wp2_with fail;generalize World.alloc _ _=W1 at hb hZ HV hL ⊢;refine aT HV.out ?_;rintro e w1 ⟨rfl,rfl⟩;clear HV;obtain⟨_,_,_,_,_,c5,_⟩:=hL.cell;obtain⟨z0,z1,z2,z3,z4,z5,z6⟩:=hZ.cell;have zf:=hZ.free;have hF:=hZ.store di (.slice none 0 0);have hG:=hb.grown (l_ w1 w.heap.size di (.slice none 0 0)) hb.size (λk e=>by cases e;exact aB _);dsimp only[di]at z0 z1 z2 z3 z4 z5 z6;clear hb hZ hL;go_wp2;dsimp only[tT,di]at hF hG;generalize World.setCell _ _ _=W8 at hF hG ⊢;obtain⟨q0,q1,q2,q3,q4,q5,q6⟩:=hF.cell;exact bodyPost_ret (v:=.tuple #[JU di (.slice none 0 0),.bool false]) (by simp[results,Tryz.results79,go_sem,q0,q1,q2,q3,q4,q5,q6,di]) rfl ⟨rfl,hG⟩
theorem VP(T:Nat)(d now:Int)(B:Nat)(x:Rt)(v:Value)(hx:¬x.exp<=now)(hn:x.bN.length<=4)(w:World)(h:eu B x v w)(hr:w.ownsRow 0 34 1 v x.bN.length (x.bN.map aW))(hv:Calls Tryz.prog 116 #[.pointer (some ⟨T,0,none⟩),.int .u32 d] (w.alloc (bZ di (.slice none 0 0))) λe w'=>e=.returned (.pointer (some ⟨B,0,none⟩))∧w'=(w.alloc (bZ di (.slice none 0 0)))):
  Calls Tryz.prog 79 #[.pointer (some ⟨T,0,none⟩),.int .u32 d,.int .u64 now] w λe w'=>∃v',e=.returned (.tuple #[JU x v',.bool true])∧w'.ownsRow w.heap.size 34 1 v' x.bN.length (x.bN.map aW)∧Below w.heap.size w w':=by
 have hd:decide (x.exp<=now)=false:=fD hx;have hb:Below w.heap.size w (w.alloc (bZ di (.slice none 0 0))):=bC;have hs1:w.heap.size+1<=(w.alloc (bZ di (.slice none 0 0))).heap.size:=by simp
 have hZ:=eu.new di (.slice none 0 0) w;have hL:=h.later hb;have hR:=aL hr hb;have HV:=(show Hid _ from hv);clear hv;dsimp only[bZ,di]at hb hs1 hZ HV hL hR;go_enter Tryz.func79,Tryz.ntmps79;go_wp2_with fail;generalize World.alloc _ _=W1 at hb hs1 hZ HV hL hR ⊢;refine aT HV.out ?_;rintro e w1 ⟨rfl,rfl⟩;clear HV;obtain⟨_,_,_,_,_,c5,_⟩:=hL.cell;go_wp2_with fail;refine(yO B x v hn _ hL hR).mono ?_;rintro e w2 ⟨v',rfl,ho2,hb2⟩;obtain⟨sH,c2',rfl,_⟩:=ay ho2;have hZ2:=hZ.later hb2;have hbb:=hb.trans (hb2.mono hb.size);obtain⟨z0,z1,z2,z3,z4,z5,z6⟩:=hZ2.cell;have zf:=hZ2.free;have hlt:=ho2.lt;have hF:=hZ2.store x (.slice sH x.bN.length c2');have hg4:=l_ w2 w.heap.size x (.slice sH x.bN.length c2');have DX:=ho2.kept hg4 (.inr (λe=>by have:=(hlt _ e).1;omega));have hG:=hbb.grown hg4 hbb.size (λk e=>by cases e;exact aB _);dsimp only at z0 z1 z2 z3 z4 z5 z6;clear hb hZ hL hR hb2 hbb ho2 hlt hg4 c5 hZ2;go_wp2;dsimp only[tT]at hF hG DX;generalize World.setCell _ _ _=W8 at hF hG DX ⊢;obtain⟨q0,q1,q2,q3,q4,q5,q6⟩:=hF.cell;exact bodyPost_ret (v:=.tuple #[JU x (.slice sH x.bN.length c2'),.bool true]) (by simp[results,Tryz.results79,go_sem,q0,q1,q2,q3,q4,q5,q6]) rfl ⟨_,rfl,ownsRow_base_a DX (by omega),hG⟩
theorem VR(me:Int)(T:Nat)(S:Nat->Prop)(A:List Rt)(d now:Int)(hd:a_ d)(w:World)(h:B_ me T S A w):
  Calls Tryz.prog 79 #[.pointer (some ⟨T,0,none⟩),.int .u32 d,.int .u64 now] w λe w'=>∃v',e=.returned (.tuple #[JU (bH A d now).1 v',.bool (bH A d now).2])∧w'.ownsRow w.heap.size 34 1 v' (bH A d now).1.bN.length ((bH A d now).1.bN.map aW)∧Below w.heap.size w w':=by
 obtain⟨M,f,g,hM,hS⟩:=h;have hb:Below w.heap.size w (w.alloc (bZ di (.slice none 0 0))):=bC;have hv:=rU (hM.later hb) hd;unfold tO at hv;unfold bH;cases hl:aK A d with
 |none=>
  rw[hl]at hv;refine(Ol T d now w hv).mono ?_;rintro e w' ⟨rfl,hb'⟩;exact⟨_,rfl,⟨rfl,.inl ⟨rfl,rfl⟩⟩,hb'⟩
 |some x=>
  rw[hl]at hv;obtain⟨hx,hxd,B,hB,hL,hR⟩:=hM.line hl;rw[hB]at hv;cases hxv:x.valid with
  |false=>
   simp only[hxv]at hv;refine(Ol T d now w hv).mono ?_;rintro e w' ⟨rfl,hb'⟩;simp only[hxv,Bool.false_and];exact⟨_,rfl,⟨rfl,.inl ⟨rfl,rfl⟩⟩,hb'⟩
  |true=>
   simp only[hxv,if_true,Option.map_some]at hv;by_cases hex:x.exp<=now
   ·refine(VQ T d now B x (g d) hex w hL hv).mono ?_;rintro e w' ⟨rfl,hb'⟩;have:decide (x.exp>now)=false:=fD (by omega);simp only[hxv,this,Bool.and_false];exact⟨_,rfl,⟨rfl,.inl ⟨rfl,rfl⟩⟩,hb'⟩
   ·refine(VP T d now B x (g d) hex (hM.ok x hx).Vd w hL hR hv).mono ?_;rintro e w' ⟨v',rfl,ho,hb'⟩;have:decide (x.exp>now)=true:=gu (by omega);simp only[hxv,this,Bool.and_true,if_true];exact⟨v',rfl,ho,hb'⟩
variable{B N:Nat}{x y:Rt}{v:Value}{W W0:World}
@[reducible] def newR(d s h n e : Int): Rt := ⟨d, s, h, n, true, e, []⟩
def Ac(s h n e:Int)(y:Rt):Rt:=⟨y.dest,s,h,n,true,e,[]⟩
def iP(me:Int)(A:List Rt)(d s h n e:Int):List Rt×Int:=
 if d=me∨d=0 then(A,2)
 else match aK A d with
  |some x=>if Wj (newR d s h n e) x then(gV A d (Ac s h n e),0)else(A,3)
  |none=>if 8<=A.length then(A,4)else(uy A (newR d s h n e),0)
theorem MT.fresh{me:Int}{T M:Nat}{f:Int->Option Nat}{g:Int->Value}{A:List Rt}{w:World}(h:MT me T M f g A w){d:Int}{y:Rt}(kX:y.dest=d)(hok:y.Ok)(hbef:y.bN=[]){N:Nat}(_hN:w.heap.size<=N){w':World}{A':List Rt}
  (hL:eu N y (.slice none 0 0) w') (hm:fH w' M (fA f d (some N)) A'.length) (hk:∀k,k<w.heap.size->k≠M->w'.heap[k]?=w.heap[k]?)
  (hmem:∀z∈A',z=y∨(z∈A∧z.dest≠d)) (hy:y∈A') (hsub:∀z∈A,z.dest≠d->z∈A') (hasc:Asc A') (hlen:A'.length<=8):
  MT me T M (fA f d (some N)) (λe=>if e=d then .slice none 0 0 else g e) A' w'∧∀k,mY T M (fA f d (some N)) (λe=>if e=d then .slice none 0 0 else g e) A' k->mY T M f g A k∨k=N:=by
 have afO:∃es cl,w.heap[M]?=some (.map es cl):=by
  obtain⟨D,⟨es,cl,hm,_⟩,_⟩:=h.map;exact⟨es,cl,hm⟩
 obtain⟨es,cl,hMm⟩:=afO;have hTM:T≠M:=λe=>by
  have:=h.blk;unfold Gu at this;rw[e,hMm]at this;cases this
 have hfo:∀z:Rt,z.dest≠d->fA f d (some N) z.dest=f z.dest:=λz hz=>aH hz;have xN:∀z:Rt,z.dest=d->fA f d (some N) z.dest=some N:=λz hz=>aM hz;have hgo:∀z:Rt,z.dest≠d->(if z.dest=d then Value.slice none 0 0 else g z.dest)=g z.dest:=λz hz=>aH hz;have hgd:∀z:Rt,z.dest=d->(if z.dest=d then Value.slice none 0 0 else g z.dest)=Value.slice none 0 0:=λz hz=>aM hz;refine⟨⟨h.blk.block (hk T h.blk.lt hTM),hm,hasc,?_,?_,?_,?_,?_,hlen⟩,?_⟩
 ·intro z hz;rcases hmem z hz with rfl|⟨KO,_⟩
  ·exact hok
  ·exact h.ok z KO
 ·intro e B he hf;by_cases hed:e=d
  ·exact⟨y,hy,by rw[kX,hed]⟩
  ·unfold fA at hf;rw[aH hed]at hf;obtain⟨z,hz,Pz⟩:=h.dom e B he hf;exact⟨z,hsub z hz (by rw[Pz];exact hed),Pz⟩
 ·intro z hz;rcases hmem z hz with rfl|⟨KO,hzd⟩
  ·refine⟨N,xN z kX,?_⟩;rw[hgd z kX];exact hL
  ·obtain⟨B,h1,h2⟩:=h.ln z KO;refine⟨B,by rw[hfo z hzd];exact h1,?_⟩;rw[hgo z hzd];refine h2.block (hk B h2.lt λe=> ?_);subst e;unfold eu at h2;rw[hMm]at h2;cases h2
 ·intro z hz;rcases hmem z hz with rfl|⟨KO,hzd⟩
  ·rw[hgd z kX,hbef];exact⟨rfl,.inl ⟨rfl,rfl⟩⟩
  ·rw[hgo z hzd];exact bP (h.row z KO) λk hk'=>hk k ((h.row z KO).lt k hk').2 (λe=>by
    subst e;exact aA (h.row z KO) hMm (λc e=>by cases e) hk')
 ·intro a ha b hb hab;rcases hmem a ha with rfl|⟨haA,had⟩
  ·rw[hgd a kX];exact .inl rfl
  ·rw[hgo a had];rcases hmem b hb with rfl|⟨jM,hbd⟩
   ·rw[hgd b kX];cases (g a.dest).ownBlock<;>simp[Value.ownBlock]
   ·rw[hgo b hbd];exact h.apart a haA b jM hab
 ·intro k hk';rcases hk' with rfl|rfl|⟨z,hz,hk'|hk'⟩
  ·exact .inl (.inl rfl)
  ·exact .inl (.inr (.inl rfl))
  ·rcases hmem z hz with rfl|⟨KO,hzd⟩
   ·rw[xN z kX]at hk';exact .inr (Option.some.inj hk').symm
   ·rw[hfo z hzd]at hk';exact .inl (.inr (.inr ⟨z,KO,.inl hk'⟩))
  ·dsimp only at hk';rcases hmem z hz with rfl|⟨KO,hzd⟩
   ·rw[hgd z kX]at hk';cases hk'
   ·rw[hgo z hzd]at hk';exact .inl (.inr (.inr ⟨z,KO,.inr hk'⟩))
theorem Lm(T M:Nat)(me d s h n e:Int)(hd:d=me∨d=0)(w:World)(hT:Gu T me M w):
  Calls Tryz.prog 161 #[.pointer (some ⟨T,0,none⟩),.int .u32 d,.int .u32 s,.int .i64 h,.int .u32 n,.int .u64 e] w λr w'=>r=.returned (.int .i64 2)∧w'=w:=by
 obtain⟨c0,c1⟩:=hT.cell;by_cases h1:d=me
 ·subst h1;go_enter Tryz.func161,Tryz.ntmps161;go_wp2;go_ret;exact⟨rfl,rfl⟩
 ·have h2:d=0:=by rcases hd with h|h;exact absurd h h1;exact h
  subst h2;have hq:((0:Int)==me)=false:=by simpa using h1
  go_enter Tryz.func161,Tryz.ntmps161;go_wp2;go_ret;exact⟨rfl,rfl⟩
@[reducible] def Ei(N B : Nat)(y x : Rt)(v : Value)(W0 W : World): Prop :=
 (W.cell? ⟨N,0,none⟩=some (.int .u32 y.dest)∧W.cell? ⟨N,1,none⟩=some (.int .u32 y.seq)∧W.cell? ⟨N,2,none⟩=some (.int .i64 y.hops)∧W.cell? ⟨N,3,none⟩=some (.int .u32 y.next)∧W.cell? ⟨N,4,none⟩=some (.bool y.valid)∧W.cell? ⟨N,5,none⟩=some (.int .u64 y.exp)∧W.cell? ⟨N,6,none⟩=some (.slice none 0 0))∧
 (W.cell? ⟨B,0,none⟩=some (.int .u32 x.dest)∧W.cell? ⟨B,1,none⟩=some (.int .u32 x.seq)∧W.cell? ⟨B,2,none⟩=some (.int .i64 x.hops)∧W.cell? ⟨B,3,none⟩=some (.int .u32 x.next)∧W.cell? ⟨B,4,none⟩=some (.bool x.valid)∧W.cell? ⟨B,5,none⟩=some (.int .u64 x.exp)∧W.cell? ⟨B,6,none⟩=some v)∧
 Below W0.heap.size W0 W
theorem Ei.start(h1:eu N y (.slice none 0 0) W0)(h2:eu B x v W0):Ei N B y x v W0 W0:=⟨h1.cell,h2.cell,aU _ _⟩
theorem Ei.drew(h:Ei N B y x v W0 W):Ei N B y x v W0 W.drew:=⟨h.1,h.2.1,h.2.2.trans ⟨rfl,rfl,rfl,aB _,λ_ _=>rfl⟩⟩
theorem Ei.below{W1:World}(h1:eu N y (.slice none 0 0) W0)(h2:eu B x v W0)(h:Ei N B y x v W0 W)(hb:Below W.heap.size W W1):Ei N B y x v W0 W1:=by
 have hbb:=h.2.2.trans (hb.mono h.2.2.size);exact⟨(h1.later hbb).cell,(h2.later hbb).cell,hbb⟩
theorem Lp(T M B:Nat)(me d s h n e:Int)(hd:¬d=me)(hd0:¬d=0)(hs:a_ s)(x:Rt)(hxs:a_ x.seq)(v:Value)(hgr:Wj (newR d s h n e) x=false)(w:World)(hT:Gu T me M w)
  (hlk:(Instr.lookup 156 (.map (some M)) (.int .u32 d) true).run Tryz.prog (w.alloc (bZ (newR d s h n e) (.slice none 0 0)))=.ok (.tuple #[.pointer (some ⟨B,0,none⟩),.bool true]) (w.alloc (bZ (newR d s h n e) (.slice none 0 0)))) (hL:eu B x v w):
  Calls Tryz.prog 161 #[.pointer (some ⟨T,0,none⟩),.int .u32 d,.int .u32 s,.int .i64 h,.int .u32 n,.int .u64 e] w λr w'=>r=.returned (.int .i64 3)∧Below w.heap.size w w':=by
 have hb:Below w.heap.size w (w.alloc (bZ (newR d s h n e) (.slice none 0 0))):=bC;have hN:=eu.new (newR d s h n e) (.slice none 0 0) w;have hL1:=hL.later hb;have q1:(d==me)=false:=by simpa using hd
 have q2:(d==0)=false:=by simpa using hd0
 obtain⟨c0,c1⟩:=hT.cell;obtain⟨t0,t1⟩:=(hT.block (hb.block T hT.lt)).cell;dsimp only[bZ,newR]at hb hN hL1 t0 t1 hlk;have hcall:=λW=>pz (newR d s h n e) hs (.slice none 0 0) W;have Br:=λW=>pz x hxs v W;have HC1:=(show Hid _ from hcall);have HC2:=(show Hid _ from Br);have Bp:∀W,Calls Tryz.prog 180 #[.agg #[.int .i64 (rk (newR d s h n e)),.int .i64 h],.agg #[.int .i64 (rk x),.int .i64 x.hops]] W λr w'=>r=.returned (.bool false)∧Below W.heap.size W w':=λW=>by
  rw[<-hgr];exact yR _ _ _ _ W
 have HC3:=(show Hid _ from Bp);clear hcall Br Bp;go_enter Tryz.func161,Tryz.ntmps161;go_wp2_with fail;clear hlk t0 t1;generalize World.alloc _ _=W1 at hb hN hL1 ⊢;go_cut [51]from 41 (λr W=>r=.bool true∧Below W1.heap.size W1 W)
 case first=>
  have hS:Ei w.heap.size B (newR d s h n e) x v W1 W1:=Ei.start hN hL1;go_region_held3 (Ei w.heap.size B (newR d s h n e) x v W1) (first|exact Ei.drew (by assumption)|assumption|exact Ei.below hN hL1 (by assumption) (by assumption)) (first
   |(go_at_call_of 179 (Value.int IntKind.u32 s);refine aT (HC1.out _) ?_;rintro r w3 ⟨rfl,hb3⟩)
   |(go_at_call_of 179 v;refine aT (HC2.out _) ?_;rintro r w4 ⟨rfl,hb4⟩)
   |(go_at_call 180;refine aT (HC3.out _) ?_;rintro r w5 ⟨rfl,hb5⟩))
  all_goals
   rename_i hS5;have abG:=(show Ei w.heap.size B (newR d s h n e) x v W1 _ from hS5).2.2;go_wp2_with fail;go_meet;exact⟨rfl,abG⟩
 case rest=>
  obtain⟨rfl,hb2⟩:=hcut;go_wp2;go_ret;exact⟨rfl,hb.trans (hb2.mono hb.size)⟩
def UpP(M:Nat)(f:Int->Option Nat)(s0:Nat)(y:Rt)(w:World)(r:Ending)(w':World):Prop:=
 r=.returned (.int .i64 0)∧eu w.heap.size y (.slice none 0 0) w'∧fH w' M (fA f y.dest (some w.heap.size)) (if (f y.dest).isSome then s0 else s0+1)∧w.grownBy w' (some M)
theorem Ls(T M B s0:Nat)(me d s h n e:Int)(f:Int->Option Nat)(hd:¬d=me)(hd0:¬d=0)(Fy:a_ d)(hs:a_ s)(x:Rt)(hxs:a_ x.seq)(v:Value)(hgr:Wj (newR d s h n e) x=true)(w:World)(hT:Gu T me M w)(hm:fH w M f s0)(hs0:s0<=100)
  (hf:f d=some B) (hL:eu B x v w):
  Calls Tryz.prog 161 #[.pointer (some ⟨T,0,none⟩),.int .u32 d,.int .u32 s,.int .i64 h,.int .u32 n,.int .u64 e] w (UpP M f s0 (newR d s h n e) w):=by
 have hb:Below w.heap.size w (w.alloc (bZ (newR d s h n e) (.slice none 0 0))):=bC;have hN:=eu.new (newR d s h n e) (.slice none 0 0) w;have hL1:=hL.later hb;have hm1:=hm.block (hb.block M hm.lt);have hT1:=hT.block (hb.block T hT.lt);have hlk:=hm1.look_ok Fy;rw[hf]at hlk;simp only[gH,Option.isSome_some]at hlk;have q1:(d==me)=false:=by simpa using hd
 have q2:(d==0)=false:=by simpa using hd0
 have hMl:=hm.lt;obtain⟨c0,c1⟩:=hT.cell;obtain⟨t0,t1⟩:=hT1.cell;dsimp only[bZ,newR]at hb hN hL1 t0 t1 hlk hm1 hT1;have hcall:=λW=>pz (newR d s h n e) hs (.slice none 0 0) W;have Br:=λW=>pz x hxs v W;have HC1:=(show Hid _ from hcall);have HC2:=(show Hid _ from Br);have Bp:∀W,Calls Tryz.prog 180 #[.agg #[.int .i64 (rk (newR d s h n e)),.int .i64 h],.agg #[.int .i64 (rk x),.int .i64 x.hops]] W λr w'=>r=.returned (.bool true)∧Below W.heap.size W w':=λW=>by
  rw[<-hgr];exact yR _ _ _ _ W
 have HC3:=(show Hid _ from Bp);clear hcall Br Bp;go_enter Tryz.func161,Tryz.ntmps161;go_wp2_with fail;clear hlk t0 t1;generalize World.alloc _ _=W1 at hb hN hL1 hm1 hT1 ⊢;go_cut [51]from 41 (λr W=>r=.bool false∧Below W1.heap.size W1 W)
 case first=>
  have hS:Ei w.heap.size B (newR d s h n e) x v W1 W1:=Ei.start hN hL1;go_region_held3 (Ei w.heap.size B (newR d s h n e) x v W1) (first|exact Ei.drew (by assumption)|assumption|exact Ei.below hN hL1 (by assumption) (by assumption)) (first
   |(go_at_call_of 179 (Value.int IntKind.u32 s);refine aT (HC1.out _) ?_;rintro r w3 ⟨rfl,hb3⟩)
   |(go_at_call_of 179 v;refine aT (HC2.out _) ?_;rintro r w4 ⟨rfl,hb4⟩)
   |(go_at_call 180;refine aT (HC3.out _) ?_;rintro r w5 ⟨rfl,hb5⟩))
  all_goals
   rename_i hS5;have abG:=(show Ei w.heap.size B (newR d s h n e) x v W1 _ from hS5).2.2;go_wp2_with fail;go_meet;exact⟨rfl,abG⟩
 case rest=>
  obtain⟨rfl,hb2⟩:=hcut;have hbb:=hb.trans (hb2.mono hb.size);have Gs:=hN.later hb2;have hm2:=hm1.block (hb2.block M hm1.lt);obtain⟨t0,t1⟩:=(hT1.block (hb2.block T hT1.lt)).cell;obtain⟨W6,hr,PG,jk⟩:=hm2.put (by unfold maxLen;omega) Fy w.heap.size;have Q_:=Gs.block (jk.block _ Gs.lt (λe=>by cases e;omega));have hg:w.grownBy W6 (some M):=⟨jk.os.trans hbb.os,jk.tape.trans hbb.tape,jk.output.trans hbb.output,dH hbb.size jk.size,λk hk hn=>(jk.block k (fO hk hbb.size) hn).trans (hbb.block k hk)⟩;clear hb hN hL1 hm1 hT1 hb2 hbb Gs hm2 jk;go_wp2;go_ret;exact⟨rfl,Q_,PG,hg⟩
theorem Lr(T M s0:Nat)(me d s h n e:Int)(f:Int->Option Nat)(hd:¬d=me)(hd0:¬d=0)(Fy:a_ d)(w:World)(hT:Gu T me M w)(hm:fH w M f s0)(hs0:s0<=100)
  (hf:f d=none):
  Calls Tryz.prog 161 #[.pointer (some ⟨T,0,none⟩),.int .u32 d,.int .u32 s,.int .i64 h,.int .u32 n,.int .u64 e] w λr w'=>if 8<=s0 then r=.returned (.int .i64 4)∧Below w.heap.size w w' else UpP M f s0 (newR d s h n e) w r w':=by
 have hb:Below w.heap.size w (w.alloc (bZ (newR d s h n e) (.slice none 0 0))):=bC;have hN:=eu.new (newR d s h n e) (.slice none 0 0) w;have hm1:=hm.block (hb.block M hm.lt);have hT1:=hT.block (hb.block T hT.lt);have hlk:=hm1.look_ok Fy;rw[hf]at hlk;simp only[gH,Option.isSome_none]at hlk;have q1:(d==me)=false:=by simpa using hd
 have q2:(d==0)=false:=by simpa using hd0
 have hMl:=hm.lt;obtain⟨c0,c1⟩:=hT.cell;obtain⟨t0,t1⟩:=hT1.cell;dsimp only[bZ,newR]at hb hN t0 t1 hlk hm1 hT1;go_enter Tryz.func161,Tryz.ntmps161;go_wp2_with fail;clear hlk t0 t1;generalize World.alloc _ _=W1 at hb hN hm1 hT1 ⊢;go_quiet (fail);go_wp2_with fail;have hb2:Below W1.heap.size W1 (W1.drewN nq):=below_drewN (aU _ _) _;have hbb:=hb.trans (hb2.mono hb.size);have Gs:=hN.later hb2;have hm2:=hm1.block (hb2.block M hm1.lt);have NE:=hT1.block (hb2.block T hT1.lt);clear hb hN hm1 hT1 hb2;generalize World.drewN _ _=W2 at hbb Gs hm2 NE ⊢;refine(Jc T M s0 me f _ NE hm2).mono ?_;rintro r w3 ⟨rfl,rfl⟩;obtain⟨t0,t1⟩:=NE.cell;by_cases h8:8<=s0
 ·have hd8:decide (8<=s0)=true:=gu h8;go_wp2;go_ret;exact⟨rfl,hbb⟩
 ·have hd8:decide (8<=s0)=false:=fD h8;obtain⟨W6,hr,PG,jk⟩:=hm2.put (by unfold maxLen;omega) Fy w.heap.size;have Q_:=Gs.block (jk.block _ Gs.lt (λe=>by cases e;omega));have hg:w.grownBy W6 (some M):=⟨jk.os.trans hbb.os,jk.tape.trans hbb.tape,jk.output.trans hbb.output,dH hbb.size jk.size,λk hk hn=>(jk.block k (fO hk hbb.size) hn).trans (hbb.block k hk)⟩;clear hbb Gs hm2 NE jk;go_wp2;go_ret;exact⟨rfl,Q_,PG,hg⟩
theorem M_{d s h n e:Int}(hd:a_ d)(hs:a_ s)(hh:oW h)(hn:a_ n)(he:BZ e):(newR d s h n e).Ok:=⟨hd,hs,hh,hn,he,by simp,by simp,by simp⟩
theorem B_.fresh{me:Int}{T M:Nat}{f:Int->Option Nat}{g:Int->Value}{A:List Rt}{S:Nat->Prop}{w w':World}(hM:MT me T M f g A w)(hS:∀k,mY T M f g A k->S k){y:Rt}(hok:y.Ok)(hbef:y.bN=[]){A':List Rt}(hL:eu w.heap.size y (.slice none 0 0) w')(hm:fH w' M (fA f y.dest (some w.heap.size)) A'.length)(hg:w.grownBy w' (some M))
  (hmem:∀z∈A',z=y∨(z∈A∧z.dest≠y.dest)) (hy:y∈A') (hsub:∀z∈A,z.dest≠y.dest->z∈A') (hasc:Asc A') (hlen:A'.length<=8):B_ me T (ext S w.heap.size w'.heap.size) A' w'∧Fx S w w':=by
 obtain⟨h1,h2⟩:=hM.fresh rfl hok hbef (aB _) hL hm (λk hk hkM=>hg.block k hk (λe=>hkM (by cases e;rfl))) hmem hy hsub hasc hlen;refine⟨⟨M,_,_,h1,λk hk=> ?_⟩,Fx.grown hg (λk e=>by cases e;exact hS _ (.inr (.inl rfl)))⟩;rcases h2 k hk with h3|rfl
 ·exact .inl (hS k h3)
 ·exact .inr ⟨aB _,hL.lt⟩
theorem Lu(me:Int)(T:Nat)(S:Nat->Prop)(A:List Rt)(d s h n e:Int)(hd:a_ d)(hs:a_ s)(hh:oW h)(hn:a_ n)(he:BZ e)(w:World)(afF:B_ me T S A w):
  Calls Tryz.prog 161 #[.pointer (some ⟨T,0,none⟩),.int .u32 d,.int .u32 s,.int .i64 h,.int .u32 n,.int .u64 e] w λr w'=>r=.returned (.int .i64 (iP me A d s h n e).2)∧B_ me T (ext S w.heap.size w'.heap.size) (iP me A d s h n e).1 w'∧Fx S w w':=by
 obtain⟨M,f,g,hM,hS⟩:=afF;have hold:∀w',Below w.heap.size w w'->B_ me T (ext S w.heap.size w'.heap.size) A w'∧Fx S w w':=λw' hb=>⟨⟨M,f,g,hM.later hb,λk hk=> .inl (hS k hk)⟩,Fx.below hb⟩;unfold iP;by_cases hown:d=me∨d=0
 ·rw[aM hown];refine(Lm T M me d s h n e hown w hM.blk).mono ?_;rintro r w' ⟨rfl,rfl⟩;exact⟨rfl,hold _ (aU _ _)⟩
 ·rw[aH hown];have hd1:¬d=me:=λh=>hown (.inl h);have hd0:¬d=0:=λh=>hown (.inr h);cases hl:aK A d with
  |some x=>
   obtain⟨hx,hxd,B,hB,hL,hR⟩:=hM.line hl;dsimp only;cases hgr:Wj (newR d s h n e) x with
   |false=>
    rw[aH (by simp)];have hb:Below w.heap.size w (w.alloc (bZ (newR d s h n e) (.slice none 0 0))):=bC;have hlk:=(hM.map.block (hb.block M hM.map.lt)).look_ok hd;rw[hB]at hlk;refine(Lp T M B me d s h n e hd1 hd0 hs x (hM.ok x hx).seq (g d) hgr w hM.blk hlk hL).mono ?_;rintro r w' ⟨rfl,hb'⟩;exact⟨rfl,hold _ hb'⟩
   |true=>
    rw[aM rfl];refine(Ls T M B A.length me d s h n e f hd1 hd0 hd hs x (hM.ok x hx).seq (g d) hgr w hM.blk hM.map (by have:=hM.len;omega) hB hL).mono ?_;rintro r w' ⟨rfl,hL',hm',hg'⟩;rw[show(f (newR d s h n e).dest).isSome=true by rw[show(newR d s h n e).dest=d from rfl,hB];rfl,aM rfl]at hm';have hmem:∀z∈gV A d (Ac s h n e),z=newR d s h n e∨(z∈A∧z.dest≠d):=by
     intro z hz;rcases vJ hz with⟨z0,hz0,aeI,rfl⟩|hz
     ·left;unfold Ac;rw[aeI]
     ·exact .inr hz
    have aeK:newR d s h n e∈gV A d (Ac s h n e):=dh.2 ⟨x,hx,by rw[aM hxd];unfold Ac;rw[hxd]⟩;refine⟨rfl,B_.fresh (A':=gV A d (Ac s h n e)) hM hS (M_ hd hs hh hn he) rfl hL' (by rw[nL];exact hm') hg' hmem aeK (λz hz hzd=>dh.2 ⟨z,hz,aH hzd⟩) (A8 hM.y_ _ _ (λ_=>rfl)) (by rw[nL];exact hM.len)⟩
  |none=>
   have hf:=hM.off hd hl;dsimp only;refine(Lr T M A.length me d s h n e f hd1 hd0 hd w hM.blk hM.map (by have:=hM.len;omega) hf).mono ?_;intro r w' hr;by_cases h8:8<=A.length
   ·rw[aM h8]at hr ⊢;obtain⟨rfl,hb'⟩:=hr;exact⟨rfl,hold _ hb'⟩
   ·rw[aH h8]at hr ⊢;obtain⟨rfl,hL',hm',hg'⟩:=hr;rw[show(f (newR d s h n e).dest).isSome=false by rw[show(newR d s h n e).dest=d from rfl,hf];rfl,aH (by simp)]at hm';have hn':=jZ.1 hl;refine⟨rfl,B_.fresh (A':=uy A (newR d s h n e)) hM hS (M_ hd hs hh hn he) rfl hL' (by rw[yK];exact hm') hg' (λz hz=> ?_) (oI.2 (.inl rfl)) (λz hz _=>oI.2 (.inr hz)) (IL hM.y_ hl) (by rw[yK];omega)⟩;rcases oI.1 hz with h1|h1
    ·exact .inl h1
    ·exact .inr ⟨h1,hn' z h1⟩
def qF(n:Int)(y:Rt):Rt:=if y.valid=true∧y.bN.length<4∧n ∉ y.bN then {y with bN:=ng n y.bN}else y
def kZ(A:List Rt)(d n:Int):List Rt:=gV A d (qF n)
theorem lg(n:Int)(y:Rt):(qF n y).dest=y.dest:=by
 unfold qF;split<;>rfl
theorem yJ(a:Int)(l:List Int)(h:a ∉ l):(ng a l).length=l.length+1:=by
 induction l with
 |nil=>rfl
 |cons x l ih=>
  unfold ng;rw[aH (λe=>h (by simp[e]))];split
  ·rfl
  ·simp[ih (λe=>h (by simp[e]))]
theorem Cu(T:Nat)(d n:Int)(w:World)(hv:Calls Tryz.prog 116 #[.pointer (some ⟨T,0,none⟩),.int .u32 d] w λe w'=>e=.returned (.pointer none)∧w'=w):
  Calls Tryz.prog 182 #[.pointer (some ⟨T,0,none⟩),.int .u32 d,.int .u32 n] w λe w'=>e=.returned (.tuple #[])∧w'=w:=by
 have HV:=(show Hid _ from hv);clear hv;go_enter Tryz.func182,Tryz.ntmps182;go_wp2_with fail;refine aT HV.out ?_;rintro e w1 ⟨rfl,rfl⟩;clear HV;go_wp2;go_returns;exact⟨rfl,rfl⟩
theorem JQ(T:Nat)(d n:Int)(B:Nat)(x:Rt)(v:Value)(hx:x.bN.Pairwise (·<·))(hx4:x.bN.length<=4)(w:World)(hv:Calls Tryz.prog 116 #[.pointer (some ⟨T,0,none⟩),.int .u32 d] w λe w'=>e=.returned (.pointer (some ⟨B,0,none⟩))∧w'=w)(h:eu B x v w)(hr:w.ownsRow 0 34 1 v x.bN.length (x.bN.map aW)):
  Calls Tryz.prog 182 #[.pointer (some ⟨T,0,none⟩),.int .u32 d,.int .u32 n] w λe w'=>e=.returned (.tuple #[])∧
   ((¬(x.bN.length<4∧n ∉ x.bN)∧w'=w)∨((x.bN.length<4∧n ∉ x.bN)∧∃v',eu B {x with bN:=ng n x.bN} v' w'∧w'.ownsRow 0 34 1 v' (ng n x.bN).length ((ng n x.bN).map aW)∧
    (v'.ownBlock=v.ownBlock∨∀k,v'.ownBlock=some k->w.heap.size<=k)∧w.heap.size<=w'.heap.size∧w'.os=w.os∧w'.tape=w.tape∧w'.output=w.output∧∀k,k<w.heap.size->k≠B->v.ownBlock≠some k->w'.heap[k]?=w.heap[k]?)):=by
 have hrB:v.ownBlock≠some B:=aA hr h (λc e=>by cases e);obtain⟨ao,c,rfl,_⟩:=ay hr;obtain⟨c0,c1,c2,c3,c4,c5,c6⟩:=h.cell;have HV:=(show Hid _ from hv);clear hv;by_cases h4:x.bN.length<4
 ·have hd4:decide (4<=(x.bN.length:Int))=false:=fD (by omega);have afv:decide (4<=x.bN.length)=false:=fD (by omega);go_enter Tryz.func182,Tryz.ntmps182;go_wp2_with fail;refine aT HV.out ?_;rintro e w1 ⟨rfl,rfl⟩;clear HV;go_wp2_with fail;refine(LF _ x.bN.length x.bN n _ hr hx (by omega)).mono ?_;rintro e w2 ⟨i,hi,hlo,hhi,rfl,rfl⟩;have hiff:(x.bN[i]?==some n)=decide (n∈x.bN):=by
   by_cases hm:n∈x.bN
   ·obtain⟨k,hk⟩:=List.getElem?_of_mem hm;have hkl:=(fu.1 hk).1;have:k=i:=by
     rcases Nat.lt_trichotomy k i with h|h|h
     ·have:=hlo k n h hk;omega
     ·exact h
     ·obtain⟨y,hy⟩:∃y,x.bN[i]?=some y:=⟨_,cK (by omega)⟩;have h1:=hhi i y (aB _) hy;obtain⟨hk',rfl⟩:=fu.1 hk;obtain⟨hi',rfl⟩:=fu.1 hy;have:=List.pairwise_iff_getElem.1 hx i k hi' hk' h;omega
    subst this;rw[hk];simp[hm]
   ·rw[fD hm];cases hy:x.bN[i]? with
    |none=>rfl
    |some y=>
     have:y≠n:=λe=>hm (by rw[<-e];exact gI hy);simpa using this
  rw[hiff];by_cases hm:n∈x.bN
  ·have D5:decide (n∈x.bN)=true:=gu hm;rw[D5];go_wp2;go_returns;exact⟨rfl,.inl ⟨λh=>h.2 hm,rfl⟩⟩
  ·have D5:decide (n∈x.bN)=false:=fD hm;rw[D5];have hb1:Below w2.heap.size w2 (w2.alloc (.cells #[.int .u32 n] 34)):=bC;have hN:=bS w2 (.cells #[.int .u32 n] 34);have hr1:=aL hr hb1;have hL1:=h.later hb1;have hlt:=hr.lt;have hins:=X0 hlo (λj y hj hy=>by have:=hhi j y hj hy;omega) hi hm;have hlen:=yJ n x.bN hm;have hP:=(show Hid _ from hins);have hP2:=(show Hid _ from hlen);clear hins hlen hlo hhi hiff D5 c0 c1 c2 c3 c4 c5;go_wp2_with fail;clear c6;generalize World.alloc _ _=W1 at hb1 hN hr1 hL1 ⊢;refine(LV _ x.bN.length i x.bN n w2.heap.size _ hr1 hi hN (λe=>by have:=(hlt _ e).2;omega) (by omega)).mono ?_;rintro e W2 ⟨v',rfl,ho2,hg2,hvb⟩;obtain⟨sH,c2',rfl,_⟩:=ay ho2;have hL2:=hL1.block (hg2.block B hL1.lt (λe=>hrB e.symm));have hL3:=hL2.aaz (.slice sH (x.bN.length+1) c2') (ng n x.bN);have hg3:W2.grownBy (W2.setCell ⟨B,6,none⟩ (.slice sH (x.bN.length+1) c2')) (some B):=ah (aC _ _) 6 _;have hB2:=aA ho2 hL2 (λc e=>by cases e);have ho3:=ho2.kept hg3 (.inr hB2);have f6:=hL2.free 6;obtain⟨_,_,_,_,_,_,c6⟩:=hL2.cell;have hsz:=dH hb1.size hg2.size;have hfr:Hid (∀k,k<w2.heap.size->k≠B->(Value.slice ao x.bN.length c).ownBlock≠some k->(W2.setCell ⟨B,6,none⟩ (.slice sH (x.bN.length+1) c2')).heap[k]?=w2.heap[k]?):=λk hk hkB hkv=>
    (hg3.block k (fO hk hsz) (λe=>hkB (by cases e;rfl))).trans ((hg2.block k (fO hk hb1.size) (λe=>hkv e.symm)).trans (hb1.block k hk))
   have hos:(W2.setCell ⟨B,6,none⟩ (.slice sH (x.bN.length+1) c2')).os=w2.os:=hg3.os.trans (hg2.os.trans hb1.os);have htp:(W2.setCell ⟨B,6,none⟩ (.slice sH (x.bN.length+1) c2')).tape=w2.tape:=hg3.tape.trans (hg2.tape.trans hb1.tape);have hou:(W2.setCell ⟨B,6,none⟩ (.slice sH (x.bN.length+1) c2')).output=w2.output:=hg3.output.trans (hg2.output.trans hb1.output);have CR:w2.heap.size<=(W2.setCell ⟨B,6,none⟩ (.slice sH (x.bN.length+1) c2')).heap.size:=dH hsz hg3.size;have aeS:(Value.slice sH (x.bN.length+1) c2').ownBlock=(Value.slice ao x.bN.length c).ownBlock∨∀k,(Value.slice sH (x.bN.length+1) c2').ownBlock=some k->w2.heap.size<=k:=by
    rcases hvb with e|e
    ·exact .inl e
    ·exact .inr (λk hk=>dH hb1.size (e k hk))
   rw[hP.out]at ho3;clear hL1 hr1 hN hb1 ho2 hg2 hL2 hg3 hB2 hvb hsz;go_wp2;generalize World.setCell _ _ _=W3 at hL3 ho3 hfr hos htp hou CR ⊢;go_returns;exact⟨rfl,.inr ⟨⟨h4,hm⟩,_,hL3,by rw[hP2.out];exact ho3,aeS,CR,hos,htp,hou,hfr.out⟩⟩
 ·have hd4:decide (4<=(x.bN.length:Int))=true:=gu (by omega);have afv:decide (4<=x.bN.length)=true:=gu (by omega);go_enter Tryz.func182,Tryz.ntmps182;go_wp2_with fail;refine aT HV.out ?_;rintro e w1 ⟨rfl,rfl⟩;clear HV;go_wp2;go_returns;exact⟨rfl,.inl ⟨λh=>h4 h.1,rfl⟩⟩
theorem L_(me:Int)(T:Nat)(S:Nat->Prop)(A:List Rt)(d n:Int)(hd:a_ d)(hn:a_ n)(w:World)(h:B_ me T S A w):
  Calls Tryz.prog 182 #[.pointer (some ⟨T,0,none⟩),.int .u32 d,.int .u32 n] w λe w'=>e=.returned (.tuple #[])∧B_ me T (ext S w.heap.size w'.heap.size) (kZ A d n) w'∧Fx S w w':=by
 obtain⟨M,f,g,hM,hS⟩:=h;have hold:B_ me T (ext S w.heap.size w.heap.size) A w∧Fx S w w:=⟨⟨M,f,g,hM,λk hk=> .inl (hS k hk)⟩,Fx.refl _ _⟩;have hv:=rU hM hd;unfold tO at hv;cases hl:aK A d with
 |none=>
  rw[hl]at hv;refine(Cu T d n w hv).mono ?_;rintro e w' ⟨rfl,rfl⟩;have h2:kZ A d n=A:=by unfold kZ;rw[oH hl]
  rw[h2];exact⟨rfl,hold⟩
 |some x=>
  rw[hl]at hv;obtain⟨hx,hxd,B,hB,hL,hR⟩:=hM.line hl;rw[hB]at hv;have hok:=hM.ok x hx;have hsame:¬(x.valid=true∧x.bN.length<4∧n ∉ x.bN)->kZ A d n=A:=λhc=>pO hM.y_ λy hy=>by
   rw[hl]at hy;cases hy;unfold qF;rw[aH hc]
  cases hxv:x.valid with
  |false=>
   simp only[hxv]at hv;refine(Cu T d n w hv).mono ?_;rintro e w' ⟨rfl,rfl⟩;rw[hsame (λh=>by rw[hxv]at h;cases h.1)];exact⟨rfl,hold⟩
  |true=>
   simp only[hxv,if_true,Option.map_some]at hv;refine(JQ T d n B x (g d) hok.y_ hok.Vd w hv hL hR).mono ?_;rintro e w' ⟨rfl,⟨hc,rfl⟩|⟨hc,v',hL',ho',hvb,hsz,hos,htp,hou,hfr⟩⟩
   ·rw[hsame (λh=>hc h.2)];exact⟨rfl,hold⟩
   ·have hF:qF n x={x with bN:=ng n x.bN}:=aM ⟨hxv,hc⟩;have ht:=hM.turn (W':=w') hl hB (qF n) (lg n) (by
     rw[hF];refine⟨hok.dest,hok.seq,hok.hops,hok.next,hok.exp,?_,?_,Np n x.bN hok.y_⟩
     ·have:=yJ n x.bN hc.2;dsimp only;omega
     ·intro b hb;rcases(A_ n x.bN b).1 hb with rfl|hb
      ·exact hn
      ·exact hok.bN b hb) v' (by rw[hF];exact hL') (by rw[hF];exact ho') (by rcases hvb with e|e;exact .inr (.inl e);exact .inr (.inr e)) (λk hk hkB hkv=>hfr k (hM.lt hk) hkB hkv)
    refine⟨rfl,⟨M,f,_,ht.1,λk hk=> ?_⟩,⟨hos,htp,hou,hsz,λk hk hkS=>hfr k hk (λe=>hkS (by rw[e];exact hS _ (hM.inB hl hB))) (λe=>hkS (hS k (.inr (.inr ⟨x,hx,.inr (by rw[hxd];exact e)⟩))))⟩⟩;rcases ht.2 k hk with h1|h1
    ·exact .inl (hS k h1)
    ·rcases hvb with e|e
     ·exact .inl (hS k (.inr (.inr ⟨x,hx,.inr (by rw[hxd,<-e];exact h1)⟩)))
     ·exact .inr ⟨e k h1,(ho'.lt k h1).2⟩
open Go.Sort
theorem Dk(a j:Nat)(d:Array Int)(hj:a<j)(hl:ltInt d[j]! d[j - 1]! =true):insInner ltInt a j d=insInner ltInt a (j - 1) (swp d j (j - 1)):=by
 match j,hj with
 |k+1,hj=>
  rw[insInner];simp only[Nat.add_sub_cancel]at hl ⊢;rw[aM];simp[hj,hl]
theorem nH(a j:Nat)(d:Array Int)(h:j<=a∨ltInt d[j]! d[j - 1]! =false):insInner ltInt a j d=d:=by
 match j with
 |0=>rw[insInner]
 |k+1=>
  rw[insInner];simp only[Nat.add_sub_cancel]at h;rw[aH];rcases h with h|h
  ·simp;omega
  ·simp[h]
theorem rW(a b i:Nat)(d:Array Int)(h:i<b):insOuter ltInt a b i d=insOuter ltInt a b (i+1) (insInner ltInt a i d):=by rw[insOuter,aM h]
theorem yx(a b i:Nat)(d:Array Int)(h:¬i<b):insOuter ltInt a b i d=d:=by rw[insOuter,aH h]
theorem nW(base g cap n a b:Nat)(d:Array Int)(w:World)(h:SR base g cap n d w)(hab:a<=b)(hb:b<=n)(hn:n<=1000000):
  Calls Tryz.prog 183 #[.slice (some ⟨g,0,none⟩) n cap,.int .i64 a,.int .i64 b] w λe w'=>e=.returned (.tuple #[])∧SR base g cap n (insertionSort ltInt d a b) w'∧w.grownBy w' (some g):=by
 go_enter Tryz.func183,Tryz.ntmps183;go_wp2_with fail;go_loopw [6] (λvi wr=>∃(i:Nat) (dk:Array Int),vi=.int .i64 i∧a<i∧i<=b+1∧SR base g cap n dk wr∧w.grownBy wr (some g)∧insOuter ltInt a b i dk=insertionSort ltInt d a b) (λvi _=>b+1 - (intOf vi).toNat)
 case atStart=>exact⟨a+1,d,by go_num,by omega,by omega,h,nP _ _,rfl⟩
 case round=>
  clear h;obtain⟨i,dk,rfl,hai,hib,h,hg,hO⟩:=hrel;have HO:=(show Hid _ from hO);clear hO;by_cases hlt:i<b
  ·have hix:(i:Int)<(b:Int):=by omega
   go_wp2_with fail;go_loopw [7] (λvj wr2=>∃(j:Nat) (dj:Array Int),vj=.int .i64 j∧a<=j∧j<=i∧SR base g cap n dj wr2∧w.grownBy wr2 (some g)∧insInner ltInt a j dj=insInner ltInt a i dk) (λvj _=>(intOf vj).toNat)
   case atStart=>exact⟨i,dk,rfl,by omega,aB _,h,hg,rfl⟩
   case round=>
    clear h hg;obtain⟨j,dj,rfl,haj,hji,h,hg,hI⟩:=hrel;have hjn:(j:Int)<(n:Int):=by omega
    have afq:(j:Int) - 1<(n:Int):=by omega
    by_cases hja:a<j
    ·have hjp:(1:Int)<=(j:Int):=by omega
     have c0:=h.cell (j:=j) (by omega);have c1:=h.cell (j:=j - 1) (by omega);have f0:=h.free j;have f1:=h.free (j - 1);have hq:(j:Int) - 1=((j - 1:Nat):Int):=by omega
     have hs:=h.swap j (j - 1);have hgs:=λu v=>qb wr g j (j - 1) u v;have hgo:=Dk a j dj hja;have hst:=nH a j dj;generalize hX:dj[j]! =X at c0 hs hgo hst;generalize hY:dj[j - 1]! =Y at c1 hs hgo hst;have hJn:((j - 1:Nat):Int)<(n:Int):=by omega
     have hj0:(0:Int)<=(j:Int) - 1:=by omega
     generalize hJ:j - 1=J at c1 f1 hq hs hgs hgo hst hJn;have HJ:=(show Hid _ from hJ);have HI:=(show Hid _ from hI);have HS:=(show Hid _ from hst);clear hJ hI hst;have hdj:decide (a<j)=true:=gu hja;go_wp2_with fail;go_quiet (first|(go_at_call 189;refine Calls.quiet_of_same (wH _ _ _)));cases hl:ltInt X Y
     ·go_wp2;go_roundw
      case rel=>exact⟨i+1,dj,by go_num,by omega,by omega,h.drewN _,hg.trans (oK _ _ _),by rw[<-HO.out,rW _ _ _ _ hlt,<-HI.out,HS.out (.inr hl)]⟩
      case measure=>simp[intOf];omega
     ·have hs':=(h.drewN (nq+1)).swap j J;have hg':=hg.trans ((oK wr (nq+1) (some g)).trans (qb _ g j J (.int .u32 dj[J]!) (.int .u32 dj[j]!)));rw[hX,<-HJ.out,hY,HJ.out]at hs' hg';have hJj:J+1=j:=by have:=HJ.out;omega
      clear hX hY;go_wp2_with fail;go_region
      all_goals go_wp2
      go_roundw
      case rel=>exact⟨J,swp dj j J,rfl,by omega,by omega,hs',hg',by rw[<-HI.out,hgo hl]⟩
      case measure=>simp[intOf];omega
    ·have hdj:decide (a<j)=false:=fD hja;have hst:=nH a j dj (.inl (by omega));go_wp2_with fail;go_quiet (fail);go_wp2;go_roundw
     case rel=>exact⟨i+1,dj,by go_num,by omega,by omega,h.drewN _,hg.trans (oK _ _ _),by rw[<-HO.out,rW _ _ _ _ hlt,<-hI,hst]⟩
     case measure=>simp[intOf];omega
  ·have hend:insOuter ltInt a b i dk=dk:=yx a b i dk hlt;rw[HO.out]at hend;rw[<-hend]at h;go_wp2;go_returns;exact⟨rfl,h,hg⟩
def tab:ByteArray:=⟨#[0,1,2,2,3,3,3,3,4,4,4,4,4,4,4,4,5,5,5,5,5,5,5,5,5,5,5,5,5,5,5,5,6,6,6,6,6,6,6,6,6,6,6,6,6,6,6,6,6,6,6,6,6,6,6,6,6,6,6,6,6,6,6,6,7,7,7,7,7,7,7,7,7,7,7,7,7,7,7,7,7,7,7,7,7,7,7,7,7,7,7,7,7,7,7,7,7,7,7,7,7,7,7,7,7,7,7,7,7,7,7,7,7,7,7,7,7,7,7,7,7,7,7,7,7,7,7,7,8,8,8,8,8,8,8,8,8,8,8,8,8,8,8,8,8,8,8,8,8,8,8,8,8,8,8,8,8,8,8,8,8,8,8,8,8,8,8,8,8,8,8,8,8,8,8,8,8,8,8,8,8,8,8,8,8,8,8,8,8,8,8,8,8,8,8,8,8,8,8,8,8,8,8,8,8,8,8,8,8,8,8,8,8,8,8,8,8,8,8,8,8,8,8,8,8,8,8,8,8,8,8,8,8,8,8,8,8,8,8,8,8,8,8,8,8,8,8,8,8,8,8,8,8,8,8,8]⟩
theorem Kc:∀k,(h:k<tab.size)->tab[k].toNat<=8∧(0<k->2 ^ tab[k].toNat<=2 * k):=of_decide_eq_true (by kernel_rfl)
theorem w64{x:Int}(h:0<=x)(h':x<1000):wrap64 x=x:=by
 unfold wrap64;omega
theorem Px(x:Nat)(hx:x<=1000000)(w:World):
  Calls Tryz.prog 193 #[.int .u64 x] w λe w'=>∃r:Nat,e=.returned (.int .i64 r)∧r<=32∧(0<x->2 ^ r<=2 * x)∧w'=w:=by
 have h0:decide ((4294967296:Int)<=(x:Int))=false:=fD (by omega);by_cases h1:65536<=x
 ·have h1':decide ((65536:Int)<=(x:Int))=true:=gu (by omega);go_enter Tryz.func193,Tryz.ntmps193;go_wp2;generalize hT:UInt8.toNat _=t;have hP:t<=8∧(0<x / 65536->2 ^ t<=2 * (x / 65536)):=by
   rw[<-hT];exact Kc _ _
  clear hT;rw[w64 (x:=(t:Int)) (by omega) (by omega),w64 (x:=16+(t:Int)) (by omega) (by omega)];go_ret;refine⟨16+t,by go_num,by omega,λ_=> ?_,rfl⟩;rw[Nat.pow_add];have:=hP.2 (by omega);omega
 ·have h1':decide ((65536:Int)<=(x:Int))=false:=fD (by omega);by_cases h2:256<=x
  ·have h2':decide ((256:Int)<=(x:Int))=true:=gu (by omega);go_enter Tryz.func193,Tryz.ntmps193;go_wp2;generalize hT:UInt8.toNat _=t;have hP:t<=8∧(0<x / 256->2 ^ t<=2 * (x / 256)):=by
    rw[<-hT];exact Kc _ _
   clear hT;rw[w64 (x:=(t:Int)) (by omega) (by omega),w64 (x:=8+(t:Int)) (by omega) (by omega)];go_ret;refine⟨8+t,by go_num,by omega,λ_=> ?_,rfl⟩;rw[Nat.pow_add];have:=hP.2 (by omega);omega
  ·have h2':decide ((256:Int)<=(x:Int))=false:=fD (by omega);go_enter Tryz.func193,Tryz.ntmps193;go_wp2;generalize hT:UInt8.toNat _=t;have hP:t<=8∧(0<x->2 ^ t<=2 * x):=by
    rw[<-hT];exact Kc _ _
   clear hT;rw[w64 (x:=(t:Int)) (by omega) (by omega),w64 (x:=(t:Int)) (by omega) (by omega)];go_ret;exact⟨t,rfl,by omega,hP.2,rfl⟩
theorem Fg(x:Nat)(hx:x<=1000000)(w:World):
  Calls Tryz.prog 173 #[.int .u64 x] w λe w'=>∃r:Nat,e=.returned (.int .i64 r)∧r<=32∧(0<x->2 ^ r<=2 * x)∧w'=w:=by
 go_enter Tryz.func173,Tryz.ntmps173;go_wp2_with fail;refine(Px x hx w).mono ?_;rintro e w' ⟨r,rfl,h1,h2,rfl⟩;go_wp2;go_ret;exact⟨r,rfl,h1,h2,rfl⟩
def PQ(base g cap n a b:Nat)(d:Array Int)(w:World)(e:Ending)(w':World):Prop:=
 e=.returned (.tuple #[])∧∃d',SR base g cap n d' w'∧PermIn a b d d'∧SortedIn ltInt a b d'∧w.grownBy w' (some g)
theorem EL(base g cap n r:Nat)(d:Array Int)(w:World)(h:SR base g cap n d w)(hn:n<=12):
  Calls Tryz.prog 172 #[.slice (some ⟨g,0,none⟩) n cap,.int .i64 0,.int .i64 n,.int .i64 r] w (PQ base g cap n 0 n d w):=by
 have afw:decide ((n:Int)<=12)=true:=gu (by omega);have adQ:decide (n<=12)=true:=gu hn;obtain⟨i1,i2⟩:=insertionSort_holds swo_ltInt d 0 n (b_ _) (by rw[h.size];exact aB _);go_enter Tryz.func172,Tryz.ntmps172;go_wp2_with fail;go_loopw [1,2] (λva vb wr=>va=.int .i64 0∧vb=.int .i64 n∧SR base g cap n d wr∧w.grownBy wr (some g)) (λ_ _ _=>0)
 case atStart=>exact⟨rfl,rfl,h,nP _ _⟩
 case round=>
  obtain⟨rfl,rfl,h1,hg⟩:=hrel;have hcall:=(show Hid _ from nW base g cap n 0 n d _ h1 (b_ _) (aB _) (by omega));clear h h1;go_wp2_with fail;refine aT hcall.out ?_;rintro e W2 ⟨rfl,h2,hg2⟩;clear hcall;go_wp2;go_returns;exact⟨rfl,_,h2,i1,i2,hg.trans hg2⟩
theorem vv(base g cap n:Nat)(d:Array Int)(w:World)(h:SR base g cap n d w)(hn:n<=12):
  Calls Tryz.prog 140 #[.slice (some ⟨g,0,none⟩) n cap] w (PQ base g cap n 0 n d w):=by
 go_enter Tryz.func140,Tryz.ntmps140;go_wp2_with fail;refine(Fg n (by omega) _).mono ?_;rintro e w1 ⟨r,rfl,hr,_,rfl⟩;have hp:=EL base g cap n r d _ h hn;have HP:=(show Hid _ from hp);clear hp;go_wp2_with fail;refine aT HP.out ?_;rintro e w2 ⟨rfl,d',h',hp,hs,hg⟩;clear HP;go_wp2;go_returns;exact⟨rfl,d',h',hp,hs,hg⟩
theorem CQ(w:World):
  Calls Tryz.prog 183 #[.slice none 0 0,.int .i64 0,.int .i64 0] w λe w'=>e=.returned (.tuple #[])∧w.grownBy w' none:=by
 go_enter Tryz.func183,Tryz.ntmps183;go_wp2_with fail;go_loopw [6] (λvi wr=>vi=.int .i64 1∧w.grownBy wr none) (λ_ _=>0)
 case atStart=>exact⟨rfl,nP _ _⟩
 case round=>
  obtain⟨rfl,hg⟩:=hrel;go_wp2;go_returns;exact⟨rfl,hg⟩
theorem Xz(r:Nat)(w:World):
  Calls Tryz.prog 172 #[.slice none 0 0,.int .i64 0,.int .i64 0,.int .i64 r] w λe w'=>e=.returned (.tuple #[])∧w.grownBy w' none:=by
 go_enter Tryz.func172,Tryz.ntmps172;go_wp2_with fail;go_loopw [1,2] (λva vb wr=>va=.int .i64 0∧vb=.int .i64 0∧w.grownBy wr none) (λ_ _ _=>0)
 case atStart=>exact⟨rfl,rfl,nP _ _⟩
 case round=>
  obtain⟨rfl,rfl,hg⟩:=hrel;go_wp2_with fail;refine(CQ _).mono ?_;rintro e w1 ⟨rfl,h1⟩;go_wp2;go_returns;exact⟨rfl,hg.trans h1⟩
theorem Ry(w:World):
  Calls Tryz.prog 140 #[.slice none 0 0] w λe w'=>e=.returned (.tuple #[])∧w.grownBy w' none:=by
 go_enter Tryz.func140,Tryz.ntmps140;go_wp2_with fail;refine(Fg 0 (by omega) _).mono ?_;rintro e w1 ⟨r,rfl,hr,_,rfl⟩;go_wp2_with fail;refine(Xz r _).mono ?_;rintro e w2 ⟨rfl,hg⟩;go_wp2;go_returns;exact⟨rfl,hg⟩
variable{d:Array Int}{n:Nat}
theorem AQ{d':Array Int}(hd:d.size=n)(h:PermIn 0 n d d'):d'.toList.Perm d.toList:=by
 obtain⟨h1,_,h3⟩:=h;have e1:d.extract 0 n=d:=by rw[<-hd];simp
 have e2:d'.extract 0 n=d':=by rw[<-hd,<-h1];simp
 rw[e1,e2]at h3;exact h3
theorem tX(hd:d.size=n)(h:SortedIn ltInt 0 n d):d.toList.Pairwise (·<=·):=by
 rw[List.pairwise_iff_getElem];intro i j hi hj hij;have hi':i<d.size:=by simpa using hi
 have hj':j<d.size:=by simpa using hj
 have:=h i j (b_ _) hij (by omega);simp only[ltInt,decide_eq_false_iff_not]at this;rw[getElem!_pos d j hj',getElem!_pos d i hi']at this;simp only[Array.getElem_toList];omega
theorem tV(g:Nat)(lb:Array Value)(eg:∀args w,(callFunc g args).run Tryz.prog w=.ok (.enter g args) w)
  (S:List Int->Prop) (N:Nat) (hN:N<=12) (w:World) (hseq:SeqGives Fence.wide 1 Tryz.prog g lb aW S N w):
  Calls Tryz.prog 102 #[.func (.func g) #[] lb] w λe w'=>∃(v:Value) (ts ss:List Int),e=.returned v∧S ss∧ts.Perm ss∧ts.Pairwise (·<=·)∧ts.length<=N∧
   w'.ownsRow w.heap.size 34 1 v ts.length (ts.map aW)∧Below w.heap.size w w':=by
 have hc:=callsIn_wide.1 (collect_in Fence.wide 3 trivial trivial rfl (aB _) g lb trivial eg _ N (by unfold maxLen;omega) (by omega) w hseq.bounded);have HC:=(show Hid _ from hc);clear hc hseq;go_enter Tryz.func102,Tryz.ntmps102;go_wp2_with fail;refine aT HC.out ?_;rintro e W ⟨v,ss,rfl,⟨hS,hlen⟩,hrow,hnil,hb⟩;clear HC;rcases hrow.2 with⟨rfl,hz⟩|⟨gb,cap,cur,rfl,hbase,hgb,r1,r2,r3,r4⟩
 ·have hss:ss=[]:=qz hz;subst hss;go_wp2_with fail;refine(Ry _).mono ?_;rintro e w2 ⟨rfl,hg⟩;go_wp2;go_ret;refine⟨.slice none 0 0,[],[],rfl,hS,List.Perm.refl _,List.Pairwise.nil,b_ _,⟨rfl,.inl ⟨rfl,rfl⟩⟩,hb.grown hg hb.size (λk e=>by cases e)⟩
 ·have hSR:SR w.heap.size gb cap ss.length ss.toArray W:=⟨by simp,by
   have:UC ss.toArray=ss.map aW:=by simp[UC]
   rw[this];exact hrow⟩
  have hs:=vv w.heap.size gb cap ss.length ss.toArray W hSR (by omega);have HS:=(show Hid _ from hs);have HB:=(show Hid _ from hb);clear hs hSR hgb r3 r4 hrow hb;go_wp2_with fail;refine aT HS.out ?_;rintro e w2 ⟨rfl,d',h',hp,hso,hg⟩;clear HS;go_wp2;go_ret;have hsz:d'.size=ss.length:=h'.size;have hl:d'.toList.length=ss.length:=by simpa using hsz
  have hpa:=AQ (by simp) hp;refine⟨_,d'.toList,ss,rfl,hS,by simpa using hpa,tX hsz hso,by omega,?_,HB.out.grown hg HB.out.size (λk e=>by cases e;exact hbase)⟩;rw[hl];exact h'.row
variable{H:Type}
theorem OT(F:Fence)(n:Nat)(h10:F.fn 170)(hro:F.round=none)(hn:1<=n)(l Bm b nn:Nat)(D0:DataW H){R:Value->Option (DataW H×List MemPlace)}(J:List Int->World->Prop)
  (hY:∀pre x W,J pre W->pre.length<Maps.size D0->YieldAt F (n - 1) Tryz.prog l #[aW x] W λe W'=>e=.returned (.bool true)∧J (pre++ [x]) W'∧KeepsWalks W W')
  (W:World) (hJ:AbidesFrom W.heap.size J) (hm:W.cell? ⟨Bm,0,none⟩=some (.map (some b))) (hown:W.ownsMap Tryz.prog 34 R b nn D0) (h0:J [] W):
  CallsIn F n Tryz.prog 170 #[.func (.yield l) #[] #[],.pointer (some ⟨Bm,0,none⟩)] W λe W'=>(∃v,e=.returned v)∧∃ss:List Int,wI D0 ss∧J ss W':=by
 refine callsIn_of_wp Tryz.func170 rfl h10 ?_ hro;simp only[Tryz.ntmps170,List.size_toArray,dY,List.length_nil,Nat.reduceAdd,Nat.reduceSub,Array.replicate_succ,Array.replicate_zero,List.push_toArray,List.append_toArray,List.nil_append,List.cons_append]
 gi_wp2_with (first
  |(gi_at_range;refine wpListIn_range_own _ rfl _ 156 rfl 34 161 gy Tryz.underlying156 _ b nn _ rfl hown ?_;intro w0 hrg0 hg0 hs0)
  |gi_in)
 go_frame
 gi_loopw [3] (λ_ wr=>∃(left:Lit->Bool) (cnt:Nat) (ss:List Int),wr.ranges Tryz.prog 34 R b W.heap.size nn D0 left cnt∧ss.length+cnt<=Maps.size D0∧gD D0 left ss∧J ss wr)
  (λ_ wr=>wr.rangeLeft b W.heap.size)
 case atStart=>
  exact⟨_,_,[],hrg0,by simp,gD.start D0,hJ [] W w0 none h0 hg0 (λr e=>by cases e)⟩
 case round=>
  obtain⟨left,cnt,ss,hrg,hcs,hC,hJs⟩:=hrel
  gi_wp2_with (first
   |(gi_at_next;refine wpListIn_next_ranges _ rfl _ rfl 34 gy R aW id (λkey kl hk=>by obtain⟨x,hx,_⟩:=kW Tryz.underlying34 hk;exact⟨x,hx⟩) (λv _ _=>⟨v,rfl⟩) b W.heap.size nn _ _ _ rfl hrg ?_ ?_)
   |gi_in)
  ·intro hc0 hl0
   gi_wp2
   go_end0
   exact⟨⟨_,rfl⟩,ss,hC.keys hl0,hJs⟩
  ·intro x c kl yd yp w2 cnt2 hkey hlk hv hat hrg2 hlt hg2 hs2 hen;obtain⟨x',ex,rfl,hwf⟩:=kW Tryz.underlying34 hkey;obtain rfl:x=x':=BH ex;have hJ2:J ss w2:=hJ ss wr w2 (some W.heap.size) hJs hg2 (λr e=>by cases e;exact⟨aB _,hrg.iter_walk⟩);obtain⟨fn,tmps,assign,body,hy,hR⟩:=hY ss x w2 hJ2 (by omega);clear hs2
   gi_wp2
   refine hR.mono ?_;rintro e W3 ⟨rfl,hJ3,hk3⟩
   gi_wp2
   have hrg3:=hrg2.of_walks hk3;go_roundw
   case rel=>exact⟨_,cnt2,ss++ [x],hrg3,by simp;omega,hC.step hlk hat hwf,hJ3⟩
   case measure=>rw[hrg3.left_eq,hrg.left_eq];exact hlt
theorem G6(F:Fence)(n:Nat)(h10:F.fn 170)(hro:F.round=none)(hn:1<=n)(Bm b nn:Nat)(D0:DataW H){R:Value->Option (DataW H×List MemPlace)}(w:World)(hBm:Bm<w.heap.size)
  (hm:w.cell? ⟨Bm,0,none⟩=some (.map (some b))) (hown:w.ownsMap Tryz.prog 34 R b nn D0):
  SeqGives F n Tryz.prog 170 #[.pointer (some ⟨Bm,0,none⟩)] aW (wI D0) (Maps.size D0) w:=λl J W hW hJ hY h0=>by
 have hown':W.ownsMap Tryz.prog 34 R b nn D0:=by
  have hbl:=hown.lt;obtain⟨es,clock,hb,Ft,hs,hD⟩:=hown;exact⟨es,clock,(hW.block b hbl).trans hb,Ft,hs,hD⟩
 exact OT F n h10 hro hn l Bm b nn D0 J hY W hJ ((hW.cell (p:=⟨Bm,0,none⟩) hBm).trans hm) hown' h0
def aex(L:List (Bool×Int×Int))(w:World)(e:Ending)(w':World):Prop:=
 ∃v out,e=.returned v∧iT (mG L) (qI L) out∧out.length<=L.length+1∧w'.ownsRow w.heap.size 82 3 v out.length (RC out)∧Below w.heap.size w w'
theorem o8{L:List (Bool×Int×Int)}{k:Nat}{x:Bool×Int×Int}(h:L[k]?=some x):L.take (k+1)=L.take k++ [x]:=by
 obtain⟨hk,rfl⟩:=fu.1 h;exact List.take_succ_eq_append_getElem hk
open Go.WideElems
variable{M:Nat}{W:World}
theorem Ig:∀(l m:List Int),l.Nodup->(∀a∈l,a∈m)->l.length<=m.length
 | [],_,_,_=>b_ _
 |a::l,m,hn,hm=>by
  rw[List.nodup_cons]at hn;have h1:=Ig l (m.erase a) hn.2 λb hb=>by
   have hne:b≠a:=λe=>hn.1 (e▸hb);exact(List.mem_erase_of_ne hne).2 (hm b (iJ _ hb))
  have h2:a∈m:=hm a gm;have h3:=List.length_erase_of_mem h2;have h4:=List.length_pos_of_mem h2;simp only[dY];omega
theorem Im{H:Type}(l:List (Lit×DataW H))(p:Lit×DataW H)(h:p∈l.foldr DataW.insert []):p∈l:=by
 induction l with
 |nil=>simp at h
 |cons x l ih=>
  rw[List.foldr_cons]at h;rcases ChangeMaps.mem_insert_iff.1 h with rfl|h
  ·exact gm
  ·exact iJ _ (ih h)
theorem MapU.size_le{f:Int->Option Int}{s:Nat}(h:MapU W M f s)(l:List Int)(hl:∀d,a_ d->(f d).isSome=true->d∈l):s<=l.length:=by
 obtain⟨D,h1,h2,h3⟩:=h;obtain⟨es0,he0,hp⟩:=h1.tidy gy;obtain⟨es,clock,hb,F,hs,hD⟩:=h1;rw[hD]at he0;simp only[DataW.map.injEq]at he0;have hkey:∀p∈es0,∃d,a_ d∧p.1=.int .u32 d:=by
  intro p hp;rw[<-he0]at hp;have:=Im _ _ hp;obtain⟨x,hx,rfl⟩:=dh.1 this;obtain⟨y,hy⟩:=F.reads x hx;have h5:=rd_key hy;have h6:rg Tryz.prog 34 (plainElem Tryz.prog 34) x=y:=by
   unfold rg;rw[hy];rfl
  obtain⟨d,_,hd,hwf⟩:=kW Tryz.underlying34 h5;have hb:=bounds_u32 hwf;exact⟨d,⟨hb.1,by have:=hb.2;omega⟩,by rw[h6];exact hd⟩
 have hlen:es0.length=s:=by
  rw[<-h2,hD,he0];rfl
 have hmem:∀p∈es0,∀d,a_ d->p.1=.int .u32 d->d∈l:=by
  intro p hp d hd e;refine hl d hd ?_;rw[<-(h3 d hd).1,hD,he0,has_eq];rw[List.any_eq_true];exact⟨p,hp,by rw[e];simp[Lit.sameKey]⟩
 have hgen:∀es0:List (Lit×DataW Unit),es0.Pairwise (λp q=>p.1≠q.1)->(∀p∈es0,∃d,a_ d∧p.1=.int .u32 d)->∃ds:List Int,ds.length=es0.length∧ds.Nodup∧∀d∈ds,∃p∈es0,a_ d∧p.1=.int .u32 d:=by
  intro es0
  induction es0 with
  |nil=>intro _ _;exact⟨[],rfl,List.nodup_nil,λ_ h=>by cases h⟩
  |cons p es0 ih=>
   intro hp hk;rw[List.pairwise_cons]at hp;obtain⟨ds,e1,e2,e3⟩:=ih hp.2 λq hq=>hk q (iJ _ hq);obtain⟨d,hd,hpd⟩:=hk p gm;refine⟨d::ds,by simp[e1],List.nodup_cons.2 ⟨λhmem=> ?_,e2⟩,λd' hd'=> ?_⟩
   ·obtain⟨q,hq,_,Nu⟩:=e3 d hmem;exact hp.1 q hq (by rw[hpd,Nu])
   ·rcases eD.1 hd' with rfl|h
    ·exact⟨p,gm,hd,hpd⟩
    ·obtain⟨q,hq,h1⟩:=e3 d' h;exact⟨q,iJ _ hq,h1⟩
 obtain⟨ds,e1,e2,e3⟩:=hgen es0 hp hkey;rw[<-hlen,<-e1];exact Ig ds l e2 λd hd=>by
  obtain⟨p,hp,hu,he⟩:=e3 d hd;exact hmem p hp d hu he
def Zq(L:List (Bool×Int×Int)):Prop:=∃l:List Int,l.length<=12∧∀a,(mG L a).isSome=true->a∈l
theorem ab4{L:List (Bool×Int×Int)}{sz:Nat}(h:Zq L)(hm:MapU W M (mG L) sz):sz<=12:=by
 obtain⟨l,h1,h2⟩:=h;exact dH (hm.size_le l λd _ hd=>h2 d hd) h1
end Go.Proofs.YtakaadcpaeiccabGreat
