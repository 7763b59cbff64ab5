import Derived.Test.YtakaadcpaeiccabGreatV05
set_option maxHeartbeats 4000000
set_option maxRecDepth 100000
namespace Go.Proofs.YtakaadcpaeiccabGreat
open Go.RowKit Go.Maps
def UpP(M:Nat)(f:Int->Option Nat)(s0:Nat)(y:Rt)(w:World)(r:Ending)(w':World):Prop:=
 r=.returned (.int .i64 0)∧eD w.heap.size y (.slice none 0 0) w'∧fG w' M (eY f y.dest (some w.heap.size)) (if (f y.dest).isSome then s0 else s0+1)∧w.grownBy w' (some M)
theorem Kt(T M B s0:Nat)(me d s h n e:Int)(f:Int->Option Nat)(hd:¬d=me)(hd0:¬d=0)(EH:a_ d)(hs:a_ s)(x:Rt)(hxs:a_ x.seq)(v:Value)(hgr:Va (newR d s h n e) x=true)(w:World)(hT:FP T me M w)(hm:fG w M f s0)(hs0:s0<=100)
  (hf:f d=some B) (hL:eD B x v w):
  Calls Tryz.prog 161 #[.pointer (some ⟨T,0,none⟩),.int .u32 d,.int .u32 s,.int .i64 h,.int .u32 n,.int .u64 e] w (UpP M f s0 (newR d s h n e) w):=by
 have hb:Below w.heap.size w (w.alloc (cK (newR d s h n e) (.slice none 0 0))):=bC;have hN:=eD.new (newR d s h n e) (.slice none 0 0) w;have hL1:=hL.later hb;have hm1:=hm.block (hb.block M hm.lt);have hT1:=hT.block (hb.block T hT.lt);have hlk:=hm1.look_ok EH;rw[hf]at hlk;simp only[gJ,Option.isSome_some]at hlk;have q1:(d==me)=false:=by simpa using hd
 have q2:(d==0)=false:=by simpa using hd0
 have hMl:=hm.lt;obtain⟨c0,c1⟩:=hT.cell;obtain⟨t0,t1⟩:=hT1.cell;dsimp only[cK,newR]at hb hN hL1 t0 t1 hlk hm1 hT1;have hcall:=λW=>o8 (newR d s h n e) hs (.slice none 0 0) W;have Ay:=λW=>o8 x hxs v W;have HC1:=(show Hid _ from hcall);have HC2:=(show Hid _ from Ay);have Aw:∀W,Calls Tryz.prog 180 #[.agg #[.int .i64 (rk (newR d s h n e)),.int .i64 h],.agg #[.int .i64 (rk x),.int .i64 x.hops]] W λr w'=>r=.returned (.bool true)∧Below W.heap.size W w':=λW=>by
  rw[<-hgr];exact yu _ _ _ _ W
 have HC3:=(show Hid _ from Aw);clear hcall Ay Aw;go_enter Tryz.func161,Tryz.ntmps161;go_wp2_with fail;clear hlk t0 t1;generalize World.alloc _ _=W1 at hb hN hL1 hm1 hT1 ⊢;go_cut [51]from 41 (λr W=>r=.bool false∧Below W1.heap.size W1 W)
 case first=>
  have hS:Du w.heap.size B (newR d s h n e) x v W1 W1:=Du.start hN hL1;go_region_held3 (Du w.heap.size B (newR d s h n e) x v W1) (first|exact Du.drew (by assumption)|assumption|exact Du.below hN hL1 (by assumption) (by assumption)) (first
   |(go_at_call_of 179 (Value.int IntKind.u32 s);refine aU (HC1.out _) ?_;rintro r w3 ⟨rfl,hb3⟩)
   |(go_at_call_of 179 v;refine aU (HC2.out _) ?_;rintro r w4 ⟨rfl,hb4⟩)
   |(go_at_call 180;refine aU (HC3.out _) ?_;rintro r w5 ⟨rfl,hb5⟩))
  all_goals
   rename_i hS5;have aaA:=(show Du w.heap.size B (newR d s h n e) x v W1 _ from hS5).2.2;go_wp2_with fail;go_meet;exact⟨rfl,aaA⟩
 case rest=>
  obtain⟨rfl,hb2⟩:=hcut;have hbb:=hb.trans (hb2.mono hb.size);have FN:=hN.later hb2;have hm2:=hm1.block (hb2.block M hm1.lt);obtain⟨t0,t1⟩:=(hT1.block (hb2.block T hT1.lt)).cell;obtain⟨W6,hr,OC,jB⟩:=hm2.put (by unfold maxLen;omega) EH w.heap.size;have P9:=FN.block (jB.block _ FN.lt (λe=>by cases e;omega));have hg:w.grownBy W6 (some M):=⟨jB.os.trans hbb.os,jB.tape.trans hbb.tape,jB.output.trans hbb.output,dN hbb.size jB.size,λk hk hn=>(jB.block k (fZ hk hbb.size) hn).trans (hbb.block k hk)⟩;clear hb hN hL1 hm1 hT1 hb2 hbb FN hm2 jB;go_wp2;go_ret;exact⟨rfl,P9,OC,hg⟩
theorem Kr(T M s0:Nat)(me d s h n e:Int)(f:Int->Option Nat)(hd:¬d=me)(hd0:¬d=0)(EH:a_ d)(w:World)(hT:FP T me M w)(hm:fG w M f s0)(hs0:s0<=100)
  (hf:f d=none):
  Calls Tryz.prog 161 #[.pointer (some ⟨T,0,none⟩),.int .u32 d,.int .u32 s,.int .i64 h,.int .u32 n,.int .u64 e] w λr w'=>if 8<=s0 then r=.returned (.int .i64 4)∧Below w.heap.size w w' else UpP M f s0 (newR d s h n e) w r w':=by
 have hb:Below w.heap.size w (w.alloc (cK (newR d s h n e) (.slice none 0 0))):=bC;have hN:=eD.new (newR d s h n e) (.slice none 0 0) w;have hm1:=hm.block (hb.block M hm.lt);have hT1:=hT.block (hb.block T hT.lt);have hlk:=hm1.look_ok EH;rw[hf]at hlk;simp only[gJ,Option.isSome_none]at hlk;have q1:(d==me)=false:=by simpa using hd
 have q2:(d==0)=false:=by simpa using hd0
 have hMl:=hm.lt;obtain⟨c0,c1⟩:=hT.cell;obtain⟨t0,t1⟩:=hT1.cell;dsimp only[cK,newR]at hb hN t0 t1 hlk hm1 hT1;go_enter Tryz.func161,Tryz.ntmps161;go_wp2_with fail;clear hlk t0 t1;generalize World.alloc _ _=W1 at hb hN hm1 hT1 ⊢;go_quiet (fail);go_wp2_with fail;have hb2:Below W1.heap.size W1 (W1.drewN nq):=below_drewN (aV _ _) _;have hbb:=hb.trans (hb2.mono hb.size);have FN:=hN.later hb2;have hm2:=hm1.block (hb2.block M hm1.lt);have MC:=hT1.block (hb2.block T hT1.lt);clear hb hN hm1 hT1 hb2;generalize World.drewN _ _=W2 at hbb FN hm2 MC ⊢;refine(Ic T M s0 me f _ MC hm2).mono ?_;rintro r w3 ⟨rfl,rfl⟩;obtain⟨t0,t1⟩:=MC.cell;by_cases h8:8<=s0
 ·have hd8:decide (8<=s0)=true:=f_ h8;go_wp2;go_ret;exact⟨rfl,hbb⟩
 ·have hd8:decide (8<=s0)=false:=eU h8;obtain⟨W6,hr,OC,jB⟩:=hm2.put (by unfold maxLen;omega) EH w.heap.size;have P9:=FN.block (jB.block _ FN.lt (λe=>by cases e;omega));have hg:w.grownBy W6 (some M):=⟨jB.os.trans hbb.os,jB.tape.trans hbb.tape,jB.output.trans hbb.output,dN hbb.size jB.size,λk hk hn=>(jB.block k (fZ hk hbb.size) hn).trans (hbb.block k hk)⟩;clear hbb FN hm2 MC jB;go_wp2;go_ret;exact⟨rfl,P9,OC,hg⟩
theorem LP{d s h n e:Int}(hd:a_ d)(hs:a_ s)(hh:oV h)(hn:a_ n)(he:Be e):(newR d s h n e).Ok:=⟨hd,hs,hh,hn,he,by simp,by simp,by simp⟩
theorem Bf.fresh{me:Int}{T M:Nat}{f:Int->Option Nat}{g:Int->Value}{A:List Rt}{S:Nat->Prop}{w w':World}(hM:MT me T M f g A w)(hS:∀k,mZ T M f g A k->S k){y:Rt}(hok:y.Ok)(hbef:y.bL=[]){A':List Rt}(hL:eD w.heap.size y (.slice none 0 0) w')(hm:fG w' M (eY f y.dest (some w.heap.size)) A'.length)(hg:w.grownBy w' (some M))
  (hmem:∀z∈A',z=y∨(z∈A∧z.dest≠y.dest)) (hy:y∈A') (hsub:∀z∈A,z.dest≠y.dest->z∈A') (hasc:Asc A') (hlen:A'.length<=8):Bf me T (ext S w.heap.size w'.heap.size) A' w'∧Fx S w w':=by
 obtain⟨h1,h2⟩:=hM.fresh rfl hok hbef (aB _) hL hm (λk hk hkM=>hg.block k hk (λe=>hkM (by cases e;rfl))) hmem hy hsub hasc hlen;refine⟨⟨M,_,_,h1,λk hk=> ?_⟩,Fx.grown hg (λk e=>by cases e;exact hS _ (.inr (.inl rfl)))⟩;rcases h2 k hk with h3|rfl
 ·exact .inl (hS k h3)
 ·exact .inr ⟨aB _,hL.lt⟩
theorem Ku(me:Int)(T:Nat)(S:Nat->Prop)(A:List Rt)(d s h n e:Int)(hd:a_ d)(hs:a_ s)(hh:oV h)(hn:a_ n)(he:Be e)(w:World)(aeu:Bf me T S A w):
  Calls Tryz.prog 161 #[.pointer (some ⟨T,0,none⟩),.int .u32 d,.int .u32 s,.int .i64 h,.int .u32 n,.int .u64 e] w λr w'=>r=.returned (.int .i64 (fA me A d s h n e).2)∧Bf me T (ext S w.heap.size w'.heap.size) (fA me A d s h n e).1 w'∧Fx S w w':=by
 obtain⟨M,f,g,hM,hS⟩:=aeu;have hold:∀w',Below w.heap.size w w'->Bf me T (ext S w.heap.size w'.heap.size) A w'∧Fx S w w':=λw' hb=>⟨⟨M,f,g,hM.later hb,λk hk=> .inl (hS k hk)⟩,Fx.below hb⟩;unfold fA;by_cases hown:d=me∨d=0
 ·rw[aI hown];refine(Ko T M me d s h n e hown w hM.blk).mono ?_;rintro r w' ⟨rfl,rfl⟩;exact⟨rfl,hold _ (aV _ _)⟩
 ·rw[ay hown];have hd1:¬d=me:=λh=>hown (.inl h);have hd0:¬d=0:=λh=>hown (.inr h);cases hl:aK A d with
  |some x=>
   obtain⟨hx,hxd,B,hB,hL,hR⟩:=hM.line hl;dsimp only;cases hgr:Va (newR d s h n e) x with
   |false=>
    rw[ay (by simp)];have hb:Below w.heap.size w (w.alloc (cK (newR d s h n e) (.slice none 0 0))):=bC;have hlk:=(hM.map.block (hb.block M hM.map.lt)).look_ok hd;rw[hB]at hlk;refine(Kq T M B me d s h n e hd1 hd0 hs x (hM.ok x hx).seq (g d) hgr w hM.blk hlk hL).mono ?_;rintro r w' ⟨rfl,hb'⟩;exact⟨rfl,hold _ hb'⟩
   |true=>
    rw[aI rfl];refine(Kt T M B A.length me d s h n e f hd1 hd0 hd hs x (hM.ok x hx).seq (g d) hgr w hM.blk hM.map (by have:=hM.len;omega) hB hL).mono ?_;rintro r w' ⟨rfl,hL',hm',hg'⟩;rw[show(f (newR d s h n e).dest).isSome=true by rw[show(newR d s h n e).dest=d from rfl,hB];rfl,aI rfl]at hm';have hmem:∀z∈gK A d (zD s h n e),z=newR d s h n e∨(z∈A∧z.dest≠d):=by
     intro z hz;rcases vD hz with⟨z0,hz0,adC,rfl⟩|hz
     ·left;unfold zD;rw[adC]
     ·exact .inr hz
    have adE:newR d s h n e∈gK A d (zD s h n e):=dW.2 ⟨x,hx,by rw[aI hxd];unfold zD;rw[hxd]⟩;refine⟨rfl,Bf.fresh (A':=gK A d (zD s h n e)) hM hS (LP hd hs hh hn he) rfl hL' (by rw[jk];exact hm') hg' hmem adE (λz hz hzd=>dW.2 ⟨z,hz,ay hzd⟩) (GL hM.yE _ _ (λ_=>rfl)) (by rw[jk];exact hM.len)⟩
  |none=>
   have hf:=hM.off hd hl;dsimp only;refine(Kr T M A.length me d s h n e f hd1 hd0 hd w hM.blk hM.map (by have:=hM.len;omega) hf).mono ?_;intro r w' hr;by_cases h8:8<=A.length
   ·rw[aI h8]at hr ⊢;obtain⟨rfl,hb'⟩:=hr;exact⟨rfl,hold _ hb'⟩
   ·rw[ay h8]at hr ⊢;obtain⟨rfl,hL',hm',hg'⟩:=hr;rw[show(f (newR d s h n e).dest).isSome=false by rw[show(newR d s h n e).dest=d from rfl,hf];rfl,ay (by simp)]at hm';have hn':=j4.1 hl;refine⟨rfl,Bf.fresh (A':=um A (newR d s h n e)) hM hS (LP hd hs hh hn he) rfl hL' (by rw[nO];exact hm') hg' (λz hz=> ?_) (qP.2 (.inl rfl)) (λz hz _=>qP.2 (.inr hz)) (R_ hM.yE hl) (by rw[nO];omega)⟩;rcases qP.1 hz with h1|h1
    ·exact .inl h1
    ·exact .inr ⟨h1,hn' z h1⟩
def A8(n:Int)(y:Rt):Rt:=if y.valid=true∧y.bL.length<4∧n ∉ y.bL then {y with bL:=nC n y.bL}else y
def kM(A:List Rt)(d n:Int):List Rt:=gK A d (A8 n)
theorem mH(n:Int)(y:Rt):(A8 n y).dest=y.dest:=by
 unfold A8;split<;>rfl
theorem x_(a:Int)(l:List Int)(h:a ∉ l):(nC a l).length=l.length+1:=by
 induction l with
 |nil=>rfl
 |cons x l ih=>
  unfold nC;rw[ay (λe=>h (by simp[e]))];split
  ·rfl
  ·simp[ih (λe=>h (by simp[e]))]
theorem BF(T:Nat)(d n:Int)(w:World)(hv:Calls Tryz.prog 116 #[.pointer (some ⟨T,0,none⟩),.int .u32 d] w λe w'=>e=.returned (.pointer none)∧w'=w):
  Calls Tryz.prog 182 #[.pointer (some ⟨T,0,none⟩),.int .u32 d,.int .u32 n] w λe w'=>e=.returned (.tuple #[])∧w'=w:=by
 have HV:=(show Hid _ from hv);clear hv;go_enter Tryz.func182,Tryz.ntmps182;go_wp2_with fail;refine aU HV.out ?_;rintro e w1 ⟨rfl,rfl⟩;clear HV;go_wp2;go_returns;exact⟨rfl,rfl⟩
theorem I6(T:Nat)(d n:Int)(B:Nat)(x:Rt)(v:Value)(hx:x.bL.Pairwise (·<·))(hx4:x.bL.length<=4)(w:World)(hv:Calls Tryz.prog 116 #[.pointer (some ⟨T,0,none⟩),.int .u32 d] w λe w'=>e=.returned (.pointer (some ⟨B,0,none⟩))∧w'=w)(h:eD B x v w)(hr:w.ownsRow 0 34 1 v x.bL.length (x.bL.map aX)):
  Calls Tryz.prog 182 #[.pointer (some ⟨T,0,none⟩),.int .u32 d,.int .u32 n] w λe w'=>e=.returned (.tuple #[])∧
   ((¬(x.bL.length<4∧n ∉ x.bL)∧w'=w)∨((x.bL.length<4∧n ∉ x.bL)∧∃v',eD B {x with bL:=nC n x.bL} v' w'∧w'.ownsRow 0 34 1 v' (nC n x.bL).length ((nC n x.bL).map aX)∧
    (v'.ownBlock=v.ownBlock∨∀k,v'.ownBlock=some k->w.heap.size<=k)∧w.heap.size<=w'.heap.size∧w'.os=w.os∧w'.tape=w.tape∧w'.output=w.output∧∀k,k<w.heap.size->k≠B->v.ownBlock≠some k->w'.heap[k]?=w.heap[k]?)):=by
 have hrB:v.ownBlock≠some B:=aL hr h (λc e=>by cases e);obtain⟨ao,c,rfl,_⟩:=ax hr;obtain⟨c0,c1,c2,c3,c4,c5,c6⟩:=h.cell;have HV:=(show Hid _ from hv);clear hv;by_cases h4:x.bL.length<4
 ·have hd4:decide (4<=(x.bL.length:Int))=false:=eU (by omega);have ael:decide (4<=x.bL.length)=false:=eU (by omega);go_enter Tryz.func182,Tryz.ntmps182;go_wp2_with fail;refine aU HV.out ?_;rintro e w1 ⟨rfl,rfl⟩;clear HV;go_wp2_with fail;refine(Ky _ x.bL.length x.bL n _ hr hx (by omega)).mono ?_;rintro e w2 ⟨i,hi,hlo,hhi,rfl,rfl⟩;have hiff:(x.bL[i]?==some n)=decide (n∈x.bL):=by
   by_cases hm:n∈x.bL
   ·obtain⟨k,hk⟩:=List.getElem?_of_mem hm;have hkl:=(fO.1 hk).1;have:k=i:=by
     rcases Nat.lt_trichotomy k i with h|h|h
     ·have:=hlo k n h hk;omega
     ·exact h
     ·obtain⟨y,hy⟩:∃y,x.bL[i]?=some y:=⟨_,bS (by omega)⟩;have h1:=hhi i y (aB _) hy;obtain⟨hk',rfl⟩:=fO.1 hk;obtain⟨hi',rfl⟩:=fO.1 hy;have:=List.pairwise_iff_getElem.1 hx i k hi' hk' h;omega
    subst this;rw[hk];simp[hm]
   ·rw[eU hm];cases hy:x.bL[i]? with
    |none=>rfl
    |some y=>
     have:y≠n:=λe=>hm (by rw[<-e];exact iV hy);simpa using this
  rw[hiff];by_cases hm:n∈x.bL
  ·have Mv:decide (n∈x.bL)=true:=f_ hm;rw[Mv];go_wp2;go_returns;exact⟨rfl,.inl ⟨λh=>h.2 hm,rfl⟩⟩
  ·have Mv:decide (n∈x.bL)=false:=eU hm;rw[Mv];have hb1:Below w2.heap.size w2 (w2.alloc (.cells #[.int .u32 n] 34)):=bC;have hN:=bV w2 (.cells #[.int .u32 n] 34);have hr1:=aN hr hb1;have hL1:=h.later hb1;have hlt:=hr.lt;have hins:=WT hlo (λj y hj hy=>by have:=hhi j y hj hy;omega) hi hm;have hlen:=x_ n x.bL hm;have hP:=(show Hid _ from hins);have hP2:=(show Hid _ from hlen);clear hins hlen hlo hhi hiff Mv c0 c1 c2 c3 c4 c5;go_wp2_with fail;clear c6;generalize World.alloc _ _=W1 at hb1 hN hr1 hL1 ⊢;refine(KL _ x.bL.length i x.bL n w2.heap.size _ hr1 hi hN (λe=>by have:=(hlt _ e).2;omega) (by omega)).mono ?_;rintro e W2 ⟨v',rfl,ho2,hg2,hvb⟩;obtain⟨rF,c2',rfl,_⟩:=ax ho2;have hL2:=hL1.block (hg2.block B hL1.lt (λe=>hrB e.symm));have hL3:=hL2.Zp (.slice rF (x.bL.length+1) c2') (nC n x.bL);have hg3:W2.grownBy (W2.setCell ⟨B,6,none⟩ (.slice rF (x.bL.length+1) c2')) (some B):=ah (aC _ _) 6 _;have hB2:=aL ho2 hL2 (λc e=>by cases e);have ho3:=ho2.kept hg3 (.inr hB2);have f6:=hL2.free 6;obtain⟨_,_,_,_,_,_,c6⟩:=hL2.cell;have hsz:=dN hb1.size hg2.size;have hfr:Hid (∀k,k<w2.heap.size->k≠B->(Value.slice ao x.bL.length c).ownBlock≠some k->(W2.setCell ⟨B,6,none⟩ (.slice rF (x.bL.length+1) c2')).heap[k]?=w2.heap[k]?):=λk hk hkB hkv=>
    (hg3.block k (fZ hk hsz) (λe=>hkB (by cases e;rfl))).trans ((hg2.block k (fZ hk hb1.size) (λe=>hkv e.symm)).trans (hb1.block k hk))
   have hos:(W2.setCell ⟨B,6,none⟩ (.slice rF (x.bL.length+1) c2')).os=w2.os:=hg3.os.trans (hg2.os.trans hb1.os);have htp:(W2.setCell ⟨B,6,none⟩ (.slice rF (x.bL.length+1) c2')).tape=w2.tape:=hg3.tape.trans (hg2.tape.trans hb1.tape);have hou:(W2.setCell ⟨B,6,none⟩ (.slice rF (x.bL.length+1) c2')).output=w2.output:=hg3.output.trans (hg2.output.trans hb1.output);have B_:w2.heap.size<=(W2.setCell ⟨B,6,none⟩ (.slice rF (x.bL.length+1) c2')).heap.size:=dN hsz hg3.size;have adM:(Value.slice rF (x.bL.length+1) c2').ownBlock=(Value.slice ao x.bL.length c).ownBlock∨∀k,(Value.slice rF (x.bL.length+1) c2').ownBlock=some k->w2.heap.size<=k:=by
    rcases hvb with e|e
    ·exact .inl e
    ·exact .inr (λk hk=>dN hb1.size (e k hk))
   rw[hP.out]at ho3;clear hL1 hr1 hN hb1 ho2 hg2 hL2 hg3 hB2 hvb hsz;go_wp2;generalize World.setCell _ _ _=W3 at hL3 ho3 hfr hos htp hou B_ ⊢;go_returns;exact⟨rfl,.inr ⟨⟨h4,hm⟩,_,hL3,by rw[hP2.out];exact ho3,adM,B_,hos,htp,hou,hfr.out⟩⟩
 ·have hd4:decide (4<=(x.bL.length:Int))=true:=f_ (by omega);have ael:decide (4<=x.bL.length)=true:=f_ (by omega);go_enter Tryz.func182,Tryz.ntmps182;go_wp2_with fail;refine aU HV.out ?_;rintro e w1 ⟨rfl,rfl⟩;clear HV;go_wp2;go_returns;exact⟨rfl,.inl ⟨λh=>h4 h.1,rfl⟩⟩
theorem KW(me:Int)(T:Nat)(S:Nat->Prop)(A:List Rt)(d n:Int)(hd:a_ d)(hn:a_ n)(w:World)(h:Bf me T S A w):
  Calls Tryz.prog 182 #[.pointer (some ⟨T,0,none⟩),.int .u32 d,.int .u32 n] w λe w'=>e=.returned (.tuple #[])∧Bf me T (ext S w.heap.size w'.heap.size) (kM A d n) w'∧Fx S w w':=by
 obtain⟨M,f,g,hM,hS⟩:=h;have hold:Bf me T (ext S w.heap.size w.heap.size) A w∧Fx S w w:=⟨⟨M,f,g,hM,λk hk=> .inl (hS k hk)⟩,Fx.refl _ _⟩;have hv:=rH hM hd;unfold tH at hv;cases hl:aK A d with
 |none=>
  rw[hl]at hv;refine(BF T d n w hv).mono ?_;rintro e w' ⟨rfl,rfl⟩;have h2:kM A d n=A:=by unfold kM;rw[oH hl]
  rw[h2];exact⟨rfl,hold⟩
 |some x=>
  rw[hl]at hv;obtain⟨hx,hxd,B,hB,hL,hR⟩:=hM.line hl;rw[hB]at hv;have hok:=hM.ok x hx;have hsame:¬(x.valid=true∧x.bL.length<4∧n ∉ x.bL)->kM A d n=A:=λhc=>pz hM.yE λy hy=>by
   rw[hl]at hy;cases hy;unfold A8;rw[ay hc]
  cases hxv:x.valid with
  |false=>
   simp only[hxv]at hv;refine(BF T d n w hv).mono ?_;rintro e w' ⟨rfl,rfl⟩;rw[hsame (λh=>by rw[hxv]at h;cases h.1)];exact⟨rfl,hold⟩
  |true=>
   simp only[hxv,if_true,Option.map_some]at hv;refine(I6 T d n B x (g d) hok.yE hok.Ue w hv hL hR).mono ?_;rintro e w' ⟨rfl,⟨hc,rfl⟩|⟨hc,v',hL',ho',hvb,hsz,hos,htp,hou,hfr⟩⟩
   ·rw[hsame (λh=>hc h.2)];exact⟨rfl,hold⟩
   ·have hF:A8 n x={x with bL:=nC n x.bL}:=aI ⟨hxv,hc⟩;have ht:=hM.turn (W':=w') hl hB (A8 n) (mH n) (by
     rw[hF];refine⟨hok.dest,hok.seq,hok.hops,hok.next,hok.exp,?_,?_,L_ n x.bL hok.yE⟩
     ·have:=x_ n x.bL hc.2;dsimp only;omega
     ·intro b hb;rcases(Ag n x.bL b).1 hb with rfl|hb
      ·exact hn
      ·exact hok.bL b hb) v' (by rw[hF];exact hL') (by rw[hF];exact ho') (by rcases hvb with e|e;exact .inr (.inl e);exact .inr (.inr e)) (λk hk hkB hkv=>hfr k (hM.lt hk) hkB hkv)
    refine⟨rfl,⟨M,f,_,ht.1,λk hk=> ?_⟩,⟨hos,htp,hou,hsz,λk hk hkS=>hfr k hk (λe=>hkS (by rw[e];exact hS _ (hM.inB hl hB))) (λe=>hkS (hS k (.inr (.inr ⟨x,hx,.inr (by rw[hxd];exact e)⟩))))⟩⟩;rcases ht.2 k hk with h1|h1
    ·exact .inl (hS k h1)
    ·rcases hvb with e|e
     ·exact .inl (hS k (.inr (.inr ⟨x,hx,.inr (by rw[hxd,<-e];exact h1)⟩)))
     ·exact .inr ⟨e k h1,(ho'.lt k h1).2⟩
open Go.Sort
theorem Cw(a j:Nat)(d:Array Int)(hj:a<j)(hl:ltInt d[j]! d[j - 1]! =true):insInner ltInt a j d=insInner ltInt a (j - 1) (swp d j (j - 1)):=by
 match j,hj with
 |k+1,hj=>
  rw[insInner];simp only[Nat.add_sub_cancel]at hl ⊢;rw[aI];simp[hj,hl]
theorem nJ(a j:Nat)(d:Array Int)(h:j<=a∨ltInt d[j]! d[j - 1]! =false):insInner ltInt a j d=d:=by
 match j with
 |0=>rw[insInner]
 |k+1=>
  rw[insInner];simp only[Nat.add_sub_cancel]at h;rw[ay];rcases h with h|h
  ·simp;omega
  ·simp[h]
theorem rM(a b i:Nat)(d:Array Int)(h:i<b):insOuter ltInt a b i d=insOuter ltInt a b (i+1) (insInner ltInt a i d):=by rw[insOuter,aI h]
theorem xQ(a b i:Nat)(d:Array Int)(h:¬i<b):insOuter ltInt a b i d=d:=by rw[insOuter,ay h]
theorem nX(base g cap n a b:Nat)(d:Array Int)(w:World)(h:SR base g cap n d w)(hab:a<=b)(hb:b<=n)(hn:n<=1000000):
  Calls Tryz.prog 183 #[.slice (some ⟨g,0,none⟩) n cap,.int .i64 a,.int .i64 b] w λe w'=>e=.returned (.tuple #[])∧SR base g cap n (insertionSort ltInt d a b) w'∧w.grownBy w' (some g):=by
 go_enter Tryz.func183,Tryz.ntmps183;go_wp2_with fail;go_loopw [6] (λvi wr=>∃(i:Nat) (dk:Array Int),vi=.int .i64 i∧a<i∧i<=b+1∧SR base g cap n dk wr∧w.grownBy wr (some g)∧insOuter ltInt a b i dk=insertionSort ltInt d a b) (λvi _=>b+1 - (intOf vi).toNat)
 case atStart=>exact⟨a+1,d,by go_num,by omega,by omega,h,nR _ _,rfl⟩
 case round=>
  clear h;obtain⟨i,dk,rfl,hai,hib,h,hg,hO⟩:=hrel;have HO:=(show Hid _ from hO);clear hO;by_cases hlt:i<b
  ·have hix:(i:Int)<(b:Int):=by omega
   go_wp2_with fail;go_loopw [7] (λvj wr2=>∃(j:Nat) (dj:Array Int),vj=.int .i64 j∧a<=j∧j<=i∧SR base g cap n dj wr2∧w.grownBy wr2 (some g)∧insInner ltInt a j dj=insInner ltInt a i dk) (λvj _=>(intOf vj).toNat)
   case atStart=>exact⟨i,dk,rfl,by omega,aB _,h,hg,rfl⟩
   case round=>
    clear h hg;obtain⟨j,dj,rfl,haj,hji,h,hg,hI⟩:=hrel;have hjn:(j:Int)<(n:Int):=by omega
    have aeg:(j:Int) - 1<(n:Int):=by omega
    by_cases hja:a<j
    ·have hjp:(1:Int)<=(j:Int):=by omega
     have c0:=h.cell (j:=j) (by omega);have c1:=h.cell (j:=j - 1) (by omega);have f0:=h.free j;have f1:=h.free (j - 1);have hq:(j:Int) - 1=((j - 1:Nat):Int):=by omega
     have hs:=h.swap j (j - 1);have hgs:=λu v=>pQ wr g j (j - 1) u v;have hgo:=Cw a j dj hja;have hst:=nJ a j dj;generalize hX:dj[j]! =X at c0 hs hgo hst;generalize hY:dj[j - 1]! =Y at c1 hs hgo hst;have hJn:((j - 1:Nat):Int)<(n:Int):=by omega
     have hj0:(0:Int)<=(j:Int) - 1:=by omega
     generalize hJ:j - 1=J at c1 f1 hq hs hgs hgo hst hJn;have HJ:=(show Hid _ from hJ);have HI:=(show Hid _ from hI);have HS:=(show Hid _ from hst);clear hJ hI hst;have hdj:decide (a<j)=true:=f_ hja;go_wp2_with fail;go_quiet (first|(go_at_call 189;refine Calls.quiet_of_same (wu _ _ _)));cases hl:ltInt X Y
     ·go_wp2;go_roundw
      case rel=>exact⟨i+1,dj,by go_num,by omega,by omega,h.drewN _,hg.trans (oJ _ _ _),by rw[<-HO.out,rM _ _ _ _ hlt,<-HI.out,HS.out (.inr hl)]⟩
      case measure=>simp[intOf];omega
     ·have hs':=(h.drewN (nq+1)).swap j J;have hg':=hg.trans ((oJ wr (nq+1) (some g)).trans (pQ _ g j J (.int .u32 dj[J]!) (.int .u32 dj[j]!)));rw[hX,<-HJ.out,hY,HJ.out]at hs' hg';have hJj:J+1=j:=by have:=HJ.out;omega
      clear hX hY;go_wp2_with fail;go_region
      all_goals go_wp2
      go_roundw
      case rel=>exact⟨J,swp dj j J,rfl,by omega,by omega,hs',hg',by rw[<-HI.out,hgo hl]⟩
      case measure=>simp[intOf];omega
    ·have hdj:decide (a<j)=false:=eU hja;have hst:=nJ a j dj (.inl (by omega));go_wp2_with fail;go_quiet (fail);go_wp2;go_roundw
     case rel=>exact⟨i+1,dj,by go_num,by omega,by omega,h.drewN _,hg.trans (oJ _ _ _),by rw[<-HO.out,rM _ _ _ _ hlt,<-hI,hst]⟩
     case measure=>simp[intOf];omega
  ·have hend:insOuter ltInt a b i dk=dk:=xQ a b i dk hlt;rw[HO.out]at hend;rw[<-hend]at h;go_wp2;go_returns;exact⟨rfl,h,hg⟩
def tab:ByteArray:=⟨#[0,1,2,2,3,3,3,3,4,4,4,4,4,4,4,4,5,5,5,5,5,5,5,5,5,5,5,5,5,5,5,5,6,6,6,6,6,6,6,6,6,6,6,6,6,6,6,6,6,6,6,6,6,6,6,6,6,6,6,6,6,6,6,6,7,7,7,7,7,7,7,7,7,7,7,7,7,7,7,7,7,7,7,7,7,7,7,7,7,7,7,7,7,7,7,7,7,7,7,7,7,7,7,7,7,7,7,7,7,7,7,7,7,7,7,7,7,7,7,7,7,7,7,7,7,7,7,7,8,8,8,8,8,8,8,8,8,8,8,8,8,8,8,8,8,8,8,8,8,8,8,8,8,8,8,8,8,8,8,8,8,8,8,8,8,8,8,8,8,8,8,8,8,8,8,8,8,8,8,8,8,8,8,8,8,8,8,8,8,8,8,8,8,8,8,8,8,8,8,8,8,8,8,8,8,8,8,8,8,8,8,8,8,8,8,8,8,8,8,8,8,8,8,8,8,8,8,8,8,8,8,8,8,8,8,8,8,8,8,8,8,8,8,8,8,8,8,8,8,8,8,8,8,8,8,8]⟩
theorem Jq:∀k,(h:k<tab.size)->tab[k].toNat<=8∧(0<k->2 ^ tab[k].toNat<=2 * k):=of_decide_eq_true (by kernel_rfl)
theorem w64{x:Int}(h:0<=x)(h':x<1000):wrap64 x=x:=by
 unfold wrap64;omega
theorem Ov(x:Nat)(hx:x<=1000000)(w:World):
  Calls Tryz.prog 193 #[.int .u64 x] w λe w'=>∃r:Nat,e=.returned (.int .i64 r)∧r<=32∧(0<x->2 ^ r<=2 * x)∧w'=w:=by
 have h0:decide ((4294967296:Int)<=(x:Int))=false:=eU (by omega);by_cases h1:65536<=x
 ·have h1':decide ((65536:Int)<=(x:Int))=true:=f_ (by omega);go_enter Tryz.func193,Tryz.ntmps193;go_wp2;generalize hT:UInt8.toNat _=t;have hP:t<=8∧(0<x / 65536->2 ^ t<=2 * (x / 65536)):=by
   rw[<-hT];exact Jq _ _
  clear hT;rw[w64 (x:=(t:Int)) (by omega) (by omega),w64 (x:=16+(t:Int)) (by omega) (by omega)];go_ret;refine⟨16+t,by go_num,by omega,λ_=> ?_,rfl⟩;rw[Nat.pow_add];have:=hP.2 (by omega);omega
 ·have h1':decide ((65536:Int)<=(x:Int))=false:=eU (by omega);by_cases h2:256<=x
  ·have h2':decide ((256:Int)<=(x:Int))=true:=f_ (by omega);go_enter Tryz.func193,Tryz.ntmps193;go_wp2;generalize hT:UInt8.toNat _=t;have hP:t<=8∧(0<x / 256->2 ^ t<=2 * (x / 256)):=by
    rw[<-hT];exact Jq _ _
   clear hT;rw[w64 (x:=(t:Int)) (by omega) (by omega),w64 (x:=8+(t:Int)) (by omega) (by omega)];go_ret;refine⟨8+t,by go_num,by omega,λ_=> ?_,rfl⟩;rw[Nat.pow_add];have:=hP.2 (by omega);omega
  ·have h2':decide ((256:Int)<=(x:Int))=false:=eU (by omega);go_enter Tryz.func193,Tryz.ntmps193;go_wp2;generalize hT:UInt8.toNat _=t;have hP:t<=8∧(0<x->2 ^ t<=2 * x):=by
    rw[<-hT];exact Jq _ _
   clear hT;rw[w64 (x:=(t:Int)) (by omega) (by omega),w64 (x:=(t:Int)) (by omega) (by omega)];go_ret;exact⟨t,rfl,by omega,hP.2,rfl⟩
theorem Et(x:Nat)(hx:x<=1000000)(w:World):
  Calls Tryz.prog 173 #[.int .u64 x] w λe w'=>∃r:Nat,e=.returned (.int .i64 r)∧r<=32∧(0<x->2 ^ r<=2 * x)∧w'=w:=by
 go_enter Tryz.func173,Tryz.ntmps173;go_wp2_with fail;refine(Ov x hx w).mono ?_;rintro e w' ⟨r,rfl,h1,h2,rfl⟩;go_wp2;go_ret;exact⟨r,rfl,h1,h2,rfl⟩
def PQ(base g cap n a b:Nat)(d:Array Int)(w:World)(e:Ending)(w':World):Prop:=
 e=.returned (.tuple #[])∧∃d',SR base g cap n d' w'∧PermIn a b d d'∧SortedIn ltInt a b d'∧w.grownBy w' (some g)
theorem Ea(base g cap n r:Nat)(d:Array Int)(w:World)(h:SR base g cap n d w)(hn:n<=12):
  Calls Tryz.prog 172 #[.slice (some ⟨g,0,none⟩) n cap,.int .i64 0,.int .i64 n,.int .i64 r] w (PQ base g cap n 0 n d w):=by
 have aem:decide ((n:Int)<=12)=true:=f_ (by omega);have acI:decide (n<=12)=true:=f_ hn;obtain⟨i1,i2⟩:=insertionSort_holds swo_ltInt d 0 n (dm _) (by rw[h.size];exact aB _);go_enter Tryz.func172,Tryz.ntmps172;go_wp2_with fail;go_loopw [1,2] (λva vb wr=>va=.int .i64 0∧vb=.int .i64 n∧SR base g cap n d wr∧w.grownBy wr (some g)) (λ_ _ _=>0)
 case atStart=>exact⟨rfl,rfl,h,nR _ _⟩
 case round=>
  obtain⟨rfl,rfl,h1,hg⟩:=hrel;have hcall:=(show Hid _ from nX base g cap n 0 n d _ h1 (dm _) (aB _) (by omega));clear h h1;go_wp2_with fail;refine aU hcall.out ?_;rintro e W2 ⟨rfl,h2,hg2⟩;clear hcall;go_wp2;go_returns;exact⟨rfl,_,h2,i1,i2,hg.trans hg2⟩
theorem uX(base g cap n:Nat)(d:Array Int)(w:World)(h:SR base g cap n d w)(hn:n<=12):
  Calls Tryz.prog 140 #[.slice (some ⟨g,0,none⟩) n cap] w (PQ base g cap n 0 n d w):=by
 go_enter Tryz.func140,Tryz.ntmps140;go_wp2_with fail;refine(Et n (by omega) _).mono ?_;rintro e w1 ⟨r,rfl,hr,_,rfl⟩;have hp:=Ea base g cap n r d _ h hn;have HP:=(show Hid _ from hp);clear hp;go_wp2_with fail;refine aU HP.out ?_;rintro e w2 ⟨rfl,d',h',hp,hs,hg⟩;clear HP;go_wp2;go_returns;exact⟨rfl,d',h',hp,hs,hg⟩
theorem BZ(w:World):
  Calls Tryz.prog 183 #[.slice none 0 0,.int .i64 0,.int .i64 0] w λe w'=>e=.returned (.tuple #[])∧w.grownBy w' none:=by
 go_enter Tryz.func183,Tryz.ntmps183;go_wp2_with fail;go_loopw [6] (λvi wr=>vi=.int .i64 1∧w.grownBy wr none) (λ_ _=>0)
 case atStart=>exact⟨rfl,nR _ _⟩
 case round=>
  obtain⟨rfl,hg⟩:=hrel;go_wp2;go_returns;exact⟨rfl,hg⟩
theorem Wo(r:Nat)(w:World):
  Calls Tryz.prog 172 #[.slice none 0 0,.int .i64 0,.int .i64 0,.int .i64 r] w λe w'=>e=.returned (.tuple #[])∧w.grownBy w' none:=by
 go_enter Tryz.func172,Tryz.ntmps172;go_wp2_with fail;go_loopw [1,2] (λva vb wr=>va=.int .i64 0∧vb=.int .i64 0∧w.grownBy wr none) (λ_ _ _=>0)
 case atStart=>exact⟨rfl,rfl,nR _ _⟩
 case round=>
  obtain⟨rfl,rfl,hg⟩:=hrel;go_wp2_with fail;refine(BZ _).mono ?_;rintro e w1 ⟨rfl,h1⟩;go_wp2;go_returns;exact⟨rfl,hg.trans h1⟩
theorem Qo(w:World):
  Calls Tryz.prog 140 #[.slice none 0 0] w λe w'=>e=.returned (.tuple #[])∧w.grownBy w' none:=by
 go_enter Tryz.func140,Tryz.ntmps140;go_wp2_with fail;refine(Et 0 (by omega) _).mono ?_;rintro e w1 ⟨r,rfl,hr,_,rfl⟩;go_wp2_with fail;refine(Wo r _).mono ?_;rintro e w2 ⟨rfl,hg⟩;go_wp2;go_returns;exact⟨rfl,hg⟩
variable{d:Array Int}{n:Nat}
theorem z8{d':Array Int}(hd:d.size=n)(h:PermIn 0 n d d'):d'.toList.Perm d.toList:=by
 obtain⟨h1,_,h3⟩:=h;have e1:d.extract 0 n=d:=by rw[<-hd];simp
 have e2:d'.extract 0 n=d':=by rw[<-hd,<-h1];simp
 rw[e1,e2]at h3;exact h3
theorem tN(hd:d.size=n)(h:SortedIn ltInt 0 n d):d.toList.Pairwise (·<=·):=by
 rw[List.pairwise_iff_getElem];intro i j hi hj hij;have hi':i<d.size:=by simpa using hi
 have hj':j<d.size:=by simpa using hj
 have:=h i j (dm _) hij (by omega);simp only[ltInt,decide_eq_false_iff_not]at this;rw[getElem!_pos d j hj',getElem!_pos d i hi']at this;simp only[Array.getElem_toList];omega
theorem tL(g:Nat)(lb:Array Value)(eg:∀args w,(callFunc g args).run Tryz.prog w=.ok (.enter g args) w)
  (S:List Int->Prop) (N:Nat) (hN:N<=12) (w:World) (hseq:SeqGives Fence.wide 1 Tryz.prog g lb aX S N w):
  Calls Tryz.prog 102 #[.func (.func g) #[] lb] w λe w'=>∃(v:Value) (ts ss:List Int),e=.returned v∧S ss∧ts.Perm ss∧ts.Pairwise (·<=·)∧ts.length<=N∧
   w'.ownsRow w.heap.size 34 1 v ts.length (ts.map aX)∧Below w.heap.size w w':=by
 have hc:=callsIn_wide.1 (collect_in Fence.wide 3 trivial trivial rfl (aB _) g lb trivial eg _ N (by unfold maxLen;omega) (by omega) w hseq.bounded);have HC:=(show Hid _ from hc);clear hc hseq;go_enter Tryz.func102,Tryz.ntmps102;go_wp2_with fail;refine aU HC.out ?_;rintro e W ⟨v,ss,rfl,⟨hS,hlen⟩,hrow,hnil,hb⟩;clear HC;rcases hrow.2 with⟨rfl,hz⟩|⟨gb,cap,cur,rfl,hbase,hgb,r1,r2,r3,r4⟩
 ·have hss:ss=[]:=nU hz;subst hss;go_wp2_with fail;refine(Qo _).mono ?_;rintro e w2 ⟨rfl,hg⟩;go_wp2;go_ret;refine⟨.slice none 0 0,[],[],rfl,hS,List.Perm.refl _,List.Pairwise.nil,dm _,⟨rfl,.inl ⟨rfl,rfl⟩⟩,hb.grown hg hb.size (λk e=>by cases e)⟩
 ·have hSR:SR w.heap.size gb cap ss.length ss.toArray W:=⟨by simp,by
   have:UC ss.toArray=ss.map aX:=by simp[UC]
   rw[this];exact hrow⟩
  have hs:=uX w.heap.size gb cap ss.length ss.toArray W hSR (by omega);have HS:=(show Hid _ from hs);have HB:=(show Hid _ from hb);clear hs hSR hgb r3 r4 hrow hb;go_wp2_with fail;refine aU HS.out ?_;rintro e w2 ⟨rfl,d',h',hp,hso,hg⟩;clear HS;go_wp2;go_ret;have hsz:d'.size=ss.length:=h'.size;have hl:d'.toList.length=ss.length:=by simpa using hsz
  have hpa:=z8 (by simp) hp;refine⟨_,d'.toList,ss,rfl,hS,by simpa using hpa,tN hsz hso,by omega,?_,HB.out.grown hg HB.out.size (λk e=>by cases e;exact hbase)⟩;rw[hl];exact h'.row
variable{H:Type}
theorem NH(F:Fence)(n:Nat)(h10:F.fn 170)(hro:F.round=none)(hn:1<=n)(l Bm b nn:Nat)(D0:DataW H){R:Value->Option (DataW H×List MemPlace)}(J:List Int->World->Prop)
  (hY:∀pre x W,J pre W->pre.length<Maps.size D0->YieldAt F (n - 1) Tryz.prog l #[aX x] W λe W'=>e=.returned (.bool true)∧J (pre++ [x]) W'∧KeepsWalks W W')
  (W:World) (hJ:AbidesFrom W.heap.size J) (hm:W.cell? ⟨Bm,0,none⟩=some (.map (some b))) (hown:W.ownsMap Tryz.prog 34 R b nn D0) (h0:J [] W):
  CallsIn F n Tryz.prog 170 #[.func (.yield l) #[] #[],.pointer (some ⟨Bm,0,none⟩)] W λe W'=>(∃v,e=.returned v)∧∃ss:List Int,wB D0 ss∧J ss W':=by
 refine callsIn_of_wp Tryz.func170 rfl h10 ?_ hro;simp only[Tryz.ntmps170,List.size_toArray,dZ,List.length_nil,Nat.reduceAdd,Nat.reduceSub,Array.replicate_succ,Array.replicate_zero,List.push_toArray,List.append_toArray,List.nil_append,List.cons_append]
 gi_wp2_with (first
  |(gi_at_range;refine wpListIn_range_own _ rfl _ 156 rfl 34 161 gu Tryz.underlying156 _ b nn _ rfl hown ?_;intro w0 hrg0 hg0 hs0)
  |gi_in)
 go_frame
 gi_loopw [3] (λ_ wr=>∃(left:Lit->Bool) (cnt:Nat) (ss:List Int),wr.ranges Tryz.prog 34 R b W.heap.size nn D0 left cnt∧ss.length+cnt<=Maps.size D0∧gH D0 left ss∧J ss wr)
  (λ_ wr=>wr.rangeLeft b W.heap.size)
 case atStart=>
  exact⟨_,_,[],hrg0,by simp,gH.start D0,hJ [] W w0 none h0 hg0 (λr e=>by cases e)⟩
 case round=>
  obtain⟨left,cnt,ss,hrg,hcs,hC,hJs⟩:=hrel
  gi_wp2_with (first
   |(gi_at_next;refine wpListIn_next_ranges _ rfl _ rfl 34 gu R aX id (λkey kl hk=>by obtain⟨x,hx,_⟩:=kV Tryz.underlying34 hk;exact⟨x,hx⟩) (λv _ _=>⟨v,rfl⟩) b W.heap.size nn _ _ _ rfl hrg ?_ ?_)
   |gi_in)
  ·intro hc0 hl0
   gi_wp2
   go_end0
   exact⟨⟨_,rfl⟩,ss,hC.keys hl0,hJs⟩
  ·intro x c kl yd yp w2 cnt2 hkey hlk hv hat hrg2 hlt hg2 hs2 hen;obtain⟨x',ex,rfl,hwf⟩:=kV Tryz.underlying34 hkey;obtain rfl:x=x':=AP ex;have hJ2:J ss w2:=hJ ss wr w2 (some W.heap.size) hJs hg2 (λr e=>by cases e;exact⟨aB _,hrg.iter_walk⟩);obtain⟨fn,tmps,assign,body,hy,hR⟩:=hY ss x w2 hJ2 (by omega);clear hs2
   gi_wp2
   refine hR.mono ?_;rintro e W3 ⟨rfl,hJ3,hk3⟩
   gi_wp2
   have hrg3:=hrg2.of_walks hk3;go_roundw
   case rel=>exact⟨_,cnt2,ss++ [x],hrg3,by simp;omega,hC.step hlk hat hwf,hJ3⟩
   case measure=>rw[hrg3.left_eq,hrg.left_eq];exact hlt
theorem Gg(F:Fence)(n:Nat)(h10:F.fn 170)(hro:F.round=none)(hn:1<=n)(Bm b nn:Nat)(D0:DataW H){R:Value->Option (DataW H×List MemPlace)}(w:World)(hBm:Bm<w.heap.size)
  (hm:w.cell? ⟨Bm,0,none⟩=some (.map (some b))) (hown:w.ownsMap Tryz.prog 34 R b nn D0):
  SeqGives F n Tryz.prog 170 #[.pointer (some ⟨Bm,0,none⟩)] aX (wB D0) (Maps.size D0) w:=λl J W hW hJ hY h0=>by
 have hown':W.ownsMap Tryz.prog 34 R b nn D0:=by
  have hbl:=hown.lt;obtain⟨es,clock,hb,Ft,hs,hD⟩:=hown;exact⟨es,clock,(hW.block b hbl).trans hb,Ft,hs,hD⟩
 exact NH F n h10 hro hn l Bm b nn D0 J hY W hJ ((hW.cell (p:=⟨Bm,0,none⟩) hBm).trans hm) hown' h0
def adu(L:List (Bool×Int×Int))(w:World)(e:Ending)(w':World):Prop:=
 ∃v out,e=.returned v∧kg (BU L) (sD L) out∧out.length<=L.length+1∧w'.ownsRow w.heap.size 82 3 v out.length (RC out)∧Below w.heap.size w w'
theorem oZ{L:List (Bool×Int×Int)}{k:Nat}{x:Bool×Int×Int}(h:L[k]?=some x):L.take (k+1)=L.take k++ [x]:=by
 obtain⟨hk,rfl⟩:=fO.1 h;exact List.take_succ_eq_append_getElem hk
open Go.WideElems
variable{M:Nat}{W:World}
theorem GA:∀(l m:List Int),l.Nodup->(∀a∈l,a∈m)->l.length<=m.length
 | [],_,_,_=>dm _
 |a::l,m,hn,hm=>by
  rw[List.nodup_cons]at hn;have h1:=GA l (m.erase a) hn.2 λb hb=>by
   have hne:b≠a:=λe=>hn.1 (e▸hb);exact(List.mem_erase_of_ne hne).2 (hm b (lU _ hb))
  have h2:a∈m:=hm a jT;have h3:=List.length_erase_of_mem h2;have h4:=List.length_pos_of_mem h2;simp only[dZ];omega
theorem GQ{H:Type}(l:List (Lit×DataW H))(p:Lit×DataW H)(h:p∈l.foldr DataW.insert []):p∈l:=by
 induction l with
 |nil=>simp at h
 |cons x l ih=>
  rw[List.foldr_cons]at h;rcases ChangeMaps.mem_insert_iff.1 h with rfl|h
  ·exact jT
  ·exact lU _ (ih h)
theorem MapU.size_le{f:Int->Option Int}{s:Nat}(h:MapU W M f s)(l:List Int)(hl:∀d,a_ d->(f d).isSome=true->d∈l):s<=l.length:=by
 obtain⟨D,h1,h2,h3⟩:=h;obtain⟨es0,he0,hp⟩:=h1.tidy gu;obtain⟨es,clock,hb,F,hs,hD⟩:=h1;rw[hD]at he0;simp only[DataW.map.injEq]at he0;have hkey:∀p∈es0,∃d,a_ d∧p.1=.int .u32 d:=by
  intro p hp;rw[<-he0]at hp;have:=GQ _ _ hp;obtain⟨x,hx,rfl⟩:=dW.1 this;obtain⟨y,hy⟩:=F.reads x hx;have h5:=rd_key hy;have h6:rg Tryz.prog 34 (plainElem Tryz.prog 34) x=y:=by
   unfold rg;rw[hy];rfl
  obtain⟨d,_,hd,hwf⟩:=kV Tryz.underlying34 h5;have hb:=bounds_u32 hwf;exact⟨d,⟨hb.1,by have:=hb.2;omega⟩,by rw[h6];exact hd⟩
 have hlen:es0.length=s:=by
  rw[<-h2,hD,he0];rfl
 have hmem:∀p∈es0,∀d,a_ d->p.1=.int .u32 d->d∈l:=by
  intro p hp d hd e;refine hl d hd ?_;rw[<-(h3 d hd).1,hD,he0,has_eq];rw[List.any_eq_true];exact⟨p,hp,by rw[e];simp[Lit.sameKey]⟩
 have hgen:∀es0:List (Lit×DataW Unit),es0.Pairwise (λp q=>p.1≠q.1)->(∀p∈es0,∃d,a_ d∧p.1=.int .u32 d)->∃ds:List Int,ds.length=es0.length∧ds.Nodup∧∀d∈ds,∃p∈es0,a_ d∧p.1=.int .u32 d:=by
  intro es0
  induction es0 with
  |nil=>intro _ _;exact⟨[],rfl,List.nodup_nil,λ_ h=>by cases h⟩
  |cons p es0 ih=>
   intro hp hk;rw[List.pairwise_cons]at hp;obtain⟨ds,e1,e2,e3⟩:=ih hp.2 λq hq=>hk q (lU _ hq);obtain⟨d,hd,hpd⟩:=hk p jT;refine⟨d::ds,by simp[e1],List.nodup_cons.2 ⟨λhmem=> ?_,e2⟩,λd' hd'=> ?_⟩
   ·obtain⟨q,hq,_,YA⟩:=e3 d hmem;exact hp.1 q hq (by rw[hpd,YA])
   ·rcases fE.1 hd' with rfl|h
    ·exact⟨p,jT,hd,hpd⟩
    ·obtain⟨q,hq,h1⟩:=e3 d' h;exact⟨q,lU _ hq,h1⟩
 obtain⟨ds,e1,e2,e3⟩:=hgen es0 hp hkey;rw[<-hlen,<-e1];exact GA ds l e2 λd hd=>by
  obtain⟨p,hp,hu,he⟩:=e3 d hd;exact hmem p hp d hu he
def Na(L:List (Bool×Int×Int)):Prop:=∃l:List Int,l.length<=12∧∀a,(BU L a).isSome=true->a∈l
theorem aaX{L:List (Bool×Int×Int)}{sz:Nat}(h:Na L)(hm:MapU W M (BU L) sz):sz<=12:=by
 obtain⟨l,h1,h2⟩:=h;exact dN (hm.size_le l λd _ hd=>h2 d hd) h1
variable{W:World}
theorem bX{b1 b2 e1 e2 s1 s2 n1 n2:Nat}{v1 v2:Value}{x1 x2:List Value}(h1:W.ownsRow b1 e1 s1 v1 n1 x1)(h2:W.ownsRow b2 e2 s2 v2 n2 x2)(hne:e1≠e2):v1.ownBlock=none∨v1.ownBlock≠v2.ownBlock:=by
 rcases h1.2 with⟨rfl,_⟩|⟨g1,c1,k1,rfl,_,q1,_⟩
 ·exact .inl rfl
 ·rcases h2.2 with⟨rfl,_⟩|⟨g2,c2,k2,rfl,_,q2,_⟩
  ·exact .inr (by simp[Value.ownBlock])
  ·refine .inr λe=> ?_;simp only[Value.ownBlock,Option.some.injEq]at e;subst e;rw[q1]at q2;cases q2;exact hne rfl
theorem qx.VW{B:Nat}{o:Bool}{a s:Int}(h:qx B o a s W)(s':Int):qx B o a s' (W.setCell ⟨B,2,none⟩ (.int .u32 s')):=by
 unfold qx at h ⊢;simp[World.setCell,d_,h]
theorem CV(f:Int->Option Int)(ss:List Int)(a:Int):iD f (ss++ [a])=iD f ss++ [(false,a,(f a).getD 0)]:=by simp[iD]
theorem CG(f:Int->Option Int)(a s:Int):stepM f (false,a,s)=lX f a (some (max ((f a).getD 0) s)):=rfl
theorem RG:MB λ_=>none:=λa v h=>by cases h
theorem Rj:OB none:=λv h=>by cases h
theorem Lh{L:List (Bool×Int×Int)}(h:qg L){x:Bool×Int×Int}(hx:x∈L):a_ x.2.1∧a_ x.2.2:=by
 have:=h x hx;unfold a_;omega
theorem vI(ao:Option Addr)(n c:Nat)(L:List (Bool×Int×Int))(hL:L.length=n)(hn:n<=50000)(hbd:qg L)(hfw:Na L)(w:World)(hA:gG w ao (RC L)):
  Calls Tryz.prog 69 #[.slice ao n c] w (adu L w):=by
 obtain⟨i0,hi,hz0,hz1,hz2⟩:=info_parts qR;have hmm:=@run_makeMap Tryz.prog;have hM0:=MapU.made (w.alloc (aY true 0 0));rw[World.size_alloc]at hM0;have hB0:qx w.heap.size true 0 0 ((w.alloc (aY true 0 0)).alloc (.map #[] 0)):=(qx.new true 0 0 w).later (bC);have hb0:Below w.heap.size w ((w.alloc (aY true 0 0)).alloc (.map #[] 0)):=(bC).alloc (by simp) _;have hs0:w.heap.size+2<=((w.alloc (aY true 0 0)).alloc (.map #[] 0)).heap.size:=by simp
 dsimp only[aY]at hM0 hB0 hb0 hs0;go_enter Tryz.func69,Tryz.ntmps69;go_wp2_with fail;clear hmm;generalize World.alloc _ _=W0 at hM0 hB0 hb0 hs0 ⊢;go_loopw [4,15] (λq i wr=>∃(k sz:Nat),k<=n∧i=.int .i64 k∧q=.bool (sD (L.take k)).isSome∧MB (BU (L.take k))∧OB (sD (L.take k))∧qx w.heap.size true 0 ((sD (L.take k)).getD 0) wr∧MapU wr (w.heap.size+1) (BU (L.take k)) sz∧sz<=k∧Below w.heap.size w wr∧w.heap.size+2<=wr.heap.size) (λ_ i _=>n - (intOf i).toNat)
 case atStart=>exact⟨0,0,dm _,rfl,rfl,RG,Rj,hB0,hM0,aB _,hb0,hs0⟩
 case round=>
  clear hM0 hB0 hb0 hs0;obtain⟨k,sz,hk,rfl,rfl,hmb,hob,hB,hm,hsz,hb,hs2⟩:=hrel;by_cases hlt:k<n
  ·have hki:(k:Int)<(n:Int):=by omega
   obtain⟨x,hx⟩:∃x,L[k]?=some x:=⟨_,bS (by omega)⟩;have hat:∀i z,i<3->([.bool x.1,.int .u32 x.2.1,.int .u32 x.2.2]:List Value)[i]?=some z->(RC L)[k * 3+i]?=some z:=λi z hi hz=>(jR (λx:Bool×Int×Int=>([Value.bool x.1,Value.int .u32 x.2.1,Value.int .u32 x.2.2]:List Value)) 3 (by decide) (λ_=>rfl) L k i hi hx).trans hz;have hA':=hA.below hb;obtain⟨b1,o1,rfl,hj1⟩:=hA' (k * 3+0) _ (hat 0 _ (by decide) rfl);have d0:=hA'.one rfl (hat 0 _ (by decide) rfl);have d1:=hA'.one rfl (hat 1 _ (by decide) rfl);have d2:=hA'.one rfl (hat 2 _ (by decide) rfl);have hxu:=Lh hbd (iV hx);have eM:Hid (BU (L.take (k+1))=stepM (BU (L.take k)) x):=by
    show _=_;rw[oZ hx,GK]
   have eO:Hid (sD (L.take (k+1))=pX (sD (L.take k)) x):=by
    show _=_;rw[oZ hx,Ab]
   have aam:Hid (MB (BU (L.take (k+1)))):=by
    show MB _;rw[eM.out];exact hmb.step hxu.1 hxu.2
   have ack:Hid (OB (sD (L.take (k+1)))):=by
    show OB _;rw[eO.out];exact hob.step hxu.2
   obtain⟨xo,xa,xs⟩:=x;dsimp only at d0 d1 d2 hxu;rw[Nat.add_zero]at d0;rw[<-Nat.add_assoc]at d1 d2;have hB1:=hB.later ((aV _ wr).alloc (aB _) (aY xo xa xs));have hm1:=hm.kept (ku wr (aY xo xa xs) none) (by simp);have hb1:=hb.alloc hb.size (aY xo xa xs);have hs1:w.heap.size+2<=(wr.alloc (aY xo xa xs)).heap.size:=by simp;omega
   clear hj1 hat hA' hx hB hm hb hmb;generalize BU (L.take k)=f at hm1 eM;have ho:OB (sD (L.take k)):=hob;generalize sD (L.take k)=cc at hB1 eO ho ⊢;clear hob;cases xo
   ·have hl:=hm1.look hxu.1;obtain⟨W2,hr,hm2,hg2⟩:=hm1.put (by unfold maxLen;omega) hxu.1 (v:=max ((f xa).getD 0) xs) (by
     have hh:=(aam.out);rw[eM.out,CG]at hh;exact(hh xa _ (by simp[lX])).2)
    have hB2:=hB1.kept hg2 (by simp);have hb2:=hb1.grown hg2 hb1.size (λk e=>by cases e;omega);have hs3:=dN hs1 hg2.size;have adQ:(if (f xa).isSome then sz else sz+1)<=k+1:=by split<;>omega
    rw[CG]at eM;clear hm1 hB1 hb1 hg2 hs1 hs2 ho;dsimp only[aY]at hl hr;generalize (f xa).getD 0=fx at hl hr hm2 eM;go_wp2;go_roundw
    case rel=>exact⟨k+1,_,by omega,by go_num,by rw[eO.out];rfl,aam.out,ack.out,by rw[eO.out];exact hB2,by rw[eM.out];exact hm2,adQ,hb2,hs3⟩
    case measure=>simp[intOf];omega
   ·obtain⟨c0,c1,c2⟩:=hB1.cell;have ff:=hB1.free 2;have hm2:=λv=>hm1.kept (ah (aC _ (some w.heap.size)) 2 v) (by simp);have hB2:=λv=>hB1.VW v;have hb2:=λv=>hb1.setCell (p:=⟨w.heap.size,2,none⟩) (aB _) v;have hs3:∀v,w.heap.size+2<=((wr.alloc (aY true xa xs)).setCell ⟨w.heap.size,2,none⟩ v).heap.size:=λv=>dN hs1 (ah (aC _ (some w.heap.size)) 2 v).size;clear hm1 hB1 hb1 hs1 hs2 hxu;dsimp only[aY]at c0 c1 c2 ff hm2 hB2 hb2 hs3;have XP:Hid (sD (L.take (k+1))=some (max (cc.getD 0) xs)):=by
     show _=_;rw[eO.out];rfl
    clear eO ho;generalize cc.getD 0=t at c2 XP;go_wp2;go_roundw
    case rel=>exact⟨k+1,sz,by omega,by go_num,by rw[XP.out];rfl,aam.out,ack.out,by rw[XP.out];exact hB2 _,by rw[eM.out];exact hm2 _,by omega,hb2 _,hs3 _⟩
    case measure=>simp[intOf];omega
  ·have hkn:n<=k:=by omega
   rw[kN (by omega)]at hB hm hmb hob ⊢;have hsn:sz<=L.length:=by omega
   have hLn:L.length<=50000:=by omega
   have hnn:n=L.length:=hL.symm;clear hkn hsz hs2 hA hL;have afk:=aaX hfw hm;clear hfw;generalize hf:BU L=f at hm hmb;have hf':=(show Hid _ from hf);generalize hc:sD L=cc at hB hob ⊢;have hc':=(show Hid _ from hc);clear hf hc;have hs2:=hB.lt;have hMl:=hm.lt;have hkf:decide ((k:Int)<(n:Int))=false:=eU (by omega);have aed:decide (k<n)=false:=eU (by omega);cases cc with
   |none=>
    have FL:wr.ownsRow (w.heap.size+2) 82 3 (.slice none 0 0) (dO none).length (RC (dO none)):=⟨rfl,.inl ⟨rfl,rfl⟩⟩;have adR:=hb.size;have aeC:=hm.lt;have Ez:Below wr.heap.size wr (wr.alloc (.cells #[.map (some (w.heap.size+1))] 115)):=bC;have hseq:=hm.zh (wr.alloc (.cells #[.map (some (w.heap.size+1))] 115)) wr.heap.size (by simp) (by simp) Ez;have hso:=tL 141 #[.pointer (some ⟨wr.heap.size,0,none⟩)] (enters_of Tryz.func141 (by kernel_rfl) rfl) _ sz (by omega) _ hseq;have Y1:=(show Hid _ from hso);clear hso hseq;go_wp2_with fail;refine(G7 _ _).mono ?_;rintro e w9 ⟨rfl,rfl⟩;go_wp2_with fail;refine aU Y1.out ?_;rintro e W2 ⟨v,ts,ss,rfl,hS,hperm,hle,hlen,hrow,hb2⟩;have Mi:=hm.kept ⟨Ez.os,Ez.tape,Ez.output,Ez.size,λk hk _=>Ez.block k hk⟩ (row:=none) (by simp);have hm2:=Mi.kept (below_grown hb2 none) (by simp);have hbb:=(hb.trans (Ez.mono hb.size)).trans (hb2.mono (by simp;omega));have ho2:=(aN FL Ez);have ho3:=aN ho2 hb2;have hlts:ts.Pairwise (·<·):=by
     have hnd:ts.Nodup:=hperm.nodup_iff.2 hS.1;rw[List.pairwise_iff_getElem]at hle ⊢;intro i j hi hj hij;have h1:=hle i j hi hj hij;have h2:=List.pairwise_iff_getElem.1 hnd i j hi hj hij;omega
    have hmem:∀a,a∈ts ↔ (f a).isSome=true:=λa=>by
     rw[hperm.mem_iff,hS.2 a];constructor
     ·exact λh=>h.2
     ·intro h;obtain⟨y,hy⟩:=Option.isSome_iff_exists.1 h;exact⟨(hmb a y hy).1,h⟩
    have hcmp:kg f none (dO none++iD f ts):=⟨ts,hlts,hmem,rfl⟩;have SH:∀a∈ts,a_ a:=λa ha=>((hS.2 a).1 (hperm.mem_iff.1 ha)).1;obtain⟨rF,c2',rfl,_⟩:=ax hrow;have Tc:=(show Hid _ from hcmp);clear Y1 hm Mi ho2 hb hb2 Ez hS hperm hle hlts hmem hcmp FL;go_wp2_with fail;go_loopw [8,47] (λv i wr2=>∃j:Nat,j<=ts.length∧i=.int .i64 j∧wr2.ownsRow (w.heap.size+2) 82 3 v ((dO none).length+j) (RC (dO none++iD f (ts.take j)))∧wr2.ownsRow (wr.heap.size+1) 34 1 (.slice rF ts.length c2') ts.length (ts.map aX)∧MapU wr2 (w.heap.size+1) f sz∧Below w.heap.size w wr2∧w.heap.size+2<=wr2.heap.size) (λ_ i _=>ts.length - (intOf i).toNat)
    case atStart=>
     refine⟨0,dm _,rfl,?_,by simpa using hrow,hm2,hbb,?_⟩
     ·simpa[iD]using ho3
     ·have:=hm2.lt;omega
    case round=>
     obtain⟨j,hj,rfl,iO,hts,hmr,hbr,hsr⟩:=hrel;clear ho3 hrow hm2 hbb;by_cases hjl:j<ts.length
     ·have hji:(j:Int)<(ts.length:Int):=by omega
      obtain⟨g,cap,hv,_⟩:=bZ hts (by omega);cases hv;have Z4:(ts.map aX)[j]?=some (aX ts[j]):=by rw[l9,bS hjl];rfl
      have d0:=(hts.cellAt j (by omega)).trans Z4;have hau:=SH _ (List.getElem_mem hjl);have htk:Hid (ts.take (j+1)=ts.take j++ [ts[j]]):=List.take_succ_eq_append_getElem hjl;generalize ts[j]=a at d0 hau htk Z4;have hlk:=hmr.look hau;have hap:=bX hts iO (by decide);have hla:=iO.lt;have hk1:Hid ((dO none).length+j+1<=maxLen):=by show _<=_;simp[dO];unfold maxLen;omega
      have hk2:Hid (((dO none).length+j+1)* 12<=140737488355328):=by show _<=_;simp[dO];omega
      clear Z4;generalize dO none=nW at *;go_wp2_with(at_builtin;refine wpList_append_own_at _ rfl _ _ 79 rfl (w.heap.size+2) 82 i0 (.agg #[.bool false,.int .u32 0,.int .u32 0]) 3 12 Tryz.underlying79 hi hz0 hz1 hz2 rfl (by decide) u8 (nW.length+j) (RC (nW++iD f (ts.take j))) rfl (iO.alloc _) ⟨wr.heap.size,0,none⟩ 1 1 (RC [(false,a,(f a).getD 0)]) rfl rfl (kX wr false a ((f a).getD 0)) (nM false a ((f a).getD 0)) hk1.out hk2.out ?c4 ?_)
      case c4=>simp;omega
      intro v9 w9 ho9 fK _ _;have Z0:=(hts.alloc (aY false a ((f a).getD 0))).kept fK hap;have Mi:=(hmr.kept (ku wr (aY false a ((f a).getD 0)) none) (by simp)).kept fK (λe=>by have:=(hla _ e.symm).1;omega);have nY:=(hbr.alloc hbr.size (aY false a ((f a).getD 0))).grown fK (by simp;omega) (λk e=>by have:=(hla k e).1;omega);have qV:w.heap.size+2<=w9.heap.size:=by have:=fK.size;simp at this;omega
      clear iO hts hmr hbr fK hap hlk d0;go_wp2;go_roundw
      case rel=>
       refine⟨j+1,by omega,by go_num,?_,Z0,Mi,nY,qV⟩;rw[htk.out,CV,<-List.append_assoc,lq,<-Nat.add_assoc];exact ho9
      case measure=>simp[intOf];omega
     ·have hjn:j=ts.length:=by omega
      subst hjn;rw[List.take_length]at iO;clear hts hmr;go_wp2;go_ret;refine⟨_,dO none++iD f ts,rfl,?_,?_,?_,hbr⟩
      ·rw[hf'.out,hc'.out];exact Tc.out
      ·simp[dO,iD];omega
      ·have hol:(dO none++iD f ts).length=(dO none).length+ts.length:=by simp[iD]
       rw[hol];exact ownsRow_base_a iO (by omega)
   |some t=>
    obtain⟨c0,c1,c2⟩:=hB.cell;rw[Option.getD_some]at c2;go_wp2_with(at_builtin;refine wpList_append_own_at _ rfl _ _ 79 rfl (w.heap.size+2) 82 i0 (.agg #[.bool false,.int .u32 0,.int .u32 0]) 3 12 Tryz.underlying79 hi hz0 hz1 hz2 rfl (by decide) (.slice none 0 0) 0 [] rfl ⟨rfl,.inl ⟨rfl,rfl⟩⟩ ⟨wr.heap.size,0,none⟩ 1 1 (RC [(true,0,t)]) rfl rfl (kX wr true 0 t) (nM true 0 t) (by decide) (by decide) ?c3 ?_)
    case c3=>simp;omega
    intro v8 w8 FL lF hn8 _;have hm8:=(hm.kept (ku wr (aY true 0 t) none) (by simp)).kept lF (by simp[Value.ownBlock]);have rX:Below w.heap.size w w8:=(hb.alloc hb.size _).grown lF (by simp;omega) (λk e=>by simp[Value.ownBlock]at e);clear hm hb lF hn8 c0 c1 c2 hkf aed;have acn:w8.ownsRow (w.heap.size+2) 82 3 v8 (dO (some t)).length (RC (dO (some t))):=FL;clear FL;have hm:=hm8;have hb:=rX;clear hm8 rX;have adR:=hb.size;have aeC:=hm.lt;have Ez:Below w8.heap.size w8 (w8.alloc (.cells #[.map (some (w.heap.size+1))] 115)):=bC;have hseq:=hm.zh (w8.alloc (.cells #[.map (some (w.heap.size+1))] 115)) w8.heap.size (by simp) (by simp) Ez;have hso:=tL 141 #[.pointer (some ⟨w8.heap.size,0,none⟩)] (enters_of Tryz.func141 (by kernel_rfl) rfl) _ sz (by omega) _ hseq;have Y1:=(show Hid _ from hso);clear hso hseq;go_wp2_with fail;refine(G7 _ _).mono ?_;rintro e w9 ⟨rfl,rfl⟩;go_wp2_with fail;refine aU Y1.out ?_;rintro e W2 ⟨v,ts,ss,rfl,hS,hperm,hle,hlen,hrow,hb2⟩;have Mi:=hm.kept ⟨Ez.os,Ez.tape,Ez.output,Ez.size,λk hk _=>Ez.block k hk⟩ (row:=none) (by simp);have hm2:=Mi.kept (below_grown hb2 none) (by simp);have hbb:=(hb.trans (Ez.mono hb.size)).trans (hb2.mono (by simp;omega));have ho2:=(aN acn Ez);have ho3:=aN ho2 hb2;have hlts:ts.Pairwise (·<·):=by
     have hnd:ts.Nodup:=hperm.nodup_iff.2 hS.1;rw[List.pairwise_iff_getElem]at hle ⊢;intro i j hi hj hij;have h1:=hle i j hi hj hij;have h2:=List.pairwise_iff_getElem.1 hnd i j hi hj hij;omega
    have hmem:∀a,a∈ts ↔ (f a).isSome=true:=λa=>by
     rw[hperm.mem_iff,hS.2 a];constructor
     ·exact λh=>h.2
     ·intro h;obtain⟨y,hy⟩:=Option.isSome_iff_exists.1 h;exact⟨(hmb a y hy).1,h⟩
    have hcmp:kg f (some t) (dO (some t)++iD f ts):=⟨ts,hlts,hmem,rfl⟩;have SH:∀a∈ts,a_ a:=λa ha=>((hS.2 a).1 (hperm.mem_iff.1 ha)).1;obtain⟨rF,c2',rfl,_⟩:=ax hrow;have Tc:=(show Hid _ from hcmp);clear Y1 hm Mi ho2 hb hb2 Ez hS hperm hle hlts hmem hcmp acn;go_wp2_with fail;go_loopw [8,47] (λv i wr2=>∃j:Nat,j<=ts.length∧i=.int .i64 j∧wr2.ownsRow (w.heap.size+2) 82 3 v ((dO (some t)).length+j) (RC (dO (some t)++iD f (ts.take j)))∧wr2.ownsRow (w8.heap.size+1) 34 1 (.slice rF ts.length c2') ts.length (ts.map aX)∧MapU wr2 (w.heap.size+1) f sz∧Below w.heap.size w wr2∧w.heap.size+2<=wr2.heap.size) (λ_ i _=>ts.length - (intOf i).toNat)
    case atStart=>
     refine⟨0,dm _,rfl,?_,by simpa using hrow,hm2,hbb,?_⟩
     ·simpa[iD]using ho3
     ·have:=hm2.lt;omega
    case round=>
     obtain⟨j,hj,rfl,iO,hts,hmr,hbr,hsr⟩:=hrel;clear ho3 hrow hm2 hbb;by_cases hjl:j<ts.length
     ·have hji:(j:Int)<(ts.length:Int):=by omega
      obtain⟨g,cap,hv,_⟩:=bZ hts (by omega);cases hv;have Z4:(ts.map aX)[j]?=some (aX ts[j]):=by rw[l9,bS hjl];rfl
      have d0:=(hts.cellAt j (by omega)).trans Z4;have hau:=SH _ (List.getElem_mem hjl);have htk:Hid (ts.take (j+1)=ts.take j++ [ts[j]]):=List.take_succ_eq_append_getElem hjl;generalize ts[j]=a at d0 hau htk Z4;have hlk:=hmr.look hau;have hap:=bX hts iO (by decide);have hla:=iO.lt;have hk1:Hid ((dO (some t)).length+j+1<=maxLen):=by show _<=_;simp[dO];unfold maxLen;omega
      have hk2:Hid (((dO (some t)).length+j+1)* 12<=140737488355328):=by show _<=_;simp[dO];omega
      clear Z4;generalize dO (some t)=nW at *;go_wp2_with(at_builtin;refine wpList_append_own_at _ rfl _ _ 79 rfl (w.heap.size+2) 82 i0 (.agg #[.bool false,.int .u32 0,.int .u32 0]) 3 12 Tryz.underlying79 hi hz0 hz1 hz2 rfl (by decide) u8 (nW.length+j) (RC (nW++iD f (ts.take j))) rfl (iO.alloc _) ⟨wr.heap.size,0,none⟩ 1 1 (RC [(false,a,(f a).getD 0)]) rfl rfl (kX wr false a ((f a).getD 0)) (nM false a ((f a).getD 0)) hk1.out hk2.out ?c4 ?_)
      case c4=>simp;omega
      intro v9 w9 ho9 fK _ _;have Z0:=(hts.alloc (aY false a ((f a).getD 0))).kept fK hap;have Mi:=(hmr.kept (ku wr (aY false a ((f a).getD 0)) none) (by simp)).kept fK (λe=>by have:=(hla _ e.symm).1;omega);have nY:=(hbr.alloc hbr.size (aY false a ((f a).getD 0))).grown fK (by simp;omega) (λk e=>by have:=(hla k e).1;omega);have qV:w.heap.size+2<=w9.heap.size:=by have:=fK.size;simp at this;omega
      clear iO hts hmr hbr fK hap hlk d0;go_wp2;go_roundw
      case rel=>
       refine⟨j+1,by omega,by go_num,?_,Z0,Mi,nY,qV⟩;rw[htk.out,CV,<-List.append_assoc,lq,<-Nat.add_assoc];exact ho9
      case measure=>simp[intOf];omega
     ·have hjn:j=ts.length:=by omega
      subst hjn;rw[List.take_length]at iO;clear hts hmr;go_wp2;go_ret;refine⟨_,dO (some t)++iD f ts,rfl,?_,?_,?_,hbr⟩
      ·rw[hf'.out,hc'.out];exact Tc.out
      ·simp[dO,iD];omega
      ·have hol:(dO (some t)++iD f ts).length=(dO (some t)).length+ts.length:=by simp[iD]
       rw[hol];exact ownsRow_base_a iO (by omega)
variable{f:Int->Option Nat}{L:List (Rt×Value)}{A:List Rt}{M T:Nat}{W w:World}
theorem NG(M:Nat)(w:World):
  Calls Tryz.prog 134 #[.map (some M)] w λe w'=>e=.returned (.func (.func 170) #[] #[.pointer (some ⟨w.heap.size,0,none⟩)])∧w'=w.alloc (.cells #[.map (some M)] 156):=by
 go_enter Tryz.func134,Tryz.ntmps134;go_wp2;go_ret;exact⟨rfl,rfl⟩
theorem fG.zh{s:Nat}(h:fG W M f s)(w:World)(Bm:Nat)(hBm:Bm<w.heap.size)(hm:w.cell? ⟨Bm,0,none⟩=some (.map (some M)))(hW:Below W.heap.size W w):
  SeqGives Fence.wide 1 Tryz.prog 170 #[.pointer (some ⟨Bm,0,none⟩)] aX (λss=>ss.Nodup∧∀x,x∈ss ↔ (a_ x∧(f x).isSome=true)) s w:=by
 have hl:=h.lt;obtain⟨D,h1,h2,h3⟩:=h;have h1':w.ownsMap Tryz.prog 34 D7 M s D:=by
  obtain⟨es,clock,hb,Ft,hs,hD⟩:=h1;exact⟨es,clock,(hW.block M hl).trans hb,Ft,hs,hD⟩
 have hg:=Gg Fence.wide 1 trivial rfl (aB _) Bm M s D w hBm hm h1';rw[h2]at hg;intro l J W' hW' hJ hY h0;refine(hg l J W' hW' hJ hY h0).mono ?_;rintro e W2 ⟨hv,ss,hk,hj⟩;refine⟨hv,ss,⟨hk.1,λx=> ?_⟩,hj⟩;constructor
 ·intro hx;have hw:=bounds_u32 (hk.2.1 x hx);have hU:a_ x:=⟨hw.1,by have:=hw.2;omega⟩;exact⟨hU,by rw[<-(h3 x hU).1];exact(hk.2.2 x).1 hx⟩
 ·rintro⟨hU,hs⟩;exact(hk.2.2 x).2 (by rw[(h3 x hU).1];exact hs)
theorem Dp{me:Int}{g:Int->Value}(h:MT me T M f g A w):
  Calls Tryz.prog 95 #[.pointer (some ⟨T,0,none⟩)] w λe w'=>∃v,e=.returned v∧w'.ownsRow w.heap.size 34 1 v A.length ((A.map (·.dest)).map aX)∧Below w.heap.size w w':=by
 obtain⟨c0,c1⟩:=h.blk.cell;have nY:Below w.heap.size w (w.alloc (.cells #[.map (some M)] 156)):=bC;have hseq:=h.map.zh (w.alloc (.cells #[.map (some M)] 156)) w.heap.size (by simp) (by simp) nY;have hso:=tL 170 #[.pointer (some ⟨w.heap.size,0,none⟩)] (enters_of Tryz.func170 (by kernel_rfl) rfl) _ A.length (by have:=h.len;omega) _ hseq;have Y1:=(show Hid _ from hso);clear hso hseq;go_enter Tryz.func95,Tryz.ntmps95;go_wp2_with fail;refine(NG _ _).mono ?_;rintro e w9 ⟨rfl,rfl⟩;go_wp2_with fail;refine aU Y1.out ?_;rintro e W2 ⟨v,ts,ss,rfl,hS,hperm,hle,hlen,hrow,hb2⟩;have hlts:ts.Pairwise (·<·):=by
  have hnd:ts.Nodup:=hperm.nodup_iff.2 hS.1;rw[List.pairwise_iff_getElem]at hle ⊢;intro i j hi hj hij;have h1:=hle i j hi hj hij;have h2:=List.pairwise_iff_getElem.1 hnd i j hi hj hij;omega
 have hts:ts=A.map (·.dest):=by
  refine C8 hlts (by rw[List.pairwise_map];exact h.yE) λa=> ?_;rw[hperm.mem_iff,hS.2 a,dW];constructor
  ·rintro⟨hU,hs⟩;obtain⟨B,hB⟩:=Option.isSome_iff_exists.1 hs;obtain⟨x,hx,hxd⟩:=h.dom a B hU hB;exact⟨x,hx,hxd⟩
  ·rintro⟨x,hx,rfl⟩;obtain⟨B,hB,_⟩:=h.ln x hx;exact⟨(h.ok x hx).dest,by rw[hB];rfl⟩
 subst hts;have hbb:=nY.trans (hb2.mono (by simp));rw[gY]at hrow;have hrow':=ownsRow_base_a (base':=w.heap.size) hrow (by simp);clear Y1 hS hperm hle hlen hrow hlts nY hb2;go_wp2;go_ret;exact⟨v,rfl,hrow',hbb⟩
def rtC(p:Rt×Value):List Value:=[.int .u32 p.1.dest,.int .u32 p.1.seq,.int .i64 p.1.hops,.int .u32 p.1.next,.bool p.1.valid,.int .u64 p.1.exp,p.2]
def Qe(L:List (Rt×Value)):List Value:=L.flatMap rtC
theorem Kz(a b:List (Rt×Value)):Qe (a++b)=Qe a++Qe b:=by simp[Qe]
theorem aa9{k:Nat}{p:Rt×Value}(h:L[k]?=some p){i:Nat}(hi:i<7):(Qe L)[k * 7+i]?=(rtC p)[i]?:=
 jR rtC 7 (by decide) (λ_=>rfl) L k i hi h
theorem WW:(Tryz.prog.info? 38).map (λi=>(i.zero,i.size,i.bytes))=some (some (.agg #[.int .u32 0,.int .u32 0,.int .i64 0,.int .u32 0,.bool false,.int .u64 0,.slice none 0 0]),7,56):=by kernel_rfl
theorem Zy(x:Rt)(a:Option Addr)(n c:Nat):∀u∈Qe [(x,.slice a n c)],u.oneCell'=true:=by
 intro u hu;simp only[Qe,rtC,List.flatMap_cons,List.flatMap_nil,fw,fE,List.not_mem_nil,or_false]at hu;rcases hu with rfl|rfl|rfl|rfl|rfl|rfl|rfl<;>rfl
theorem TW(W:World)(x:Rt)(v:Value):∀(j:Nat) (u:Value),(Qe [(x,v)])[j]?=some u->(W.alloc (cK x v)).cell? ((⟨W.heap.size,0,none⟩:Addr).add j)=some u:=by
 intro j u hj;obtain⟨q0,q1,q2,q3,q4,q5,q6⟩:=(eD.new x v W).cell;rw[Addr.add_lit,Nat.zero_add];simp only[Qe,rtC,List.flatMap_cons,List.flatMap_nil,fw]at hj
 match j,hj with
 |0,hj=>exact q0.trans hj
 |1,hj=>exact q1.trans hj
 |2,hj=>exact q2.trans hj
 |3,hj=>exact q3.trans hj
 |4,hj=>exact q4.trans hj
 |5,hj=>exact q5.trans hj
 |6,hj=>exact q6.trans hj
 |j+7,hj=>simp at hj
structure Jh(base:Nat)(v:Value)(L:List (Rt×Value))(W:World):Prop where
 row:W.ownsRow base 38 7 v L.length (Qe L)
 bL:∀p∈L,W.ownsRow base 34 1 p.2 p.1.bL.length (p.1.bL.map aX)
theorem Jh.later{base:Nat}{v:Value}{W':World}(h:Jh base v L W)(hb:Below W.heap.size W W'):Jh base v L W':=
 ⟨aN h.row hb,λp hp=>aN (h.bL p hp) hb⟩
theorem UL{me:Int}{g:Int->Value}(h:MT me T M f g A w):
  Calls Tryz.prog 60 #[.pointer (some ⟨T,0,none⟩)] w λe w'=>∃v L,e=.returned v∧L.map (·.1)=A∧Jh w.heap.size v L w'∧Below w.heap.size w w':=by
 obtain⟨i0,hi,hz0,hz1,hz2⟩:=info_parts WW;have hlen:=h.len;have HD:=(show Hid _ from Dp h);go_enter Tryz.func60,Tryz.ntmps60;go_wp2_with fail;refine aU HD.out ?_;rintro e w1 ⟨dv,rfl,hdr,hb1⟩;clear HD;obtain⟨ad,cd,rfl,_⟩:=ax hdr;go_wp2_with fail;go_loopw [3,9] (λlv i wr=>∃(k:Nat) (L:List (Rt×Value)),k<=A.length∧i=.int .i64 k∧L.map (·.1)=A.take k∧Jh w.heap.size lv L wr∧wr.ownsRow w.heap.size 34 1 (.slice ad A.length cd) A.length ((A.map (·.dest)).map aX)∧Below w.heap.size w wr) (λ_ i _=>A.length - (intOf i).toNat)
 case atStart=>exact⟨0,[],dm _,rfl,rfl,⟨⟨rfl,.inl ⟨rfl,rfl⟩⟩,λp hp=>by simp at hp⟩,hdr,hb1⟩
 case round=>
  clear hdr hb1;obtain⟨k,L,hk,rfl,hL,hls,hdr,hb⟩:=hrel;have Xp:L.length=k:=by
   have:=congrArg List.length hL;simp at this;omega
  by_cases hlt:k<A.length
  ·have hki:(k:Int)<(A.length:Int):=by omega
   obtain⟨x,hx⟩:∃x,A[k]?=some x:=⟨_,bS hlt⟩;have JX:=iV hx;obtain⟨gd,aeU,hv,_⟩:=bZ hdr (by omega);cases hv;have d0:=(hdr.cellAt k (by omega)).trans (by rw[l9,l9,hx];rfl:((A.map (·.dest)).map aX)[k]?=some (aX x.dest));have hM:=h.later hb;obtain⟨B,hB,hLn⟩:=hM.ln x JX;have hR:=hM.row x JX;have hok:=h.ok x JX;have hlk:=hM.map.look hok.dest;rw[hB]at hlk;simp only[gJ]at hlk;obtain⟨t0,t1⟩:=hM.blk.cell;have hx':=(show Hid _ from hx);have hL':=(show Hid _ from hL);clear hM hx hL;go_wp2_with fail;refine(yj B x (g x.dest) hok.Ue _ hLn hR).mono ?_;rintro e w2 ⟨v',rfl,ho2,hb2⟩;obtain⟨rF,c2',rfl,_⟩:=ax ho2;have Ar:=hls.later hb2;have EI:=aN hdr hb2;have hbb:=hb.trans (hb2.mono hb.size);have aco:=ownsRow_base_a ho2 hb.size;clear hls hdr hb2 ho2 hLn hR hlk t0 t1 d0;have hla:=Ar.row.lt;have hap:∀p∈L++ [(x,Value.slice rF x.bL.length c2')],w2.ownsRow w.heap.size 34 1 p.2 p.1.bL.length (p.1.bL.map aX):=by
    intro p hp;rcases fu.1 hp with hp|hp
    ·exact Ar.bL p hp
    ·rw[fM]at hp;subst hp;exact aco
   have hk1:Hid (L.length+1<=maxLen):=by show _<=_;unfold maxLen;omega
   have hk2:Hid ((L.length+1)* 56<=140737488355328):=by show _<=_;omega
   have hr0:=Ar.row;go_wp2_with(at_builtin;refine wpList_append_own_at _ rfl _ _ 31 rfl w.heap.size 38 i0 (.agg #[.int .u32 0,.int .u32 0,.int .i64 0,.int .u32 0,.bool false,.int .u64 0,.slice none 0 0]) 7 56 Tryz.underlying31 hi hz0 hz1 hz2 rfl (by decide) u3 L.length (Qe L) rfl (hr0.alloc _) ⟨w2.heap.size,0,none⟩ 1 1 (Qe [(x,.slice rF x.bL.length c2')]) rfl rfl (TW w2 x (.slice rF x.bL.length c2')) (Zy x rF x.bL.length c2') hk1.out hk2.out ?c3 ?_)
   case c3=>have:=hbb.size;simp;omega
   intro v3 w3 ho3 hg3 _ _;have hb3:Below w2.heap.size w2 (w2.alloc (cK x (.slice rF x.bL.length c2'))):=bC;have ad7:Jh w.heap.size v3 (L++ [(x,.slice rF x.bL.length c2')]) w3:=by
    refine⟨by rw[bU,Kz,Xp];exact ho3,λp hp=> ?_⟩;have h1:=aN (hap p hp) hb3;exact h1.kept hg3 (bX h1 (hr0.alloc _) (by decide))
   have aas:=(aN EI hb3).kept hg3 (bX (aN EI hb3) (hr0.alloc _) (by decide));have hb4:=(hbb.trans (hb3.mono hbb.size)).grown hg3 (by have:=hbb.size;simp;omega) (λk e=>(hla k e).1);clear Ar EI hbb hap aco ho3 hg3 hb3 hr0 hla;go_wp2;go_roundw
   case rel=>
    refine⟨k+1,L++ [(x,.slice rF x.bL.length c2')],by omega,by go_num,?_,ad7,aas,hb4⟩;rw[List.map_append,hL'.out,List.take_add_one,hx'.out];rfl
   case measure=>simp[intOf];omega
  ·have hkn:A.length<=k:=by omega
   rw[kN hkn]at hL;clear hdr hkn;go_wp2;go_ret;exact⟨_,L,rfl,hL,hls,hb⟩
end Go.Proofs.YtakaadcpaeiccabGreat
