import Derived.Test.YtakaadcpaeiccabGreatB05
set_option maxHeartbeats 4000000
set_option maxRecDepth 100000
namespace Go.Proofs.YtakaadcpaeiccabGreat
open Go.RowKit Go.Maps
def UpP(M:Nat)(f:Int->Option Nat)(s0:Nat)(y:Rt)(w:World)(r:Ending)(w':World):Prop:=
 r=.returned (.int .i64 0)∧dP w.heap.size y (.slice none 0 0) w'∧eP w' M (dY f y.dest (some w.heap.size)) (if (f y.dest).isSome then s0 else s0+1)∧w.grownBy w' (some M)
theorem I8(T M B s0:Nat)(me d s h n e:Int)(f:Int->Option Nat)(hd:¬d=me)(hd0:¬d=0)(Da:bg d)(hs:bg s)(x:Rt)(hxs:bg x.seq)(v:Value)(hgr:Wp (newR d s h n e) x=true)(w:World)(hT:Ee T me M w)(hm:eP w M f s0)(hs0:s0<=100)
  (hf:f d=some B) (hL:dP B x v w):
  Calls Tryz.prog 161 #[.pointer (some ⟨T,0,none⟩),.int .u32 d,.int .u32 s,.int .i64 h,.int .u32 n,.int .u64 e] w (UpP M f s0 (newR d s h n e) w):=by
 have hb:Below w.heap.size w (w.alloc (bQ (newR d s h n e) (.slice none 0 0))):=bn;have hN:=dP.new (newR d s h n e) (.slice none 0 0) w;have hL1:=hL.later hb;have hm1:=hm.block (hb.block M hm.lt);have hT1:=hT.block (hb.block T hT.lt);have hlk:=hm1.look_ok Da;rw[hf]at hlk;simp only[fO,Option.isSome_some]at hlk;have q1:(d==me)=false:=by simpa using hd
 have q2:(d==0)=false:=by simpa using hd0
 have hMl:=hm.lt;obtain⟨c0,c1⟩:=hT.cell;obtain⟨t0,t1⟩:=hT1.cell;dsimp only[bQ,newR]at hb hN hL1 t0 t1 hlk hm1 hT1;have hcall:=λW=>om (newR d s h n e) hs (.slice none 0 0) W;have zk:=λW=>om x hxs v W;have HC1:=(show Hid _ from hcall);have Zv:=(show Hid _ from zk);have zi:∀W,Calls Tryz.prog 180 #[.agg #[.int .i64 (rk (newR d s h n e)),.int .i64 h],.agg #[.int .i64 (rk x),.int .i64 x.hops]] W λr w'=>r=.returned (.bool true)∧Below W.heap.size W w':=λW=>by
  rw[<-hgr];exact wL _ _ _ _ W
 have HC3:=(show Hid _ from zi);clear hcall zk zi;go_enter Tryz.func161,Tryz.ntmps161;go_wp2_with fail;clear hlk t0 t1;generalize World.alloc _ _=W1 at hb hN hL1 hm1 hT1 ⊢;go_cut [51]from 41 (λr W=>r=.bool false∧Below W1.heap.size W1 W)
 case first=>
  have hS:BP w.heap.size B (newR d s h n e) x v W1 W1:=BP.start hN hL1;go_region_held3 (BP w.heap.size B (newR d s h n e) x v W1) (first|exact BP.drew (by assumption)|assumption|exact BP.below hN hL1 (by assumption) (by assumption)) (first
   |(go_at_call_of 179 (Value.int IntKind.u32 s);refine aN (HC1.out _) ?_;rintro r w3 ⟨rfl,hb3⟩)
   |(go_at_call_of 179 v;refine aN (Zv.out _) ?_;rintro r w4 ⟨rfl,hb4⟩)
   |(go_at_call 180;refine aN (HC3.out _) ?_;rintro r w5 ⟨rfl,hb5⟩))
  all_goals
   rename_i hS5;have Yt:=(show BP w.heap.size B (newR d s h n e) x v W1 _ from hS5).2.2;go_wp2_with fail;go_meet;exact⟨rfl,Yt⟩
 case rest=>
  obtain⟨rfl,hb2⟩:=hcut;have hbb:=hb.trans (hb2.mono hb.size);have Ec:=hN.later hb2;have hm2:=hm1.block (hb2.block M hm1.lt);obtain⟨t0,t1⟩:=(hT1.block (hb2.block T hT1.lt)).cell;obtain⟨W6,hr,MC,iN⟩:=hm2.put (by unfold maxLen;omega) Da w.heap.size;have NW:=Ec.block (iN.block _ Ec.lt (λe=>by cases e;omega));have hg:w.grownBy W6 (some M):=⟨iN.os.trans hbb.os,iN.tape.trans hbb.tape,iN.output.trans hbb.output,dF hbb.size iN.size,λk hk hn=>(iN.block k (fB hk hbb.size) hn).trans (hbb.block k hk)⟩;clear hb hN hL1 hm1 hT1 hb2 hbb Ec hm2 iN;go_wp2;go_ret;exact⟨rfl,NW,MC,hg⟩
theorem I7(T M s0:Nat)(me d s h n e:Int)(f:Int->Option Nat)(hd:¬d=me)(hd0:¬d=0)(Da:bg d)(w:World)(hT:Ee T me M w)(hm:eP w M f s0)(hs0:s0<=100)
  (hf:f d=none):
  Calls Tryz.prog 161 #[.pointer (some ⟨T,0,none⟩),.int .u32 d,.int .u32 s,.int .i64 h,.int .u32 n,.int .u64 e] w λr w'=>if 8<=s0 then r=.returned (.int .i64 4)∧Below w.heap.size w w' else UpP M f s0 (newR d s h n e) w r w':=by
 have hb:Below w.heap.size w (w.alloc (bQ (newR d s h n e) (.slice none 0 0))):=bn;have hN:=dP.new (newR d s h n e) (.slice none 0 0) w;have hm1:=hm.block (hb.block M hm.lt);have hT1:=hT.block (hb.block T hT.lt);have hlk:=hm1.look_ok Da;rw[hf]at hlk;simp only[fO,Option.isSome_none]at hlk;have q1:(d==me)=false:=by simpa using hd
 have q2:(d==0)=false:=by simpa using hd0
 have hMl:=hm.lt;obtain⟨c0,c1⟩:=hT.cell;obtain⟨t0,t1⟩:=hT1.cell;dsimp only[bQ,newR]at hb hN t0 t1 hlk hm1 hT1;go_enter Tryz.func161,Tryz.ntmps161;go_wp2_with fail;clear hlk t0 t1;generalize World.alloc _ _=W1 at hb hN hm1 hT1 ⊢;go_quiet (fail);go_wp2_with fail;have hb2:Below W1.heap.size W1 (W1.drewN nq):=below_drewN (aR _ _) _;have hbb:=hb.trans (hb2.mono hb.size);have Ec:=hN.later hb2;have hm2:=hm1.block (hb2.block M hm1.lt);have Ku:=hT1.block (hb2.block T hT1.lt);clear hb hN hm1 hT1 hb2;generalize World.drewN _ _=W2 at hbb Ec hm2 Ku ⊢;refine(FW T M s0 me f _ Ku hm2).mono ?_;rintro r w3 ⟨rfl,rfl⟩;obtain⟨t0,t1⟩:=Ku.cell;by_cases h8:8<=s0
 ·have hd8:decide (8<=s0)=true:=eX h8;go_wp2;go_ret;exact⟨rfl,hbb⟩
 ·have hd8:decide (8<=s0)=false:=dL h8;obtain⟨W6,hr,MC,iN⟩:=hm2.put (by unfold maxLen;omega) Da w.heap.size;have NW:=Ec.block (iN.block _ Ec.lt (λe=>by cases e;omega));have hg:w.grownBy W6 (some M):=⟨iN.os.trans hbb.os,iN.tape.trans hbb.tape,iN.output.trans hbb.output,dF hbb.size iN.size,λk hk hn=>(iN.block k (fB hk hbb.size) hn).trans (hbb.block k hk)⟩;clear hbb Ec hm2 Ku iN;go_wp2;go_ret;exact⟨rfl,NW,MC,hg⟩
theorem J4{d s h n e:Int}(hd:bg d)(hs:bg s)(hh:nX h)(hn:bg n)(he:zP e):(newR d s h n e).Ok:=⟨hd,hs,hh,hn,he,by simp,by simp,by simp⟩
theorem zQ.fresh{me:Int}{T M:Nat}{f:Int->Option Nat}{g:Int->Value}{A:List Rt}{S:Nat->Prop}{w w':World}(hM:MT me T M f g A w)(hS:∀k,l9 T M f g A k->S k){y:Rt}(hok:y.Ok)(hbef:y.bG=[]){A':List Rt}(hL:dP w.heap.size y (.slice none 0 0) w')(hm:eP w' M (dY f y.dest (some w.heap.size)) A'.length)(hg:w.grownBy w' (some M))
  (hmem:∀z∈A',z=y∨(z∈A∧z.dest≠y.dest)) (hy:y∈A') (hsub:∀z∈A,z.dest≠y.dest->z∈A') (hasc:Asc A') (hlen:A'.length<=8):zQ me T (ext S w.heap.size w'.heap.size) A' w'∧Fx S w w':=by
 obtain⟨h1,h2⟩:=hM.fresh rfl hok hbef (aA _) hL hm (λk hk hkM=>hg.block k hk (λe=>hkM (by cases e;rfl))) hmem hy hsub hasc hlen;refine⟨⟨M,_,_,h1,λk hk=> ?_⟩,Fx.grown hg (λk e=>by cases e;exact hS _ (.inr (.inl rfl)))⟩;rcases h2 k hk with h3|rfl
 ·exact .inl (hS k h3)
 ·exact .inr ⟨aA _,hL.lt⟩
theorem I9(me:Int)(T:Nat)(S:Nat->Prop)(A:List Rt)(d s h n e:Int)(hd:bg d)(hs:bg s)(hh:nX h)(hn:bg n)(he:zP e)(w:World)(acP:zQ me T S A w):
  Calls Tryz.prog 161 #[.pointer (some ⟨T,0,none⟩),.int .u32 d,.int .u32 s,.int .i64 h,.int .u32 n,.int .u64 e] w λr w'=>r=.returned (.int .i64 (ig me A d s h n e).2)∧zQ me T (ext S w.heap.size w'.heap.size) (ig me A d s h n e).1 w'∧Fx S w w':=by
 obtain⟨M,f,g,hM,hS⟩:=acP;have hold:∀w',Below w.heap.size w w'->zQ me T (ext S w.heap.size w'.heap.size) A w'∧Fx S w w':=λw' hb=>⟨⟨M,f,g,hM.later hb,λk hk=> .inl (hS k hk)⟩,Fx.below hb⟩;unfold ig;by_cases hown:d=me∨d=0
 ·rw[aO hown];refine(I5 T M me d s h n e hown w hM.blk).mono ?_;rintro r w' ⟨rfl,rfl⟩;exact⟨rfl,hold _ (aR _ _)⟩
 ·rw[aD hown];have hd1:¬d=me:=λh=>hown (.inl h);have hd0:¬d=0:=λh=>hown (.inr h);cases hl:aK A d with
  |some x=>
   obtain⟨hx,hxd,B,hB,hL,hR⟩:=hM.line hl;dsimp only;cases hgr:Wp (newR d s h n e) x with
   |false=>
    rw[aD (by simp)];have hb:Below w.heap.size w (w.alloc (bQ (newR d s h n e) (.slice none 0 0))):=bn;have hlk:=(hM.map.block (hb.block M hM.map.lt)).look_ok hd;rw[hB]at hlk;refine(I6 T M B me d s h n e hd1 hd0 hs x (hM.ok x hx).seq (g d) hgr w hM.blk hlk hL).mono ?_;rintro r w' ⟨rfl,hb'⟩;exact⟨rfl,hold _ hb'⟩
   |true=>
    rw[aO rfl];refine(I8 T M B A.length me d s h n e f hd1 hd0 hd hs x (hM.ok x hx).seq (g d) hgr w hM.blk hM.map (by have:=hM.len;omega) hB hL).mono ?_;rintro r w' ⟨rfl,hL',hm',hg'⟩;rw[show(f (newR d s h n e).dest).isSome=true by rw[show(newR d s h n e).dest=d from rfl,hB];rfl,aO rfl]at hm';have hmem:∀z∈gD A d (Ak s h n e),z=newR d s h n e∨(z∈A∧z.dest≠d):=by
     intro z hz;rcases E9 hz with⟨z0,hz0,abP,rfl⟩|hz
     ·left;unfold Ak;rw[abP]
     ·exact .inr hz
    have abR:newR d s h n e∈gD A d (Ak s h n e):=dO.2 ⟨x,hx,by rw[aO hxd];unfold Ak;rw[hxd]⟩;refine⟨rfl,zQ.fresh (A':=gD A d (Ak s h n e)) hM hS (J4 hd hs hh hn he) rfl hL' (by rw[kM];exact hm') hg' hmem abR (λz hz hzd=>dO.2 ⟨z,hz,aD hzd⟩) (E_ hM.vQ _ _ (λ_=>rfl)) (by rw[kM];exact hM.len)⟩
  |none=>
   have hf:=hM.off hd hl;dsimp only;refine(I7 T M A.length me d s h n e f hd1 hd0 hd w hM.blk hM.map (by have:=hM.len;omega) hf).mono ?_;intro r w' hr;by_cases h8:8<=A.length
   ·rw[aO h8]at hr ⊢;obtain⟨rfl,hb'⟩:=hr;exact⟨rfl,hold _ hb'⟩
   ·rw[aD h8]at hr ⊢;obtain⟨rfl,hL',hm',hg'⟩:=hr;rw[show(f (newR d s h n e).dest).isSome=false by rw[show(newR d s h n e).dest=d from rfl,hf];rfl,aD (by simp)]at hm';have hn':=jF.1 hl;refine⟨rfl,zQ.fresh (A':=vG A (newR d s h n e)) hM hS (J4 hd hs hh hn he) rfl hL' (by rw[pQ];exact hm') hg' (λz hz=> ?_) (uq.2 (.inl rfl)) (λz hz _=>uq.2 (.inr hz)) (Qc hM.vQ hl) (by rw[pQ];omega)⟩;rcases uq.1 hz with h1|h1
    ·exact .inl h1
    ·exact .inr ⟨h1,hn' z h1⟩
def AQ(n:Int)(y:Rt):Rt:=if y.valid=true∧y.bG.length<4∧n ∉ y.bG then {y with bG:=mr n y.bG}else y
def kQ(A:List Rt)(d n:Int):List Rt:=gD A d (AQ n)
theorem lQ(n:Int)(y:Rt):(AQ n y).dest=y.dest:=by
 unfold AQ;split<;>rfl
theorem wD(a:Int)(l:List Int)(h:a ∉ l):(mr a l).length=l.length+1:=by
 induction l with
 |nil=>rfl
 |cons x l ih=>
  unfold mr;rw[aD (λe=>h (by simp[e]))];split
  ·rfl
  ·simp[ih (λe=>h (by simp[e]))]
theorem Ae(T:Nat)(d n:Int)(w:World)(hv:Calls Tryz.prog 116 #[.pointer (some ⟨T,0,none⟩),.int .u32 d] w λe w'=>e=.returned (.pointer none)∧w'=w):
  Calls Tryz.prog 182 #[.pointer (some ⟨T,0,none⟩),.int .u32 d,.int .u32 n] w λe w'=>e=.returned (.tuple #[])∧w'=w:=by
 have HV:=(show Hid _ from hv);clear hv;go_enter Tryz.func182,Tryz.ntmps182;go_wp2_with fail;refine aN HV.out ?_;rintro e w1 ⟨rfl,rfl⟩;clear HV;go_wp2;go_returns;exact⟨rfl,rfl⟩
theorem GH(T:Nat)(d n:Int)(B:Nat)(x:Rt)(v:Value)(hx:x.bG.Pairwise (·<·))(hx4:x.bG.length<=4)(w:World)(hv:Calls Tryz.prog 116 #[.pointer (some ⟨T,0,none⟩),.int .u32 d] w λe w'=>e=.returned (.pointer (some ⟨B,0,none⟩))∧w'=w)(h:dP B x v w)(hr:w.ownsRow 0 34 1 v x.bG.length (x.bG.map aS)):
  Calls Tryz.prog 182 #[.pointer (some ⟨T,0,none⟩),.int .u32 d,.int .u32 n] w λe w'=>e=.returned (.tuple #[])∧
   ((¬(x.bG.length<4∧n ∉ x.bG)∧w'=w)∨((x.bG.length<4∧n ∉ x.bG)∧∃v',dP B {x with bG:=mr n x.bG} v' w'∧w'.ownsRow 0 34 1 v' (mr n x.bG).length ((mr n x.bG).map aS)∧
    (v'.ownBlock=v.ownBlock∨∀k,v'.ownBlock=some k->w.heap.size<=k)∧w.heap.size<=w'.heap.size∧w'.os=w.os∧w'.tape=w.tape∧w'.output=w.output∧∀k,k<w.heap.size->k≠B->v.ownBlock≠some k->w'.heap[k]?=w.heap[k]?)):=by
 have hrB:v.ownBlock≠some B:=aH hr h (λc e=>by cases e);obtain⟨ao,c,rfl,_⟩:=ak hr;obtain⟨c0,c1,c2,c3,c4,c5,c6⟩:=h.cell;have HV:=(show Hid _ from hv);clear hv;by_cases h4:x.bG.length<4
 ·have hd4:decide (4<=(x.bG.length:Int))=false:=dL (by omega);have acI:decide (4<=x.bG.length)=false:=dL (by omega);go_enter Tryz.func182,Tryz.ntmps182;go_wp2_with fail;refine aN HV.out ?_;rintro e w1 ⟨rfl,rfl⟩;clear HV;go_wp2_with fail;refine(Jb _ x.bG.length x.bG n _ hr hx (by omega)).mono ?_;rintro e w2 ⟨i,hi,hlo,hhi,rfl,rfl⟩;have hiff:(x.bG[i]?==some n)=decide (n∈x.bG):=by
   by_cases hm:n∈x.bG
   ·obtain⟨k,hk⟩:=List.getElem?_of_mem hm;have hkl:=(gm.1 hk).1;have:k=i:=by
     rcases Nat.lt_trichotomy k i with h|h|h
     ·have:=hlo k n h hk;omega
     ·exact h
     ·obtain⟨y,hy⟩:∃y,x.bG[i]?=some y:=⟨_,bW (by omega)⟩;have h1:=hhi i y (aA _) hy;obtain⟨hk',rfl⟩:=gm.1 hk;obtain⟨hi',rfl⟩:=gm.1 hy;have:=List.pairwise_iff_getElem.1 hx i k hi' hk' h;omega
    subst this;rw[hk];simp[hm]
   ·rw[dL hm];cases hy:x.bG[i]? with
    |none=>rfl
    |some y=>
     have:y≠n:=λe=>hm (by rw[<-e];exact jY hy);simpa using this
  rw[hiff];by_cases hm:n∈x.bG
  ·have Kr:decide (n∈x.bG)=true:=eX hm;rw[Kr];go_wp2;go_returns;exact⟨rfl,.inl ⟨λh=>h.2 hm,rfl⟩⟩
  ·have Kr:decide (n∈x.bG)=false:=dL hm;rw[Kr];have hb1:Below w2.heap.size w2 (w2.alloc (.cells #[.int .u32 n] 34)):=bn;have hN:=bO w2 (.cells #[.int .u32 n] 34);have hr1:=aJ hr hb1;have hL1:=h.later hb1;have hlt:=hr.lt;have hins:=Ut hlo (λj y hj hy=>by have:=hhi j y hj hy;omega) hi hm;have hlen:=wD n x.bG hm;have hP:=(show Hid _ from hins);have hP2:=(show Hid _ from hlen);clear hins hlen hlo hhi hiff Kr c0 c1 c2 c3 c4 c5;go_wp2_with fail;clear c6;generalize World.alloc _ _=W1 at hb1 hN hr1 hL1 ⊢;refine(Jm _ x.bG.length i x.bG n w2.heap.size _ hr1 hi hN (λe=>by have:=(hlt _ e).2;omega) (by omega)).mono ?_;rintro e W2 ⟨v',rfl,ho2,hg2,hvb⟩;obtain⟨qD,c2',rfl,_⟩:=ak ho2;have hL2:=hL1.block (hg2.block B hL1.lt (λe=>hrB e.symm));have hL3:=hL2.Xe (.slice qD (x.bG.length+1) c2') (mr n x.bG);have hg3:W2.grownBy (W2.setCell ⟨B,6,none⟩ (.slice qD (x.bG.length+1) c2')) (some B):=ah (ay _ _) 6 _;have hB2:=aH ho2 hL2 (λc e=>by cases e);have ho3:=ho2.kept hg3 (.inr hB2);have f6:=hL2.free 6;obtain⟨_,_,_,_,_,_,c6⟩:=hL2.cell;have hsz:=dF hb1.size hg2.size;have hfr:Hid (∀k,k<w2.heap.size->k≠B->(Value.slice ao x.bG.length c).ownBlock≠some k->(W2.setCell ⟨B,6,none⟩ (.slice qD (x.bG.length+1) c2')).heap[k]?=w2.heap[k]?):=λk hk hkB hkv=>
    (hg3.block k (fB hk hsz) (λe=>hkB (by cases e;rfl))).trans ((hg2.block k (fB hk hb1.size) (λe=>hkv e.symm)).trans (hb1.block k hk))
   have hos:(W2.setCell ⟨B,6,none⟩ (.slice qD (x.bG.length+1) c2')).os=w2.os:=hg3.os.trans (hg2.os.trans hb1.os);have htp:(W2.setCell ⟨B,6,none⟩ (.slice qD (x.bG.length+1) c2')).tape=w2.tape:=hg3.tape.trans (hg2.tape.trans hb1.tape);have hou:(W2.setCell ⟨B,6,none⟩ (.slice qD (x.bG.length+1) c2')).output=w2.output:=hg3.output.trans (hg2.output.trans hb1.output);have Aw:w2.heap.size<=(W2.setCell ⟨B,6,none⟩ (.slice qD (x.bG.length+1) c2')).heap.size:=dF hsz hg3.size;have abZ:(Value.slice qD (x.bG.length+1) c2').ownBlock=(Value.slice ao x.bG.length c).ownBlock∨∀k,(Value.slice qD (x.bG.length+1) c2').ownBlock=some k->w2.heap.size<=k:=by
    rcases hvb with e|e
    ·exact .inl e
    ·exact .inr (λk hk=>dF hb1.size (e k hk))
   rw[hP.out]at ho3;clear hL1 hr1 hN hb1 ho2 hg2 hL2 hg3 hB2 hvb hsz;go_wp2;generalize World.setCell _ _ _=W3 at hL3 ho3 hfr hos htp hou Aw ⊢;go_returns;exact⟨rfl,.inr ⟨⟨h4,hm⟩,_,hL3,by rw[hP2.out];exact ho3,abZ,Aw,hos,htp,hou,hfr.out⟩⟩
 ·have hd4:decide (4<=(x.bG.length:Int))=true:=eX (by omega);have acI:decide (4<=x.bG.length)=true:=eX (by omega);go_enter Tryz.func182,Tryz.ntmps182;go_wp2_with fail;refine aN HV.out ?_;rintro e w1 ⟨rfl,rfl⟩;clear HV;go_wp2;go_returns;exact⟨rfl,.inl ⟨λh=>h4 h.1,rfl⟩⟩
theorem Jw(me:Int)(T:Nat)(S:Nat->Prop)(A:List Rt)(d n:Int)(hd:bg d)(hn:bg n)(w:World)(h:zQ me T S A w):
  Calls Tryz.prog 182 #[.pointer (some ⟨T,0,none⟩),.int .u32 d,.int .u32 n] w λe w'=>e=.returned (.tuple #[])∧zQ me T (ext S w.heap.size w'.heap.size) (kQ A d n) w'∧Fx S w w':=by
 obtain⟨M,f,g,hM,hS⟩:=h;have hold:zQ me T (ext S w.heap.size w.heap.size) A w∧Fx S w w:=⟨⟨M,f,g,hM,λk hk=> .inl (hS k hk)⟩,Fx.refl _ _⟩;have hv:=qj hM hd;unfold ru at hv;cases hl:aK A d with
 |none=>
  rw[hl]at hv;refine(Ae T d n w hv).mono ?_;rintro e w' ⟨rfl,rfl⟩;have h2:kQ A d n=A:=by unfold kQ;rw[nN hl]
  rw[h2];exact⟨rfl,hold⟩
 |some x=>
  rw[hl]at hv;obtain⟨hx,hxd,B,hB,hL,hR⟩:=hM.line hl;rw[hB]at hv;have hok:=hM.ok x hx;have hsame:¬(x.valid=true∧x.bG.length<4∧n ∉ x.bG)->kQ A d n=A:=λhc=>oz hM.vQ λy hy=>by
   rw[hl]at hy;cases hy;unfold AQ;rw[aD hc]
  cases hxv:x.valid with
  |false=>
   simp only[hxv]at hv;refine(Ae T d n w hv).mono ?_;rintro e w' ⟨rfl,rfl⟩;rw[hsame (λh=>by rw[hxv]at h;cases h.1)];exact⟨rfl,hold⟩
  |true=>
   simp only[hxv,if_true,Option.map_some]at hv;refine(GH T d n B x (g d) hok.vQ hok.Nu w hv hL hR).mono ?_;rintro e w' ⟨rfl,⟨hc,rfl⟩|⟨hc,v',hL',ho',hvb,hsz,hos,htp,hou,hfr⟩⟩
   ·rw[hsame (λh=>hc h.2)];exact⟨rfl,hold⟩
   ·have hF:AQ n x={x with bG:=mr n x.bG}:=aO ⟨hxv,hc⟩;have ht:=hM.turn (W':=w') hl hB (AQ n) (lQ n) (by
     rw[hF];refine⟨hok.dest,hok.seq,hok.hops,hok.next,hok.exp,?_,?_,Ke n x.bG hok.vQ⟩
     ·have:=wD n x.bG hc.2;dsimp only;omega
     ·intro b hb;rcases(yN n x.bG b).1 hb with rfl|hb
      ·exact hn
      ·exact hok.bG b hb) v' (by rw[hF];exact hL') (by rw[hF];exact ho') (by rcases hvb with e|e;exact .inr (.inl e);exact .inr (.inr e)) (λk hk hkB hkv=>hfr k (hM.lt hk) hkB hkv)
    refine⟨rfl,⟨M,f,_,ht.1,λk hk=> ?_⟩,⟨hos,htp,hou,hsz,λk hk hkS=>hfr k hk (λe=>hkS (by rw[e];exact hS _ (hM.inB hl hB))) (λe=>hkS (hS k (.inr (.inr ⟨x,hx,.inr (by rw[hxd];exact e)⟩))))⟩⟩;rcases ht.2 k hk with h1|h1
    ·exact .inl (hS k h1)
    ·rcases hvb with e|e
     ·exact .inl (hS k (.inr (.inr ⟨x,hx,.inr (by rw[hxd,<-e];exact h1)⟩)))
     ·exact .inr ⟨e k h1,(ho'.lt k h1).2⟩
open Go.Sort
theorem A8(a j:Nat)(d:Array Int)(hj:a<j)(hl:ltInt d[j]! d[j - 1]! =true):insInner ltInt a j d=insInner ltInt a (j - 1) (swp d j (j - 1)):=by
 match j,hj with
 |k+1,hj=>
  rw[insInner];simp only[Nat.add_sub_cancel]at hl ⊢;rw[aO];simp[hj,hl]
theorem mJ(a j:Nat)(d:Array Int)(h:j<=a∨ltInt d[j]! d[j - 1]! =false):insInner ltInt a j d=d:=by
 match j with
 |0=>rw[insInner]
 |k+1=>
  rw[insInner];simp only[Nat.add_sub_cancel]at h;rw[aD];rcases h with h|h
  ·simp;omega
  ·simp[h]
theorem qm(a b i:Nat)(d:Array Int)(h:i<b):insOuter ltInt a b i d=insOuter ltInt a b (i+1) (insInner ltInt a i d):=by rw[insOuter,aO h]
theorem vZ(a b i:Nat)(d:Array Int)(h:¬i<b):insOuter ltInt a b i d=d:=by rw[insOuter,aD h]
theorem mY(base g cap n a b:Nat)(d:Array Int)(w:World)(h:SR base g cap n d w)(hab:a<=b)(hb:b<=n)(hn:n<=1000000):
  Calls Tryz.prog 183 #[.slice (some ⟨g,0,none⟩) n cap,.int .i64 a,.int .i64 b] w λe w'=>e=.returned (.tuple #[])∧SR base g cap n (insertionSort ltInt d a b) w'∧w.grownBy w' (some g):=by
 go_enter Tryz.func183,Tryz.ntmps183;go_wp2_with fail;go_loopw [6] (λvi wr=>∃(i:Nat) (dk:Array Int),vi=.int .i64 i∧a<i∧i<=b+1∧SR base g cap n dk wr∧w.grownBy wr (some g)∧insOuter ltInt a b i dk=insertionSort ltInt d a b) (λvi _=>b+1 - (intOf vi).toNat)
 case atStart=>exact⟨a+1,d,by go_num,by omega,by omega,h,mR _ _,rfl⟩
 case round=>
  clear h;obtain⟨i,dk,rfl,hai,hib,h,hg,hO⟩:=hrel;have HO:=(show Hid _ from hO);clear hO;by_cases hlt:i<b
  ·have hix:(i:Int)<(b:Int):=by omega
   go_wp2_with fail;go_loopw [7] (λvj wr2=>∃(j:Nat) (dj:Array Int),vj=.int .i64 j∧a<=j∧j<=i∧SR base g cap n dj wr2∧w.grownBy wr2 (some g)∧insInner ltInt a j dj=insInner ltInt a i dk) (λvj _=>(intOf vj).toNat)
   case atStart=>exact⟨i,dk,rfl,by omega,aA _,h,hg,rfl⟩
   case round=>
    clear h hg;obtain⟨j,dj,rfl,haj,hji,h,hg,hI⟩:=hrel;have hjn:(j:Int)<(n:Int):=by omega
    have acE:(j:Int) - 1<(n:Int):=by omega
    by_cases hja:a<j
    ·have hjp:(1:Int)<=(j:Int):=by omega
     have c0:=h.cell (j:=j) (by omega);have c1:=h.cell (j:=j - 1) (by omega);have f0:=h.free j;have f1:=h.free (j - 1);have hq:(j:Int) - 1=((j - 1:Nat):Int):=by omega
     have hs:=h.swap j (j - 1);have hgs:=λu v=>oJ wr g j (j - 1) u v;have hgo:=A8 a j dj hja;have hst:=mJ a j dj;generalize hX:dj[j]! =X at c0 hs hgo hst;generalize hY:dj[j - 1]! =Y at c1 hs hgo hst;have hJn:((j - 1:Nat):Int)<(n:Int):=by omega
     have hj0:(0:Int)<=(j:Int) - 1:=by omega
     generalize hJ:j - 1=J at c1 f1 hq hs hgs hgo hst hJn;have HJ:=(show Hid _ from hJ);have HI:=(show Hid _ from hI);have HS:=(show Hid _ from hst);clear hJ hI hst;have hdj:decide (a<j)=true:=eX hja;go_wp2_with fail;go_quiet (first|(go_at_call 189;refine Calls.quiet_of_same (uQ _ _ _)));cases hl:ltInt X Y
     ·go_wp2;go_roundw
      case rel=>exact⟨i+1,dj,by go_num,by omega,by omega,h.drewN _,hg.trans (nP _ _ _),by rw[<-HO.out,qm _ _ _ _ hlt,<-HI.out,HS.out (.inr hl)]⟩
      case measure=>simp[intOf];omega
     ·have hs':=(h.drewN (nq+1)).swap j J;have hg':=hg.trans ((nP wr (nq+1) (some g)).trans (oJ _ g j J (.int .u32 dj[J]!) (.int .u32 dj[j]!)));rw[hX,<-HJ.out,hY,HJ.out]at hs' hg';have hJj:J+1=j:=by have:=HJ.out;omega
      clear hX hY;go_wp2_with fail;go_region
      all_goals go_wp2
      go_roundw
      case rel=>exact⟨J,swp dj j J,rfl,by omega,by omega,hs',hg',by rw[<-HI.out,hgo hl]⟩
      case measure=>simp[intOf];omega
    ·have hdj:decide (a<j)=false:=dL hja;have hst:=mJ a j dj (.inl (by omega));go_wp2_with fail;go_quiet (fail);go_wp2;go_roundw
     case rel=>exact⟨i+1,dj,by go_num,by omega,by omega,h.drewN _,hg.trans (nP _ _ _),by rw[<-HO.out,qm _ _ _ _ hlt,<-hI,hst]⟩
     case measure=>simp[intOf];omega
  ·have hend:insOuter ltInt a b i dk=dk:=vZ a b i dk hlt;rw[HO.out]at hend;rw[<-hend]at h;go_wp2;go_returns;exact⟨rfl,h,hg⟩
def tab:ByteArray:=⟨#[0,1,2,2,3,3,3,3,4,4,4,4,4,4,4,4,5,5,5,5,5,5,5,5,5,5,5,5,5,5,5,5,6,6,6,6,6,6,6,6,6,6,6,6,6,6,6,6,6,6,6,6,6,6,6,6,6,6,6,6,6,6,6,6,7,7,7,7,7,7,7,7,7,7,7,7,7,7,7,7,7,7,7,7,7,7,7,7,7,7,7,7,7,7,7,7,7,7,7,7,7,7,7,7,7,7,7,7,7,7,7,7,7,7,7,7,7,7,7,7,7,7,7,7,7,7,7,7,8,8,8,8,8,8,8,8,8,8,8,8,8,8,8,8,8,8,8,8,8,8,8,8,8,8,8,8,8,8,8,8,8,8,8,8,8,8,8,8,8,8,8,8,8,8,8,8,8,8,8,8,8,8,8,8,8,8,8,8,8,8,8,8,8,8,8,8,8,8,8,8,8,8,8,8,8,8,8,8,8,8,8,8,8,8,8,8,8,8,8,8,8,8,8,8,8,8,8,8,8,8,8,8,8,8,8,8,8,8,8,8,8,8,8,8,8,8,8,8,8,8,8,8,8,8,8,8]⟩
theorem G_:∀k,(h:k<tab.size)->tab[k].toNat<=8∧(0<k->2 ^ tab[k].toNat<=2 * k):=of_decide_eq_true (by kernel_rfl)
theorem Zx{x:Int}(h:0<=x)(h':x<1000):wrap64 x=x:=by
 unfold wrap64;omega
theorem Ml(x:Nat)(hx:x<=1000000)(w:World):
  Calls Tryz.prog 193 #[.int .u64 x] w λe w'=>∃r:Nat,e=.returned (.int .i64 r)∧r<=32∧(0<x->2 ^ r<=2 * x)∧w'=w:=by
 have h0:decide ((4294967296:Int)<=(x:Int))=false:=dL (by omega);by_cases h1:65536<=x
 ·have h1':decide ((65536:Int)<=(x:Int))=true:=eX (by omega);go_enter Tryz.func193,Tryz.ntmps193;go_wp2;generalize hT:UInt8.toNat _=t;have hP:t<=8∧(0<x / 65536->2 ^ t<=2 * (x / 65536)):=by
   rw[<-hT];exact G_ _ _
  clear hT;rw[Zx (x:=(t:Int)) (by omega) (by omega),Zx (x:=16+(t:Int)) (by omega) (by omega)];go_ret;refine⟨16+t,by go_num,by omega,λ_=> ?_,rfl⟩;rw[Nat.pow_add];have:=hP.2 (by omega);omega
 ·have h1':decide ((65536:Int)<=(x:Int))=false:=dL (by omega);by_cases h2:256<=x
  ·have h2':decide ((256:Int)<=(x:Int))=true:=eX (by omega);go_enter Tryz.func193,Tryz.ntmps193;go_wp2;generalize hT:UInt8.toNat _=t;have hP:t<=8∧(0<x / 256->2 ^ t<=2 * (x / 256)):=by
    rw[<-hT];exact G_ _ _
   clear hT;rw[Zx (x:=(t:Int)) (by omega) (by omega),Zx (x:=8+(t:Int)) (by omega) (by omega)];go_ret;refine⟨8+t,by go_num,by omega,λ_=> ?_,rfl⟩;rw[Nat.pow_add];have:=hP.2 (by omega);omega
  ·have h2':decide ((256:Int)<=(x:Int))=false:=dL (by omega);go_enter Tryz.func193,Tryz.ntmps193;go_wp2;generalize hT:UInt8.toNat _=t;have hP:t<=8∧(0<x->2 ^ t<=2 * x):=by
    rw[<-hT];exact G_ _ _
   clear hT;rw[Zx (x:=(t:Int)) (by omega) (by omega),Zx (x:=(t:Int)) (by omega) (by omega)];go_ret;exact⟨t,rfl,by omega,hP.2,rfl⟩
theorem CS(x:Nat)(hx:x<=1000000)(w:World):
  Calls Tryz.prog 173 #[.int .u64 x] w λe w'=>∃r:Nat,e=.returned (.int .i64 r)∧r<=32∧(0<x->2 ^ r<=2 * x)∧w'=w:=by
 go_enter Tryz.func173,Tryz.ntmps173;go_wp2_with fail;refine(Ml x hx w).mono ?_;rintro e w' ⟨r,rfl,h1,h2,rfl⟩;go_wp2;go_ret;exact⟨r,rfl,h1,h2,rfl⟩
def PQ(base g cap n a b:Nat)(d:Array Int)(w:World)(e:Ending)(w':World):Prop:=
 e=.returned (.tuple #[])∧∃d',SR base g cap n d' w'∧PermIn a b d d'∧SortedIn ltInt a b d'∧w.grownBy w' (some g)
theorem Ct(base g cap n r:Nat)(d:Array Int)(w:World)(h:SR base g cap n d w)(hn:n<=12):
  Calls Tryz.prog 172 #[.slice (some ⟨g,0,none⟩) n cap,.int .i64 0,.int .i64 n,.int .i64 r] w (PQ base g cap n 0 n d w):=by
 have acJ:decide ((n:Int)<=12)=true:=eX (by omega);have aa0:decide (n<=12)=true:=eX hn;obtain⟨i1,i2⟩:=insertionSort_holds swo_ltInt d 0 n (bX _) (by rw[h.size];exact aA _);go_enter Tryz.func172,Tryz.ntmps172;go_wp2_with fail;go_loopw [1,2] (λva vb wr=>va=.int .i64 0∧vb=.int .i64 n∧SR base g cap n d wr∧w.grownBy wr (some g)) (λ_ _ _=>0)
 case atStart=>exact⟨rfl,rfl,h,mR _ _⟩
 case round=>
  obtain⟨rfl,rfl,h1,hg⟩:=hrel;have hcall:=(show Hid _ from mY base g cap n 0 n d _ h1 (bX _) (aA _) (by omega));clear h h1;go_wp2_with fail;refine aN hcall.out ?_;rintro e W2 ⟨rfl,h2,hg2⟩;clear hcall;go_wp2;go_returns;exact⟨rfl,_,h2,i1,i2,hg.trans hg2⟩
theorem tJ(base g cap n:Nat)(d:Array Int)(w:World)(h:SR base g cap n d w)(hn:n<=12):
  Calls Tryz.prog 140 #[.slice (some ⟨g,0,none⟩) n cap] w (PQ base g cap n 0 n d w):=by
 go_enter Tryz.func140,Tryz.ntmps140;go_wp2_with fail;refine(CS n (by omega) _).mono ?_;rintro e w1 ⟨r,rfl,hr,_,rfl⟩;have hp:=Ct base g cap n r d _ h hn;have HP:=(show Hid _ from hp);clear hp;go_wp2_with fail;refine aN HP.out ?_;rintro e w2 ⟨rfl,d',h',hp,hs,hg⟩;clear HP;go_wp2;go_returns;exact⟨rfl,d',h',hp,hs,hg⟩
theorem Av(w:World):
  Calls Tryz.prog 183 #[.slice none 0 0,.int .i64 0,.int .i64 0] w λe w'=>e=.returned (.tuple #[])∧w.grownBy w' none:=by
 go_enter Tryz.func183,Tryz.ntmps183;go_wp2_with fail;go_loopw [6] (λvi wr=>vi=.int .i64 1∧w.grownBy wr none) (λ_ _=>0)
 case atStart=>exact⟨rfl,mR _ _⟩
 case round=>
  obtain⟨rfl,hg⟩:=hrel;go_wp2;go_returns;exact⟨rfl,hg⟩
theorem Ua(r:Nat)(w:World):
  Calls Tryz.prog 172 #[.slice none 0 0,.int .i64 0,.int .i64 0,.int .i64 r] w λe w'=>e=.returned (.tuple #[])∧w.grownBy w' none:=by
 go_enter Tryz.func172,Tryz.ntmps172;go_wp2_with fail;go_loopw [1,2] (λva vb wr=>va=.int .i64 0∧vb=.int .i64 0∧w.grownBy wr none) (λ_ _ _=>0)
 case atStart=>exact⟨rfl,rfl,mR _ _⟩
 case round=>
  obtain⟨rfl,rfl,hg⟩:=hrel;go_wp2_with fail;refine(Av _).mono ?_;rintro e w1 ⟨rfl,h1⟩;go_wp2;go_returns;exact⟨rfl,hg.trans h1⟩
theorem Oj(w:World):
  Calls Tryz.prog 140 #[.slice none 0 0] w λe w'=>e=.returned (.tuple #[])∧w.grownBy w' none:=by
 go_enter Tryz.func140,Tryz.ntmps140;go_wp2_with fail;refine(CS 0 (by omega) _).mono ?_;rintro e w1 ⟨r,rfl,hr,_,rfl⟩;go_wp2_with fail;refine(Ua r _).mono ?_;rintro e w2 ⟨rfl,hg⟩;go_wp2;go_returns;exact⟨rfl,hg⟩
variable{d:Array Int}{n:Nat}
theorem yG{d':Array Int}(hd:d.size=n)(h:PermIn 0 n d d'):d'.toList.Perm d.toList:=by
 obtain⟨h1,_,h3⟩:=h;have e1:d.extract 0 n=d:=by rw[<-hd];simp
 have e2:d'.extract 0 n=d':=by rw[<-hd,<-h1];simp
 rw[e1,e2]at h3;exact h3
theorem rE(hd:d.size=n)(h:SortedIn ltInt 0 n d):d.toList.Pairwise (·<=·):=by
 rw[List.pairwise_iff_getElem];intro i j hi hj hij;have hi':i<d.size:=by simpa using hi
 have hj':j<d.size:=by simpa using hj
 have:=h i j (bX _) hij (by omega);simp only[ltInt,decide_eq_false_iff_not]at this;rw[getElem!_pos d j hj',getElem!_pos d i hi']at this;simp only[Array.getElem_toList];omega
theorem rD(g:Nat)(lb:Array Value)(eg:∀args w,(callFunc g args).run Tryz.prog w=.ok (.enter g args) w)
  (S:List Int->Prop) (N:Nat) (hN:N<=12) (w:World) (hseq:SeqGives Fence.wide 1 Tryz.prog g lb aS S N w):
  Calls Tryz.prog 102 #[.func (.func g) #[] lb] w λe w'=>∃(v:Value) (ts ss:List Int),e=.returned v∧S ss∧ts.Perm ss∧ts.Pairwise (·<=·)∧ts.length<=N∧
   w'.ownsRow w.heap.size 34 1 v ts.length (ts.map aS)∧Below w.heap.size w w':=by
 have hc:=callsIn_wide.1 (collect_in Fence.wide 3 trivial trivial rfl (aA _) g lb trivial eg _ N (by unfold maxLen;omega) (by omega) w hseq.bounded);have HC:=(show Hid _ from hc);clear hc hseq;go_enter Tryz.func102,Tryz.ntmps102;go_wp2_with fail;refine aN HC.out ?_;rintro e W ⟨v,ss,rfl,⟨hS,hlen⟩,hrow,hnil,hb⟩;clear HC;rcases hrow.2 with⟨rfl,hz⟩|⟨gb,cap,cur,rfl,hbase,hgb,r1,r2,r3,r4⟩
 ·have hss:ss=[]:=qZ hz;subst hss;go_wp2_with fail;refine(Oj _).mono ?_;rintro e w2 ⟨rfl,hg⟩;go_wp2;go_ret;refine⟨.slice none 0 0,[],[],rfl,hS,List.Perm.refl _,List.Pairwise.nil,bX _,⟨rfl,.inl ⟨rfl,rfl⟩⟩,hb.grown hg hb.size (λk e=>by cases e)⟩
 ·have hSR:SR w.heap.size gb cap ss.length ss.toArray W:=⟨by simp,by
   have:UC ss.toArray=ss.map aS:=by simp[UC]
   rw[this];exact hrow⟩
  have hs:=tJ w.heap.size gb cap ss.length ss.toArray W hSR (by omega);have HS:=(show Hid _ from hs);have HB:=(show Hid _ from hb);clear hs hSR hgb r3 r4 hrow hb;go_wp2_with fail;refine aN HS.out ?_;rintro e w2 ⟨rfl,d',h',hp,hso,hg⟩;clear HS;go_wp2;go_ret;have hsz:d'.size=ss.length:=h'.size;have hl:d'.toList.length=ss.length:=by simpa using hsz
  have hpa:=yG (by simp) hp;refine⟨_,d'.toList,ss,rfl,hS,by simpa using hpa,rE hsz hso,by omega,?_,HB.out.grown hg HB.out.size (λk e=>by cases e;exact hbase)⟩;rw[hl];exact h'.row
variable{H:Type}
theorem Lx(F:Fence)(n:Nat)(h10:F.fn 170)(hro:F.round=none)(hn:1<=n)(l Bm b nn:Nat)(D0:DataW H){R:Value->Option (DataW H×List MemPlace)}(J:List Int->World->Prop)
  (hY:∀pre x W,J pre W->pre.length<Maps.size D0->YieldAt F (n - 1) Tryz.prog l #[aS x] W λe W'=>e=.returned (.bool true)∧J (pre++ [x]) W'∧KeepsWalks W W')
  (W:World) (hJ:AbidesFrom W.heap.size J) (hm:W.cell? ⟨Bm,0,none⟩=some (.map (some b))) (hown:W.ownsMap Tryz.prog 34 R b nn D0) (h0:J [] W):
  CallsIn F n Tryz.prog 170 #[.func (.yield l) #[] #[],.pointer (some ⟨Bm,0,none⟩)] W λe W'=>(∃v,e=.returned v)∧∃ss:List Int,uR D0 ss∧J ss W':=by
 refine callsIn_of_wp Tryz.func170 rfl h10 ?_ hro;simp only[Tryz.ntmps170,List.size_toArray,dR,List.length_nil,Nat.reduceAdd,Nat.reduceSub,Array.replicate_succ,Array.replicate_zero,List.push_toArray,List.append_toArray,List.nil_append,List.cons_append]
 gi_wp2_with (first
  |(gi_at_range;refine wpListIn_range_own _ rfl _ 156 rfl 34 161 fE Tryz.underlying156 _ b nn _ rfl hown ?_;intro w0 hrg0 hg0 hs0)
  |gi_in)
 go_frame
 gi_loopw [3] (λ_ wr=>∃(left:Lit->Bool) (cnt:Nat) (ss:List Int),wr.ranges Tryz.prog 34 R b W.heap.size nn D0 left cnt∧ss.length+cnt<=Maps.size D0∧fK D0 left ss∧J ss wr)
  (λ_ wr=>wr.rangeLeft b W.heap.size)
 case atStart=>
  exact⟨_,_,[],hrg0,by simp,fK.start D0,hJ [] W w0 none h0 hg0 (λr e=>by cases e)⟩
 case round=>
  obtain⟨left,cnt,ss,hrg,hcs,hC,hJs⟩:=hrel
  gi_wp2_with (first
   |(gi_at_next;refine wpListIn_next_ranges _ rfl _ rfl 34 fE R aS id (λkey kl hk=>by obtain⟨x,hx,_⟩:=ko Tryz.underlying34 hk;exact⟨x,hx⟩) (λv _ _=>⟨v,rfl⟩) b W.heap.size nn _ _ _ rfl hrg ?_ ?_)
   |gi_in)
  ·intro hc0 hl0
   gi_wp2
   go_end0
   exact⟨⟨_,rfl⟩,ss,hC.keys hl0,hJs⟩
  ·intro x c kl yd yp w2 cnt2 hkey hlk hv hat hrg2 hlt hg2 hs2 hen;obtain⟨x',ex,rfl,hwf⟩:=ko Tryz.underlying34 hkey;obtain rfl:x=x':=zy ex;have hJ2:J ss w2:=hJ ss wr w2 (some W.heap.size) hJs hg2 (λr e=>by cases e;exact⟨aA _,hrg.iter_walk⟩);obtain⟨fn,tmps,assign,body,hy,hR⟩:=hY ss x w2 hJ2 (by omega);clear hs2
   gi_wp2
   refine hR.mono ?_;rintro e W3 ⟨rfl,hJ3,hk3⟩
   gi_wp2
   have hrg3:=hrg2.of_walks hk3;go_roundw
   case rel=>exact⟨_,cnt2,ss++ [x],hrg3,by simp;omega,hC.step hlk hat hwf,hJ3⟩
   case measure=>rw[hrg3.left_eq,hrg.left_eq];exact hlt
theorem ED(F:Fence)(n:Nat)(h10:F.fn 170)(hro:F.round=none)(hn:1<=n)(Bm b nn:Nat)(D0:DataW H){R:Value->Option (DataW H×List MemPlace)}(w:World)(hBm:Bm<w.heap.size)
  (hm:w.cell? ⟨Bm,0,none⟩=some (.map (some b))) (hown:w.ownsMap Tryz.prog 34 R b nn D0):
  SeqGives F n Tryz.prog 170 #[.pointer (some ⟨Bm,0,none⟩)] aS (uR D0) (Maps.size D0) w:=λl J W hW hJ hY h0=>by
 have hown':W.ownsMap Tryz.prog 34 R b nn D0:=by
  have hbl:=hown.lt;obtain⟨es,clock,hb,Ft,hs,hD⟩:=hown;exact⟨es,clock,(hW.block b hbl).trans hb,Ft,hs,hD⟩
 exact Lx F n h10 hro hn l Bm b nn D0 J hY W hJ ((hW.cell (p:=⟨Bm,0,none⟩) hBm).trans hm) hown' h0
def abG(L:List (Bool×Int×Int))(w:World)(e:Ending)(w':World):Prop:=
 ∃v out,e=.returned v∧jI (Ar L) (qF L) out∧out.length<=L.length+1∧w'.ownsRow w.heap.size 82 3 v out.length (RC out)∧Below w.heap.size w w'
theorem nZ{L:List (Bool×Int×Int)}{k:Nat}{x:Bool×Int×Int}(h:L[k]?=some x):L.take (k+1)=L.take k++ [x]:=by
 obtain⟨hk,rfl⟩:=gm.1 h;exact List.take_succ_eq_append_getElem hk
open Go.WideElems
variable{M:Nat}{W:World}
theorem EX:∀(l m:List Int),l.Nodup->(∀a∈l,a∈m)->l.length<=m.length
 | [],_,_,_=>bX _
 |a::l,m,hn,hm=>by
  rw[List.nodup_cons]at hn;have h1:=EX l (m.erase a) hn.2 λb hb=>by
   have hne:b≠a:=λe=>hn.1 (e▸hb);exact(List.mem_erase_of_ne hne).2 (hm b (kU _ hb))
  have h2:a∈m:=hm a jo;have h3:=List.length_erase_of_mem h2;have h4:=List.length_pos_of_mem h2;simp only[dR];omega
theorem Fb{H:Type}(l:List (Lit×DataW H))(p:Lit×DataW H)(h:p∈l.foldr DataW.insert []):p∈l:=by
 induction l with
 |nil=>simp at h
 |cons x l ih=>
  rw[List.foldr_cons]at h;rcases ChangeMaps.mem_insert_iff.1 h with rfl|h
  ·exact jo
  ·exact kU _ (ih h)
theorem MapU.size_le{f:Int->Option Int}{s:Nat}(h:MapU W M f s)(l:List Int)(hl:∀d,bg d->(f d).isSome=true->d∈l):s<=l.length:=by
 obtain⟨D,h1,h2,h3⟩:=h;obtain⟨es0,he0,hp⟩:=h1.tidy fE;obtain⟨es,clock,hb,F,hs,hD⟩:=h1;rw[hD]at he0;simp only[DataW.map.injEq]at he0;have hkey:∀p∈es0,∃d,bg d∧p.1=.int .u32 d:=by
  intro p hp;rw[<-he0]at hp;have:=Fb _ _ hp;obtain⟨x,hx,rfl⟩:=dO.1 this;obtain⟨y,hy⟩:=F.reads x hx;have h5:=rd_key hy;have h6:rg Tryz.prog 34 (plainElem Tryz.prog 34) x=y:=by
   unfold rg;rw[hy];rfl
  obtain⟨d,_,hd,hwf⟩:=ko Tryz.underlying34 h5;have hb:=bounds_u32 hwf;exact⟨d,⟨hb.1,by have:=hb.2;omega⟩,by rw[h6];exact hd⟩
 have hlen:es0.length=s:=by
  rw[<-h2,hD,he0];rfl
 have hmem:∀p∈es0,∀d,bg d->p.1=.int .u32 d->d∈l:=by
  intro p hp d hd e;refine hl d hd ?_;rw[<-(h3 d hd).1,hD,he0,has_eq];rw[List.any_eq_true];exact⟨p,hp,by rw[e];simp[Lit.sameKey]⟩
 have hgen:∀es0:List (Lit×DataW Unit),es0.Pairwise (λp q=>p.1≠q.1)->(∀p∈es0,∃d,bg d∧p.1=.int .u32 d)->∃ds:List Int,ds.length=es0.length∧ds.Nodup∧∀d∈ds,∃p∈es0,bg d∧p.1=.int .u32 d:=by
  intro es0
  induction es0 with
  |nil=>intro _ _;exact⟨[],rfl,List.nodup_nil,λ_ h=>by cases h⟩
  |cons p es0 ih=>
   intro hp hk;rw[List.pairwise_cons]at hp;obtain⟨ds,e1,e2,e3⟩:=ih hp.2 λq hq=>hk q (kU _ hq);obtain⟨d,hd,hpd⟩:=hk p jo;refine⟨d::ds,by simp[e1],List.nodup_cons.2 ⟨λhmem=> ?_,e2⟩,λd' hd'=> ?_⟩
   ·obtain⟨q,hq,_,V6⟩:=e3 d hmem;exact hp.1 q hq (by rw[hpd,V6])
   ·rcases eF.1 hd' with rfl|h
    ·exact⟨p,jo,hd,hpd⟩
    ·obtain⟨q,hq,h1⟩:=e3 d' h;exact⟨q,kU _ hq,h1⟩
 obtain⟨ds,e1,e2,e3⟩:=hgen es0 hp hkey;rw[<-hlen,<-e1];exact EX ds l e2 λd hd=>by
  obtain⟨p,hp,hu,he⟩:=e3 d hd;exact hmem p hp d hu he
def KY(L:List (Bool×Int×Int)):Prop:=∃l:List Int,l.length<=12∧∀a,(Ar L a).isSome=true->a∈l
theorem YV{L:List (Bool×Int×Int)}{sz:Nat}(h:KY L)(hm:MapU W M (Ar L) sz):sz<=12:=by
 obtain⟨l,h1,h2⟩:=h;exact dF (hm.size_le l λd _ hd=>h2 d hd) h1
variable{W:World}
theorem bP{b1 b2 e1 e2 s1 s2 n1 n2:Nat}{v1 v2:Value}{x1 x2:List Value}(h1:W.ownsRow b1 e1 s1 v1 n1 x1)(h2:W.ownsRow b2 e2 s2 v2 n2 x2)(hne:e1≠e2):v1.ownBlock=none∨v1.ownBlock≠v2.ownBlock:=by
 rcases h1.2 with⟨rfl,_⟩|⟨g1,c1,k1,rfl,_,q1,_⟩
 ·exact .inl rfl
 ·rcases h2.2 with⟨rfl,_⟩|⟨g2,c2,k2,rfl,_,q2,_⟩
  ·exact .inr (by simp[Value.ownBlock])
  ·refine .inr λe=> ?_;simp only[Value.ownBlock,Option.some.injEq]at e;subst e;rw[q1]at q2;cases q2;exact hne rfl
theorem o7.TD{B:Nat}{o:Bool}{a s:Int}(h:o7 B o a s W)(s':Int):o7 B o a s' (W.setCell ⟨B,2,none⟩ (.int .u32 s')):=by
 unfold o7 at h ⊢;simp[World.setCell,dM,h]
theorem Bo(f:Int->Option Int)(ss:List Int)(a:Int):gQ f (ss++ [a])=gQ f ss++ [(false,a,(f a).getD 0)]:=by simp[gQ]
theorem Bc(f:Int->Option Int)(a s:Int):stepM f (false,a,s)=kX f a (some (max ((f a).getD 0) s)):=rfl
theorem PD:MB λ_=>none:=λa v h=>by cases h
theorem Pj:OB none:=λv h=>by cases h
theorem JN{L:List (Bool×Int×Int)}(h:oV L){x:Bool×Int×Int}(hx:x∈L):bg x.2.1∧bg x.2.2:=by
 have:=h x hx;unfold bg;omega
theorem ul(ao:Option Addr)(n c:Nat)(L:List (Bool×Int×Int))(hL:L.length=n)(hn:n<=50000)(hbd:oV L)(hfw:KY L)(w:World)(hA:fU w ao (RC L)):
  Calls Tryz.prog 69 #[.slice ao n c] w (abG L w):=by
 obtain⟨i0,hi,hz0,hz1,hz2⟩:=info_parts pU;have hmm:=@run_makeMap Tryz.prog;have hM0:=MapU.made (w.alloc (aU true 0 0));rw[World.size_alloc]at hM0;have hB0:o7 w.heap.size true 0 0 ((w.alloc (aU true 0 0)).alloc (.map #[] 0)):=(o7.new true 0 0 w).later (bn);have hb0:Below w.heap.size w ((w.alloc (aU true 0 0)).alloc (.map #[] 0)):=(bn).alloc (by simp) _;have hs0:w.heap.size+2<=((w.alloc (aU true 0 0)).alloc (.map #[] 0)).heap.size:=by simp
 dsimp only[aU]at hM0 hB0 hb0 hs0;go_enter Tryz.func69,Tryz.ntmps69;go_wp2_with fail;clear hmm;generalize World.alloc _ _=W0 at hM0 hB0 hb0 hs0 ⊢;go_loopw [4,15] (λq i wr=>∃(k sz:Nat),k<=n∧i=.int .i64 k∧q=.bool (qF (L.take k)).isSome∧MB (Ar (L.take k))∧OB (qF (L.take k))∧o7 w.heap.size true 0 ((qF (L.take k)).getD 0) wr∧MapU wr (w.heap.size+1) (Ar (L.take k)) sz∧sz<=k∧Below w.heap.size w wr∧w.heap.size+2<=wr.heap.size) (λ_ i _=>n - (intOf i).toNat)
 case atStart=>exact⟨0,0,bX _,rfl,rfl,PD,Pj,hB0,hM0,aA _,hb0,hs0⟩
 case round=>
  clear hM0 hB0 hb0 hs0;obtain⟨k,sz,hk,rfl,rfl,hmb,hob,hB,hm,hsz,hb,hs2⟩:=hrel;by_cases hlt:k<n
  ·have hki:(k:Int)<(n:Int):=by omega
   obtain⟨x,hx⟩:∃x,L[k]?=some x:=⟨_,bW (by omega)⟩;have hat:∀i z,i<3->([.bool x.1,.int .u32 x.2.1,.int .u32 x.2.2]:List Value)[i]?=some z->(RC L)[k * 3+i]?=some z:=λi z hi hz=>(jW (λx:Bool×Int×Int=>([Value.bool x.1,Value.int .u32 x.2.1,Value.int .u32 x.2.2]:List Value)) 3 (by decide) (λ_=>rfl) L k i hi hx).trans hz;have hA':=hA.below hb;obtain⟨b1,o1,rfl,hj1⟩:=hA' (k * 3+0) _ (hat 0 _ (by decide) rfl);have d0:=hA'.one rfl (hat 0 _ (by decide) rfl);have d1:=hA'.one rfl (hat 1 _ (by decide) rfl);have d2:=hA'.one rfl (hat 2 _ (by decide) rfl);have hxu:=JN hbd (jY hx);have eM:Hid (Ar (L.take (k+1))=stepM (Ar (L.take k)) x):=by
    show _=_;rw[nZ hx,E8]
   have eO:Hid (qF (L.take (k+1))=oN (qF (L.take k)) x):=by
    show _=_;rw[nZ hx,yJ]
   have Ya:Hid (MB (Ar (L.take (k+1)))):=by
    show MB _;rw[eM.out];exact hmb.step hxu.1 hxu.2
   have aaF:Hid (OB (qF (L.take (k+1)))):=by
    show OB _;rw[eO.out];exact hob.step hxu.2
   obtain⟨xo,xa,xs⟩:=x;dsimp only at d0 d1 d2 hxu;rw[Nat.add_zero]at d0;rw[<-Nat.add_assoc]at d1 d2;have hB1:=hB.later ((aR _ wr).alloc (aA _) (aU xo xa xs));have hm1:=hm.kept (jM wr (aU xo xa xs) none) (by simp);have hb1:=hb.alloc hb.size (aU xo xa xs);have hs1:w.heap.size+2<=(wr.alloc (aU xo xa xs)).heap.size:=by simp;omega
   clear hj1 hat hA' hx hB hm hb hmb;generalize Ar (L.take k)=f at hm1 eM;have ho:OB (qF (L.take k)):=hob;generalize qF (L.take k)=cc at hB1 eO ho ⊢;clear hob;cases xo
   ·have hl:=hm1.look hxu.1;obtain⟨W2,hr,hm2,hg2⟩:=hm1.put (by unfold maxLen;omega) hxu.1 (v:=max ((f xa).getD 0) xs) (by
     have hh:=(Ya.out);rw[eM.out,Bc]at hh;exact(hh xa _ (by simp[kX])).2)
    have hB2:=hB1.kept hg2 (by simp);have hb2:=hb1.grown hg2 hb1.size (λk e=>by cases e;omega);have hs3:=dF hs1 hg2.size;have ab6:(if (f xa).isSome then sz else sz+1)<=k+1:=by split<;>omega
    rw[Bc]at eM;clear hm1 hB1 hb1 hg2 hs1 hs2 ho;dsimp only[aU]at hl hr;generalize (f xa).getD 0=fx at hl hr hm2 eM;go_wp2;go_roundw
    case rel=>exact⟨k+1,_,by omega,by go_num,by rw[eO.out];rfl,Ya.out,aaF.out,by rw[eO.out];exact hB2,by rw[eM.out];exact hm2,ab6,hb2,hs3⟩
    case measure=>simp[intOf];omega
   ·obtain⟨c0,c1,c2⟩:=hB1.cell;have ff:=hB1.free 2;have hm2:=λv=>hm1.kept (ah (ay _ (some w.heap.size)) 2 v) (by simp);have hB2:=λv=>hB1.TD v;have hb2:=λv=>hb1.setCell (p:=⟨w.heap.size,2,none⟩) (aA _) v;have hs3:∀v,w.heap.size+2<=((wr.alloc (aU true xa xs)).setCell ⟨w.heap.size,2,none⟩ v).heap.size:=λv=>dF hs1 (ah (ay _ (some w.heap.size)) 2 v).size;clear hm1 hB1 hb1 hs1 hs2 hxu;dsimp only[aU]at c0 c1 c2 ff hm2 hB2 hb2 hs3;have Vk:Hid (qF (L.take (k+1))=some (max (cc.getD 0) xs)):=by
     show _=_;rw[eO.out];rfl
    clear eO ho;generalize cc.getD 0=t at c2 Vk;go_wp2;go_roundw
    case rel=>exact⟨k+1,sz,by omega,by go_num,by rw[Vk.out];rfl,Ya.out,aaF.out,by rw[Vk.out];exact hB2 _,by rw[eM.out];exact hm2 _,by omega,hb2 _,hs3 _⟩
    case measure=>simp[intOf];omega
  ·have hkn:n<=k:=by omega
   rw[l_ (by omega)]at hB hm hmb hob ⊢;have hsn:sz<=L.length:=by omega
   have hLn:L.length<=50000:=by omega
   have hnn:n=L.length:=hL.symm;clear hkn hsz hs2 hA hL;have adK:=YV hfw hm;clear hfw;generalize hf:Ar L=f at hm hmb;have hf':=(show Hid _ from hf);generalize hc:qF L=cc at hB hob ⊢;have hc':=(show Hid _ from hc);clear hf hc;have hs2:=hB.lt;have hMl:=hm.lt;have hkf:decide ((k:Int)<(n:Int))=false:=dL (by omega);have acB:decide (k<n)=false:=dL (by omega);cases cc with
   |none=>
    have Ea:wr.ownsRow (w.heap.size+2) 82 3 (.slice none 0 0) (dH none).length (RC (dH none)):=⟨rfl,.inl ⟨rfl,rfl⟩⟩;have ab7:=hb.size;have acX:=hm.lt;have CX:Below wr.heap.size wr (wr.alloc (.cells #[.map (some (w.heap.size+1))] 115)):=bn;have hseq:=hm.xK (wr.alloc (.cells #[.map (some (w.heap.size+1))] 115)) wr.heap.size (by simp) (by simp) CX;have hso:=rD 141 #[.pointer (some ⟨wr.heap.size,0,none⟩)] (enters_of Tryz.func141 (by kernel_rfl) rfl) _ sz (by omega) _ hseq;have WH:=(show Hid _ from hso);clear hso hseq;go_wp2_with fail;refine(Fw _ _).mono ?_;rintro e w9 ⟨rfl,rfl⟩;go_wp2_with fail;refine aN WH.out ?_;rintro e W2 ⟨v,ts,ss,rfl,hS,hperm,hle,hlen,hrow,hb2⟩;have Kn:=hm.kept ⟨CX.os,CX.tape,CX.output,CX.size,λk hk _=>CX.block k hk⟩ (row:=none) (by simp);have hm2:=Kn.kept (below_grown hb2 none) (by simp);have hbb:=(hb.trans (CX.mono hb.size)).trans (hb2.mono (by simp;omega));have ho2:=(aJ Ea CX);have ho3:=aJ ho2 hb2;have hlts:ts.Pairwise (·<·):=by
     have hnd:ts.Nodup:=hperm.nodup_iff.2 hS.1;rw[List.pairwise_iff_getElem]at hle ⊢;intro i j hi hj hij;have h1:=hle i j hi hj hij;have h2:=List.pairwise_iff_getElem.1 hnd i j hi hj hij;omega
    have hmem:∀a,a∈ts ↔ (f a).isSome=true:=λa=>by
     rw[hperm.mem_iff,hS.2 a];constructor
     ·exact λh=>h.2
     ·intro h;obtain⟨y,hy⟩:=Option.isSome_iff_exists.1 h;exact⟨(hmb a y hy).1,h⟩
    have hcmp:jI f none (dH none++gQ f ts):=⟨ts,hlts,hmem,rfl⟩;have Qs:∀a∈ts,bg a:=λa ha=>((hS.2 a).1 (hperm.mem_iff.1 ha)).1;obtain⟨qD,c2',rfl,_⟩:=ak hrow;have QD:=(show Hid _ from hcmp);clear WH hm Kn ho2 hb hb2 CX hS hperm hle hlts hmem hcmp Ea;go_wp2_with fail;go_loopw [8,47] (λv i wr2=>∃j:Nat,j<=ts.length∧i=.int .i64 j∧wr2.ownsRow (w.heap.size+2) 82 3 v ((dH none).length+j) (RC (dH none++gQ f (ts.take j)))∧wr2.ownsRow (wr.heap.size+1) 34 1 (.slice qD ts.length c2') ts.length (ts.map aS)∧MapU wr2 (w.heap.size+1) f sz∧Below w.heap.size w wr2∧w.heap.size+2<=wr2.heap.size) (λ_ i _=>ts.length - (intOf i).toNat)
    case atStart=>
     refine⟨0,bX _,rfl,?_,by simpa using hrow,hm2,hbb,?_⟩
     ·simpa[gQ]using ho3
     ·have:=hm2.lt;omega
    case round=>
     obtain⟨j,hj,rfl,h_,hts,hmr,hbr,hsr⟩:=hrel;clear ho3 hrow hm2 hbb;by_cases hjl:j<ts.length
     ·have hji:(j:Int)<(ts.length:Int):=by omega
      obtain⟨g,cap,hv,_⟩:=bS hts (by omega);cases hv;have XQ:(ts.map aS)[j]?=some (aS ts[j]):=by rw[lu,bW hjl];rfl
      have d0:=(hts.cellAt j (by omega)).trans XQ;have hau:=Qs _ (List.getElem_mem hjl);have htk:Hid (ts.take (j+1)=ts.take j++ [ts[j]]):=List.take_succ_eq_append_getElem hjl;generalize ts[j]=a at d0 hau htk XQ;have hlk:=hmr.look hau;have hap:=bP hts h_ (by decide);have hla:=h_.lt;have hk1:Hid ((dH none).length+j+1<=maxLen):=by show _<=_;simp[dH];unfold maxLen;omega
      have hk2:Hid (((dH none).length+j+1)* 12<=140737488355328):=by show _<=_;simp[dH];omega
      clear XQ;generalize dH none=mX at *;go_wp2_with(at_builtin;refine wpList_append_own_at _ rfl _ _ 79 rfl (w.heap.size+2) 82 i0 (.agg #[.bool false,.int .u32 0,.int .u32 0]) 3 12 Tryz.underlying79 hi hz0 hz1 hz2 rfl (by decide) u8 (mX.length+j) (RC (mX++gQ f (ts.take j))) rfl (h_.alloc _) ⟨wr.heap.size,0,none⟩ 1 1 (RC [(false,a,(f a).getD 0)]) rfl rfl (kr wr false a ((f a).getD 0)) (mM false a ((f a).getD 0)) hk1.out hk2.out ?c4 ?_)
      case c4=>simp;omega
      intro v9 w9 ho9 fe _ _;have XP:=(hts.alloc (aU false a ((f a).getD 0))).kept fe hap;have Kn:=(hmr.kept (jM wr (aU false a ((f a).getD 0)) none) (by simp)).kept fe (λe=>by have:=(hla _ e.symm).1;omega);have mZ:=(hbr.alloc hbr.size (aU false a ((f a).getD 0))).grown fe (by simp;omega) (λk e=>by have:=(hla k e).1;omega);have pW:w.heap.size+2<=w9.heap.size:=by have:=fe.size;simp at this;omega
      clear h_ hts hmr hbr fe hap hlk d0;go_wp2;go_roundw
      case rel=>
       refine⟨j+1,by omega,by go_num,?_,XP,Kn,mZ,pW⟩;rw[htk.out,Bo,<-List.append_assoc,kC,<-Nat.add_assoc];exact ho9
      case measure=>simp[intOf];omega
     ·have hjn:j=ts.length:=by omega
      subst hjn;rw[List.take_length]at h_;clear hts hmr;go_wp2;go_ret;refine⟨_,dH none++gQ f ts,rfl,?_,?_,?_,hbr⟩
      ·rw[hf'.out,hc'.out];exact QD.out
      ·simp[dH,gQ];omega
      ·have hol:(dH none++gQ f ts).length=(dH none).length+ts.length:=by simp[gQ]
       rw[hol];exact ownsRow_base_a h_ (by omega)
   |some t=>
    obtain⟨c0,c1,c2⟩:=hB.cell;rw[Option.getD_some]at c2;go_wp2_with(at_builtin;refine wpList_append_own_at _ rfl _ _ 79 rfl (w.heap.size+2) 82 i0 (.agg #[.bool false,.int .u32 0,.int .u32 0]) 3 12 Tryz.underlying79 hi hz0 hz1 hz2 rfl (by decide) (.slice none 0 0) 0 [] rfl ⟨rfl,.inl ⟨rfl,rfl⟩⟩ ⟨wr.heap.size,0,none⟩ 1 1 (RC [(true,0,t)]) rfl rfl (kr wr true 0 t) (mM true 0 t) (by decide) (by decide) ?c3 ?_)
    case c3=>simp;omega
    intro v8 w8 Ea kG hn8 _;have Yb:=(hm.kept (jM wr (aU true 0 t) none) (by simp)).kept kG (by simp[Value.ownBlock]);have qz:Below w.heap.size w w8:=(hb.alloc hb.size _).grown kG (by simp;omega) (λk e=>by simp[Value.ownBlock]at e);clear hm hb kG hn8 c0 c1 c2 hkf acB;have aaG:w8.ownsRow (w.heap.size+2) 82 3 v8 (dH (some t)).length (RC (dH (some t))):=Ea;clear Ea;have hm:=Yb;have hb:=qz;clear Yb qz;have ab7:=hb.size;have acX:=hm.lt;have CX:Below w8.heap.size w8 (w8.alloc (.cells #[.map (some (w.heap.size+1))] 115)):=bn;have hseq:=hm.xK (w8.alloc (.cells #[.map (some (w.heap.size+1))] 115)) w8.heap.size (by simp) (by simp) CX;have hso:=rD 141 #[.pointer (some ⟨w8.heap.size,0,none⟩)] (enters_of Tryz.func141 (by kernel_rfl) rfl) _ sz (by omega) _ hseq;have WH:=(show Hid _ from hso);clear hso hseq;go_wp2_with fail;refine(Fw _ _).mono ?_;rintro e w9 ⟨rfl,rfl⟩;go_wp2_with fail;refine aN WH.out ?_;rintro e W2 ⟨v,ts,ss,rfl,hS,hperm,hle,hlen,hrow,hb2⟩;have Kn:=hm.kept ⟨CX.os,CX.tape,CX.output,CX.size,λk hk _=>CX.block k hk⟩ (row:=none) (by simp);have hm2:=Kn.kept (below_grown hb2 none) (by simp);have hbb:=(hb.trans (CX.mono hb.size)).trans (hb2.mono (by simp;omega));have ho2:=(aJ aaG CX);have ho3:=aJ ho2 hb2;have hlts:ts.Pairwise (·<·):=by
     have hnd:ts.Nodup:=hperm.nodup_iff.2 hS.1;rw[List.pairwise_iff_getElem]at hle ⊢;intro i j hi hj hij;have h1:=hle i j hi hj hij;have h2:=List.pairwise_iff_getElem.1 hnd i j hi hj hij;omega
    have hmem:∀a,a∈ts ↔ (f a).isSome=true:=λa=>by
     rw[hperm.mem_iff,hS.2 a];constructor
     ·exact λh=>h.2
     ·intro h;obtain⟨y,hy⟩:=Option.isSome_iff_exists.1 h;exact⟨(hmb a y hy).1,h⟩
    have hcmp:jI f (some t) (dH (some t)++gQ f ts):=⟨ts,hlts,hmem,rfl⟩;have Qs:∀a∈ts,bg a:=λa ha=>((hS.2 a).1 (hperm.mem_iff.1 ha)).1;obtain⟨qD,c2',rfl,_⟩:=ak hrow;have QD:=(show Hid _ from hcmp);clear WH hm Kn ho2 hb hb2 CX hS hperm hle hlts hmem hcmp aaG;go_wp2_with fail;go_loopw [8,47] (λv i wr2=>∃j:Nat,j<=ts.length∧i=.int .i64 j∧wr2.ownsRow (w.heap.size+2) 82 3 v ((dH (some t)).length+j) (RC (dH (some t)++gQ f (ts.take j)))∧wr2.ownsRow (w8.heap.size+1) 34 1 (.slice qD ts.length c2') ts.length (ts.map aS)∧MapU wr2 (w.heap.size+1) f sz∧Below w.heap.size w wr2∧w.heap.size+2<=wr2.heap.size) (λ_ i _=>ts.length - (intOf i).toNat)
    case atStart=>
     refine⟨0,bX _,rfl,?_,by simpa using hrow,hm2,hbb,?_⟩
     ·simpa[gQ]using ho3
     ·have:=hm2.lt;omega
    case round=>
     obtain⟨j,hj,rfl,h_,hts,hmr,hbr,hsr⟩:=hrel;clear ho3 hrow hm2 hbb;by_cases hjl:j<ts.length
     ·have hji:(j:Int)<(ts.length:Int):=by omega
      obtain⟨g,cap,hv,_⟩:=bS hts (by omega);cases hv;have XQ:(ts.map aS)[j]?=some (aS ts[j]):=by rw[lu,bW hjl];rfl
      have d0:=(hts.cellAt j (by omega)).trans XQ;have hau:=Qs _ (List.getElem_mem hjl);have htk:Hid (ts.take (j+1)=ts.take j++ [ts[j]]):=List.take_succ_eq_append_getElem hjl;generalize ts[j]=a at d0 hau htk XQ;have hlk:=hmr.look hau;have hap:=bP hts h_ (by decide);have hla:=h_.lt;have hk1:Hid ((dH (some t)).length+j+1<=maxLen):=by show _<=_;simp[dH];unfold maxLen;omega
      have hk2:Hid (((dH (some t)).length+j+1)* 12<=140737488355328):=by show _<=_;simp[dH];omega
      clear XQ;generalize dH (some t)=mX at *;go_wp2_with(at_builtin;refine wpList_append_own_at _ rfl _ _ 79 rfl (w.heap.size+2) 82 i0 (.agg #[.bool false,.int .u32 0,.int .u32 0]) 3 12 Tryz.underlying79 hi hz0 hz1 hz2 rfl (by decide) u8 (mX.length+j) (RC (mX++gQ f (ts.take j))) rfl (h_.alloc _) ⟨wr.heap.size,0,none⟩ 1 1 (RC [(false,a,(f a).getD 0)]) rfl rfl (kr wr false a ((f a).getD 0)) (mM false a ((f a).getD 0)) hk1.out hk2.out ?c4 ?_)
      case c4=>simp;omega
      intro v9 w9 ho9 fe _ _;have XP:=(hts.alloc (aU false a ((f a).getD 0))).kept fe hap;have Kn:=(hmr.kept (jM wr (aU false a ((f a).getD 0)) none) (by simp)).kept fe (λe=>by have:=(hla _ e.symm).1;omega);have mZ:=(hbr.alloc hbr.size (aU false a ((f a).getD 0))).grown fe (by simp;omega) (λk e=>by have:=(hla k e).1;omega);have pW:w.heap.size+2<=w9.heap.size:=by have:=fe.size;simp at this;omega
      clear h_ hts hmr hbr fe hap hlk d0;go_wp2;go_roundw
      case rel=>
       refine⟨j+1,by omega,by go_num,?_,XP,Kn,mZ,pW⟩;rw[htk.out,Bo,<-List.append_assoc,kC,<-Nat.add_assoc];exact ho9
      case measure=>simp[intOf];omega
     ·have hjn:j=ts.length:=by omega
      subst hjn;rw[List.take_length]at h_;clear hts hmr;go_wp2;go_ret;refine⟨_,dH (some t)++gQ f ts,rfl,?_,?_,?_,hbr⟩
      ·rw[hf'.out,hc'.out];exact QD.out
      ·simp[dH,gQ];omega
      ·have hol:(dH (some t)++gQ f ts).length=(dH (some t)).length+ts.length:=by simp[gQ]
       rw[hol];exact ownsRow_base_a h_ (by omega)
variable{f:Int->Option Nat}{L:List (Rt×Value)}{A:List Rt}{M T:Nat}{W w:World}
theorem Lu(M:Nat)(w:World):
  Calls Tryz.prog 134 #[.map (some M)] w λe w'=>e=.returned (.func (.func 170) #[] #[.pointer (some ⟨w.heap.size,0,none⟩)])∧w'=w.alloc (.cells #[.map (some M)] 156):=by
 go_enter Tryz.func134,Tryz.ntmps134;go_wp2;go_ret;exact⟨rfl,rfl⟩
theorem eP.xK{s:Nat}(h:eP W M f s)(w:World)(Bm:Nat)(hBm:Bm<w.heap.size)(hm:w.cell? ⟨Bm,0,none⟩=some (.map (some M)))(hW:Below W.heap.size W w):
  SeqGives Fence.wide 1 Tryz.prog 170 #[.pointer (some ⟨Bm,0,none⟩)] aS (λss=>ss.Nodup∧∀x,x∈ss ↔ (bg x∧(f x).isSome=true)) s w:=by
 have hl:=h.lt;obtain⟨D,h1,h2,h3⟩:=h;have h1':w.ownsMap Tryz.prog 34 Co M s D:=by
  obtain⟨es,clock,hb,Ft,hs,hD⟩:=h1;exact⟨es,clock,(hW.block M hl).trans hb,Ft,hs,hD⟩
 have hg:=ED Fence.wide 1 trivial rfl (aA _) Bm M s D w hBm hm h1';rw[h2]at hg;intro l J W' hW' hJ hY h0;refine(hg l J W' hW' hJ hY h0).mono ?_;rintro e W2 ⟨hv,ss,hk,hj⟩;refine⟨hv,ss,⟨hk.1,λx=> ?_⟩,hj⟩;constructor
 ·intro hx;have hw:=bounds_u32 (hk.2.1 x hx);have hU:bg x:=⟨hw.1,by have:=hw.2;omega⟩;exact⟨hU,by rw[<-(h3 x hU).1];exact(hk.2.2 x).1 hx⟩
 ·rintro⟨hU,hs⟩;exact(hk.2.2 x).2 (by rw[(h3 x hU).1];exact hs)
theorem BM{me:Int}{g:Int->Value}(h:MT me T M f g A w):
  Calls Tryz.prog 95 #[.pointer (some ⟨T,0,none⟩)] w λe w'=>∃v,e=.returned v∧w'.ownsRow w.heap.size 34 1 v A.length ((A.map (·.dest)).map aS)∧Below w.heap.size w w':=by
 obtain⟨c0,c1⟩:=h.blk.cell;have mZ:Below w.heap.size w (w.alloc (.cells #[.map (some M)] 156)):=bn;have hseq:=h.map.xK (w.alloc (.cells #[.map (some M)] 156)) w.heap.size (by simp) (by simp) mZ;have hso:=rD 170 #[.pointer (some ⟨w.heap.size,0,none⟩)] (enters_of Tryz.func170 (by kernel_rfl) rfl) _ A.length (by have:=h.len;omega) _ hseq;have WH:=(show Hid _ from hso);clear hso hseq;go_enter Tryz.func95,Tryz.ntmps95;go_wp2_with fail;refine(Lu _ _).mono ?_;rintro e w9 ⟨rfl,rfl⟩;go_wp2_with fail;refine aN WH.out ?_;rintro e W2 ⟨v,ts,ss,rfl,hS,hperm,hle,hlen,hrow,hb2⟩;have hlts:ts.Pairwise (·<·):=by
  have hnd:ts.Nodup:=hperm.nodup_iff.2 hS.1;rw[List.pairwise_iff_getElem]at hle ⊢;intro i j hi hj hij;have h1:=hle i j hi hj hij;have h2:=List.pairwise_iff_getElem.1 hnd i j hi hj hij;omega
 have hts:ts=A.map (·.dest):=by
  refine Bt hlts (by rw[List.pairwise_map];exact h.vQ) λa=> ?_;rw[hperm.mem_iff,hS.2 a,dO];constructor
  ·rintro⟨hU,hs⟩;obtain⟨B,hB⟩:=Option.isSome_iff_exists.1 hs;obtain⟨x,hx,hxd⟩:=h.dom a B hU hB;exact⟨x,hx,hxd⟩
  ·rintro⟨x,hx,rfl⟩;obtain⟨B,hB,_⟩:=h.ln x hx;exact⟨(h.ok x hx).dest,by rw[hB];rfl⟩
 subst hts;have hbb:=mZ.trans (hb2.mono (by simp));rw[jq]at hrow;have hrow':=ownsRow_base_a (base':=w.heap.size) hrow (by simp);clear WH hS hperm hle hlen hrow hlts mZ hb2;go_wp2;go_ret;exact⟨v,rfl,hrow',hbb⟩
def ZA(p:Rt×Value):List Value:=[.int .u32 p.1.dest,.int .u32 p.1.seq,.int .i64 p.1.hops,.int .u32 p.1.next,.bool p.1.valid,.int .u64 p.1.exp,p.2]
def N_(L:List (Rt×Value)):List Value:=L.flatMap ZA
theorem Jc(a b:List (Rt×Value)):N_ (a++b)=N_ a++N_ b:=by simp[N_]
theorem zT{k:Nat}{p:Rt×Value}(h:L[k]?=some p){i:Nat}(hi:i<7):(N_ L)[k * 7+i]?=(ZA p)[i]?:=
 jW ZA 7 (by decide) (λ_=>rfl) L k i hi h
theorem Uw:(Tryz.prog.info? 38).map (λi=>(i.zero,i.size,i.bytes))=some (some (.agg #[.int .u32 0,.int .u32 0,.int .i64 0,.int .u32 0,.bool false,.int .u64 0,.slice none 0 0]),7,56):=by kernel_rfl
theorem Xn(x:Rt)(a:Option Addr)(n c:Nat):∀u∈N_ [(x,.slice a n c)],u.oneCell'=true:=by
 intro u hu;simp only[N_,ZA,List.flatMap_cons,List.flatMap_nil,gX,eF,List.not_mem_nil,or_false]at hu;rcases hu with rfl|rfl|rfl|rfl|rfl|rfl|rfl<;>rfl
theorem Rf(W:World)(x:Rt)(v:Value):∀(j:Nat) (u:Value),(N_ [(x,v)])[j]?=some u->(W.alloc (bQ x v)).cell? ((⟨W.heap.size,0,none⟩:Addr).add j)=some u:=by
 intro j u hj;obtain⟨q0,q1,q2,q3,q4,q5,q6⟩:=(dP.new x v W).cell;rw[Addr.add_lit,Nat.zero_add];simp only[N_,ZA,List.flatMap_cons,List.flatMap_nil,gX]at hj
 match j,hj with
 |0,hj=>exact q0.trans hj
 |1,hj=>exact q1.trans hj
 |2,hj=>exact q2.trans hj
 |3,hj=>exact q3.trans hj
 |4,hj=>exact q4.trans hj
 |5,hj=>exact q5.trans hj
 |6,hj=>exact q6.trans hj
 |j+7,hj=>simp at hj
structure vV(base:Nat)(v:Value)(L:List (Rt×Value))(W:World):Prop where
 row:W.ownsRow base 38 7 v L.length (N_ L)
 bG:∀p∈L,W.ownsRow base 34 1 p.2 p.1.bG.length (p.1.bG.map aS)
theorem vV.later{base:Nat}{v:Value}{W':World}(h:vV base v L W)(hb:Below W.heap.size W W'):vV base v L W':=
 ⟨aJ h.row hb,λp hp=>aJ (h.bG p hp) hb⟩
theorem Gw{me:Int}{g:Int->Value}(h:MT me T M f g A w):
  Calls Tryz.prog 60 #[.pointer (some ⟨T,0,none⟩)] w λe w'=>∃v L,e=.returned v∧L.map (·.1)=A∧vV w.heap.size v L w'∧Below w.heap.size w w':=by
 obtain⟨i0,hi,hz0,hz1,hz2⟩:=info_parts Uw;have hlen:=h.len;have HD:=(show Hid _ from BM h);go_enter Tryz.func60,Tryz.ntmps60;go_wp2_with fail;refine aN HD.out ?_;rintro e w1 ⟨dv,rfl,hdr,hb1⟩;clear HD;obtain⟨ad,cd,rfl,_⟩:=ak hdr;go_wp2_with fail;go_loopw [3,9] (λlv i wr=>∃(k:Nat) (L:List (Rt×Value)),k<=A.length∧i=.int .i64 k∧L.map (·.1)=A.take k∧vV w.heap.size lv L wr∧wr.ownsRow w.heap.size 34 1 (.slice ad A.length cd) A.length ((A.map (·.dest)).map aS)∧Below w.heap.size w wr) (λ_ i _=>A.length - (intOf i).toNat)
 case atStart=>exact⟨0,[],bX _,rfl,rfl,⟨⟨rfl,.inl ⟨rfl,rfl⟩⟩,λp hp=>by simp at hp⟩,hdr,hb1⟩
 case round=>
  clear hdr hb1;obtain⟨k,L,hk,rfl,hL,hls,hdr,hb⟩:=hrel;have UX:L.length=k:=by
   have:=congrArg List.length hL;simp at this;omega
  by_cases hlt:k<A.length
  ·have hki:(k:Int)<(A.length:Int):=by omega
   obtain⟨x,hx⟩:∃x,A[k]?=some x:=⟨_,bW hlt⟩;have Io:=jY hx;obtain⟨gd,adl,hv,_⟩:=bS hdr (by omega);cases hv;have d0:=(hdr.cellAt k (by omega)).trans (by rw[lu,lu,hx];rfl:((A.map (·.dest)).map aS)[k]?=some (aS x.dest));have hM:=h.later hb;obtain⟨B,hB,hLn⟩:=hM.ln x Io;have hR:=hM.row x Io;have hok:=h.ok x Io;have hlk:=hM.map.look hok.dest;rw[hB]at hlk;simp only[fO]at hlk;obtain⟨t0,t1⟩:=hM.blk.cell;have hx':=(show Hid _ from hx);have hL':=(show Hid _ from hL);clear hM hx hL;go_wp2_with fail;refine(wI B x (g x.dest) hok.Nu _ hLn hR).mono ?_;rintro e w2 ⟨v',rfl,ho2,hb2⟩;obtain⟨qD,c2',rfl,_⟩:=ak ho2;have y_:=hls.later hb2;have Db:=aJ hdr hb2;have hbb:=hb.trans (hb2.mono hb.size);have aaH:=ownsRow_base_a ho2 hb.size;clear hls hdr hb2 ho2 hLn hR hlk t0 t1 d0;have hla:=y_.row.lt;have hap:∀p∈L++ [(x,Value.slice qD x.bG.length c2')],w2.ownsRow w.heap.size 34 1 p.2 p.1.bG.length (p.1.bG.map aS):=by
    intro p hp;rcases fA.1 hp with hp|hp
    ·exact y_.bG p hp
    ·rw[fD]at hp;subst hp;exact aaH
   have hk1:Hid (L.length+1<=maxLen):=by show _<=_;unfold maxLen;omega
   have hk2:Hid ((L.length+1)* 56<=140737488355328):=by show _<=_;omega
   have hr0:=y_.row;go_wp2_with(at_builtin;refine wpList_append_own_at _ rfl _ _ 31 rfl w.heap.size 38 i0 (.agg #[.int .u32 0,.int .u32 0,.int .i64 0,.int .u32 0,.bool false,.int .u64 0,.slice none 0 0]) 7 56 Tryz.underlying31 hi hz0 hz1 hz2 rfl (by decide) u3 L.length (N_ L) rfl (hr0.alloc _) ⟨w2.heap.size,0,none⟩ 1 1 (N_ [(x,.slice qD x.bG.length c2')]) rfl rfl (Rf w2 x (.slice qD x.bG.length c2')) (Xn x qD x.bG.length c2') hk1.out hk2.out ?c3 ?_)
   case c3=>have:=hbb.size;simp;omega
   intro v3 w3 ho3 hg3 _ _;have hb3:Below w2.heap.size w2 (w2.alloc (bQ x (.slice qD x.bG.length c2'))):=bn;have acu:vV w.heap.size v3 (L++ [(x,.slice qD x.bG.length c2')]) w3:=by
    refine⟨by rw[bZ,Jc,UX];exact ho3,λp hp=> ?_⟩;have h1:=aJ (hap p hp) hb3;exact h1.kept hg3 (bP h1 (hr0.alloc _) (by decide))
   have Yj:=(aJ Db hb3).kept hg3 (bP (aJ Db hb3) (hr0.alloc _) (by decide));have hb4:=(hbb.trans (hb3.mono hbb.size)).grown hg3 (by have:=hbb.size;simp;omega) (λk e=>(hla k e).1);clear y_ Db hbb hap aaH ho3 hg3 hb3 hr0 hla;go_wp2;go_roundw
   case rel=>
    refine⟨k+1,L++ [(x,.slice qD x.bG.length c2')],by omega,by go_num,?_,acu,Yj,hb4⟩;rw[List.map_append,hL'.out,List.take_add_one,hx'.out];rfl
   case measure=>simp[intOf];omega
  ·have hkn:A.length<=k:=by omega
   rw[l_ hkn]at hL;clear hdr hkn;go_wp2;go_ret;exact⟨_,L,rfl,hL,hls,hb⟩
end Go.Proofs.YtakaadcpaeiccabGreat
