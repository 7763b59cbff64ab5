import Derived.Test.YtakaadcpaeiccabGreatO05
set_option maxHeartbeats 4000000
set_option maxRecDepth 100000
namespace Go.Proofs.YtakaadcpaeiccabGreat
open Go.RowKit Go.Maps
def UpP(M:Nat)(f:Int->Option Nat)(s0:Nat)(y:Rt)(w:World)(r:Ending)(w':World):Prop:=
 r=.returned (.int .i64 0)∧eB w.heap.size y (.slice none 0 0) w'∧fI w' M (fB f y.dest (some w.heap.size)) (if (f y.dest).isSome then s0 else s0+1)∧w.grownBy w' (some M)
theorem Lx(T M B s0:Nat)(me d s h n e:Int)(f:Int->Option Nat)(hd:¬d=me)(hd0:¬d=0)(FB:a_ d)(hs:a_ s)(x:Rt)(hxs:a_ x.seq)(v:Value)(hgr:Wm (newR d s h n e) x=true)(w:World)(hT:Gw T me M w)(hm:fI w M f s0)(hs0:s0<=100)
  (hf:f d=some B) (hL:eB B x v w):
  Calls Tryz.prog 161 #[.pointer (some ⟨T,0,none⟩),.int .u32 d,.int .u32 s,.int .i64 h,.int .u32 n,.int .u64 e] w (UpP M f s0 (newR d s h n e) w):=by
 have hb:Below w.heap.size w (w.alloc (bZ (newR d s h n e) (.slice none 0 0))):=bC;have hN:=eB.new (newR d s h n e) (.slice none 0 0) w;have hL1:=hL.later hb;have hm1:=hm.block (hb.block M hm.lt);have hT1:=hT.block (hb.block T hT.lt);have hlk:=hm1.look_ok FB;rw[hf]at hlk;simp only[gG,Option.isSome_some]at hlk;have q1:(d==me)=false:=by simpa using hd
 have q2:(d==0)=false:=by simpa using hd0
 have hMl:=hm.lt;obtain⟨c0,c1⟩:=hT.cell;obtain⟨t0,t1⟩:=hT1.cell;dsimp only[bZ,newR]at hb hN hL1 t0 t1 hlk hm1 hT1;have hcall:=λW=>pE (newR d s h n e) hs (.slice none 0 0) W;have Bu:=λW=>pE x hxs v W;have HC1:=(show Hid _ from hcall);have HC2:=(show Hid _ from Bu);have Bt:∀W,Calls Tryz.prog 180 #[.agg #[.int .i64 (rk (newR d s h n e)),.int .i64 h],.agg #[.int .i64 (rk x),.int .i64 x.hops]] W λr w'=>r=.returned (.bool true)∧Below W.heap.size W w':=λW=>by
  rw[<-hgr];exact yT _ _ _ _ W
 have HC3:=(show Hid _ from Bt);clear hcall Bu Bt;go_enter Tryz.func161,Tryz.ntmps161;go_wp2_with fail;clear hlk t0 t1;generalize World.alloc _ _=W1 at hb hN hL1 hm1 hT1 ⊢;go_cut [51]from 41 (λr W=>r=.bool false∧Below W1.heap.size W1 W)
 case first=>
  have hS:El w.heap.size B (newR d s h n e) x v W1 W1:=El.start hN hL1;go_region_held3 (El w.heap.size B (newR d s h n e) x v W1) (first|exact El.drew (by assumption)|assumption|exact El.below hN hL1 (by assumption) (by assumption)) (first
   |(go_at_call_of 179 (Value.int IntKind.u32 s);refine aT (HC1.out _) ?_;rintro r w3 ⟨rfl,hb3⟩)
   |(go_at_call_of 179 v;refine aT (HC2.out _) ?_;rintro r w4 ⟨rfl,hb4⟩)
   |(go_at_call 180;refine aT (HC3.out _) ?_;rintro r w5 ⟨rfl,hb5⟩))
  all_goals
   rename_i hS5;have abG:=(show El w.heap.size B (newR d s h n e) x v W1 _ from hS5).2.2;go_wp2_with fail;go_meet;exact⟨rfl,abG⟩
 case rest=>
  obtain⟨rfl,hb2⟩:=hcut;have hbb:=hb.trans (hb2.mono hb.size);have Gu:=hN.later hb2;have hm2:=hm1.block (hb2.block M hm1.lt);obtain⟨t0,t1⟩:=(hT1.block (hb2.block T hT1.lt)).cell;obtain⟨W6,hr,PL,jm⟩:=hm2.put (by unfold maxLen;omega) FB w.heap.size;have Rb:=Gu.block (jm.block _ Gu.lt (λe=>by cases e;omega));have hg:w.grownBy W6 (some M):=⟨jm.os.trans hbb.os,jm.tape.trans hbb.tape,jm.output.trans hbb.output,dH hbb.size jm.size,λk hk hn=>(jm.block k (fP hk hbb.size) hn).trans (hbb.block k hk)⟩;clear hb hN hL1 hm1 hT1 hb2 hbb Gu hm2 jm;go_wp2;go_ret;exact⟨rfl,Rb,PL,hg⟩
theorem Lu(T M s0:Nat)(me d s h n e:Int)(f:Int->Option Nat)(hd:¬d=me)(hd0:¬d=0)(FB:a_ d)(w:World)(hT:Gw T me M w)(hm:fI w M f s0)(hs0:s0<=100)
  (hf:f d=none):
  Calls Tryz.prog 161 #[.pointer (some ⟨T,0,none⟩),.int .u32 d,.int .u32 s,.int .i64 h,.int .u32 n,.int .u64 e] w λr w'=>if 8<=s0 then r=.returned (.int .i64 4)∧Below w.heap.size w w' else UpP M f s0 (newR d s h n e) w r w':=by
 have hb:Below w.heap.size w (w.alloc (bZ (newR d s h n e) (.slice none 0 0))):=bC;have hN:=eB.new (newR d s h n e) (.slice none 0 0) w;have hm1:=hm.block (hb.block M hm.lt);have hT1:=hT.block (hb.block T hT.lt);have hlk:=hm1.look_ok FB;rw[hf]at hlk;simp only[gG,Option.isSome_none]at hlk;have q1:(d==me)=false:=by simpa using hd
 have q2:(d==0)=false:=by simpa using hd0
 have hMl:=hm.lt;obtain⟨c0,c1⟩:=hT.cell;obtain⟨t0,t1⟩:=hT1.cell;dsimp only[bZ,newR]at hb hN t0 t1 hlk hm1 hT1;go_enter Tryz.func161,Tryz.ntmps161;go_wp2_with fail;clear hlk t0 t1;generalize World.alloc _ _=W1 at hb hN hm1 hT1 ⊢;go_quiet (fail);go_wp2_with fail;have hb2:Below W1.heap.size W1 (W1.drewN nq):=below_drewN (aU _ _) _;have hbb:=hb.trans (hb2.mono hb.size);have Gu:=hN.later hb2;have hm2:=hm1.block (hb2.block M hm1.lt);have NG:=hT1.block (hb2.block T hT1.lt);clear hb hN hm1 hT1 hb2;generalize World.drewN _ _=W2 at hbb Gu hm2 NG ⊢;refine(Je T M s0 me f _ NG hm2).mono ?_;rintro r w3 ⟨rfl,rfl⟩;obtain⟨t0,t1⟩:=NG.cell;by_cases h8:8<=s0
 ·have hd8:decide (8<=s0)=true:=gu h8;go_wp2;go_ret;exact⟨rfl,hbb⟩
 ·have hd8:decide (8<=s0)=false:=fE h8;obtain⟨W6,hr,PL,jm⟩:=hm2.put (by unfold maxLen;omega) FB w.heap.size;have Rb:=Gu.block (jm.block _ Gu.lt (λe=>by cases e;omega));have hg:w.grownBy W6 (some M):=⟨jm.os.trans hbb.os,jm.tape.trans hbb.tape,jm.output.trans hbb.output,dH hbb.size jm.size,λk hk hn=>(jm.block k (fP hk hbb.size) hn).trans (hbb.block k hk)⟩;clear hbb Gu hm2 NG jm;go_wp2;go_ret;exact⟨rfl,Rb,PL,hg⟩
theorem Nb{d s h n e:Int}(hd:a_ d)(hs:a_ s)(hh:oZ h)(hn:a_ n)(he:Ca e):(newR d s h n e).Ok:=⟨hd,hs,hh,hn,he,by simp,by simp,by simp⟩
theorem Cb.fresh{me:Int}{T M:Nat}{f:Int->Option Nat}{g:Int->Value}{A:List Rt}{S:Nat->Prop}{w w':World}(hM:MT me T M f g A w)(hS:∀k,mZ T M f g A k->S k){y:Rt}(hok:y.Ok)(hbef:y.bN=[]){A':List Rt}(hL:eB w.heap.size y (.slice none 0 0) w')(hm:fI w' M (fB f y.dest (some w.heap.size)) A'.length)(hg:w.grownBy w' (some M))
  (hmem:∀z∈A',z=y∨(z∈A∧z.dest≠y.dest)) (hy:y∈A') (hsub:∀z∈A,z.dest≠y.dest->z∈A') (hasc:Asc A') (hlen:A'.length<=8):Cb me T (ext S w.heap.size w'.heap.size) A' w'∧Fx S w w':=by
 obtain⟨h1,h2⟩:=hM.fresh rfl hok hbef (aA _) hL hm (λk hk hkM=>hg.block k hk (λe=>hkM (by cases e;rfl))) hmem hy hsub hasc hlen;refine⟨⟨M,_,_,h1,λk hk=> ?_⟩,Fx.grown hg (λk e=>by cases e;exact hS _ (.inr (.inl rfl)))⟩;rcases h2 k hk with h3|rfl
 ·exact .inl (hS k h3)
 ·exact .inr ⟨aA _,hL.lt⟩
theorem LA(me:Int)(T:Nat)(S:Nat->Prop)(A:List Rt)(d s h n e:Int)(hd:a_ d)(hs:a_ s)(hh:oZ h)(hn:a_ n)(he:Ca e)(w:World)(afF:Cb me T S A w):
  Calls Tryz.prog 161 #[.pointer (some ⟨T,0,none⟩),.int .u32 d,.int .u32 s,.int .i64 h,.int .u32 n,.int .u64 e] w λr w'=>r=.returned (.int .i64 (iO me A d s h n e).2)∧Cb me T (ext S w.heap.size w'.heap.size) (iO me A d s h n e).1 w'∧Fx S w w':=by
 obtain⟨M,f,g,hM,hS⟩:=afF;have hold:∀w',Below w.heap.size w w'->Cb me T (ext S w.heap.size w'.heap.size) A w'∧Fx S w w':=λw' hb=>⟨⟨M,f,g,hM.later hb,λk hk=> .inl (hS k hk)⟩,Fx.below hb⟩;unfold iO;by_cases hown:d=me∨d=0
 ·rw[aM hown];refine(Lr T M me d s h n e hown w hM.blk).mono ?_;rintro r w' ⟨rfl,rfl⟩;exact⟨rfl,hold _ (aU _ _)⟩
 ·rw[aG hown];have hd1:¬d=me:=λh=>hown (.inl h);have hd0:¬d=0:=λh=>hown (.inr h);cases hl:aK A d with
  |some x=>
   obtain⟨hx,hxd,B,hB,hL,hR⟩:=hM.line hl;dsimp only;cases hgr:Wm (newR d s h n e) x with
   |false=>
    rw[aG (by simp)];have hb:Below w.heap.size w (w.alloc (bZ (newR d s h n e) (.slice none 0 0))):=bC;have hlk:=(hM.map.block (hb.block M hM.map.lt)).look_ok hd;rw[hB]at hlk;refine(Ls T M B me d s h n e hd1 hd0 hs x (hM.ok x hx).seq (g d) hgr w hM.blk hlk hL).mono ?_;rintro r w' ⟨rfl,hb'⟩;exact⟨rfl,hold _ hb'⟩
   |true=>
    rw[aM rfl];refine(Lx T M B A.length me d s h n e f hd1 hd0 hd hs x (hM.ok x hx).seq (g d) hgr w hM.blk hM.map (by have:=hM.len;omega) hB hL).mono ?_;rintro r w' ⟨rfl,hL',hm',hg'⟩;rw[show(f (newR d s h n e).dest).isSome=true by rw[show(newR d s h n e).dest=d from rfl,hB];rfl,aM rfl]at hm';have hmem:∀z∈gU A d (Ae s h n e),z=newR d s h n e∨(z∈A∧z.dest≠d):=by
     intro z hz;rcases vL hz with⟨z0,hz0,aeI,rfl⟩|hz
     ·left;unfold Ae;rw[aeI]
     ·exact .inr hz
    have aeK:newR d s h n e∈gU A d (Ae s h n e):=dh.2 ⟨x,hx,by rw[aM hxd];unfold Ae;rw[hxd]⟩;refine⟨rfl,Cb.fresh (A':=gU A d (Ae s h n e)) hM hS (Nb hd hs hh hn he) rfl hL' (by rw[nM];exact hm') hg' hmem aeK (λz hz hzd=>dh.2 ⟨z,hz,aG hzd⟩) (A_ hM.zh _ _ (λ_=>rfl)) (by rw[nM];exact hM.len)⟩
  |none=>
   have hf:=hM.off hd hl;dsimp only;refine(Lu T M A.length me d s h n e f hd1 hd0 hd w hM.blk hM.map (by have:=hM.len;omega) hf).mono ?_;intro r w' hr;by_cases h8:8<=A.length
   ·rw[aM h8]at hr ⊢;obtain⟨rfl,hb'⟩:=hr;exact⟨rfl,hold _ hb'⟩
   ·rw[aG h8]at hr ⊢;obtain⟨rfl,hL',hm',hg'⟩:=hr;rw[show(f (newR d s h n e).dest).isSome=false by rw[show(newR d s h n e).dest=d from rfl,hf];rfl,aG (by simp)]at hm';have hn':=jZ.1 hl;refine⟨rfl,Cb.fresh (A':=uD A (newR d s h n e)) hM hS (Nb hd hs hh hn he) rfl hL' (by rw[yM];exact hm') hg' (λz hz=> ?_) (oJ.2 (.inl rfl)) (λz hz _=>oJ.2 (.inr hz)) (IU hM.zh hl) (by rw[yM];omega)⟩;rcases oJ.1 hz with h1|h1
    ·exact .inl h1
    ·exact .inr ⟨h1,hn' z h1⟩
def qG(n:Int)(y:Rt):Rt:=if y.valid=true∧y.bN.length<4∧n ∉ y.bN then {y with bN:=nu n y.bN}else y
def kZ(A:List Rt)(d n:Int):List Rt:=gU A d (qG n)
theorem lg(n:Int)(y:Rt):(qG n y).dest=y.dest:=by
 unfold qG;split<;>rfl
theorem yL(a:Int)(l:List Int)(h:a ∉ l):(nu a l).length=l.length+1:=by
 induction l with
 |nil=>rfl
 |cons x l ih=>
  unfold nu;rw[aG (λe=>h (by simp[e]))];split
  ·rfl
  ·simp[ih (λe=>h (by simp[e]))]
theorem Cw(T:Nat)(d n:Int)(w:World)(hv:Calls Tryz.prog 116 #[.pointer (some ⟨T,0,none⟩),.int .u32 d] w λe w'=>e=.returned (.pointer none)∧w'=w):
  Calls Tryz.prog 182 #[.pointer (some ⟨T,0,none⟩),.int .u32 d,.int .u32 n] w λe w'=>e=.returned (.tuple #[])∧w'=w:=by
 have HV:=(show Hid _ from hv);clear hv;go_enter Tryz.func182,Tryz.ntmps182;go_wp2_with fail;refine aT HV.out ?_;rintro e w1 ⟨rfl,rfl⟩;clear HV;go_wp2;go_returns;exact⟨rfl,rfl⟩
theorem JS(T:Nat)(d n:Int)(B:Nat)(x:Rt)(v:Value)(hx:x.bN.Pairwise (·<·))(hx4:x.bN.length<=4)(w:World)(hv:Calls Tryz.prog 116 #[.pointer (some ⟨T,0,none⟩),.int .u32 d] w λe w'=>e=.returned (.pointer (some ⟨B,0,none⟩))∧w'=w)(h:eB B x v w)(hr:w.ownsRow 0 34 1 v x.bN.length (x.bN.map aW)):
  Calls Tryz.prog 182 #[.pointer (some ⟨T,0,none⟩),.int .u32 d,.int .u32 n] w λe w'=>e=.returned (.tuple #[])∧
   ((¬(x.bN.length<4∧n ∉ x.bN)∧w'=w)∨((x.bN.length<4∧n ∉ x.bN)∧∃v',eB B {x with bN:=nu n x.bN} v' w'∧w'.ownsRow 0 34 1 v' (nu n x.bN).length ((nu n x.bN).map aW)∧
    (v'.ownBlock=v.ownBlock∨∀k,v'.ownBlock=some k->w.heap.size<=k)∧w.heap.size<=w'.heap.size∧w'.os=w.os∧w'.tape=w.tape∧w'.output=w.output∧∀k,k<w.heap.size->k≠B->v.ownBlock≠some k->w'.heap[k]?=w.heap[k]?)):=by
 have hrB:v.ownBlock≠some B:=aJ hr h (λc e=>by cases e);obtain⟨ao,c,rfl,_⟩:=ay hr;obtain⟨c0,c1,c2,c3,c4,c5,c6⟩:=h.cell;have HV:=(show Hid _ from hv);clear hv;by_cases h4:x.bN.length<4
 ·have hd4:decide (4<=(x.bN.length:Int))=false:=fE (by omega);have afv:decide (4<=x.bN.length)=false:=fE (by omega);go_enter Tryz.func182,Tryz.ntmps182;go_wp2_with fail;refine aT HV.out ?_;rintro e w1 ⟨rfl,rfl⟩;clear HV;go_wp2_with fail;refine(LH _ x.bN.length x.bN n _ hr hx (by omega)).mono ?_;rintro e w2 ⟨i,hi,hlo,hhi,rfl,rfl⟩;have hiff:(x.bN[i]?==some n)=decide (n∈x.bN):=by
   by_cases hm:n∈x.bN
   ·obtain⟨k,hk⟩:=List.getElem?_of_mem hm;have hkl:=(fA.1 hk).1;have:k=i:=by
     rcases Nat.lt_trichotomy k i with h|h|h
     ·have:=hlo k n h hk;omega
     ·exact h
     ·obtain⟨y,hy⟩:∃y,x.bN[i]?=some y:=⟨_,cK (by omega)⟩;have h1:=hhi i y (aA _) hy;obtain⟨hk',rfl⟩:=fA.1 hk;obtain⟨hi',rfl⟩:=fA.1 hy;have:=List.pairwise_iff_getElem.1 hx i k hi' hk' h;omega
    subst this;rw[hk];simp[hm]
   ·rw[fE hm];cases hy:x.bN[i]? with
    |none=>rfl
    |some y=>
     have:y≠n:=λe=>hm (by rw[<-e];exact gH hy);simpa using this
  rw[hiff];by_cases hm:n∈x.bN
  ·have D7:decide (n∈x.bN)=true:=gu hm;rw[D7];go_wp2;go_returns;exact⟨rfl,.inl ⟨λh=>h.2 hm,rfl⟩⟩
  ·have D7:decide (n∈x.bN)=false:=fE hm;rw[D7];have hb1:Below w2.heap.size w2 (w2.alloc (.cells #[.int .u32 n] 34)):=bC;have hN:=bS w2 (.cells #[.int .u32 n] 34);have hr1:=aL hr hb1;have hL1:=h.later hb1;have hlt:=hr.lt;have hins:=X4 hlo (λj y hj hy=>by have:=hhi j y hj hy;omega) hi hm;have hlen:=yL n x.bN hm;have hP:=(show Hid _ from hins);have hP2:=(show Hid _ from hlen);clear hins hlen hlo hhi hiff D7 c0 c1 c2 c3 c4 c5;go_wp2_with fail;clear c6;generalize World.alloc _ _=W1 at hb1 hN hr1 hL1 ⊢;refine(LX _ x.bN.length i x.bN n w2.heap.size _ hr1 hi hN (λe=>by have:=(hlt _ e).2;omega) (by omega)).mono ?_;rintro e W2 ⟨v',rfl,ho2,hg2,hvb⟩;obtain⟨sI,c2',rfl,_⟩:=ay ho2;have hL2:=hL1.block (hg2.block B hL1.lt (λe=>hrB e.symm));have hL3:=hL2.aaz (.slice sI (x.bN.length+1) c2') (nu n x.bN);have hg3:W2.grownBy (W2.setCell ⟨B,6,none⟩ (.slice sI (x.bN.length+1) c2')) (some B):=ah (aB _ _) 6 _;have hB2:=aJ ho2 hL2 (λc e=>by cases e);have ho3:=ho2.kept hg3 (.inr hB2);have f6:=hL2.free 6;obtain⟨_,_,_,_,_,_,c6⟩:=hL2.cell;have hsz:=dH hb1.size hg2.size;have hfr:Hid (∀k,k<w2.heap.size->k≠B->(Value.slice ao x.bN.length c).ownBlock≠some k->(W2.setCell ⟨B,6,none⟩ (.slice sI (x.bN.length+1) c2')).heap[k]?=w2.heap[k]?):=λk hk hkB hkv=>
    (hg3.block k (fP hk hsz) (λe=>hkB (by cases e;rfl))).trans ((hg2.block k (fP hk hb1.size) (λe=>hkv e.symm)).trans (hb1.block k hk))
   have hos:(W2.setCell ⟨B,6,none⟩ (.slice sI (x.bN.length+1) c2')).os=w2.os:=hg3.os.trans (hg2.os.trans hb1.os);have htp:(W2.setCell ⟨B,6,none⟩ (.slice sI (x.bN.length+1) c2')).tape=w2.tape:=hg3.tape.trans (hg2.tape.trans hb1.tape);have hou:(W2.setCell ⟨B,6,none⟩ (.slice sI (x.bN.length+1) c2')).output=w2.output:=hg3.output.trans (hg2.output.trans hb1.output);have CU:w2.heap.size<=(W2.setCell ⟨B,6,none⟩ (.slice sI (x.bN.length+1) c2')).heap.size:=dH hsz hg3.size;have aeS:(Value.slice sI (x.bN.length+1) c2').ownBlock=(Value.slice ao x.bN.length c).ownBlock∨∀k,(Value.slice sI (x.bN.length+1) c2').ownBlock=some k->w2.heap.size<=k:=by
    rcases hvb with e|e
    ·exact .inl e
    ·exact .inr (λk hk=>dH hb1.size (e k hk))
   rw[hP.out]at ho3;clear hL1 hr1 hN hb1 ho2 hg2 hL2 hg3 hB2 hvb hsz;go_wp2;generalize World.setCell _ _ _=W3 at hL3 ho3 hfr hos htp hou CU ⊢;go_returns;exact⟨rfl,.inr ⟨⟨h4,hm⟩,_,hL3,by rw[hP2.out];exact ho3,aeS,CU,hos,htp,hou,hfr.out⟩⟩
 ·have hd4:decide (4<=(x.bN.length:Int))=true:=gu (by omega);have afv:decide (4<=x.bN.length)=true:=gu (by omega);go_enter Tryz.func182,Tryz.ntmps182;go_wp2_with fail;refine aT HV.out ?_;rintro e w1 ⟨rfl,rfl⟩;clear HV;go_wp2;go_returns;exact⟨rfl,.inl ⟨λh=>h4 h.1,rfl⟩⟩
theorem Mc(me:Int)(T:Nat)(S:Nat->Prop)(A:List Rt)(d n:Int)(hd:a_ d)(hn:a_ n)(w:World)(h:Cb me T S A w):
  Calls Tryz.prog 182 #[.pointer (some ⟨T,0,none⟩),.int .u32 d,.int .u32 n] w λe w'=>e=.returned (.tuple #[])∧Cb me T (ext S w.heap.size w'.heap.size) (kZ A d n) w'∧Fx S w w':=by
 obtain⟨M,f,g,hM,hS⟩:=h;have hold:Cb me T (ext S w.heap.size w.heap.size) A w∧Fx S w w:=⟨⟨M,f,g,hM,λk hk=> .inl (hS k hk)⟩,Fx.refl _ _⟩;have hv:=rV hM hd;unfold tT at hv;cases hl:aK A d with
 |none=>
  rw[hl]at hv;refine(Cw T d n w hv).mono ?_;rintro e w' ⟨rfl,rfl⟩;have h2:kZ A d n=A:=by unfold kZ;rw[oI hl]
  rw[h2];exact⟨rfl,hold⟩
 |some x=>
  rw[hl]at hv;obtain⟨hx,hxd,B,hB,hL,hR⟩:=hM.line hl;rw[hB]at hv;have hok:=hM.ok x hx;have hsame:¬(x.valid=true∧x.bN.length<4∧n ∉ x.bN)->kZ A d n=A:=λhc=>pQ hM.zh λy hy=>by
   rw[hl]at hy;cases hy;unfold qG;rw[aG hc]
  cases hxv:x.valid with
  |false=>
   simp only[hxv]at hv;refine(Cw T d n w hv).mono ?_;rintro e w' ⟨rfl,rfl⟩;rw[hsame (λh=>by rw[hxv]at h;cases h.1)];exact⟨rfl,hold⟩
  |true=>
   simp only[hxv,if_true,Option.map_some]at hv;refine(JS T d n B x (g d) hok.zh hok.Vf w hv hL hR).mono ?_;rintro e w' ⟨rfl,⟨hc,rfl⟩|⟨hc,v',hL',ho',hvb,hsz,hos,htp,hou,hfr⟩⟩
   ·rw[hsame (λh=>hc h.2)];exact⟨rfl,hold⟩
   ·have hF:qG n x={x with bN:=nu n x.bN}:=aM ⟨hxv,hc⟩;have ht:=hM.turn (W':=w') hl hB (qG n) (lg n) (by
     rw[hF];refine⟨hok.dest,hok.seq,hok.hops,hok.next,hok.exp,?_,?_,Nr n x.bN hok.zh⟩
     ·have:=yL n x.bN hc.2;dsimp only;omega
     ·intro b hb;rcases(Bb n x.bN b).1 hb with rfl|hb
      ·exact hn
      ·exact hok.bN b hb) v' (by rw[hF];exact hL') (by rw[hF];exact ho') (by rcases hvb with e|e;exact .inr (.inl e);exact .inr (.inr e)) (λk hk hkB hkv=>hfr k (hM.lt hk) hkB hkv)
    refine⟨rfl,⟨M,f,_,ht.1,λk hk=> ?_⟩,⟨hos,htp,hou,hsz,λk hk hkS=>hfr k hk (λe=>hkS (by rw[e];exact hS _ (hM.inB hl hB))) (λe=>hkS (hS k (.inr (.inr ⟨x,hx,.inr (by rw[hxd];exact e)⟩))))⟩⟩;rcases ht.2 k hk with h1|h1
    ·exact .inl (hS k h1)
    ·rcases hvb with e|e
     ·exact .inl (hS k (.inr (.inr ⟨x,hx,.inr (by rw[hxd,<-e];exact h1)⟩)))
     ·exact .inr ⟨e k h1,(ho'.lt k h1).2⟩
open Go.Sort
theorem Dm(a j:Nat)(d:Array Int)(hj:a<j)(hl:ltInt d[j]! d[j - 1]! =true):insInner ltInt a j d=insInner ltInt a (j - 1) (swp d j (j - 1)):=by
 match j,hj with
 |k+1,hj=>
  rw[insInner];simp only[Nat.add_sub_cancel]at hl ⊢;rw[aM];simp[hj,hl]
theorem nI(a j:Nat)(d:Array Int)(h:j<=a∨ltInt d[j]! d[j - 1]! =false):insInner ltInt a j d=d:=by
 match j with
 |0=>rw[insInner]
 |k+1=>
  rw[insInner];simp only[Nat.add_sub_cancel]at h;rw[aG];rcases h with h|h
  ·simp;omega
  ·simp[h]
theorem rX(a b i:Nat)(d:Array Int)(h:i<b):insOuter ltInt a b i d=insOuter ltInt a b (i+1) (insInner ltInt a i d):=by rw[insOuter,aM h]
theorem yB(a b i:Nat)(d:Array Int)(h:¬i<b):insOuter ltInt a b i d=d:=by rw[insOuter,aG h]
theorem nX(base g cap n a b:Nat)(d:Array Int)(w:World)(h:SR base g cap n d w)(hab:a<=b)(hb:b<=n)(hn:n<=1000000):
  Calls Tryz.prog 183 #[.slice (some ⟨g,0,none⟩) n cap,.int .i64 a,.int .i64 b] w λe w'=>e=.returned (.tuple #[])∧SR base g cap n (insertionSort ltInt d a b) w'∧w.grownBy w' (some g):=by
 go_enter Tryz.func183,Tryz.ntmps183;go_wp2_with fail;go_loopw [6] (λvi wr=>∃(i:Nat) (dk:Array Int),vi=.int .i64 i∧a<i∧i<=b+1∧SR base g cap n dk wr∧w.grownBy wr (some g)∧insOuter ltInt a b i dk=insertionSort ltInt d a b) (λvi _=>b+1 - (intOf vi).toNat)
 case atStart=>exact⟨a+1,d,by go_num,by omega,by omega,h,nQ _ _,rfl⟩
 case round=>
  clear h;obtain⟨i,dk,rfl,hai,hib,h,hg,hO⟩:=hrel;have HO:=(show Hid _ from hO);clear hO;by_cases hlt:i<b
  ·have hix:(i:Int)<(b:Int):=by omega
   go_wp2_with fail;go_loopw [7] (λvj wr2=>∃(j:Nat) (dj:Array Int),vj=.int .i64 j∧a<=j∧j<=i∧SR base g cap n dj wr2∧w.grownBy wr2 (some g)∧insInner ltInt a j dj=insInner ltInt a i dk) (λvj _=>(intOf vj).toNat)
   case atStart=>exact⟨i,dk,rfl,by omega,aA _,h,hg,rfl⟩
   case round=>
    clear h hg;obtain⟨j,dj,rfl,haj,hji,h,hg,hI⟩:=hrel;have hjn:(j:Int)<(n:Int):=by omega
    have afq:(j:Int) - 1<(n:Int):=by omega
    by_cases hja:a<j
    ·have hjp:(1:Int)<=(j:Int):=by omega
     have c0:=h.cell (j:=j) (by omega);have c1:=h.cell (j:=j - 1) (by omega);have f0:=h.free j;have f1:=h.free (j - 1);have hq:(j:Int) - 1=((j - 1:Nat):Int):=by omega
     have hs:=h.swap j (j - 1);have hgs:=λu v=>qc wr g j (j - 1) u v;have hgo:=Dm a j dj hja;have hst:=nI a j dj;generalize hX:dj[j]! =X at c0 hs hgo hst;generalize hY:dj[j - 1]! =Y at c1 hs hgo hst;have hJn:((j - 1:Nat):Int)<(n:Int):=by omega
     have hj0:(0:Int)<=(j:Int) - 1:=by omega
     generalize hJ:j - 1=J at c1 f1 hq hs hgs hgo hst hJn;have HJ:=(show Hid _ from hJ);have HI:=(show Hid _ from hI);have HS:=(show Hid _ from hst);clear hJ hI hst;have hdj:decide (a<j)=true:=gu hja;go_wp2_with fail;go_quiet (first|(go_at_call 189;refine Calls.quiet_of_same (wJ _ _ _)));cases hl:ltInt X Y
     ·go_wp2;go_roundw
      case rel=>exact⟨i+1,dj,by go_num,by omega,by omega,h.drewN _,hg.trans (oL _ _ _),by rw[<-HO.out,rX _ _ _ _ hlt,<-HI.out,HS.out (.inr hl)]⟩
      case measure=>simp[intOf];omega
     ·have hs':=(h.drewN (nq+1)).swap j J;have hg':=hg.trans ((oL wr (nq+1) (some g)).trans (qc _ g j J (.int .u32 dj[J]!) (.int .u32 dj[j]!)));rw[hX,<-HJ.out,hY,HJ.out]at hs' hg';have hJj:J+1=j:=by have:=HJ.out;omega
      clear hX hY;go_wp2_with fail;go_region
      all_goals go_wp2
      go_roundw
      case rel=>exact⟨J,swp dj j J,rfl,by omega,by omega,hs',hg',by rw[<-HI.out,hgo hl]⟩
      case measure=>simp[intOf];omega
    ·have hdj:decide (a<j)=false:=fE hja;have hst:=nI a j dj (.inl (by omega));go_wp2_with fail;go_quiet (fail);go_wp2;go_roundw
     case rel=>exact⟨i+1,dj,by go_num,by omega,by omega,h.drewN _,hg.trans (oL _ _ _),by rw[<-HO.out,rX _ _ _ _ hlt,<-hI,hst]⟩
     case measure=>simp[intOf];omega
  ·have hend:insOuter ltInt a b i dk=dk:=yB a b i dk hlt;rw[HO.out]at hend;rw[<-hend]at h;go_wp2;go_returns;exact⟨rfl,h,hg⟩
def tab:ByteArray:=⟨#[0,1,2,2,3,3,3,3,4,4,4,4,4,4,4,4,5,5,5,5,5,5,5,5,5,5,5,5,5,5,5,5,6,6,6,6,6,6,6,6,6,6,6,6,6,6,6,6,6,6,6,6,6,6,6,6,6,6,6,6,6,6,6,6,7,7,7,7,7,7,7,7,7,7,7,7,7,7,7,7,7,7,7,7,7,7,7,7,7,7,7,7,7,7,7,7,7,7,7,7,7,7,7,7,7,7,7,7,7,7,7,7,7,7,7,7,7,7,7,7,7,7,7,7,7,7,7,7,8,8,8,8,8,8,8,8,8,8,8,8,8,8,8,8,8,8,8,8,8,8,8,8,8,8,8,8,8,8,8,8,8,8,8,8,8,8,8,8,8,8,8,8,8,8,8,8,8,8,8,8,8,8,8,8,8,8,8,8,8,8,8,8,8,8,8,8,8,8,8,8,8,8,8,8,8,8,8,8,8,8,8,8,8,8,8,8,8,8,8,8,8,8,8,8,8,8,8,8,8,8,8,8,8,8,8,8,8,8,8,8,8,8,8,8,8,8,8,8,8,8,8,8,8,8,8,8]⟩
theorem Kg:∀k,(h:k<tab.size)->tab[k].toNat<=8∧(0<k->2 ^ tab[k].toNat<=2 * k):=of_decide_eq_true (by kernel_rfl)
theorem w64{x:Int}(h:0<=x)(h':x<1000):wrap64 x=x:=by
 unfold wrap64;omega
theorem Pz(x:Nat)(hx:x<=1000000)(w:World):
  Calls Tryz.prog 193 #[.int .u64 x] w λe w'=>∃r:Nat,e=.returned (.int .i64 r)∧r<=32∧(0<x->2 ^ r<=2 * x)∧w'=w:=by
 have h0:decide ((4294967296:Int)<=(x:Int))=false:=fE (by omega);by_cases h1:65536<=x
 ·have h1':decide ((65536:Int)<=(x:Int))=true:=gu (by omega);go_enter Tryz.func193,Tryz.ntmps193;go_wp2;generalize hT:UInt8.toNat _=t;have hP:t<=8∧(0<x / 65536->2 ^ t<=2 * (x / 65536)):=by
   rw[<-hT];exact Kg _ _
  clear hT;rw[w64 (x:=(t:Int)) (by omega) (by omega),w64 (x:=16+(t:Int)) (by omega) (by omega)];go_ret;refine⟨16+t,by go_num,by omega,λ_=> ?_,rfl⟩;rw[Nat.pow_add];have:=hP.2 (by omega);omega
 ·have h1':decide ((65536:Int)<=(x:Int))=false:=fE (by omega);by_cases h2:256<=x
  ·have h2':decide ((256:Int)<=(x:Int))=true:=gu (by omega);go_enter Tryz.func193,Tryz.ntmps193;go_wp2;generalize hT:UInt8.toNat _=t;have hP:t<=8∧(0<x / 256->2 ^ t<=2 * (x / 256)):=by
    rw[<-hT];exact Kg _ _
   clear hT;rw[w64 (x:=(t:Int)) (by omega) (by omega),w64 (x:=8+(t:Int)) (by omega) (by omega)];go_ret;refine⟨8+t,by go_num,by omega,λ_=> ?_,rfl⟩;rw[Nat.pow_add];have:=hP.2 (by omega);omega
  ·have h2':decide ((256:Int)<=(x:Int))=false:=fE (by omega);go_enter Tryz.func193,Tryz.ntmps193;go_wp2;generalize hT:UInt8.toNat _=t;have hP:t<=8∧(0<x->2 ^ t<=2 * x):=by
    rw[<-hT];exact Kg _ _
   clear hT;rw[w64 (x:=(t:Int)) (by omega) (by omega),w64 (x:=(t:Int)) (by omega) (by omega)];go_ret;exact⟨t,rfl,by omega,hP.2,rfl⟩
theorem Fj(x:Nat)(hx:x<=1000000)(w:World):
  Calls Tryz.prog 173 #[.int .u64 x] w λe w'=>∃r:Nat,e=.returned (.int .i64 r)∧r<=32∧(0<x->2 ^ r<=2 * x)∧w'=w:=by
 go_enter Tryz.func173,Tryz.ntmps173;go_wp2_with fail;refine(Pz x hx w).mono ?_;rintro e w' ⟨r,rfl,h1,h2,rfl⟩;go_wp2;go_ret;exact⟨r,rfl,h1,h2,rfl⟩
def PQ(base g cap n a b:Nat)(d:Array Int)(w:World)(e:Ending)(w':World):Prop:=
 e=.returned (.tuple #[])∧∃d',SR base g cap n d' w'∧PermIn a b d d'∧SortedIn ltInt a b d'∧w.grownBy w' (some g)
theorem EN(base g cap n r:Nat)(d:Array Int)(w:World)(h:SR base g cap n d w)(hn:n<=12):
  Calls Tryz.prog 172 #[.slice (some ⟨g,0,none⟩) n cap,.int .i64 0,.int .i64 n,.int .i64 r] w (PQ base g cap n 0 n d w):=by
 have afw:decide ((n:Int)<=12)=true:=gu (by omega);have adQ:decide (n<=12)=true:=gu hn;obtain⟨i1,i2⟩:=insertionSort_holds swo_ltInt d 0 n (b_ _) (by rw[h.size];exact aA _);go_enter Tryz.func172,Tryz.ntmps172;go_wp2_with fail;go_loopw [1,2] (λva vb wr=>va=.int .i64 0∧vb=.int .i64 n∧SR base g cap n d wr∧w.grownBy wr (some g)) (λ_ _ _=>0)
 case atStart=>exact⟨rfl,rfl,h,nQ _ _⟩
 case round=>
  obtain⟨rfl,rfl,h1,hg⟩:=hrel;have hcall:=(show Hid _ from nX base g cap n 0 n d _ h1 (b_ _) (aA _) (by omega));clear h h1;go_wp2_with fail;refine aT hcall.out ?_;rintro e W2 ⟨rfl,h2,hg2⟩;clear hcall;go_wp2;go_returns;exact⟨rfl,_,h2,i1,i2,hg.trans hg2⟩
theorem vz(base g cap n:Nat)(d:Array Int)(w:World)(h:SR base g cap n d w)(hn:n<=12):
  Calls Tryz.prog 140 #[.slice (some ⟨g,0,none⟩) n cap] w (PQ base g cap n 0 n d w):=by
 go_enter Tryz.func140,Tryz.ntmps140;go_wp2_with fail;refine(Fj n (by omega) _).mono ?_;rintro e w1 ⟨r,rfl,hr,_,rfl⟩;have hp:=EN base g cap n r d _ h hn;have HP:=(show Hid _ from hp);clear hp;go_wp2_with fail;refine aT HP.out ?_;rintro e w2 ⟨rfl,d',h',hp,hs,hg⟩;clear HP;go_wp2;go_returns;exact⟨rfl,d',h',hp,hs,hg⟩
theorem CS(w:World):
  Calls Tryz.prog 183 #[.slice none 0 0,.int .i64 0,.int .i64 0] w λe w'=>e=.returned (.tuple #[])∧w.grownBy w' none:=by
 go_enter Tryz.func183,Tryz.ntmps183;go_wp2_with fail;go_loopw [6] (λvi wr=>vi=.int .i64 1∧w.grownBy wr none) (λ_ _=>0)
 case atStart=>exact⟨rfl,nQ _ _⟩
 case round=>
  obtain⟨rfl,hg⟩:=hrel;go_wp2;go_returns;exact⟨rfl,hg⟩
theorem XB(r:Nat)(w:World):
  Calls Tryz.prog 172 #[.slice none 0 0,.int .i64 0,.int .i64 0,.int .i64 r] w λe w'=>e=.returned (.tuple #[])∧w.grownBy w' none:=by
 go_enter Tryz.func172,Tryz.ntmps172;go_wp2_with fail;go_loopw [1,2] (λva vb wr=>va=.int .i64 0∧vb=.int .i64 0∧w.grownBy wr none) (λ_ _ _=>0)
 case atStart=>exact⟨rfl,rfl,nQ _ _⟩
 case round=>
  obtain⟨rfl,rfl,hg⟩:=hrel;go_wp2_with fail;refine(CS _).mono ?_;rintro e w1 ⟨rfl,h1⟩;go_wp2;go_returns;exact⟨rfl,hg.trans h1⟩
theorem RA(w:World):
  Calls Tryz.prog 140 #[.slice none 0 0] w λe w'=>e=.returned (.tuple #[])∧w.grownBy w' none:=by
 go_enter Tryz.func140,Tryz.ntmps140;go_wp2_with fail;refine(Fj 0 (by omega) _).mono ?_;rintro e w1 ⟨r,rfl,hr,_,rfl⟩;go_wp2_with fail;refine(XB r _).mono ?_;rintro e w2 ⟨rfl,hg⟩;go_wp2;go_returns;exact⟨rfl,hg⟩
variable{d:Array Int}{n:Nat}
theorem AU{d':Array Int}(hd:d.size=n)(h:PermIn 0 n d d'):d'.toList.Perm d.toList:=by
 obtain⟨h1,_,h3⟩:=h;have e1:d.extract 0 n=d:=by rw[<-hd];simp
 have e2:d'.extract 0 n=d':=by rw[<-hd,<-h1];simp
 rw[e1,e2]at h3;exact h3
theorem tZ(hd:d.size=n)(h:SortedIn ltInt 0 n d):d.toList.Pairwise (·<=·):=by
 rw[List.pairwise_iff_getElem];intro i j hi hj hij;have hi':i<d.size:=by simpa using hi
 have hj':j<d.size:=by simpa using hj
 have:=h i j (b_ _) hij (by omega);simp only[ltInt,decide_eq_false_iff_not]at this;rw[getElem!_pos d j hj',getElem!_pos d i hi']at this;simp only[Array.getElem_toList];omega
theorem tY(g:Nat)(lb:Array Value)(eg:∀args w,(callFunc g args).run Tryz.prog w=.ok (.enter g args) w)
  (S:List Int->Prop) (N:Nat) (hN:N<=12) (w:World) (hseq:SeqGives Fence.wide 1 Tryz.prog g lb aW S N w):
  Calls Tryz.prog 102 #[.func (.func g) #[] lb] w λe w'=>∃(v:Value) (ts ss:List Int),e=.returned v∧S ss∧ts.Perm ss∧ts.Pairwise (·<=·)∧ts.length<=N∧
   w'.ownsRow w.heap.size 34 1 v ts.length (ts.map aW)∧Below w.heap.size w w':=by
 have hc:=callsIn_wide.1 (collect_in Fence.wide 3 trivial trivial rfl (aA _) g lb trivial eg _ N (by unfold maxLen;omega) (by omega) w hseq.bounded);have HC:=(show Hid _ from hc);clear hc hseq;go_enter Tryz.func102,Tryz.ntmps102;go_wp2_with fail;refine aT HC.out ?_;rintro e W ⟨v,ss,rfl,⟨hS,hlen⟩,hrow,hnil,hb⟩;clear HC;rcases hrow.2 with⟨rfl,hz⟩|⟨gb,cap,cur,rfl,hbase,hgb,r1,r2,r3,r4⟩
 ·have hss:ss=[]:=qA hz;subst hss;go_wp2_with fail;refine(RA _).mono ?_;rintro e w2 ⟨rfl,hg⟩;go_wp2;go_ret;refine⟨.slice none 0 0,[],[],rfl,hS,List.Perm.refl _,List.Pairwise.nil,b_ _,⟨rfl,.inl ⟨rfl,rfl⟩⟩,hb.grown hg hb.size (λk e=>by cases e)⟩
 ·have hSR:SR w.heap.size gb cap ss.length ss.toArray W:=⟨by simp,by
   have:UC ss.toArray=ss.map aW:=by simp[UC]
   rw[this];exact hrow⟩
  have hs:=vz w.heap.size gb cap ss.length ss.toArray W hSR (by omega);have HS:=(show Hid _ from hs);have HB:=(show Hid _ from hb);clear hs hSR hgb r3 r4 hrow hb;go_wp2_with fail;refine aT HS.out ?_;rintro e w2 ⟨rfl,d',h',hp,hso,hg⟩;clear HS;go_wp2;go_ret;have hsz:d'.size=ss.length:=h'.size;have hl:d'.toList.length=ss.length:=by simpa using hsz
  have hpa:=AU (by simp) hp;refine⟨_,d'.toList,ss,rfl,hS,by simpa using hpa,tZ hsz hso,by omega,?_,HB.out.grown hg HB.out.size (λk e=>by cases e;exact hbase)⟩;rw[hl];exact h'.row
variable{H:Type}
theorem OV(F:Fence)(n:Nat)(h10:F.fn 170)(hro:F.round=none)(hn:1<=n)(l Bm b nn:Nat)(D0:DataW H){R:Value->Option (DataW H×List MemPlace)}(J:List Int->World->Prop)
  (hY:∀pre x W,J pre W->pre.length<Maps.size D0->YieldAt F (n - 1) Tryz.prog l #[aW x] W λe W'=>e=.returned (.bool true)∧J (pre++ [x]) W'∧KeepsWalks W W')
  (W:World) (hJ:AbidesFrom W.heap.size J) (hm:W.cell? ⟨Bm,0,none⟩=some (.map (some b))) (hown:W.ownsMap Tryz.prog 34 R b nn D0) (h0:J [] W):
  CallsIn F n Tryz.prog 170 #[.func (.yield l) #[] #[],.pointer (some ⟨Bm,0,none⟩)] W λe W'=>(∃v,e=.returned v)∧∃ss:List Int,wK D0 ss∧J ss W':=by
 refine callsIn_of_wp Tryz.func170 rfl h10 ?_ hro;simp only[Tryz.ntmps170,List.size_toArray,dY,List.length_nil,Nat.reduceAdd,Nat.reduceSub,Array.replicate_succ,Array.replicate_zero,List.push_toArray,List.append_toArray,List.nil_append,List.cons_append]
 gi_wp2_with (first
  |(gi_at_range;refine wpListIn_range_own _ rfl _ 156 rfl 34 161 gy Tryz.underlying156 _ b nn _ rfl hown ?_;intro w0 hrg0 hg0 hs0)
  |gi_in)
 go_frame
 gi_loopw [3] (λ_ wr=>∃(left:Lit->Bool) (cnt:Nat) (ss:List Int),wr.ranges Tryz.prog 34 R b W.heap.size nn D0 left cnt∧ss.length+cnt<=Maps.size D0∧gD D0 left ss∧J ss wr)
  (λ_ wr=>wr.rangeLeft b W.heap.size)
 case atStart=>
  exact⟨_,_,[],hrg0,by simp,gD.start D0,hJ [] W w0 none h0 hg0 (λr e=>by cases e)⟩
 case round=>
  obtain⟨left,cnt,ss,hrg,hcs,hC,hJs⟩:=hrel
  gi_wp2_with (first
   |(gi_at_next;refine wpListIn_next_ranges _ rfl _ rfl 34 gy R aW id (λkey kl hk=>by obtain⟨x,hx,_⟩:=kW Tryz.underlying34 hk;exact⟨x,hx⟩) (λv _ _=>⟨v,rfl⟩) b W.heap.size nn _ _ _ rfl hrg ?_ ?_)
   |gi_in)
  ·intro hc0 hl0
   gi_wp2
   go_end0
   exact⟨⟨_,rfl⟩,ss,hC.keys hl0,hJs⟩
  ·intro x c kl yd yp w2 cnt2 hkey hlk hv hat hrg2 hlt hg2 hs2 hen;obtain⟨x',ex,rfl,hwf⟩:=kW Tryz.underlying34 hkey;obtain rfl:x=x':=BJ ex;have hJ2:J ss w2:=hJ ss wr w2 (some W.heap.size) hJs hg2 (λr e=>by cases e;exact⟨aA _,hrg.iter_walk⟩);obtain⟨fn,tmps,assign,body,hy,hR⟩:=hY ss x w2 hJ2 (by omega);clear hs2
   gi_wp2
   refine hR.mono ?_;rintro e W3 ⟨rfl,hJ3,hk3⟩
   gi_wp2
   have hrg3:=hrg2.of_walks hk3;go_roundw
   case rel=>exact⟨_,cnt2,ss++ [x],hrg3,by simp;omega,hC.step hlk hat hwf,hJ3⟩
   case measure=>rw[hrg3.left_eq,hrg.left_eq];exact hlt
theorem G8(F:Fence)(n:Nat)(h10:F.fn 170)(hro:F.round=none)(hn:1<=n)(Bm b nn:Nat)(D0:DataW H){R:Value->Option (DataW H×List MemPlace)}(w:World)(hBm:Bm<w.heap.size)
  (hm:w.cell? ⟨Bm,0,none⟩=some (.map (some b))) (hown:w.ownsMap Tryz.prog 34 R b nn D0):
  SeqGives F n Tryz.prog 170 #[.pointer (some ⟨Bm,0,none⟩)] aW (wK D0) (Maps.size D0) w:=λl J W hW hJ hY h0=>by
 have hown':W.ownsMap Tryz.prog 34 R b nn D0:=by
  have hbl:=hown.lt;obtain⟨es,clock,hb,Ft,hs,hD⟩:=hown;exact⟨es,clock,(hW.block b hbl).trans hb,Ft,hs,hD⟩
 exact OV F n h10 hro hn l Bm b nn D0 J hY W hJ ((hW.cell (p:=⟨Bm,0,none⟩) hBm).trans hm) hown' h0
def aex(L:List (Bool×Int×Int))(w:World)(e:Ending)(w':World):Prop:=
 ∃v out,e=.returned v∧iR (mH L) (qJ L) out∧out.length<=L.length+1∧w'.ownsRow w.heap.size 82 3 v out.length (RC out)∧Below w.heap.size w w'
theorem o9{L:List (Bool×Int×Int)}{k:Nat}{x:Bool×Int×Int}(h:L[k]?=some x):L.take (k+1)=L.take k++ [x]:=by
 obtain⟨hk,rfl⟩:=fA.1 h;exact List.take_succ_eq_append_getElem hk
open Go.WideElems
variable{M:Nat}{W:World}
theorem Ii:∀(l m:List Int),l.Nodup->(∀a∈l,a∈m)->l.length<=m.length
 | [],_,_,_=>b_ _
 |a::l,m,hn,hm=>by
  rw[List.nodup_cons]at hn;have h1:=Ii l (m.erase a) hn.2 λb hb=>by
   have hne:b≠a:=λe=>hn.1 (e▸hb);exact(List.mem_erase_of_ne hne).2 (hm b (iI _ hb))
  have h2:a∈m:=hm a gm;have h3:=List.length_erase_of_mem h2;have h4:=List.length_pos_of_mem h2;simp only[dY];omega
theorem Ip{H:Type}(l:List (Lit×DataW H))(p:Lit×DataW H)(h:p∈l.foldr DataW.insert []):p∈l:=by
 induction l with
 |nil=>simp at h
 |cons x l ih=>
  rw[List.foldr_cons]at h;rcases ChangeMaps.mem_insert_iff.1 h with rfl|h
  ·exact gm
  ·exact iI _ (ih h)
theorem MapU.size_le{f:Int->Option Int}{s:Nat}(h:MapU W M f s)(l:List Int)(hl:∀d,a_ d->(f d).isSome=true->d∈l):s<=l.length:=by
 obtain⟨D,h1,h2,h3⟩:=h;obtain⟨es0,he0,hp⟩:=h1.tidy gy;obtain⟨es,clock,hb,F,hs,hD⟩:=h1;rw[hD]at he0;simp only[DataW.map.injEq]at he0;have hkey:∀p∈es0,∃d,a_ d∧p.1=.int .u32 d:=by
  intro p hp;rw[<-he0]at hp;have:=Ip _ _ hp;obtain⟨x,hx,rfl⟩:=dh.1 this;obtain⟨y,hy⟩:=F.reads x hx;have h5:=rd_key hy;have h6:rg Tryz.prog 34 (plainElem Tryz.prog 34) x=y:=by
   unfold rg;rw[hy];rfl
  obtain⟨d,_,hd,hwf⟩:=kW Tryz.underlying34 h5;have hb:=bounds_u32 hwf;exact⟨d,⟨hb.1,by have:=hb.2;omega⟩,by rw[h6];exact hd⟩
 have hlen:es0.length=s:=by
  rw[<-h2,hD,he0];rfl
 have hmem:∀p∈es0,∀d,a_ d->p.1=.int .u32 d->d∈l:=by
  intro p hp d hd e;refine hl d hd ?_;rw[<-(h3 d hd).1,hD,he0,has_eq];rw[List.any_eq_true];exact⟨p,hp,by rw[e];simp[Lit.sameKey]⟩
 have hgen:∀es0:List (Lit×DataW Unit),es0.Pairwise (λp q=>p.1≠q.1)->(∀p∈es0,∃d,a_ d∧p.1=.int .u32 d)->∃ds:List Int,ds.length=es0.length∧ds.Nodup∧∀d∈ds,∃p∈es0,a_ d∧p.1=.int .u32 d:=by
  intro es0
  induction es0 with
  |nil=>intro _ _;exact⟨[],rfl,List.nodup_nil,λ_ h=>by cases h⟩
  |cons p es0 ih=>
   intro hp hk;rw[List.pairwise_cons]at hp;obtain⟨ds,e1,e2,e3⟩:=ih hp.2 λq hq=>hk q (iI _ hq);obtain⟨d,hd,hpd⟩:=hk p gm;refine⟨d::ds,by simp[e1],List.nodup_cons.2 ⟨λhmem=> ?_,e2⟩,λd' hd'=> ?_⟩
   ·obtain⟨q,hq,_,Nw⟩:=e3 d hmem;exact hp.1 q hq (by rw[hpd,Nw])
   ·rcases eF.1 hd' with rfl|h
    ·exact⟨p,gm,hd,hpd⟩
    ·obtain⟨q,hq,h1⟩:=e3 d' h;exact⟨q,iI _ hq,h1⟩
 obtain⟨ds,e1,e2,e3⟩:=hgen es0 hp hkey;rw[<-hlen,<-e1];exact Ii ds l e2 λd hd=>by
  obtain⟨p,hp,hu,he⟩:=e3 d hd;exact hmem p hp d hu he
def Zt(L:List (Bool×Int×Int)):Prop:=∃l:List Int,l.length<=12∧∀a,(mH L a).isSome=true->a∈l
theorem ab4{L:List (Bool×Int×Int)}{sz:Nat}(h:Zt L)(hm:MapU W M (mH L) sz):sz<=12:=by
 obtain⟨l,h1,h2⟩:=h;exact dH (hm.size_le l λd _ hd=>h2 d hd) h1
variable{W:World}
theorem bX{b1 b2 e1 e2 s1 s2 n1 n2:Nat}{v1 v2:Value}{x1 x2:List Value}(h1:W.ownsRow b1 e1 s1 v1 n1 x1)(h2:W.ownsRow b2 e2 s2 v2 n2 x2)(hne:e1≠e2):v1.ownBlock=none∨v1.ownBlock≠v2.ownBlock:=by
 rcases h1.2 with⟨rfl,_⟩|⟨g1,c1,k1,rfl,_,q1,_⟩
 ·exact .inl rfl
 ·rcases h2.2 with⟨rfl,_⟩|⟨g2,c2,k2,rfl,_,q2,_⟩
  ·exact .inr (by simp[Value.ownBlock])
  ·refine .inr λe=> ?_;simp only[Value.ownBlock,Option.some.injEq]at e;subst e;rw[q1]at q2;cases q2;exact hne rfl
theorem qK.Xg{B:Nat}{o:Bool}{a s:Int}(h:qK B o a s W)(s':Int):qK B o a s' (W.setCell ⟨B,2,none⟩ (.int .u32 s')):=by
 unfold qK at h ⊢;simp[World.setCell,d_,h]
theorem DN(f:Int->Option Int)(ss:List Int)(a:Int):gL f (ss++ [a])=gL f ss++ [(false,a,(f a).getD 0)]:=by simp[gL]
theorem Dt(f:Int->Option Int)(a s:Int):stepM f (false,a,s)=ku f a (some (max ((f a).getD 0) s)):=rfl
theorem Tg:MB λ_=>none:=λa v h=>by cases h
theorem SL:OB none:=λv h=>by cases h
theorem MN{L:List (Bool×Int×Int)}(h:qy L){x:Bool×Int×Int}(hx:x∈L):a_ x.2.1∧a_ x.2.2:=by
 have:=h x hx;unfold a_;omega
theorem vQ(ao:Option Addr)(n c:Nat)(L:List (Bool×Int×Int))(hL:L.length=n)(hn:n<=50000)(hbd:qy L)(hfw:Zt L)(w:World)(hA:gM w ao (RC L)):
  Calls Tryz.prog 69 #[.slice ao n c] w (aex L w):=by
 obtain⟨i0,hi,hz0,hz1,hz2⟩:=info_parts ru;have hmm:=@run_makeMap Tryz.prog;have hM0:=MapU.made (w.alloc (aY true 0 0));rw[World.size_alloc]at hM0;have hB0:qK w.heap.size true 0 0 ((w.alloc (aY true 0 0)).alloc (.map #[] 0)):=(qK.new true 0 0 w).later (bC);have hb0:Below w.heap.size w ((w.alloc (aY true 0 0)).alloc (.map #[] 0)):=(bC).alloc (by simp) _;have hs0:w.heap.size+2<=((w.alloc (aY true 0 0)).alloc (.map #[] 0)).heap.size:=by simp
 dsimp only[aY]at hM0 hB0 hb0 hs0;go_enter Tryz.func69,Tryz.ntmps69;go_wp2_with fail;clear hmm;generalize World.alloc _ _=W0 at hM0 hB0 hb0 hs0 ⊢;go_loopw [4,15] (λq i wr=>∃(k sz:Nat),k<=n∧i=.int .i64 k∧q=.bool (qJ (L.take k)).isSome∧MB (mH (L.take k))∧OB (qJ (L.take k))∧qK w.heap.size true 0 ((qJ (L.take k)).getD 0) wr∧MapU wr (w.heap.size+1) (mH (L.take k)) sz∧sz<=k∧Below w.heap.size w wr∧w.heap.size+2<=wr.heap.size) (λ_ i _=>n - (intOf i).toNat)
 case atStart=>exact⟨0,0,b_ _,rfl,rfl,Tg,SL,hB0,hM0,aA _,hb0,hs0⟩
 case round=>
  clear hM0 hB0 hb0 hs0;obtain⟨k,sz,hk,rfl,rfl,hmb,ZL,hB,hm,hsz,hb,hs2⟩:=hrel;by_cases hlt:k<n
  ·have hki:(k:Int)<(n:Int):=by omega
   obtain⟨x,hx⟩:∃x,L[k]?=some x:=⟨_,cK (by omega)⟩;have hat:∀i z,i<3->([.bool x.1,.int .u32 x.2.1,.int .u32 x.2.2]:List Value)[i]?=some z->(RC L)[k * 3+i]?=some z:=λi z hi hz=>(jk (λx:Bool×Int×Int=>([Value.bool x.1,Value.int .u32 x.2.1,Value.int .u32 x.2.2]:List Value)) 3 (by decide) (λ_=>rfl) L k i hi hx).trans hz;have hA':=hA.below hb;obtain⟨b1,o1,rfl,hj1⟩:=hA' (k * 3+0) _ (hat 0 _ (by decide) rfl);have d0:=hA'.one rfl (hat 0 _ (by decide) rfl);have d1:=hA'.one rfl (hat 1 _ (by decide) rfl);have d2:=hA'.one rfl (hat 2 _ (by decide) rfl);have hxu:=MN hbd (gH hx);have eM:Hid (mH (L.take (k+1))=stepM (mH (L.take k)) x):=by
    show _=_;rw[o9 hx,Im]
   have eO:Hid (qJ (L.take (k+1))=lI (qJ (L.take k)) x):=by
    show _=_;rw[o9 hx,AY]
   have abr:Hid (MB (mH (L.take (k+1)))):=by
    show MB _;rw[eM.out];exact hmb.step hxu.1 hxu.2
   have adv:Hid (OB (qJ (L.take (k+1)))):=by
    show OB _;rw[eO.out];exact ZL.step hxu.2
   obtain⟨xo,xa,xs⟩:=x;dsimp only at d0 d1 d2 hxu;rw[Nat.add_zero]at d0;rw[<-Nat.add_assoc]at d1 d2;have hB1:=hB.later ((aU _ wr).alloc (aA _) (aY xo xa xs));have hm1:=hm.kept (ko wr (aY xo xa xs) none) (by simp);have hb1:=hb.alloc hb.size (aY xo xa xs);have hs1:w.heap.size+2<=(wr.alloc (aY xo xa xs)).heap.size:=by simp;omega
   clear hj1 hat hA' hx hB hm hb hmb;generalize mH (L.take k)=f at hm1 eM;have ho:OB (qJ (L.take k)):=ZL;generalize qJ (L.take k)=cc at hB1 eO ho ⊢;clear ZL;cases xo
   ·have hl:=hm1.look hxu.1;obtain⟨W2,hr,hm2,hg2⟩:=hm1.put (by unfold maxLen;omega) hxu.1 (v:=max ((f xa).getD 0) xs) (by
     have hh:=(abr.out);rw[eM.out,Dt]at hh;exact(hh xa _ (by simp[ku])).2)
    have hB2:=hB1.kept hg2 (by simp);have hb2:=hb1.grown hg2 hb1.size (λk e=>by cases e;omega);have hs3:=dH hs1 hg2.size;have ae0:(if (f xa).isSome then sz else sz+1)<=k+1:=by split<;>omega
    rw[Dt]at eM;clear hm1 hB1 hb1 hg2 hs1 hs2 ho;dsimp only[aY]at hl hr;generalize (f xa).getD 0=fx at hl hr hm2 eM;go_wp2;go_roundw
    case rel=>exact⟨k+1,_,by omega,by go_num,by rw[eO.out];rfl,abr.out,adv.out,by rw[eO.out];exact hB2,by rw[eM.out];exact hm2,ae0,hb2,hs3⟩
    case measure=>simp[intOf];omega
   ·obtain⟨c0,c1,c2⟩:=hB1.cell;have ff:=hB1.free 2;have hm2:=λv=>hm1.kept (ah (aB _ (some w.heap.size)) 2 v) (by simp);have hB2:=λv=>hB1.Xg v;have hb2:=λv=>hb1.setCell (p:=⟨w.heap.size,2,none⟩) (aA _) v;have hs3:∀v,w.heap.size+2<=((wr.alloc (aY true xa xs)).setCell ⟨w.heap.size,2,none⟩ v).heap.size:=λv=>dH hs1 (ah (aB _ (some w.heap.size)) 2 v).size;clear hm1 hB1 hb1 hs1 hs2 hxu;dsimp only[aY]at c0 c1 c2 ff hm2 hB2 hb2 hs3;have YW:Hid (qJ (L.take (k+1))=some (max (cc.getD 0) xs)):=by
     show _=_;rw[eO.out];rfl
    clear eO ho;generalize cc.getD 0=t at c2 YW;go_wp2;go_roundw
    case rel=>exact⟨k+1,sz,by omega,by go_num,by rw[YW.out];rfl,abr.out,adv.out,by rw[YW.out];exact hB2 _,by rw[eM.out];exact hm2 _,by omega,hb2 _,hs3 _⟩
    case measure=>simp[intOf];omega
  ·have hkn:n<=k:=by omega
   rw[jE (by omega)]at hB hm hmb ZL ⊢;have hsn:sz<=L.length:=by omega
   have hLn:L.length<=50000:=by omega
   have hnn:n=L.length:=hL.symm;clear hkn hsz hs2 hA hL;have agw:=ab4 hfw hm;clear hfw;generalize hf:mH L=f at hm hmb;have hf':=(show Hid _ from hf);generalize hc:qJ L=cc at hB ZL ⊢;have hc':=(show Hid _ from hc);clear hf hc;have hs2:=hB.lt;have hMl:=hm.lt;have hkf:decide ((k:Int)<(n:Int))=false:=fE (by omega);have afn:decide (k<n)=false:=fE (by omega);cases cc with
   |none=>
    have Gs:wr.ownsRow (w.heap.size+2) 82 3 (.slice none 0 0) (dz none).length (RC (dz none)):=⟨rfl,.inl ⟨rfl,rfl⟩⟩;have ae1:=hb.size;have afN:=hm.lt;have Fs:Below wr.heap.size wr (wr.alloc (.cells #[.map (some (w.heap.size+1))] 115)):=bC;have hseq:=hm.zS (wr.alloc (.cells #[.map (some (w.heap.size+1))] 115)) wr.heap.size (by simp) (by simp) Fs;have hso:=tY 141 #[.pointer (some ⟨wr.heap.size,0,none⟩)] (enters_of Tryz.func141 (by kernel_rfl) rfl) _ sz (by omega) _ hseq;have HSO:=(show Hid _ from hso);clear hso hseq;go_wp2_with fail;refine(IE _ _).mono ?_;rintro e w9 ⟨rfl,rfl⟩;go_wp2_with fail;refine aT HSO.out ?_;rintro e W2 ⟨v,ts,ss,rfl,hS,hperm,hle,hlen,hrow,hb2⟩;have NC:=hm.kept ⟨Fs.os,Fs.tape,Fs.output,Fs.size,λk hk _=>Fs.block k hk⟩ (row:=none) (by simp);have hm2:=NC.kept (below_grown hb2 none) (by simp);have hbb:=(hb.trans (Fs.mono hb.size)).trans (hb2.mono (by simp;omega));have ho2:=(aL Gs Fs);have ho3:=aL ho2 hb2;have hlts:ts.Pairwise (·<·):=by
     have hnd:ts.Nodup:=hperm.nodup_iff.2 hS.1;rw[List.pairwise_iff_getElem]at hle ⊢;intro i j hi hj hij;have h1:=hle i j hi hj hij;have h2:=List.pairwise_iff_getElem.1 hnd i j hi hj hij;omega
    have hmem:∀a,a∈ts ↔ (f a).isSome=true:=λa=>by
     rw[hperm.mem_iff,hS.2 a];constructor
     ·exact λh=>h.2
     ·intro h;obtain⟨y,hy⟩:=Option.isSome_iff_exists.1 h;exact⟨(hmb a y hy).1,h⟩
    have hcmp:iR f none (dz none++gL f ts):=⟨ts,hlts,hmem,rfl⟩;have Uf:∀a∈ts,a_ a:=λa ha=>((hS.2 a).1 (hperm.mem_iff.1 ha)).1;obtain⟨sI,c2',rfl,_⟩:=ay hrow;have Ut:=(show Hid _ from hcmp);clear HSO hm NC ho2 hb hb2 Fs hS hperm hle hlts hmem hcmp Gs;go_wp2_with fail;go_loopw [8,47] (λv i wr2=>∃j:Nat,j<=ts.length∧i=.int .i64 j∧wr2.ownsRow (w.heap.size+2) 82 3 v ((dz none).length+j) (RC (dz none++gL f (ts.take j)))∧wr2.ownsRow (wr.heap.size+1) 34 1 (.slice sI ts.length c2') ts.length (ts.map aW)∧MapU wr2 (w.heap.size+1) f sz∧Below w.heap.size w wr2∧w.heap.size+2<=wr2.heap.size) (λ_ i _=>ts.length - (intOf i).toNat)
    case atStart=>
     refine⟨0,b_ _,rfl,?_,by simpa using hrow,hm2,hbb,?_⟩
     ·simpa[gL]using ho3
     ·have:=hm2.lt;omega
    case round=>
     obtain⟨j,hj,rfl,iQ,hts,hmr,hbr,hsr⟩:=hrel;clear ho3 hrow hm2 hbb;by_cases hjl:j<ts.length
     ·have hji:(j:Int)<(ts.length:Int):=by omega
      obtain⟨g,cap,hv,_⟩:=bY hts (by omega);cases hv;have hta:(ts.map aW)[j]?=some (aW ts[j]):=by rw[jQ,cK hjl];rfl
      have d0:=(hts.cellAt j (by omega)).trans hta;have hau:=Uf _ (List.getElem_mem hjl);have htk:Hid (ts.take (j+1)=ts.take j++ [ts[j]]):=List.take_succ_eq_append_getElem hjl;generalize ts[j]=a at d0 hau htk hta;have hlk:=hmr.look hau;have hap:=bX hts iQ (by decide);have hla:=iQ.lt;have hk1:Hid ((dz none).length+j+1<=maxLen):=by show _<=_;simp[dz];unfold maxLen;omega
      have hk2:Hid (((dz none).length+j+1)* 12<=140737488355328):=by show _<=_;simp[dz];omega
      clear hta;generalize dz none=nV at *;go_wp2_with(at_builtin;refine wpList_append_own_at _ rfl _ _ 79 rfl (w.heap.size+2) 82 i0 (.agg #[.bool false,.int .u32 0,.int .u32 0]) 3 12 Tryz.underlying79 hi hz0 hz1 hz2 rfl (by decide) u8 (nV.length+j) (RC (nV++gL f (ts.take j))) rfl (iQ.alloc _) ⟨wr.heap.size,0,none⟩ 1 1 (RC [(false,a,(f a).getD 0)]) rfl rfl (kY wr false a ((f a).getD 0)) (nK false a ((f a).getD 0)) hk1.out hk2.out ?c4 ?_)
      case c4=>simp;omega
      intro v9 w9 ho9 fO _ _;have aa5:=(hts.alloc (aY false a ((f a).getD 0))).kept fO hap;have NC:=(hmr.kept (ko wr (aY false a ((f a).getD 0)) none) (by simp)).kept fO (λe=>by have:=(hla _ e.symm).1;omega);have nZ:=(hbr.alloc hbr.size (aY false a ((f a).getD 0))).grown fO (by simp;omega) (λk e=>by have:=(hla k e).1;omega);have rC:w.heap.size+2<=w9.heap.size:=by have:=fO.size;simp at this;omega
      clear iQ hts hmr hbr fO hap hlk d0;go_wp2;go_roundw
      case rel=>
       refine⟨j+1,by omega,by go_num,?_,aa5,NC,nZ,rC⟩;rw[htk.out,DN,<-List.append_assoc,lD,<-Nat.add_assoc];exact ho9
      case measure=>simp[intOf];omega
     ·have hjn:j=ts.length:=by omega
      subst hjn;rw[List.take_length]at iQ;clear hts hmr;go_wp2;go_ret;refine⟨_,dz none++gL f ts,rfl,?_,?_,?_,hbr⟩
      ·rw[hf'.out,hc'.out];exact Ut.out
      ·simp[dz,gL];omega
      ·have hol:(dz none++gL f ts).length=(dz none).length+ts.length:=by simp[gL]
       rw[hol];exact ownsRow_base_a iQ (by omega)
   |some t=>
    obtain⟨c0,c1,c2⟩:=hB.cell;rw[Option.getD_some]at c2;go_wp2_with(at_builtin;refine wpList_append_own_at _ rfl _ _ 79 rfl (w.heap.size+2) 82 i0 (.agg #[.bool false,.int .u32 0,.int .u32 0]) 3 12 Tryz.underlying79 hi hz0 hz1 hz2 rfl (by decide) (.slice none 0 0) 0 [] rfl ⟨rfl,.inl ⟨rfl,rfl⟩⟩ ⟨wr.heap.size,0,none⟩ 1 1 (RC [(true,0,t)]) rfl rfl (kY wr true 0 t) (nK true 0 t) (by decide) (by decide) ?c3 ?_)
    case c3=>simp;omega
    intro v8 w8 Gs lG hn8 _;have hm8:=(hm.kept (ko wr (aY true 0 t) none) (by simp)).kept lG (by simp[Value.ownBlock]);have su:Below w.heap.size w w8:=(hb.alloc hb.size _).grown lG (by simp;omega) (λk e=>by simp[Value.ownBlock]at e);clear hm hb lG hn8 c0 c1 c2 hkf afn;have adw:w8.ownsRow (w.heap.size+2) 82 3 v8 (dz (some t)).length (RC (dz (some t))):=Gs;clear Gs;have hm:=hm8;have hb:=su;clear hm8 su;have ae1:=hb.size;have afN:=hm.lt;have Fs:Below w8.heap.size w8 (w8.alloc (.cells #[.map (some (w.heap.size+1))] 115)):=bC;have hseq:=hm.zS (w8.alloc (.cells #[.map (some (w.heap.size+1))] 115)) w8.heap.size (by simp) (by simp) Fs;have hso:=tY 141 #[.pointer (some ⟨w8.heap.size,0,none⟩)] (enters_of Tryz.func141 (by kernel_rfl) rfl) _ sz (by omega) _ hseq;have HSO:=(show Hid _ from hso);clear hso hseq;go_wp2_with fail;refine(IE _ _).mono ?_;rintro e w9 ⟨rfl,rfl⟩;go_wp2_with fail;refine aT HSO.out ?_;rintro e W2 ⟨v,ts,ss,rfl,hS,hperm,hle,hlen,hrow,hb2⟩;have NC:=hm.kept ⟨Fs.os,Fs.tape,Fs.output,Fs.size,λk hk _=>Fs.block k hk⟩ (row:=none) (by simp);have hm2:=NC.kept (below_grown hb2 none) (by simp);have hbb:=(hb.trans (Fs.mono hb.size)).trans (hb2.mono (by simp;omega));have ho2:=(aL adw Fs);have ho3:=aL ho2 hb2;have hlts:ts.Pairwise (·<·):=by
     have hnd:ts.Nodup:=hperm.nodup_iff.2 hS.1;rw[List.pairwise_iff_getElem]at hle ⊢;intro i j hi hj hij;have h1:=hle i j hi hj hij;have h2:=List.pairwise_iff_getElem.1 hnd i j hi hj hij;omega
    have hmem:∀a,a∈ts ↔ (f a).isSome=true:=λa=>by
     rw[hperm.mem_iff,hS.2 a];constructor
     ·exact λh=>h.2
     ·intro h;obtain⟨y,hy⟩:=Option.isSome_iff_exists.1 h;exact⟨(hmb a y hy).1,h⟩
    have hcmp:iR f (some t) (dz (some t)++gL f ts):=⟨ts,hlts,hmem,rfl⟩;have Uf:∀a∈ts,a_ a:=λa ha=>((hS.2 a).1 (hperm.mem_iff.1 ha)).1;obtain⟨sI,c2',rfl,_⟩:=ay hrow;have Ut:=(show Hid _ from hcmp);clear HSO hm NC ho2 hb hb2 Fs hS hperm hle hlts hmem hcmp adw;go_wp2_with fail;go_loopw [8,47] (λv i wr2=>∃j:Nat,j<=ts.length∧i=.int .i64 j∧wr2.ownsRow (w.heap.size+2) 82 3 v ((dz (some t)).length+j) (RC (dz (some t)++gL f (ts.take j)))∧wr2.ownsRow (w8.heap.size+1) 34 1 (.slice sI ts.length c2') ts.length (ts.map aW)∧MapU wr2 (w.heap.size+1) f sz∧Below w.heap.size w wr2∧w.heap.size+2<=wr2.heap.size) (λ_ i _=>ts.length - (intOf i).toNat)
    case atStart=>
     refine⟨0,b_ _,rfl,?_,by simpa using hrow,hm2,hbb,?_⟩
     ·simpa[gL]using ho3
     ·have:=hm2.lt;omega
    case round=>
     obtain⟨j,hj,rfl,iQ,hts,hmr,hbr,hsr⟩:=hrel;clear ho3 hrow hm2 hbb;by_cases hjl:j<ts.length
     ·have hji:(j:Int)<(ts.length:Int):=by omega
      obtain⟨g,cap,hv,_⟩:=bY hts (by omega);cases hv;have hta:(ts.map aW)[j]?=some (aW ts[j]):=by rw[jQ,cK hjl];rfl
      have d0:=(hts.cellAt j (by omega)).trans hta;have hau:=Uf _ (List.getElem_mem hjl);have htk:Hid (ts.take (j+1)=ts.take j++ [ts[j]]):=List.take_succ_eq_append_getElem hjl;generalize ts[j]=a at d0 hau htk hta;have hlk:=hmr.look hau;have hap:=bX hts iQ (by decide);have hla:=iQ.lt;have hk1:Hid ((dz (some t)).length+j+1<=maxLen):=by show _<=_;simp[dz];unfold maxLen;omega
      have hk2:Hid (((dz (some t)).length+j+1)* 12<=140737488355328):=by show _<=_;simp[dz];omega
      clear hta;generalize dz (some t)=nV at *;go_wp2_with(at_builtin;refine wpList_append_own_at _ rfl _ _ 79 rfl (w.heap.size+2) 82 i0 (.agg #[.bool false,.int .u32 0,.int .u32 0]) 3 12 Tryz.underlying79 hi hz0 hz1 hz2 rfl (by decide) u8 (nV.length+j) (RC (nV++gL f (ts.take j))) rfl (iQ.alloc _) ⟨wr.heap.size,0,none⟩ 1 1 (RC [(false,a,(f a).getD 0)]) rfl rfl (kY wr false a ((f a).getD 0)) (nK false a ((f a).getD 0)) hk1.out hk2.out ?c4 ?_)
      case c4=>simp;omega
      intro v9 w9 ho9 fO _ _;have aa5:=(hts.alloc (aY false a ((f a).getD 0))).kept fO hap;have NC:=(hmr.kept (ko wr (aY false a ((f a).getD 0)) none) (by simp)).kept fO (λe=>by have:=(hla _ e.symm).1;omega);have nZ:=(hbr.alloc hbr.size (aY false a ((f a).getD 0))).grown fO (by simp;omega) (λk e=>by have:=(hla k e).1;omega);have rC:w.heap.size+2<=w9.heap.size:=by have:=fO.size;simp at this;omega
      clear iQ hts hmr hbr fO hap hlk d0;go_wp2;go_roundw
      case rel=>
       refine⟨j+1,by omega,by go_num,?_,aa5,NC,nZ,rC⟩;rw[htk.out,DN,<-List.append_assoc,lD,<-Nat.add_assoc];exact ho9
      case measure=>simp[intOf];omega
     ·have hjn:j=ts.length:=by omega
      subst hjn;rw[List.take_length]at iQ;clear hts hmr;go_wp2;go_ret;refine⟨_,dz (some t)++gL f ts,rfl,?_,?_,?_,hbr⟩
      ·rw[hf'.out,hc'.out];exact Ut.out
      ·simp[dz,gL];omega
      ·have hol:(dz (some t)++gL f ts).length=(dz (some t)).length+ts.length:=by simp[gL]
       rw[hol];exact ownsRow_base_a iQ (by omega)
variable{f:Int->Option Nat}{L:List (Rt×Value)}{A:List Rt}{M T:Nat}{W w:World}
theorem OU(M:Nat)(w:World):
  Calls Tryz.prog 134 #[.map (some M)] w λe w'=>e=.returned (.func (.func 170) #[] #[.pointer (some ⟨w.heap.size,0,none⟩)])∧w'=w.alloc (.cells #[.map (some M)] 156):=by
 go_enter Tryz.func134,Tryz.ntmps134;go_wp2;go_ret;exact⟨rfl,rfl⟩
theorem fI.zS{s:Nat}(h:fI W M f s)(w:World)(Bm:Nat)(hBm:Bm<w.heap.size)(hm:w.cell? ⟨Bm,0,none⟩=some (.map (some M)))(hW:Below W.heap.size W w):
  SeqGives Fence.wide 1 Tryz.prog 170 #[.pointer (some ⟨Bm,0,none⟩)] aW (λss=>ss.Nodup∧∀x,x∈ss ↔ (a_ x∧(f x).isSome=true)) s w:=by
 have hl:=h.lt;obtain⟨D,h1,h2,h3⟩:=h;have h1':w.ownsMap Tryz.prog 34 EI M s D:=by
  obtain⟨es,clock,hb,Ft,hs,hD⟩:=h1;exact⟨es,clock,(hW.block M hl).trans hb,Ft,hs,hD⟩
 have hg:=G8 Fence.wide 1 trivial rfl (aA _) Bm M s D w hBm hm h1';rw[h2]at hg;intro l J W' hW' hJ hY h0;refine(hg l J W' hW' hJ hY h0).mono ?_;rintro e W2 ⟨hv,ss,hk,hj⟩;refine⟨hv,ss,⟨hk.1,λx=> ?_⟩,hj⟩;constructor
 ·intro hx;have hw:=bounds_u32 (hk.2.1 x hx);have hU:a_ x:=⟨hw.1,by have:=hw.2;omega⟩;exact⟨hU,by rw[<-(h3 x hU).1];exact(hk.2.2 x).1 hx⟩
 ·rintro⟨hU,hs⟩;exact(hk.2.2 x).2 (by rw[(h3 x hU).1];exact hs)
theorem Ef{me:Int}{g:Int->Value}(h:MT me T M f g A w):
  Calls Tryz.prog 95 #[.pointer (some ⟨T,0,none⟩)] w λe w'=>∃v,e=.returned v∧w'.ownsRow w.heap.size 34 1 v A.length ((A.map (·.dest)).map aW)∧Below w.heap.size w w':=by
 obtain⟨c0,c1⟩:=h.blk.cell;have nZ:Below w.heap.size w (w.alloc (.cells #[.map (some M)] 156)):=bC;have hseq:=h.map.zS (w.alloc (.cells #[.map (some M)] 156)) w.heap.size (by simp) (by simp) nZ;have hso:=tY 170 #[.pointer (some ⟨w.heap.size,0,none⟩)] (enters_of Tryz.func170 (by kernel_rfl) rfl) _ A.length (by have:=h.len;omega) _ hseq;have HSO:=(show Hid _ from hso);clear hso hseq;go_enter Tryz.func95,Tryz.ntmps95;go_wp2_with fail;refine(OU _ _).mono ?_;rintro e w9 ⟨rfl,rfl⟩;go_wp2_with fail;refine aT HSO.out ?_;rintro e W2 ⟨v,ts,ss,rfl,hS,hperm,hle,hlen,hrow,hb2⟩;have hlts:ts.Pairwise (·<·):=by
  have hnd:ts.Nodup:=hperm.nodup_iff.2 hS.1;rw[List.pairwise_iff_getElem]at hle ⊢;intro i j hi hj hij;have h1:=hle i j hi hj hij;have h2:=List.pairwise_iff_getElem.1 hnd i j hi hj hij;omega
 have hts:ts=A.map (·.dest):=by
  refine DW hlts (by rw[List.pairwise_map];exact h.zh) λa=> ?_;rw[hperm.mem_iff,hS.2 a,dh];constructor
  ·rintro⟨hU,hs⟩;obtain⟨B,hB⟩:=Option.isSome_iff_exists.1 hs;obtain⟨x,hx,hxd⟩:=h.dom a B hU hB;exact⟨x,hx,hxd⟩
  ·rintro⟨x,hx,rfl⟩;obtain⟨B,hB,_⟩:=h.ln x hx;exact⟨(h.ok x hx).dest,by rw[hB];rfl⟩
 subst hts;have hbb:=nZ.trans (hb2.mono (by simp));rw[iK]at hrow;have hrow':=ownsRow_base_a (base':=w.heap.size) hrow (by simp);clear HSO hS hperm hle hlen hrow hlts nZ hb2;go_wp2;go_ret;exact⟨v,rfl,hrow',hbb⟩
def rtC(p:Rt×Value):List Value:=[.int .u32 p.1.dest,.int .u32 p.1.seq,.int .i64 p.1.hops,.int .u32 p.1.next,.bool p.1.valid,.int .u64 p.1.exp,p.2]
def Rk(L:List (Rt×Value)):List Value:=L.flatMap rtC
theorem LJ(a b:List (Rt×Value)):Rk (a++b)=Rk a++Rk b:=by simp[Rk]
theorem acp{k:Nat}{p:Rt×Value}(h:L[k]?=some p){i:Nat}(hi:i<7):(Rk L)[k * 7+i]?=(rtC p)[i]?:=
 jk rtC 7 (by decide) (λ_=>rfl) L k i hi h
theorem X7:(Tryz.prog.info? 38).map (λi=>(i.zero,i.size,i.bytes))=some (some (.agg #[.int .u32 0,.int .u32 0,.int .i64 0,.int .u32 0,.bool false,.int .u64 0,.slice none 0 0]),7,56):=by kernel_rfl
theorem aaJ(x:Rt)(a:Option Addr)(n c:Nat):∀u∈Rk [(x,.slice a n c)],u.oneCell'=true:=by
 intro u hu;simp only[Rk,rtC,List.flatMap_cons,List.flatMap_nil,gT,eF,List.not_mem_nil,or_false]at hu;rcases hu with rfl|rfl|rfl|rfl|rfl|rfl|rfl<;>rfl
theorem U7(W:World)(x:Rt)(v:Value):∀(j:Nat) (u:Value),(Rk [(x,v)])[j]?=some u->(W.alloc (bZ x v)).cell? ((⟨W.heap.size,0,none⟩:Addr).add j)=some u:=by
 intro j u hj;obtain⟨q0,q1,q2,q3,q4,q5,q6⟩:=(eB.new x v W).cell;rw[Addr.add_lit,Nat.zero_add];simp only[Rk,rtC,List.flatMap_cons,List.flatMap_nil,gT]at hj
 match j,hj with
 |0,hj=>exact q0.trans hj
 |1,hj=>exact q1.trans hj
 |2,hj=>exact q2.trans hj
 |3,hj=>exact q3.trans hj
 |4,hj=>exact q4.trans hj
 |5,hj=>exact q5.trans hj
 |6,hj=>exact q6.trans hj
 |j+7,hj=>simp at hj
structure J5(base:Nat)(v:Value)(L:List (Rt×Value))(W:World):Prop where
 row:W.ownsRow base 38 7 v L.length (Rk L)
 bN:∀p∈L,W.ownsRow base 34 1 p.2 p.1.bN.length (p.1.bN.map aW)
theorem J5.later{base:Nat}{v:Value}{W':World}(h:J5 base v L W)(hb:Below W.heap.size W W'):J5 base v L W':=
 ⟨aL h.row hb,λp hp=>aL (h.bN p hp) hb⟩
theorem VN{me:Int}{g:Int->Value}(h:MT me T M f g A w):
  Calls Tryz.prog 60 #[.pointer (some ⟨T,0,none⟩)] w λe w'=>∃v L,e=.returned v∧L.map (·.1)=A∧J5 w.heap.size v L w'∧Below w.heap.size w w':=by
 obtain⟨i0,hi,hz0,hz1,hz2⟩:=info_parts X7;have hlen:=h.len;have HD:=(show Hid _ from Ef h);go_enter Tryz.func60,Tryz.ntmps60;go_wp2_with fail;refine aT HD.out ?_;rintro e w1 ⟨dv,rfl,hdr,hb1⟩;clear HD;obtain⟨ad,cd,rfl,_⟩:=ay hdr;go_wp2_with fail;go_loopw [3,9] (λlv i wr=>∃(k:Nat) (L:List (Rt×Value)),k<=A.length∧i=.int .i64 k∧L.map (·.1)=A.take k∧J5 w.heap.size lv L wr∧wr.ownsRow w.heap.size 34 1 (.slice ad A.length cd) A.length ((A.map (·.dest)).map aW)∧Below w.heap.size w wr) (λ_ i _=>A.length - (intOf i).toNat)
 case atStart=>exact⟨0,[],b_ _,rfl,rfl,⟨⟨rfl,.inl ⟨rfl,rfl⟩⟩,λp hp=>by simp at hp⟩,hdr,hb1⟩
 case round=>
  clear hdr hb1;obtain⟨k,L,hk,rfl,hL,hls,hdr,hb⟩:=hrel;have Yv:L.length=k:=by
   have:=congrArg List.length hL;simp at this;omega
  by_cases hlt:k<A.length
  ·have hki:(k:Int)<(A.length:Int):=by omega
   obtain⟨x,hx⟩:∃x,A[k]?=some x:=⟨_,cK hlt⟩;have KR:=gH hx;obtain⟨gd,af6,hv,_⟩:=bY hdr (by omega);cases hv;have d0:=(hdr.cellAt k (by omega)).trans (by rw[jQ,jQ,hx];rfl:((A.map (·.dest)).map aW)[k]?=some (aW x.dest));have hM:=h.later hb;obtain⟨B,hB,hLn⟩:=hM.ln x KR;have hR:=hM.row x KR;have hok:=h.ok x KR;have hlk:=hM.map.look hok.dest;rw[hB]at hlk;simp only[gG]at hlk;obtain⟨t0,t1⟩:=hM.blk.cell;have hx':=(show Hid _ from hx);have hL':=(show Hid _ from hL);clear hM hx hL;go_wp2_with fail;refine(yQ B x (g x.dest) hok.Vf _ hLn hR).mono ?_;rintro e w2 ⟨v',rfl,ho2,hb2⟩;obtain⟨sI,c2',rfl,_⟩:=ay ho2;have Bo:=hls.later hb2;have FC:=aL hdr hb2;have hbb:=hb.trans (hb2.mono hb.size);have adx:=ownsRow_base_a ho2 hb.size;clear hls hdr hb2 ho2 hLn hR hlk t0 t1 d0;have hla:=Bo.row.lt;have hap:∀p∈L++ [(x,Value.slice sI x.bN.length c2')],w2.ownsRow w.heap.size 34 1 p.2 p.1.bN.length (p.1.bN.map aW):=by
    intro p hp;rcases dG.1 hp with hp|hp
    ·exact Bo.bN p hp
    ·rw[dO]at hp;subst hp;exact adx
   have hk1:Hid (L.length+1<=maxLen):=by show _<=_;unfold maxLen;omega
   have hk2:Hid ((L.length+1)* 56<=140737488355328):=by show _<=_;omega
   have hr0:=Bo.row;go_wp2_with(at_builtin;refine wpList_append_own_at _ rfl _ _ 31 rfl w.heap.size 38 i0 (.agg #[.int .u32 0,.int .u32 0,.int .i64 0,.int .u32 0,.bool false,.int .u64 0,.slice none 0 0]) 7 56 Tryz.underlying31 hi hz0 hz1 hz2 rfl (by decide) u3 L.length (Rk L) rfl (hr0.alloc _) ⟨w2.heap.size,0,none⟩ 1 1 (Rk [(x,.slice sI x.bN.length c2')]) rfl rfl (U7 w2 x (.slice sI x.bN.length c2')) (aaJ x sI x.bN.length c2') hk1.out hk2.out ?c3 ?_)
   case c3=>have:=hbb.size;simp;omega
   intro v3 w3 ho3 hg3 _ _;have hb3:Below w2.heap.size w2 (w2.alloc (bZ x (.slice sI x.bN.length c2'))):=bC;have afh:J5 w.heap.size v3 (L++ [(x,.slice sI x.bN.length c2')]) w3:=by
    refine⟨by rw[dx,LJ,Yv];exact ho3,λp hp=> ?_⟩;have h1:=aL (hap p hp) hb3;exact h1.kept hg3 (bX h1 (hr0.alloc _) (by decide))
   have aby:=(aL FC hb3).kept hg3 (bX (aL FC hb3) (hr0.alloc _) (by decide));have hb4:=(hbb.trans (hb3.mono hbb.size)).grown hg3 (by have:=hbb.size;simp;omega) (λk e=>(hla k e).1);clear Bo FC hbb hap adx ho3 hg3 hb3 hr0 hla;go_wp2;go_roundw
   case rel=>
    refine⟨k+1,L++ [(x,.slice sI x.bN.length c2')],by omega,by go_num,?_,afh,aby,hb4⟩;rw[List.map_append,hL'.out,List.take_add_one,hx'.out];rfl
   case measure=>simp[intOf];omega
  ·have hkn:A.length<=k:=by omega
   rw[jE hkn]at hL;clear hdr hkn;go_wp2;go_ret;exact⟨_,L,rfl,hL,hls,hb⟩
end Go.Proofs.YtakaadcpaeiccabGreat
