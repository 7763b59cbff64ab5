import Derived.Test.YtakaadcpaeiccabGreatV04
import Derived.Shelf.Spec.SlicesInsert
import Derived.Lib.AppendZerosOnto
import Derived.Laws.NewBlocks
import Derived.Sort.WalkA
import Derived.Sort.AssemblyPlain
import Derived.Laws.OwnMore
import Derived.BigGuard
import Derived.BigCall
import Derived.Deep.Cut
set_option maxHeartbeats 4000000
set_option maxRecDepth 100000
namespace Go.Proofs.YtakaadcpaeiccabGreat
open Go.RowKit Go.Maps
variable{W:World}
theorem K_{base:Nat}{v:Value}{n:Nat}{cs:List Int}(h:W.ownsRow base 34 1 v n (cs.map aX)):Src Tryz.prog 1 36 v n (cs.map aX) W:=by
 obtain⟨ao,c,rfl,hH⟩:=ax h;exact hH.src Tryz.underlying36 c h.1 (by decide) (λu hu=>by
  obtain⟨y,_,rfl⟩:=dW.1 hu;rfl)
theorem PY(v:Value)(n:Nat)(cs:List Int)(hn:n<=1000000)(w:World)(h:w.ownsRow 0 34 1 v n (cs.map aX)):
  Calls Tryz.prog 135 #[v] w λe w'=>∃v',e=.returned v'∧w'.ownsRow w.heap.size 34 1 v' n (cs.map aX)∧Below w.heap.size w w':=by
 obtain⟨i0,hi,hz0,hz1,hz2⟩:=info_parts qQ;have hsrc:=K_ h;have hbe:Below w.heap.size w (w.alloc (.cells #[] 34)):=bC;have hoe:(w.alloc (.cells #[] 34)).ownsRow w.heap.size 34 1 (.slice (some ⟨w.heap.size,0,none⟩) 0 0) 0 []:=
  ⟨rfl,.inr ⟨w.heap.size,0,_,rfl,aB _,bV w _,aB _,by decide,rfl,rfl⟩⟩
 have hne:w.heap.size<=(w.alloc (.cells #[] 34)).heap.size:=by simp
 have hsrc':Src Tryz.prog 1 36 v n (cs.map aX) (w.alloc (.cells #[] 34)):=K_ (aN h hbe);rcases h.2 with⟨rfl,rfl⟩|⟨g,cap,cur,rfl,rest⟩
 ·have hq:=λW=>Lib.run_eql_slice_nil (P:=Tryz.prog) W 36 34 none 0 0 0 0 Tryz.underlying36;simp only[Option.isNone_none]at hq;have hcs:cs.map aX=[]:=nU h.1;clear hsrc hbe hoe hne hsrc';go_enter Tryz.func135,Tryz.ntmps135;go_wp2;go_ret;exact⟨_,rfl,⟨h.1,.inl ⟨rfl,rfl⟩⟩,aV _ _⟩
 ·have hq:=λW=>Lib.run_eql_slice_nil (P:=Tryz.prog) W 36 34 (some ⟨g,0,none⟩) n cap 0 0 Tryz.underlying36;simp only[Option.isNone_some]at hq;clear rest hsrc;go_enter Tryz.func135,Tryz.ntmps135;go_wp2_with(at_builtin;refine iN _ rfl _ _ 36 36 rfl w.heap.size 34 i0 (.int .u32 0) 1 4 Tryz.underlying36 hi hz0 hz1 hz2 rfl (.slice (some ⟨w.heap.size,0,none⟩) 0 0) 0 [] rfl hoe (by simp) (.slice (some ⟨g,0,none⟩) n cap) n (cs.map aX) rfl hsrc' ?c1 ?c2 hne ?_)
  case c1=>unfold maxLen;omega
  case c2=>omega
  intro v7 W7 ig gQ _;have Mw:=hbe.grown gQ hne (λk hk=>(hoe.lt k hk).1);clear hq hsrc' hbe hoe hne gQ;go_wp2;go_ret;exact⟨v7,rfl,by simpa using ig,Mw⟩
@[reducible] def tK(W : World)(B : Nat)(x : Rt)(v : Value): World := ((((((W.setCell ⟨B, 0, none⟩ (.int .u32 x.dest)).setCell ⟨B, 1, none⟩ (.int .u32 x.seq)).setCell ⟨B, 2, none⟩ (.int .i64 x.hops)).setCell ⟨B, 3, none⟩ (.int .u32 x.next)).setCell ⟨B, 4, none⟩ (.bool x.valid)).setCell ⟨B, 5, none⟩ (.int .u64 x.exp)).setCell ⟨B, 6, none⟩ v
theorem eD.store{B:Nat}{y:Rt}{u:Value}(h:eD B y u W)(x:Rt)(v:Value):eD B x v (tK W B x v):=by
 unfold eD at h ⊢;simp[World.setCell,d_,h]
theorem mg(W:World)(B:Nat)(x:Rt)(v:Value):W.grownBy (tK W B x v) (some B):=
 ah (ah (ah (ah (ah (ah (ah (aC _ _) 0 _) 1 _) 2 _) 3 _) 4 _) 5 _) 6 _
theorem J4(B:Nat)(x:Rt)(ao:Option Addr)(c:Nat)(hn:x.bL.length<=4)(w:World)(h:eD B x (.slice ao x.bL.length c) w)(hr:w.ownsRow 0 34 1 (.slice ao x.bL.length c) x.bL.length (x.bL.map aX)):
  Calls Tryz.prog 96 #[.pointer (some ⟨B,0,none⟩)] w λe w'=>∃v',e=.returned (Ja x v')∧w'.ownsRow w.heap.size 34 1 v' x.bL.length (x.bL.map aX)∧Below w.heap.size w w':=by
 obtain⟨c0,c1,c2,c3,c4,c5,c6⟩:=(h.later ((aV _ w).alloc (aB _) (cK ⟨0,0,0,0,false,0,[]⟩ (.slice none 0 0)))).cell;obtain⟨e0,e1,e2,e3,e4,e5,e6⟩:=(h.later (((aV _ w).alloc (aB _) (cK ⟨0,0,0,0,false,0,[]⟩ (.slice none 0 0))).alloc (by simp) (cK x (.slice ao x.bL.length c)))).cell;have hb1:Below w.heap.size w ((w.alloc (cK ⟨0,0,0,0,false,0,[]⟩ (.slice none 0 0))).alloc (cK x (.slice ao x.bL.length c))):=(bC).alloc (by simp) _;have hZ:=(eD.new ⟨0,0,0,0,false,0,[]⟩ (.slice none 0 0) w).later ((aV _ _).alloc (aB _) (cK x (.slice ao x.bL.length c)));have hN:=eD.new x (.slice ao x.bL.length c) (w.alloc (cK ⟨0,0,0,0,false,0,[]⟩ (.slice none 0 0)));rw[World.size_alloc]at hN;have hr1:=aN hr hb1;have hs2:w.heap.size+2<=((w.alloc (cK ⟨0,0,0,0,false,0,[]⟩ (.slice none 0 0))).alloc (cK x (.slice ao x.bL.length c))).heap.size:=by simp
 dsimp only[cK]at hb1 hZ hN hr1 hs2 c0 c1 c2 c3 c4 c5 c6 e0 e1 e2 e3 e4 e5 e6;go_enter Tryz.func96,Tryz.ntmps96;go_wp2_with fail;clear c0 c1 c2 c3 c4 c5 c6 e0 e1 e2 e3 e4 e5 e6;generalize World.alloc _ _=W1 at hb1 hZ hN hr1 hs2 ⊢;refine(PY (.slice ao x.bL.length c) x.bL.length x.bL (by omega) _ hr1).mono ?_;rintro e W2 ⟨v',rfl,ho2,hb2⟩;obtain⟨rF,c2',rfl,_⟩:=ax ho2;have hZ2:=hZ.later hb2;have FN:=hN.later hb2;have hbb:=hb1.trans (hb2.mono hb1.size);have hsz:=hb1.size;have f6:=FN.free 6;have hzf:=hZ2.free;obtain⟨n0,n1,n2,n3,n4,n5,n6⟩:=FN.cell;obtain⟨z0,z1,z2,z3,z4,z5,z6⟩:=hZ2.cell;have Az:=FN.Zp (.slice rF x.bL.length c2') x.bL;have hg3:W2.grownBy (W2.setCell ⟨w.heap.size+1,6,none⟩ (.slice rF x.bL.length c2')) (some (w.heap.size+1)):=ah (aC _ _) 6 _;have hZ3:=hZ2.block (hg3.block w.heap.size (by have:=FN.lt;omega) (by simp));have hF:=hZ3.store x (.slice rF x.bL.length c2');have hg4:=mg (W2.setCell ⟨w.heap.size+1,6,none⟩ (.slice rF x.bL.length c2')) w.heap.size x (.slice rF x.bL.length c2');have hlt:=ho2.lt;have ho3:=ho2.kept hg3 (.inr (λe=>by have:=(hlt _ e).1;omega));have Dc:=ho3.kept hg4 (.inr (λe=>by have:=(hlt _ e).1;omega));have hG:Below w.heap.size w (tK (W2.setCell ⟨w.heap.size+1,6,none⟩ (.slice rF x.bL.length c2')) w.heap.size x (.slice rF x.bL.length c2')):=(hbb.grown hg3 hbb.size (λk e=>by cases e;omega)).grown hg4 (dN hbb.size hg3.size) (λk e=>by cases e;exact aB _);clear hZ hN hr1 hb2 hb1 Az hg3 hZ3 hg4 ho3 hlt;go_wp2;dsimp only[tK]at hF hG Dc;generalize World.setCell _ _ _=W8 at hF hG Dc ⊢;obtain⟨q0,q1,q2,q3,q4,q5,q6⟩:=hF.cell;exact bodyPost_ret (v:=Ja x (.slice rF x.bL.length c2')) (by simp[results,Tryz.results96,go_sem,q0,q1,q2,q3,q4,q5,q6]) rfl ⟨_,rfl,ownsRow_base_a Dc (by omega),hG⟩
theorem yj(B:Nat)(x:Rt)(v:Value)(hn:x.bL.length<=4)(w:World)(h:eD B x v w)(hr:w.ownsRow 0 34 1 v x.bL.length (x.bL.map aX)):
  Calls Tryz.prog 96 #[.pointer (some ⟨B,0,none⟩)] w λe w'=>∃v',e=.returned (Ja x v')∧w'.ownsRow w.heap.size 34 1 v' x.bL.length (x.bL.map aX)∧Below w.heap.size w w':=by
 obtain⟨ao,c,rfl,_⟩:=ax hr;exact J4 B x ao c hn w h hr
theorem EZ(B:Nat)(x:Rt)(v:Value)(s:Int)(w:World)(h:eD B x v w):
  Calls Tryz.prog 113 #[.pointer (some ⟨B,0,none⟩),.int .u32 s] w λe w'=>e=.returned (.tuple #[])∧eD B (vS x s) (.slice none 0 0) w'∧w.grownBy w' (some B):=by
 obtain⟨c0,c1,c2,c3,c4,c5,c6⟩:=h.cell;have hf:=h.free;have h1:Hid (∀y:Int,y=max (gr x.seq) s->eD B (vS x s) (.slice none 0 0) ((((w.setCell ⟨B,1,none⟩ (.int .u32 y)).setCell ⟨B,4,none⟩ (.bool false)).setCell ⟨B,5,none⟩ (.int .u64 0)).setCell ⟨B,6,none⟩ (.slice none 0 0))):=by
  rintro y rfl;exact(((h.set1 (max (gr x.seq) s)).adx false).NC 0).Zp (.slice none 0 0) []
 have hg:∀u,w.grownBy ((((w.setCell ⟨B,1,none⟩ u).setCell ⟨B,4,none⟩ (.bool false)).setCell ⟨B,5,none⟩ (.int .u64 0)).setCell ⟨B,6,none⟩ (.slice none 0 0)) (some B):=
  λu=>ah (ah (ah (ah (aC _ _) 1 _) 4 _) 5 _) 6 _
 go_enter Tryz.func113,Tryz.ntmps113;go_wp2_with fail;refine(oK _ _).mono ?_;rintro e w1 ⟨rfl,rfl⟩;go_wp2;all_goals
  go_returns;exact⟨rfl,h1.out _ (by omega),hg _⟩
variable{f:Int->Option Nat}{A:List Rt}{cs:List Value}{M T e n:Nat}{S':Nat->Prop}{v:Value}{W W' a b:World}
structure Fx(S:Nat->Prop)(w w':World):Prop where
 os:w'.os=w.os
 tape:w'.tape=w.tape
 output:w'.output=w.output
 size:w.heap.size<=w'.heap.size
 block:∀k,k<w.heap.size->¬S k->w'.heap[k]?=w.heap[k]?
theorem Fx.refl(S:Nat->Prop)(w:World):Fx S w w:=⟨rfl,rfl,rfl,aB _,λ_ _ _=>rfl⟩
theorem Fx.trans{S:Nat->Prop}{c:World}(h:Fx S a b)(k:Fx S' b c)(hs:∀i,i<a.heap.size->S' i->S i):Fx S a c:=
 ⟨k.os.trans h.os,k.tape.trans h.tape,k.output.trans h.output,dN h.size k.size,λi hi hn=>(k.block i (fZ hi h.size) (λe=>hn (hs i hi e))).trans (h.block i hi hn)⟩
theorem Fx.mono{S:Nat->Prop}(h:Fx S a b)(hs:∀i,S i->S' i):Fx S' a b:=
 ⟨h.os,h.tape,h.output,h.size,λi hi hn=>h.block i hi (λe=>hn (hs i e))⟩
theorem Fx.below{S:Nat->Prop}(h:Below a.heap.size a b):Fx S a b:=⟨h.os,h.tape,h.output,h.size,λk hk _=>h.block k hk⟩
theorem Fx.grown{S:Nat->Prop}{r:Option Nat}(h:a.grownBy b r)(hr:∀k,r=some k->S k):Fx S a b:=
 ⟨h.os,h.tape,h.output,h.size,λk hk hn=>h.block k hk (λe=>hn (hr k e.symm))⟩
theorem Fx.toBelow{S:Nat->Prop}(h:Fx S a b)(hn:n<=a.heap.size)(hs:∀k,k<n->¬S k):Below n a b:=
 ⟨h.os,h.tape,h.output,h.size,λk hk=>h.block k (fZ hk hn) (hs k hk)⟩
theorem bQ{base size:Nat}(h:W.ownsRow base e size v n cs)(he:∀k,v.ownBlock=some k->W'.heap[k]?=W.heap[k]?):W'.ownsRow base e size v n cs:=by
 refine⟨h.1,?_⟩;rcases h.2 with hn|⟨g,cap,cur,rfl,h1,h2,h3⟩
 ·exact .inl hn
 ·exact .inr ⟨g,cap,cur,rfl,h1,(he g rfl).trans h2,h3⟩
def mZ(T M:Nat)(f:Int->Option Nat)(g:Int->Value)(A:List Rt)(k:Nat):Prop:=
 k=T∨k=M∨∃x∈A,f x.dest=some k∨(g x.dest).ownBlock=some k
structure MT(me:Int)(T M:Nat)(f:Int->Option Nat)(g:Int->Value)(A:List Rt)(W:World):Prop where
 blk:FP T me M W
 map:fG W M f A.length
 yE:Asc A
 ok:∀x∈A,x.Ok
 dom:∀d B,a_ d->f d=some B->∃x∈A,x.dest=d
 ln:∀x∈A,∃B,f x.dest=some B∧eD B x (g x.dest) W
 row:∀x∈A,W.ownsRow 0 34 1 (g x.dest) x.bL.length (x.bL.map aX)
 apart:∀x∈A,∀y∈A,x.dest≠y.dest->(g x.dest).ownBlock=none∨(g x.dest).ownBlock≠(g y.dest).ownBlock
 len:A.length<=8
theorem MT.kept{me:Int}{g:Int->Value}(h:MT me T M f g A W)(he:∀k,mZ T M f g A k->W'.heap[k]?=W.heap[k]?):MT me T M f g A W':=by
 refine⟨h.blk.block (he T (.inl rfl)),h.map.block (he M (.inr (.inl rfl))),h.yE,h.ok,h.dom,λx hx=> ?_,λx hx=> ?_,h.apart,h.len⟩
 ·obtain⟨B,h1,h2⟩:=h.ln x hx;exact⟨B,h1,h2.block (he B (.inr (.inr ⟨x,hx,.inl h1⟩)))⟩
 ·exact bQ (h.row x hx) λk hk=>he k (.inr (.inr ⟨x,hx,.inr hk⟩))
theorem MT.lt{me:Int}{g:Int->Value}(h:MT me T M f g A W){k:Nat}(hk:mZ T M f g A k):k<W.heap.size:=by
 rcases hk with rfl|rfl|⟨x,hx,hk|hk⟩
 ·exact h.blk.lt
 ·exact h.map.lt
 ·obtain⟨B,h1,h2⟩:=h.ln x hx;rw[h1]at hk;cases hk;exact h2.lt
 ·exact((h.row x hx).lt k hk).2
theorem MT.off{me:Int}{g:Int->Value}(h:MT me T M f g A W){d:Int}(hd:a_ d)(hl:aK A d=none):f d=none:=by
 cases e:f d with
 |none=>rfl
 |some B=>
  obtain⟨x,hx,hxd⟩:=h.dom d B hd e;exact absurd hxd (j4.1 hl x hx)
theorem MT.line{me:Int}{g:Int->Value}(h:MT me T M f g A W){d:Int}{x:Rt}(hl:aK A d=some x):
  x∈A∧x.dest=d∧∃B,f d=some B∧eD B x (g d) W∧W.ownsRow 0 34 1 (g d) x.bL.length (x.bL.map aX):=by
 obtain⟨hx,rfl⟩:=dA hl;obtain⟨B,h1,h2⟩:=h.ln x hx;exact⟨hx,rfl,B,h1,h2,h.row x hx⟩
theorem MT.inj{me:Int}{g:Int->Value}(h:MT me T M f g A W){x y:Rt}(hx:x∈A)(hy:y∈A){B:Nat}(h1:f x.dest=some B)(h2:f y.dest=some B):x.dest=y.dest:=by
 obtain⟨B1,p1,q1⟩:=h.ln x hx;obtain⟨B2,p2,q2⟩:=h.ln y hy;rw[h1]at p1;rw[h2]at p2;cases p1;cases p2;unfold eD at q1 q2;rw[q1]at q2;injection q2 with q2;injection q2 with q2;have:=congrArg (λa=>a[0]?) q2;simpa using this
theorem aL{base size:Nat}(h:W.ownsRow base e size v n cs){B:Nat}{o:Obj}(hB:W.heap[B]?=some o)(ho:∀c,o≠ .cells c e (0,0)):v.ownBlock≠some B:=by
 rcases ownsRow_ne_a h hB ho with e|e
 ·rw[e];simp
 ·exact e
theorem Km{a b:Option Nat}(h:a=Option.none∨a≠b):b=Option.none∨b≠a:=by
 cases a<;>cases b
 ·exact .inl rfl
 ·exact .inr (by simp)
 ·exact .inl rfl
 ·rcases h with h|h
  ·cases h
  ·exact .inr h.symm
theorem MT.turn{me:Int}{g:Int->Value}(h:MT me T M f g A W){d:Int}{x:Rt}(hl:aK A d=some x){B:Nat}(hB:f d=some B)
  (F:Rt->Rt) (hFd:∀y,(F y).dest=y.dest) (hok:(F x).Ok) (v:Value) (hx':eD B (F x) v W') (hr':W'.ownsRow 0 34 1 v (F x).bL.length ((F x).bL.map aX))
  (hv:v.ownBlock=none∨v.ownBlock=(g d).ownBlock∨∀k,v.ownBlock=some k->W.heap.size<=k)
  (hk:∀k,mZ T M f g A k->k≠B->(g d).ownBlock≠some k->W'.heap[k]?=W.heap[k]?):
  MT me T M f (λe=>if e=d then v else g e) (gK A d F) W'∧∀k,mZ T M f (λe=>if e=d then v else g e) (gK A d F) k->mZ T M f g A k∨v.ownBlock=Option.some k:=by
 obtain⟨JX,hxd,B',hB',hL,hR⟩:=h.line hl;rw[hB]at hB';cases hB';have hTB:∀o,W.heap[B]?=some o->o=cK x (g d):=λo ho=>by rw[show W.heap[B]?=_ from hL]at ho;exact(Option.some.inj ho).symm
 have aaD:T≠B:=λe=>by subst e;have:=hTB _ h.blk;simp at this
 have aeB:M≠B:=λe=>by
  subst e;obtain⟨D,⟨es,cl,hm,_⟩,_⟩:=h.map;have:=hTB _ hm;simp at this
 have hgT:(g d).ownBlock≠Option.some T:=aL hR h.blk (λc e=>by cases e);have hgM:(g d).ownBlock≠Option.some M:=by
  obtain⟨D,⟨es,cl,hm,_⟩,_⟩:=h.map;exact aL hR hm (λc e=>by cases e)
 have hmem:∀y∈gK A d F,(y=F x∧y.dest=d)∨(y∈A∧y.dest≠d):=by
  intro y hy;rcases vD hy with⟨z,hz,hzd,rfl⟩|hy
  ·have:z=x:=h.yE.inj hz JX (by rw[hzd,hxd]);subst this;exact .inl ⟨rfl,by rw[hFd,hzd]⟩
  ·exact .inr hy
 have hother:∀y∈A,y.dest≠d->∃C,f y.dest=Option.some C∧eD C y (g y.dest) W'∧C≠B:=by
  intro y hy lS;obtain⟨C,h1,h2⟩:=h.ln y hy;have hC:C≠B:=λe=>by
   subst e;exact lS (by rw[h.inj hy JX h1 (by rw[hxd];exact hB),hxd])
  have iY:(g d).ownBlock≠Option.some C:=aL hR h2 (λc e=>by cases e);exact⟨C,h1,h2.block (hk C (.inr (.inr ⟨y,hy,.inl h1⟩)) hC iY),hC⟩
 have hrow:∀y∈A,y.dest≠d->W'.ownsRow 0 34 1 (g y.dest) y.bL.length (y.bL.map aX):=by
  intro y hy lS;refine bQ (h.row y hy) λk hk'=>hk k (.inr (.inr ⟨y,hy,.inr hk'⟩)) ?_ ?_
  ·rintro rfl;exact aL (h.row y hy) hL (λc e=>by cases e) hk'
  ·intro e;rcases h.apart y hy x JX (by rw[hxd];exact lS)with e'|e'
   ·rw[hk']at e';cases e'
   ·rw[hxd]at e';exact e' (by rw[hk',e])
 have hap:∀y∈A,y.dest≠d->v.ownBlock=Option.none∨v.ownBlock≠(g y.dest).ownBlock:=by
  intro y hy lS;rcases hv with e|e|e
  ·exact .inl e
  ·rw[e];have:=h.apart x JX y hy (by rw[hxd];exact λe=>lS e.symm)
   rwa [hxd]at this
  ·cases hvb:v.ownBlock with
   |none=>exact .inl rfl
   |some k=>
    refine .inr λe'=> ?_;have h1:=e k hvb;have h2:=((h.row y hy).lt k e'.symm).2;omega
 have hgi:∀y:Rt,y.dest≠d->(if y.dest=d then v else g y.dest)=g y.dest:=λy lS=>ay lS;have hgd:∀y:Rt,y.dest=d->(if y.dest=d then v else g y.dest)=v:=λy lS=>aI lS;refine⟨⟨h.blk.block (hk T (.inl rfl) aaD hgT),?_,GL h.yE d F hFd,?_,?_,?_,?_,?_,by rw[jk];exact h.len⟩,?_⟩
 ·rw[jk];exact h.map.block (hk M (.inr (.inl rfl)) aeB hgM)
 ·intro y hy;rcases hmem y hy with⟨rfl,_⟩|⟨JW,_⟩
  ·exact hok
  ·exact h.ok y JW
 ·intro e C he hf;obtain⟨y,hy,hye⟩:=h.dom e C he hf;by_cases lS:y.dest=d
  ·exact⟨F y,dW.2 ⟨y,hy,aI lS⟩,by rw[hFd,hye]⟩
  ·exact⟨y,dW.2 ⟨y,hy,ay lS⟩,hye⟩
 ·intro y hy;rcases hmem y hy with⟨rfl,lS⟩|⟨JW,lS⟩
  ·refine⟨B,by rw[lS];exact hB,?_⟩;rw[hgd _ lS];exact hx'
  ·obtain⟨C,h1,h2,_⟩:=hother y JW lS;refine⟨C,h1,?_⟩;rw[hgi y lS];exact h2
 ·intro y hy;rcases hmem y hy with⟨rfl,lS⟩|⟨JW,lS⟩
  ·rw[hgd _ lS];exact hr'
  ·rw[hgi y lS];exact hrow y JW lS
 ·intro y hy z hz hyz;rcases hmem y hy with⟨rfl,lS⟩|⟨JW,lS⟩
  ·rcases hmem z hz with⟨rfl,hzd⟩|⟨JV,hzd⟩
   ·exact absurd rfl hyz
   ·rw[hgd _ lS,hgi z hzd];exact hap z JV hzd
  ·rcases hmem z hz with⟨rfl,hzd⟩|⟨JV,hzd⟩
   ·rw[hgd _ hzd,hgi y lS];exact Km (hap y JW lS)
   ·rw[hgi y lS,hgi z hzd];exact h.apart y JW z JV hyz
 ·intro k hk';rcases hk' with rfl|rfl|⟨y,hy,hk'|hk'⟩
  ·exact .inl (.inl rfl)
  ·exact .inl (.inr (.inl rfl))
  ·rcases hmem y hy with⟨rfl,lS⟩|⟨JW,lS⟩
   ·rw[lS]at hk';exact .inl (.inr (.inr ⟨x,JX,.inl (by rw[hxd];exact hk')⟩))
   ·exact .inl (.inr (.inr ⟨y,JW,.inl hk'⟩))
  ·rcases hmem y hy with⟨rfl,lS⟩|⟨JW,lS⟩
   ·dsimp only at hk';rw[aI lS]at hk';exact .inr hk'
   ·dsimp only at hk';rw[ay lS]at hk';exact .inl (.inr (.inr ⟨y,JW,.inr hk'⟩))
def Bf(me:Int)(T:Nat)(S:Nat->Prop)(A:List Rt)(W:World):Prop:=
 ∃M f g,MT me T M f g A W∧∀k,mZ T M f g A k->S k
def ext(S:Nat->Prop)(a b:Nat):Nat->Prop:=λk=>S k∨(a<=k∧k<b)
variable{f:Int->Option Nat}{A:List Rt}{M T:Nat}{w:World}
theorem MT.inB{me:Int}{g:Int->Value}(h:MT me T M f g A w){d:Int}{x:Rt}(hl:aK A d=some x){B:Nat}(hB:f d=some B):mZ T M f g A B:=by
 obtain⟨hx,hxd,_⟩:=h.line hl;exact .inr (.inr ⟨x,hx,.inl (by rw[hxd];exact hB)⟩)
theorem MT.abP{me:Int}{g:Int->Value}(h:MT me T M f g A w){d:Int}{x:Rt}(hl:aK A d=some x){B:Nat}(hB:f d=some B):(g d).ownBlock≠some B:=by
 obtain⟨_,_,B',hB',hL,hR⟩:=h.line hl;rw[hB]at hB';cases hB';exact aL hR hL (λc e=>by cases e)
theorem MT.Yn{me:Int}{g:Int->Value}{w':World}(h:MT me T M f g A w){S:Nat->Prop}(hS:∀k,mZ T M f g A k->S k){d:Int}{x:Rt}(hl:aK A d=some x){B:Nat}(hB:f d=some B)(hg:w.grownBy w' (some B))
  (F:Rt->Rt) (hFd:∀y,(F y).dest=y.dest) (hok:(F x).Ok) (v:Value) (hv:v.ownBlock=none∨v.ownBlock=(g d).ownBlock) (hx':eD B (F x) v w') (hr':w'.ownsRow 0 34 1 v (F x).bL.length ((F x).bL.map aX)):
  Bf me T S (gK A d F) w':=by
 have ht:=h.turn (W':=w') hl hB F hFd hok v hx' hr' (by rcases hv with e|e;exact .inl e;exact .inr (.inl e)) (λk hk hkB _=>hg.block k (h.lt hk) (λe=>hkB (by cases e;rfl)));refine⟨M,f,_,ht.1,λk hk=> ?_⟩;rcases ht.2 k hk with h1|h1
 ·exact hS k h1
 ·rcases hv with e|e
  ·rw[e]at h1;cases h1
  ·obtain⟨hx,hxd,_⟩:=h.line hl;exact hS k (.inr (.inr ⟨x,hx,.inr (by rw[hxd,<-e];exact h1)⟩))
def cZ:Rt:=⟨0,0,0,0,false,0,[]⟩
def Dy(e:Int)(y:Rt):Rt:=if y.valid then {y with exp:=max y.exp e}else y
def gU(A:List Rt)(d e:Int):List Rt:=gK A d (Dy e)
theorem ol(e:Int)(y:Rt):(Dy e y).dest=y.dest:=by
 unfold Dy;split<;>rfl
def dD(aH s:Int)(y:Rt):Rt:=if y.valid&&(y.next==aH)then vS y s else y
theorem gB(aH s:Int)(y:Rt):(dD aH s y).dest=y.dest:=by
 unfold dD;split<;>rfl
def gN(A:List Rt)(aH d s:Int):List Rt:=gK A d (dD aH s)
def mV(A:List Rt)(aH d:Int):Bool:=(aK A d).any λy=>y.valid&&(y.next==aH)
def bE(A:List Rt)(d now:Int):Rt×Bool:=
 match aK A d with
 |some x=>if x.valid&&decide (x.exp>now)then(x,true)else(cZ,false)
 |none=>(cZ,false)
theorem pz(h:Asc A){d:Int}{f:Rt->Rt}(hf:∀x,aK A d=some x->f x=x):gK A d f=A:=by
 unfold gK;conv=>rhs;rw[<-List.map_id A]
 refine List.map_congr_left λx hx=> ?_;by_cases e:x.dest=d
 ·simp only[e,if_true];exact hf x (by rw[<-e];exact uj h hx)
 ·simp[e]
theorem MT.later{me:Int}{g:Int->Value}{W W':World}(h:MT me T M f g A W)(hb:Below W.heap.size W W'):MT me T M f g A W':=
 h.kept λk hk=>hb.block k (h.lt hk)
def tH(f:Int->Option Nat)(A:List Rt)(d:Int):Value:=
 match aK A d with
 |some x=>if x.valid then .pointer ((f d).map λB=>⟨B,0,none⟩)else .pointer none
 |none=> .pointer none
theorem rH{me:Int}{g:Int->Value}(h:MT me T M f g A w){d:Int}(hd:a_ d):
  Calls Tryz.prog 116 #[.pointer (some ⟨T,0,none⟩),.int .u32 d] w λe w'=>e=.returned (tH f A d)∧w'=w:=by
 cases hl:aK A d with
 |none=>
  have:=Jl T M A.length me f d hd (h.off hd hl) w h.blk h.map;unfold tH;rw[hl];exact this
 |some x=>
  obtain⟨hx,hxd,B,hB,hL,_⟩:=h.line hl;have:=Jk T M A.length B me f d hd hB x (g d) w h.blk h.map hL;unfold tH;rw[hl,hB];refine this.mono ?_;rintro e w' ⟨rfl,rfl⟩;refine⟨?_,rfl⟩;by_cases hxv:x.valid=true<;>simp[hxv]
theorem Vo{a b:Int}(h:Be a)(h':Be b):Be (max a b):=by
 unfold Be at *;omega
theorem Uq(T:Nat)(d ex:Int)(B:Nat)(x:Rt)(v:Value)(w:World)(hv:Calls Tryz.prog 116 #[.pointer (some ⟨T,0,none⟩),.int .u32 d] w λe w'=>e=.returned (.pointer (some ⟨B,0,none⟩))∧w'=w)(h:eD B x v w):
  Calls Tryz.prog 81 #[.pointer (some ⟨T,0,none⟩),.int .u32 d,.int .u64 ex] w λe w'=>e=.returned (.tuple #[])∧eD B {x with exp:=max x.exp ex} v w'∧w.grownBy w' (some B):=by
 obtain⟨c0,c1,c2,c3,c4,c5,c6⟩:=h.cell;have hf:=h.free;have h1:Hid (∀y:Int,y=max x.exp ex->eD B {x with exp:=max x.exp ex} v (w.setCell ⟨B,5,none⟩ (.int .u64 y))):=by
  rintro y rfl;exact h.NC _
 have hg:∀u,w.grownBy (w.setCell ⟨B,5,none⟩ u) (some B):=λu=>ah (aC _ _) 5 _;have HV:=(show Hid _ from hv);clear hv;go_enter Tryz.func81,Tryz.ntmps81;go_wp2_with fail;refine aU HV.out ?_;rintro e w1 ⟨rfl,rfl⟩;clear HV;go_wp2;all_goals
  go_returns;exact⟨rfl,h1.out _ (by omega),hg _⟩
theorem Uo(T:Nat)(d ex:Int)(w:World)(hv:Calls Tryz.prog 116 #[.pointer (some ⟨T,0,none⟩),.int .u32 d] w λe w'=>e=.returned (.pointer none)∧w'=w):
  Calls Tryz.prog 81 #[.pointer (some ⟨T,0,none⟩),.int .u32 d,.int .u64 ex] w λe w'=>e=.returned (.tuple #[])∧w'=w:=by
 have HV:=(show Hid _ from hv);clear hv;go_enter Tryz.func81,Tryz.ntmps81;go_wp2_with fail;refine aU HV.out ?_;rintro e w1 ⟨rfl,rfl⟩;clear HV;go_wp2;go_returns;exact⟨rfl,rfl⟩
theorem MZ(me:Int)(T:Nat)(S:Nat->Prop)(A:List Rt)(d ex:Int)(hd:a_ d)(he:Be ex)(w:World)(h:Bf me T S A w):
  Calls Tryz.prog 81 #[.pointer (some ⟨T,0,none⟩),.int .u32 d,.int .u64 ex] w λe w'=>e=.returned (.tuple #[])∧Bf me T S (gU A d ex) w'∧Fx S w w':=by
 obtain⟨M,f,g,hM,hS⟩:=h;have hv:=rH hM hd;unfold tH at hv;cases hl:aK A d with
 |none=>
  rw[hl]at hv;refine(Uo T d ex w hv).mono ?_;rintro e w' ⟨rfl,rfl⟩;refine⟨rfl,⟨M,f,g,?_,?_⟩,Fx.refl _ _⟩
  ·unfold gU;rw[oH hl];exact hM
  ·unfold gU;rw[oH hl];exact hS
 |some x=>
  rw[hl]at hv;obtain⟨hx,hxd,B,hB,hL,hR⟩:=hM.line hl;rw[hB]at hv;cases hxv:x.valid with
  |false=>
   simp only[hxv]at hv;refine(Uo T d ex w hv).mono ?_;rintro e w' ⟨rfl,rfl⟩;have hid:gU A d ex=A:=pz hM.yE λy hy=>by
    rw[hl]at hy;cases hy;simp[Dy,hxv]
   rw[hid];exact⟨rfl,⟨M,f,g,hM,hS⟩,Fx.refl _ _⟩
  |true=>
   simp only[hxv,if_true,Option.map_some]at hv;refine(Uq T d ex B x (g d) w hv hL).mono ?_;rintro e w' ⟨rfl,hL',hg⟩;have hok:=hM.ok x hx;have hF:Dy ex x={x with exp:=max x.exp ex}:=aI hxv;refine⟨rfl,hM.Yn hS (w':=w') hl hB hg (Dy ex) (ol ex) ?_ (g d) (.inr rfl) ?_ ?_,Fx.grown hg (λk e=>by cases e;exact hS _ (hM.inB hl hB))⟩
   ·rw[hF];exact⟨hok.dest,hok.seq,hok.hops,hok.next,Vo hok.exp he,hok.Ue,hok.bL,hok.yE⟩
   ·rw[hF];exact hL'
   ·rw[hF];exact bQ hR (λk hk=>hg.block k (hR.lt k hk).2 (λe=>hM.abP hl hB (by rw[hk,e])))
theorem PK(T:Nat)(aH d s:Int)(B:Nat)(x:Rt)(v:Value)(w:World)(hv:Calls Tryz.prog 116 #[.pointer (some ⟨T,0,none⟩),.int .u32 d] (w.alloc (.cells #[.int .u32 d,.int .u32 s] 237)) λe w'=>e=.returned (.pointer (some ⟨B,0,none⟩))∧w'=(w.alloc (.cells #[.int .u32 d,.int .u32 s] 237)))(h:eD B x v w):
  Calls Tryz.prog 168 #[.pointer (some ⟨T,0,none⟩),.int .u32 aH,.agg #[.int .u32 d,.int .u32 s]] w λe w'=>e=.returned (.bool (x.next==aH))∧(if x.next==aH then eD B (vS x s) (.slice none 0 0) w'∧w.grownBy w' (some B)else Below w.heap.size w w'):=by
 have hb:Below w.heap.size w (w.alloc (.cells #[.int .u32 d,.int .u32 s] 237)):=bC;have hL:=h.later hb;obtain⟨c0,c1,c2,c3,c4,c5,c6⟩:=hL.cell;have HV:=(show Hid _ from hv);clear hv;cases hq:(x.next==aH)
 ·go_enter Tryz.func168,Tryz.ntmps168;go_wp2_with fail;refine aU HV.out ?_;rintro e w1 ⟨rfl,rfl⟩;clear HV;go_wp2;go_ret;exact⟨rfl,by simpa using hb⟩
 ·go_enter Tryz.func168,Tryz.ntmps168;go_wp2_with fail;refine aU HV.out ?_;rintro e w1 ⟨rfl,rfl⟩;clear HV;go_wp2_with fail;refine(EZ B x v s _ hL).mono ?_;rintro e w2 ⟨rfl,hL2,hg2⟩;clear c0 c1 c2 c3 c4 c5 c6 hL;have hg:w.grownBy w2 (some B):=⟨hg2.os,hg2.tape,hg2.output,dN hb.size hg2.size,λk hk hn=>(hg2.block k (fZ hk hb.size) hn).trans (hb.block k hk)⟩;clear hb hg2;go_wp2;go_ret;exact⟨rfl,by simpa using⟨hL2,hg⟩⟩
theorem M8(T:Nat)(aH d s:Int)(w:World)(hv:Calls Tryz.prog 116 #[.pointer (some ⟨T,0,none⟩),.int .u32 d] (w.alloc (.cells #[.int .u32 d,.int .u32 s] 237)) λe w'=>e=.returned (.pointer none)∧w'=(w.alloc (.cells #[.int .u32 d,.int .u32 s] 237))):
  Calls Tryz.prog 168 #[.pointer (some ⟨T,0,none⟩),.int .u32 aH,.agg #[.int .u32 d,.int .u32 s]] w λe w'=>e=.returned (.bool false)∧Below w.heap.size w w':=by
 have hb:Below w.heap.size w (w.alloc (.cells #[.int .u32 d,.int .u32 s] 237)):=bC;have HV:=(show Hid _ from hv);clear hv;go_enter Tryz.func168,Tryz.ntmps168;go_wp2_with fail;refine aU HV.out ?_;rintro e w1 ⟨rfl,rfl⟩;clear HV;go_wp2;go_ret;exact⟨rfl,hb⟩
theorem UK(me:Int)(T:Nat)(S:Nat->Prop)(A:List Rt)(aH d s:Int)(hd:a_ d)(hs:a_ s)(w:World)(h:Bf me T S A w):
  Calls Tryz.prog 168 #[.pointer (some ⟨T,0,none⟩),.int .u32 aH,.agg #[.int .u32 d,.int .u32 s]] w λe w'=>e=.returned (.bool (mV A aH d))∧Bf me T S (gN A aH d s) w'∧Fx S w w':=by
 obtain⟨M,f,g,hM,hS⟩:=h;have hb:Below w.heap.size w (w.alloc (.cells #[.int .u32 d,.int .u32 s] 237)):=bC;have hv:=rH (hM.later hb) hd;unfold tH at hv;cases hl:aK A d with
 |none=>
  rw[hl]at hv;refine(M8 T aH d s w hv).mono ?_;rintro e w' ⟨rfl,hb'⟩;have h1:mV A aH d=false:=by unfold mV;rw[hl];rfl
  have h2:gN A aH d s=A:=by unfold gN;rw[oH hl]
  rw[h1,h2];exact⟨rfl,⟨M,f,g,hM.later hb',hS⟩,Fx.below hb'⟩
 |some x=>
  rw[hl]at hv;obtain⟨hx,hxd,B,hB,hL,hR⟩:=hM.line hl;rw[hB]at hv;cases hxv:x.valid with
  |false=>
   simp only[hxv]at hv;refine(M8 T aH d s w hv).mono ?_;rintro e w' ⟨rfl,hb'⟩;have h1:mV A aH d=false:=by unfold mV;rw[hl];simp[hxv]
   have h2:gN A aH d s=A:=pz hM.yE λy hy=>by
    rw[hl]at hy;cases hy;simp[dD,hxv]
   rw[h1,h2];exact⟨rfl,⟨M,f,g,hM.later hb',hS⟩,Fx.below hb'⟩
  |true=>
   simp only[hxv,if_true,Option.map_some]at hv;refine(PK T aH d s B x (g d) w hv hL).mono ?_;rintro e w' ⟨rfl,hif⟩;have h1:mV A aH d=(x.next==aH):=by unfold mV;rw[hl];simp[hxv]
   rw[h1];cases hq:(x.next==aH)with
   |false=>
    rw[hq,ay (by simp)]at hif;have h2:gN A aH d s=A:=pz hM.yE λy hy=>by
     rw[hl]at hy;cases hy;simp[dD,hq]
    rw[h2];exact⟨rfl,⟨M,f,g,hM.later hif,hS⟩,Fx.below hif⟩
   |true=>
    rw[hq,aI rfl]at hif;obtain⟨hL',hg⟩:=hif;have hF:dD aH s x=vS x s:=by simp[dD,hxv,hq]
    refine⟨rfl,hM.Yn hS (w':=w') hl hB hg (dD aH s) (gB aH s) ?_ (.slice none 0 0) (.inl rfl) ?_ ?_,Fx.grown hg (λk e=>by cases e;exact hS _ (hM.inB hl hB))⟩
    ·rw[hF];exact vR (hM.ok x hx) hs
    ·rw[hF];exact hL'
    ·rw[hF];exact⟨rfl,.inl ⟨rfl,rfl⟩⟩
variable{cap e:Nat}
theorem kD{base g m:Nat}:∀(vs:List Value) (o:Nat) (xs:List Value) (W:World),W.ownsRow base e 1 (.slice (some ⟨g,0,none⟩) m cap) m xs->o+vs.length<=m->
  (W.setCells g o vs).ownsRow base e 1 (.slice (some ⟨g,0,none⟩) m cap) m (xs.take o++vs++xs.drop (o+vs.length))∧W.grownBy (W.setCells g o vs) (some g)
 | [],o,xs,W,h,_=>by
  simp only[World.setCells,fw,List.length_nil,Nat.add_zero,List.take_append_drop];exact⟨h,aC _ _⟩
 |v::r,o,xs,W,h,hl=>by
  simp only[dZ]at hl;have hx:xs.length=m:=by simpa using h.1
  obtain⟨h1,g1⟩:=h.stored o v;obtain⟨h2,g2⟩:=kD r (o+1) (xs.set o v) (W.setCell ⟨g,o,none⟩ v) h1 (by omega);refine⟨?_,⟨g2.os.trans g1.os,g2.tape.trans g1.tape,g2.output.trans g1.output,dN g1.size g2.size,λk hk hn=>(g2.block k (fZ hk g1.size) hn).trans (g1.block k hk hn)⟩⟩;have e1:(xs.set o v).take (o+1)=xs.take o++ [v]:=by
   rw[List.take_succ_eq_append_getElem (by simp;omega),List.take_set_of_le (aB o)];simp
  have e2:(xs.set o v).drop (o+1+r.length)=xs.drop (o+(r.length+1)):=by
   rw[List.drop_set_of_lt (by omega),show o+1+r.length=o+(r.length+1)by omega]
  rw[e1,e2]at h2;show((W.setCell ⟨g,o,none⟩ v).setCells g (o+1) r).ownsRow _ _ _ _ _ _;simpa using h2
theorem QW{base g n:Nat}{W:World}{xs:List Value}(h:W.ownsRow base e 1 (.slice (some ⟨g,0,none⟩) n cap) n xs)(hr:n+1<=cap):
  ∃s,W.ownsRow base e 1 (.slice (some ⟨g,0,none⟩) (n+1) cap) (n+1) (xs++ [s]):=by
 rcases h.2 with⟨he,_⟩|⟨g',cap',cur,he,hb,hg,h1,h2,h3,h4⟩
 ·cases he
 ·cases he;have hl:n<cur.toList.length:=by rw[Array.length_toList];omega
  refine⟨cur.toList[n],?_,.inr ⟨g,cap,cur,rfl,hb,hg,hr,h2,h3,?_⟩⟩
  ·have:=h.1;simp at this ⊢;exact this
  ·rw[Nat.mul_one]at h4 ⊢;rw[List.take_succ_eq_append_getElem hl,h4]
theorem Yt(l:List Int):∀u∈l.map aX,u.oneCell'=true:=by
 intro u hu;obtain⟨y,_,rfl⟩:=dW.1 hu;rfl
theorem szu:(Tryz.prog.info? 34).map (·.size)=some 1:=by kernel_rfl
theorem FD(g n cap i:Nat)(cs:List Int)(x:Int)(vb:Nat)(w:World)(h:w.ownsRow 0 34 1 (.slice (some ⟨g,0,none⟩) n cap) n (cs.map aX))(hi:i<n)(hroom:n+1<=cap)(hv:w.heap[vb]?=some (.cells #[.int .u32 x] 34))(hne:vb≠g)(hn:n<=1000)(hcap:cap<=maxLen):
  Calls Tryz.prog 198 #[.slice (some ⟨g,0,none⟩) n cap,.int .i64 i,.slice (some ⟨vb,0,none⟩) 1 1] w λe w'=>e=.returned (.slice (some ⟨g,0,none⟩) (n+1) cap)∧
   w'.ownsRow 0 34 1 (.slice (some ⟨g,0,none⟩) (n+1) cap) (n+1) ((cs.take i++x::cs.drop i).map aX)∧w.grownBy w' (some g):=by
 have hcl:cs.length=n:=by simpa using h.1
 obtain⟨s,hw⟩:=QW h hroom;have hdl:((cs.drop i).map aX).length=n - i:=by rw[gY,List.length_drop,hcl]
 obtain⟨h1,g1⟩:=kD ((cs.drop i).map aX) (i+1) (cs.map aX++ [s]) w.drew hw.drew (by rw[hdl];omega);obtain⟨h2,g2⟩:=kD [aX x] i _ _ h1 (by simp;omega);have e1:(cs.map aX++ [s]).drop (i+1+((cs.drop i).map aX).length)=[]:=List.drop_eq_nil_of_le (by simp[hcl];omega);have e2:(cs.map aX++ [s]).take (i+1)=(cs.map aX).take (i+1):=by rw[List.take_append_of_le_length (by simp;omega)]
 rw[e1,fw,e2]at h1 h2;have hfin:(((cs.map aX).take (i+1)++(cs.drop i).map aX).take i++ [aX x]++((cs.map aX).take (i+1)++(cs.drop i).map aX).drop (i+ [aX x].length))=(cs.take i++x::cs.drop i).map aX:=by
  rw[List.take_append_of_le_length (by simp;omega),List.take_take,Nat.min_eq_left (by omega)];rw[show i+ [aX x].length=((cs.map aX).take (i+1)).length by simp;omega,List.drop_left];simp
 rw[hfin]at h2;have hgg:w.grownBy ((w.drew.setCells g (i+1) ((cs.drop i).map aX)).setCells g i [aX x]) (some g):=
  ⟨g2.os.trans g1.os,g2.tape.trans g1.tape,g2.output.trans g1.output,dN g1.size g2.size,λk hk hn=>(g2.block k (fZ hk g1.size) hn).trans (g1.block k hk hn)⟩
 have hgl:=(h.lt g rfl).2;have hsb:∃kB,kB≠0∧w.shape? g=some (34,kB):=by
  rcases h.2 with⟨he,_⟩|⟨g',cap',cur,he,hb,hg,q1,q2,q3,q4⟩
  ·cases he
  ·cases he;exact⟨cur.size,by omega,by simp[World.shape?,hg]⟩
 obtain⟨kB,hkB,hsb⟩:=hsb;have hsa:w.shape? vb=some (34,1):=by simp[World.shape?,hv]
 have hfa:∀j,w.frozen? ⟨vb,j,none⟩=false:=λj=>by simp[World.frozen?,hv]
 have hzu:∀w,(Go.sizeOf 34).run Tryz.prog w=.ok 1 w:=λw=>by kernel_rfl
 have hov:∀lb cb,(callFunc 215 #[.slice (some ⟨vb,0,none⟩) 1 1,.slice (some ⟨g,i+1,none⟩) lb cb]).run Tryz.prog w=.ok (.value (.bool false)) w:=λlb cb=>by
  rw[run_callFunc_extern Tryz.func215 (by kernel_rfl) (by kernel_rfl) (by kernel_rfl) (e:=Extern.SlicesOverlaps.overlaps #[36,36] #[4]) (by kernel_rfl),
   Lib.run_overlaps_apart w 36 4 34 Tryz.underlying36 1 hzu ⟨vb,0,none⟩ ⟨g,i+1,none⟩ 1 1 lb cb hne 34 34 1 kB hsa hsb hkB (hfa 0) (hfa 1)]
  rfl
 have hrd:=hw.drew;have hcp1:∀ty dc sc,(Builtin.copy_ #[36,36] ty #[.slice (some ⟨g,i+1,none⟩) (n - i) dc,.slice (some ⟨g,i,none⟩) (n+1 - i) sc]).run Tryz.prog w.drew=.ok (goInt ((cs.drop i).map aX).length) (w.drew.setCells g (i+1) ((cs.drop i).map aX)):=λty dc sc=>
  run_copy_cells w.drew _ _ ty 34 g (i+1) (n - i) dc ⟨g,i,none⟩ (n+1 - i) sc ((cs.drop i).map aX) Tryz.underlying36 szu (by rw[hdl];simp only[Nat.min_def];split<;>omega)
   (λj v hj=>by
    rw[Addr.add_lit];have hjl:=(fO.1 hj).1;rw[hdl]at hjl;refine(h.drew.cellAt (i+j) (by omega)).trans ?_;rw[List.map_drop,List.getElem?_drop]at hj;exact hj)
   (λj hj=>by
    rw[hdl]at hj;have:=hrd.cellAt (i+1+j) (by omega);rw[this,bS (by simp[hcl];omega)];rfl)
   (λj _=>hrd.frozenAt _) (Yt _)
 have hcp2:∀ty dc,(Builtin.copy_ #[36,36] ty #[.slice (some ⟨g,i,none⟩) (n+1 - i) dc,.slice (some ⟨vb,0,none⟩) 1 1]).run Tryz.prog (w.drew.setCells g (i+1) ((cs.drop i).map aX))=.ok (goInt [aX x].length) ((w.drew.setCells g (i+1) ((cs.drop i).map aX)).setCells g i [aX x]):=λty dc=>
  run_copy_cells _ _ _ ty 34 g i (n+1 - i) dc ⟨vb,0,none⟩ 1 1 [aX x] Tryz.underlying36 szu (by simp only[dZ,List.length_nil,Nat.min_def];split<;>omega)
   (λj v hj=>by
    rw[Addr.add_lit,Nat.zero_add,World.cell?_setCells_out g _ _ _ _ (λe _=>absurd e hne)]
    match j,hj with
    |0,hj=>
     exact(aJ w.drew vb 0 _ _ _ hv).trans hj
    |j+1,hj=>simp at hj)
   (λj hj=>by
    have:=h1.cellAt (i+j) (by simp at hj;omega);rw[this,bS (by simp at hj ⊢;omega)];rfl)
   (λj _=>h1.frozenAt _) (by simp[Value.oneCell'])
 have hz2:((i:Int)==(n:Int))=false:=by simp;omega
 have hz3:decide ((cap:Int)<(n:Int)+1)=false:=eU (by omega);have hw1:IntKind.i64.wrap ((i:Int)+1)=(i:Int)+1:=by rw[IntKind.wrap_i64];omega
 have hb1:(0:Int)<=(i:Int)+1:=by omega
 have htn:((i:Int)+1).toNat=i+1:=by omega
 have hb2:¬(cap=i+1):=by omega
 have hb3:(i:Int)<=(n:Int)+1:=by omega
 have hb4:¬(cap=i):=by omega
 have hin:i<=n:=by omega
 have hb5:(n:Int)+1<=(cap:Int):=by omega
 have hc63:cap<=9223372036854775807:=by unfold maxLen at hcap;omega
 clear h h1 hw hdl g1 g2 e1 e2 hrd hfin hsb hsa hfa hv;generalize hW2:(w.drew.setCells g (i+1) ((cs.drop i).map aX)).setCells g i [aX x]=W2 at h2 hgg hcp2;generalize hW1:w.drew.setCells g (i+1) ((cs.drop i).map aX)=W1 at hcp1 hcp2;clear hW1 hW2;go_enter Tryz.func198,Tryz.ntmps198;go_wp2_with(simp only[hov]);go_region_law (refine step_copy_runI rfl _ _ 36 36 rfl _ _ (by simp[Act.eval,Act.put]) (by simp[Act.eval,Act.put]) (hcp1 _ _ _) ?_)
 go_wp2_with(at_builtin;refine wpList_copy_runI _ rfl _ _ 36 36 rfl _ _ rfl rfl (hcp2 _ _) ?_);go_ret;exact⟨rfl,h2,hgg⟩
theorem KJ(v:Value)(n:Nat)(cs:List Int)(x:Int)(vb:Nat)(w:World)(h:w.ownsRow 0 34 1 v n (cs.map aX))(hv:w.heap[vb]?=some (.cells #[.int .u32 x] 34))(hn:n<=1000):
  Calls Tryz.prog 198 #[v,.int .i64 n,.slice (some ⟨vb,0,none⟩) 1 1] w λe w'=>∃v',e=.returned v'∧
   w'.ownsRow 0 34 1 v' (n+1) ((cs++ [x]).map aX)∧w.grownBy w' v.ownBlock∧(v'.ownBlock=v.ownBlock∨v'.ownBlock=some w.heap.size):=by
 obtain⟨i0,hi,hz0,hz1,hz2⟩:=info_parts qQ;obtain⟨ao,c,rfl,_⟩:=ax h;have hnc:n<=c:=by
  rcases h.2 with⟨he,h0⟩|⟨_,_,_,he,_,_,k3,_⟩
  ·cases he;omega
  ·cases he;exact k3
 have hsl:∃u,∀W,(Instr.slice 36 (.slice ao n c) (some (.int .i64 n)) none none).run Tryz.prog W=.ok u W:=by
  have ht:Tryz.prog.underlying 36=some (.slice (Tryz.prog.elem 36)):=by simp[Program.elem,Tryz.underlying36]
  have hz:∀w,(Go.sizeOf (Tryz.prog.elem 36)).run Tryz.prog w=.ok 1 w:=by
   intro w;simp[go_sem,Program.elem,Tryz.underlying36]
  rcases h.2 with⟨he,rfl⟩|⟨g,cap,_,he,_,_,k3,_⟩
  ·cases he;exact⟨.slice none 0 0,λW=>by kernel_rfl⟩
  ·cases he;exact⟨_,λW=>by rw[run_slice_l W 36 _ _ _ ht .i64 _ (by omega) (by omega),hz];rfl⟩
 obtain⟨u,hsl⟩:=hsl;have hq:((n:Int)==(n:Int))=true:=by simp
 have hcx:∀(j:Nat) (u:Value),[aX x][j]?=some u->w.cell? ((⟨vb,0,none⟩:Addr).add j)=some u:=by
  intro j u hj;rw[Addr.add_lit,Nat.zero_add]
  match j,hj with
  |0,hj=>exact(aJ w vb 0 _ _ _ hv).trans hj
  |j+1,hj=>simp at hj
 clear hv;go_enter Tryz.func198,Tryz.ntmps198;go_wp2_with(at_builtin;refine wpList_append_own_at _ rfl _ _ 36 rfl 0 34 i0 (.int .u32 0) 1 4 Tryz.underlying36 hi hz0 hz1 hz2 rfl (by decide) (.slice ao n c) n (cs.map aX) rfl h ⟨vb,0,none⟩ 1 1 [aX x] rfl rfl hcx (by simp[Value.oneCell']) ?c1 ?c2 (dm _) ?_)
 case c1=>unfold maxLen;omega
 case c2=>omega
 intro v' w' ho hg _ hb;clear hsl h;go_wp2;go_ret;exact⟨v',rfl,by simpa using ho,hg,hb⟩
theorem IY(g n cap i:Nat)(cs:List Int)(x:Int)(vb:Nat)(w:World)(h:w.ownsRow 0 34 1 (.slice (some ⟨g,0,none⟩) n cap) n (cs.map aX))(hi:i<n)(hroom:cap<n+1)(hv:w.heap[vb]?=some (.cells #[.int .u32 x] 34))(hn:n<=1000)(hnc:n<=cap):
  Calls Tryz.prog 198 #[.slice (some ⟨g,0,none⟩) n cap,.int .i64 i,.slice (some ⟨vb,0,none⟩) 1 1] w λe w'=>∃G,e=.returned (.slice (some ⟨w.heap.size,0,none⟩) (n+1) G)∧
   w'.ownsRow 0 34 1 (.slice (some ⟨w.heap.size,0,none⟩) (n+1) G) (n+1) ((cs.take i++x::cs.drop i).map aX)∧Below w.heap.size w w':=by
 obtain⟨i0,hi0,hz0,hzs,hzb⟩:=info_parts qQ;have hcl:cs.length=n:=by simpa using h.1
 have hgl:=(h.lt g rfl).2;have hvl:vb<w.heap.size:=(iA.1 hv).1;have hik:i+(n+1 - i)=n+1:=by omega
 have hold:(Builtin.firstCells i0.size i (.slice (some ⟨g,0,none⟩) i cap)).run Tryz.prog w.drew=.ok ((cs.take i).map aX).toArray w.drew:=by
  rw[hzs];refine run_firstCells_some w.drew 1 i ⟨g,0,none⟩ i cap _ (by simp;omega) (λj v hj=> ?_);rw[Addr.add_lit,Nat.zero_add];rw[List.map_take,List.getElem?_take]at hj;split at hj
  ·exact(h.drew.cellAt j (by omega)).trans hj
  ·cases hj
 have hrz:∀ty,(Builtin.append_ #[36,3] ty #[.slice (some ⟨g,0,none⟩) i cap,.int .i64 ((n:Int)+1 - (i:Int))]).run Tryz.prog w=.ok (.slice (some ⟨w.heap.size,0,none⟩) (n+1) (grownCap w (n+1) cap 34))
   (w.drew.alloc (.cells (((cs.take i).map aX).toArray++Builtin.zeroCells (Value.int .u32 0).cells (n+1 - i)++Builtin.zeroCells (Value.int .u32 0).cells (grownCap w (n+1) cap 34 - (n+1))) 34)):=λty=>by
  have h1:=Lib.run_append_grow_zeros w 36 3 ty 34 i0 _ .i64 .i64 Tryz.underlying36 Tryz.underlying3 hi0 hz0 (some ⟨g,0,none⟩) i cap _ hold (n+1 - i) (by omega) (by omega) (by omega) (by omega) (by rw[hzb];omega) (by rw[hzb,hik];exact growslice_fits hroom (by omega));rw[hik]at h1;rw[show(n:Int)+1 - (i:Int)=((n+1 - i:Nat):Int)by omega];exact h1
 have hGn:n+1<=grownCap w (n+1) cap 34:=grownCap_ge w _ _ _;have hG63:grownCap w (n+1) cap 34<=maxLen:=grownCap_le_maxLen w (n+1) cap 34 (by unfold maxLen;omega);generalize grownCap w (n+1) cap 34=G at hrz hGn hG63;have hzl:∀k,(Builtin.zeroCells (Value.int .u32 0).cells k).size=k:=λk=>by simp[Builtin.zeroCells,Value.cells]
 obtain⟨ROW,hROW⟩:∃ROW:Array Value,ROW=((cs.take i).map aX).toArray++Builtin.zeroCells (Value.int .u32 0).cells (n+1 - i)++Builtin.zeroCells (Value.int .u32 0).cells (G - (n+1)):=⟨_,rfl⟩;rw[<-hROW]at hrz;have hsz:ROW.size=G * 1:=by
  rw[hROW];simp only[Array.size_append,hzl,List.size_toArray,gY,List.length_take];omega
 have htk:ROW.toList.take ((n+1)* 1)=(cs.take i).map aX++(Builtin.zeroCells (Value.int .u32 0).cells (n+1 - i)).toList:=by
  rw[hROW,Array.toList_append,Array.toList_append,List.take_append_of_le_length (by simp[hzl];omega),kN (by simp[hzl];omega)]
 have hl0:((cs.take i).map aX++(Builtin.zeroCells (Value.int .u32 0).cells (n+1 - i)).toList).length=n+1:=by simp[hzl];omega
 obtain⟨WA,hWA⟩:∃WA,WA=(w.alloc (.cells ROW 34)).drew:=⟨_,rfl⟩;have h0:WA.ownsRow 0 34 1 (.slice (some ⟨w.heap.size,0,none⟩) (n+1) G) (n+1) ((cs.take i).map aX++(Builtin.zeroCells (Value.int .u32 0).cells (n+1 - i)).toList):=by
  rw[hWA];exact⟨by rw[hl0,Nat.mul_one],.inr ⟨w.heap.size,G,ROW,rfl,dm _,bV w _,hGn,hG63,hsz,htk⟩⟩
 have jE:Below w.heap.size w WA:=by
  rw[hWA];exact(bC).drew
 obtain⟨h1,g1⟩:=kD [aX x] i _ _ h0 (by simp;omega);obtain⟨WB,hWB⟩:∃WB,WB=(WA.setCells w.heap.size i [aX x]).drew:=⟨_,rfl⟩;have h1':=h1.drew;rw[<-hWB]at h1';have hbB:Below w.heap.size w WB:=by
  rw[hWB];exact(jE.grown g1 jE.size (λk e=>by cases e;exact aB _)).drew
 have hdl:((cs.drop i).map aX).length=n - i:=by rw[gY,List.length_drop,hcl]
 obtain⟨h2,g2⟩:=kD ((cs.drop i).map aX) (i+1) _ _ h1' (by rw[hdl];omega);have hbC:=hbB.grown g2 hbB.size (λk e=>by cases e;exact aB _);have hfin:∀R0:List Value,R0=(cs.take i).map aX++(Builtin.zeroCells (Value.int .u32 0).cells (n+1 - i)).toList->R0.length=n+1->
   (R0.take i++ [aX x]++R0.drop (i+ [aX x].length)).take (i+1)++(cs.drop i).map aX++(R0.take i++ [aX x]++R0.drop (i+ [aX x].length)).drop (i+1+((cs.drop i).map aX).length)=(cs.take i++x::cs.drop i).map aX:=by
  intro R0 hR0 hRl;have t1:R0.take i=(cs.take i).map aX:=by
   rw[hR0,List.take_append_of_le_length (by simp;omega),kN (by simp;omega)]
  have t2:(R0.take i++ [aX x]++R0.drop (i+ [aX x].length)).drop (i+1+((cs.drop i).map aX).length)=[]:=List.drop_eq_nil_of_le (by simp[hRl,hcl];omega);have t3:(R0.take i++ [aX x]++R0.drop (i+ [aX x].length)).take (i+1)=R0.take i++ [aX x]:=by
   rw[List.take_append_of_le_length (by simp[hRl];omega),kN (by simp;omega)]
  rw[t2,t3,t1];simp
 rw[hfin _ rfl hl0]at h2;have hcpA:∀ty dc,(Builtin.copy_ #[36,36] ty #[.slice (some ⟨w.heap.size,i,none⟩) (n+1 - i) dc,.slice (some ⟨vb,0,none⟩) 1 1]).run Tryz.prog WA=.ok (goInt [aX x].length) (WA.setCells w.heap.size i [aX x]):=λty dc=>
  run_copy_cells _ _ _ ty 34 w.heap.size i (n+1 - i) dc ⟨vb,0,none⟩ 1 1 [aX x] Tryz.underlying36 szu (by simp only[dZ,List.length_nil,Nat.min_def];split<;>omega)
   (λj v hj=>by
    rw[Addr.add_lit,Nat.zero_add]
    match j,hj with
    |0,hj=>exact(aJ WA vb 0 _ _ _ ((jE.block vb hvl).trans hv)).trans hj
    |j+1,hj=>simp at hj)
   (λj hj=>by
    rw[h0.cellAt (i+j) (by simp at hj;omega),bS (by rw[hl0];simp at hj;omega)];rfl)
   (λj _=>h0.frozenAt _) (by simp[Value.oneCell'])
 have hcpB:∀ty dc sc,(Builtin.copy_ #[36,36] ty #[.slice (some ⟨w.heap.size,i+1,none⟩) (n - i) dc,.slice (some ⟨g,i,none⟩) (n - i) sc]).run Tryz.prog WB=.ok (goInt ((cs.drop i).map aX).length) (WB.setCells w.heap.size (i+1) ((cs.drop i).map aX)):=λty dc sc=>
  run_copy_cells _ _ _ ty 34 w.heap.size (i+1) (n - i) dc ⟨g,i,none⟩ (n - i) sc ((cs.drop i).map aX) Tryz.underlying36 szu (by rw[hdl];simp only[Nat.min_def];split<;>omega)
   (λj v hj=>by
    rw[Addr.add_lit];have hjl:=(fO.1 hj).1;rw[hdl]at hjl;refine((aN h hbB).cellAt (i+j) (by omega)).trans ?_;rw[List.map_drop,List.getElem?_drop]at hj;exact hj)
   (λj hj=>by
    rw[hdl]at hj;rw[h1'.cellAt (i+1+j) (by omega),bS (by have:=h1'.1;omega)];rfl)
   (λj _=>h1'.frozenAt _) (Yt _)
 have hz2:((i:Int)==(n:Int))=false:=by simp;omega
 have hz3:decide ((cap:Int)<(n:Int)+1)=true:=f_ (by omega);have hw1:IntKind.i64.wrap ((i:Int)+1)=(i:Int)+1:=by rw[IntKind.wrap_i64];omega
 have hb1:(0:Int)<=(i:Int)+1:=by omega
 have htn:((i:Int)+1).toNat=i+1:=by omega
 have hin:i<=n:=by omega
 have hb3:(i:Int)<=(n:Int):=by omega
 have hb5:(i:Int)<=(n:Int)+1:=by omega
 have hGi:¬(G=i):=by omega
 have hGim:¬(G=i+1):=by omega
 have hci:¬(cap=i):=by omega
 have hic:(i:Int)<=(cap:Int):=by omega
 have adV:∀ty,(Builtin.append_ #[36,3] ty #[.slice (some ⟨g,0,none⟩) i cap,.int .i64 ((n:Int)+1 - (i:Int))]).run Tryz.prog w=.ok (.slice (some ⟨w.heap.size,0,none⟩) (n+1) G) WA:=λty=>by rw[hWA];exact hrz ty
 clear hrz hold h h0 jE h1 g1 h1' hbB g2 hfin hdl hv hl0 htk hsz hROW hzl hcl hik hi0 hz0 hzs hzb;have YI:∀ty dc sc,(Builtin.copy_ #[36,36] ty #[.slice (some ⟨w.heap.size,i+1,none⟩) (n - i) dc,.slice (some ⟨g,i,none⟩) (n - i) sc]).run Tryz.prog (WA.setCells w.heap.size i [aX x]).drew=.ok (goInt ((cs.drop i).map aX).length) (WB.setCells w.heap.size (i+1) ((cs.drop i).map aX)):=by
  rw[<-hWB];exact hcpB
 generalize WB.setCells w.heap.size (i+1) ((cs.drop i).map aX)=WC at h2 hbC YI;clear hWA hWB hcpB;go_enter Tryz.func198,Tryz.ntmps198;go_wp2_with(first
  |(at_builtin;refine Lib.wpList_append_run _ rfl _ _ _ _ rfl _ _ rfl rfl _ _ (adV _) ?_)
  |(at_builtin;refine wpList_copy_runI _ rfl _ _ 36 36 rfl _ _ rfl rfl (hcpA _ _) ?_))
 go_region_law (refine step_copy_runI rfl _ _ 36 36 rfl (.slice (some ⟨w.heap.size,i+1,none⟩) (n - i) (G - (i+1))) (.slice (some ⟨g,i,none⟩) (n - i) (cap - i)) (by simp[Act.eval,Act.put]) (by simp[Act.eval,Act.put]) (YI 3 (G - (i+1)) (cap - i)) ?_)
 go_wp2;go_ret;exact⟨G,rfl,h2,hbC⟩
open Go.Sort
variable{d:Array Int}{cap n:Nat}{W:World}
def UC(d:Array Int):List Value:=d.toList.map (Value.int .u32)
theorem Kv{j:Nat}(hj:j<d.size):(UC d)[j]?=some (.int .u32 d[j]!):=by
 simp[UC,hj]
theorem xK(d:Array Int)(j:Nat)(x:Int):(UC d).set j (.int .u32 x)=UC (d.setIfInBounds j x):=by
 simp[UC,List.map_set]
theorem swp_size(d:Array Int)(i j:Nat):(swp d i j).size=d.size:=by simp[swp]
structure SR(base g cap n:Nat)(d:Array Int)(W:World):Prop where
 size:d.size=n
 row:W.ownsRow base 34 1 (.slice (some ⟨g,0,none⟩) n cap) n (UC d)
theorem SR.cell{base g:Nat}(h:SR base g cap n d W){j:Nat}(hj:j<n):W.cell? ⟨g,j,none⟩=some (.int .u32 d[j]!):=
 (h.row.cellAt j (by omega)).trans (Kv (by rw[h.size];exact hj))
theorem SR.free{base g:Nat}(h:SR base g cap n d W)(j:Nat):W.frozen? ⟨g,j,none⟩=false:=h.row.frozenAt j
theorem SR.drewN{base g:Nat}(h:SR base g cap n d W)(q:Nat):SR base g cap n d (W.drewN q):=
 ⟨h.size,h.row.kept (row:=none) ⟨rfl,rfl,rfl,aB _,λ_ _ _=>rfl⟩ (.inr (by simp[Value.ownBlock]))⟩
theorem SR.swap{base g:Nat}(h:SR base g cap n d W)(i j:Nat):
  SR base g cap n (swp d i j) ((W.setCell ⟨g,i,none⟩ (.int .u32 d[j]!)).setCell ⟨g,j,none⟩ (.int .u32 d[i]!)):=by
 have h1:=(h.row.stored i (.int .u32 d[j]!)).1;have h2:=(h1.stored j (.int .u32 d[i]!)).1;rw[xK,xK]at h2;exact⟨by rw[swp_size];exact h.size,h2⟩
theorem J_{A B:World}{g:Nat}(h:A.grownBy B (some g))(j:Nat)(v:Value):A.grownBy (B.setCell ⟨g,j,none⟩ v) (some g):=
 ⟨h.os,h.tape,h.output,by simpa using h.size,λi hi hne=>(lV B ⟨g,j,none⟩ v i (λe=>hne (by rw[e]))).trans (h.block i hi hne)⟩
theorem nR(A:World)(r:Option Nat):A.grownBy A r:=⟨rfl,rfl,rfl,aB _,λ_ _ _=>rfl⟩
theorem pQ(W:World)(g i j:Nat)(u v:Value):W.grownBy ((W.setCell ⟨g,i,none⟩ u).setCell ⟨g,j,none⟩ v) (some g):=J_ (J_ (nR W (some g)) i _) j _
theorem oJ(W:World)(q:Nat)(r:Option Nat):W.grownBy (W.drewN q) r:=⟨rfl,rfl,rfl,aB _,λ_ _ _=>rfl⟩
theorem wY(x:Int)(w:World):Calls Tryz.prog 204 #[.int .u32 x] w λe w'=>e=.returned (.bool false)∧w'=w:=by
 go_enter Tryz.func204,Tryz.ntmps204;go_wp2;go_ret;exact⟨by simp,rfl⟩
theorem wu(x y:Int)(w:World):Calls Tryz.prog 189 #[.int .u32 x,.int .u32 y] w λe w'=>e=.returned (.bool (ltInt x y))∧w'=w:=by
 go_enter Tryz.func189,Tryz.ntmps189;go_wp2_with(go_at_call 204;refine(wY _ _).mono ?_;rintro e w' ⟨rfl,rfl⟩);go_ret;exact⟨rfl,rfl⟩
theorem WT{cs:List Int}{x:Int}{i:Nat}(h1:∀j y,j<i->cs[j]?=some y->y<x)(h2:∀j y,i<=j->cs[j]?=some y->x<=y)(hi:i<=cs.length)(hx:x ∉ cs):cs.take i++x::cs.drop i=nC x cs:=by
 induction cs generalizing i with
 |nil=>simp[nC]
 |cons c cs ih=>
  have hcx:c≠x:=λe=>hx (by simp[e]);unfold nC;rw[ay hcx];cases i with
  |zero=>
   have:=h2 0 c (aB _) rfl;rw[aI (by omega)];rfl
  |succ i=>
   have:=h1 0 c (by omega) rfl;rw[ay (by omega)];simp only[List.take_succ_cons,List.drop_succ_cons,List.cons_append];rw[ih (λj y hj hy=>h1 (j+1) y (by omega) (by simpa using hy)) (λj y hj hy=>h2 (j+1) y (by omega) (by simpa using hy)) (by simpa using hi) (λe=>hx (by simp[e]))]
theorem KL(v:Value)(n i:Nat)(cs:List Int)(x:Int)(vb:Nat)(w:World)(h:w.ownsRow 0 34 1 v n (cs.map aX))(hi:i<=n)(hv:w.heap[vb]?=some (.cells #[.int .u32 x] 34))(hne:v.ownBlock≠some vb)(hn:n<=1000):
  Calls Tryz.prog 198 #[v,.int .i64 i,.slice (some ⟨vb,0,none⟩) 1 1] w λe w'=>∃v',e=.returned v'∧
   w'.ownsRow 0 34 1 v' (n+1) ((cs.take i++x::cs.drop i).map aX)∧w.grownBy w' v.ownBlock∧(v'.ownBlock=v.ownBlock∨∀k,v'.ownBlock=some k->w.heap.size<=k):=by
 have hcl:cs.length=n:=by simpa using h.1
 by_cases hin:i=n
 ·subst hin;refine(KJ v i cs x vb w h hv hn).mono ?_;rintro e w' ⟨v',rfl,ho,hg,hb⟩;refine⟨v',rfl,?_,hg,?_⟩
  ·rw[kN (by omega),List.drop_eq_nil_of_le (by omega)];exact ho
  ·rcases hb with hb|hb
   ·exact .inl hb
   ·exact .inr (λk hk=>by rw[hb]at hk;cases hk;exact aB _)
 ·rcases h.2 with⟨_,h0⟩|⟨g,cap,cur,rfl,_,_,k3,k4,_⟩
  ·omega
  ·by_cases hr:n+1<=cap
   ·refine(FD g n cap i cs x vb w h (by omega) hr hv (λe=>hne (by rw[e];rfl)) hn k4).mono ?_;rintro e w' ⟨rfl,ho,hg⟩;exact⟨_,rfl,ho,hg,.inl rfl⟩
   ·refine(IY g n cap i cs x vb w h (by omega) (by omega) hv hn k3).mono ?_;rintro e w' ⟨G,rfl,ho,hb⟩;exact⟨_,rfl,ho,below_grown hb _,.inr (λk hk=>by cases hk;exact aB _)⟩
theorem Qy(x:Int)(w:World):Calls Tryz.prog 214 #[.int .u32 x] w λe w'=>e=.returned (.bool false)∧w'=w:=by
 go_enter Tryz.func214,Tryz.ntmps214;go_wp2;go_ret;exact⟨by simp,rfl⟩
theorem Ky(v:Value)(n:Nat)(cs:List Int)(x:Int)(w:World)(h:w.ownsRow 0 34 1 v n (cs.map aX))(hs:cs.Pairwise (·<·))(hn:n<=1000):
  Calls Tryz.prog 197 #[v,.int .u32 x] w λe w'=>∃i:Nat,i<=n∧(∀j y,j<i->cs[j]?=some y->y<x)∧(∀j y,i<=j->cs[j]?=some y->x<=y)∧
   e=.returned (.tuple #[.int .i64 i,.bool (cs[i]?==some x)])∧w'=w:=by
 have hcl:cs.length=n:=by simpa using h.1
 obtain⟨ao,c,rfl,_⟩:=ax h;go_enter Tryz.func197,Tryz.ntmps197;go_wp2_with fail;go_loopw [7,8] (λvi vj wr=>∃i j:Nat,i<=j∧j<=n∧vi=.int .i64 i∧vj=.int .i64 j∧wr=w∧(∀k y,k<i->cs[k]?=some y->y<x)∧(∀k y,j<=k->cs[k]?=some y->x<=y)) (λvi vj _=>(intOf vj).toNat - (intOf vi).toNat)
 case atStart=>exact⟨0,n,dm _,aB _,rfl,rfl,rfl,λk y hk=>by omega,λk y hk hy=>by have:=(fO.1 hy).1;omega⟩
 case round=>
  obtain⟨i,j,hij,hjn,rfl,rfl,rfl,hlo,hhi⟩:=hrel;have HLO:=(show Hid _ from hlo);have HHI:=(show Hid _ from hhi);clear hlo hhi;by_cases hlt:i<j
  ·have hd:decide ((i:Int)<(j:Int))=true:=f_ (by omega);have hd':decide (i<j)=true:=f_ hlt;have hml:(i+j)/ 2<n:=by omega
   obtain⟨y,hy⟩:∃y,cs[(i+j)/ 2]?=some y:=⟨_,bS (by omega)⟩;obtain⟨g,cap,hv,_⟩:=bZ h (by omega);cases hv;have hc:=(h.cellAt ((i+j)/ 2) (by omega)).trans (by rw[l9,hy];rfl:(cs.map aX)[(i+j)/ 2]?=some (aX y));have hmono:∀k z,cs[k]?=some z->(k<(i+j)/ 2->z<y)∧((i+j)/ 2<k->y<z):=by
    intro k z hz;obtain⟨hk,rfl⟩:=fO.1 hz;obtain⟨hm,rfl⟩:=fO.1 hy;rw[List.pairwise_iff_getElem]at hs;exact⟨λh=>hs _ _ _ _ h,λh=>hs _ _ _ _ h⟩
   have HM:=(show Hid _ from hmono);have HY:=(show Hid _ from hy);clear hmono hy hs;go_wp2_with fail;refine(wu _ _ _).mono ?_;rintro e w1 ⟨rfl,rfl⟩;by_cases hyx:y<x
   ·have hl:Go.Sort.ltInt y x=true:=f_ hyx;clear hc;go_wp2;go_roundw
    case rel=>
     refine⟨(i+j)/ 2+1,j,by omega,hjn,by congr 1,rfl,by trivial,λk z hk hz=> ?_,HHI.out⟩;rcases Nat.lt_or_ge k ((i+j)/ 2)with hk'|hk'
     ·have:=(HM.out k z hz).1 hk';omega
     ·obtain rfl:k=(i+j)/ 2:=by omega
      rw[HY.out]at hz;cases hz;exact hyx
    case measure=>simp[intOf];omega
   ·have hl:Go.Sort.ltInt y x=false:=eU hyx;clear hc;go_wp2;go_roundw
    case rel=>
     refine⟨i,(i+j)/ 2,by omega,by omega,rfl,by congr 1,by trivial,HLO.out,λk z hk hz=> ?_⟩;rcases Nat.lt_or_ge ((i+j)/ 2) k with hk'|hk'
     ·have:=(HM.out k z hz).2 hk';omega
     ·obtain rfl:k=(i+j)/ 2:=by omega
      rw[HY.out]at hz;cases hz;omega
    case measure=>simp[intOf];omega
  ·obtain rfl:i=j:=by omega
   have hd0:decide ((i:Int)<(i:Int))=false:=eU (by omega);by_cases hin:i<n
   ·have hdn:decide ((i:Int)<(n:Int))=true:=f_ (by omega);have hin':(i:Int)<(n:Int):=by omega
    obtain⟨y,hy⟩:∃y,cs[i]?=some y:=⟨_,bS (by omega)⟩;obtain⟨g,cap,hv,_⟩:=bZ h (by omega);cases hv;have hc:=(h.cellAt i (by omega)).trans (by rw[l9,hy];rfl:(cs.map aX)[i]?=some (aX y));have HY:=(show Hid _ from hy);clear hy hs;by_cases hyx:y=x
    ·subst hyx;go_wp2;go_ret2;exact⟨i,hjn,HLO.out,HHI.out,by rw[HY.out];simp,rfl⟩
    ·have hne:(y==x)=false:=by simpa using hyx
     go_wp2_with(go_at_call 214;refine(Qy _ _).mono ?_;rintro e w1 ⟨rfl,rfl⟩);go_ret2;exact⟨i,by omega,HLO.out,HHI.out,by rw[HY.out];simp[hne],rfl⟩
   ·obtain rfl:i=n:=by omega
    have hnn:cs[i]?=none:=List.getElem?_eq_none (by omega);have HN:=(show Hid _ from hnn);clear hnn hs;go_wp2;go_ret2;exact⟨i,aB _,HLO.out,HHI.out,by rw[HN.out];rfl,rfl⟩
theorem M_(T:Nat)(d now:Int)(w:World)(hv:Calls Tryz.prog 116 #[.pointer (some ⟨T,0,none⟩),.int .u32 d] (w.alloc (cK cZ (.slice none 0 0))) λe w'=>e=.returned (.pointer none)∧w'=(w.alloc (cK cZ (.slice none 0 0)))):
  Calls Tryz.prog 79 #[.pointer (some ⟨T,0,none⟩),.int .u32 d,.int .u64 now] w λe w'=>e=.returned (.tuple #[Ja cZ (.slice none 0 0),.bool false])∧Below w.heap.size w w':=by
 have hb:Below w.heap.size w (w.alloc (cK cZ (.slice none 0 0))):=bC;have hZ:=eD.new cZ (.slice none 0 0) w;have HV:=(show Hid _ from hv);clear hv;dsimp only[cK,cZ]at hb hZ HV;go_enter Tryz.func79,Tryz.ntmps79;go_wp2_with fail;generalize World.alloc _ _=W1 at hb hZ HV ⊢;refine aU HV.out ?_;rintro e w1 ⟨rfl,rfl⟩;clear HV;obtain⟨z0,z1,z2,z3,z4,z5,z6⟩:=hZ.cell;have zf:=hZ.free;have hF:=hZ.store cZ (.slice none 0 0);have hG:=hb.grown (mg w1 w.heap.size cZ (.slice none 0 0)) hb.size (λk e=>by cases e;exact aB _);dsimp only[cZ]at z0 z1 z2 z3 z4 z5 z6;clear hb hZ;go_wp2;dsimp only[tK,cZ]at hF hG;generalize World.setCell _ _ _=W8 at hF hG ⊢;obtain⟨q0,q1,q2,q3,q4,q5,q6⟩:=hF.cell;exact bodyPost_ret (v:=.tuple #[Ja cZ (.slice none 0 0),.bool false]) (by simp[results,Tryz.results79,go_sem,q0,q1,q2,q3,q4,q5,q6,cZ]) rfl ⟨rfl,hG⟩
theorem UR(T:Nat)(d now:Int)(B:Nat)(x:Rt)(v:Value)(hx:x.exp<=now)(w:World)(h:eD B x v w)(hv:Calls Tryz.prog 116 #[.pointer (some ⟨T,0,none⟩),.int .u32 d] (w.alloc (cK cZ (.slice none 0 0))) λe w'=>e=.returned (.pointer (some ⟨B,0,none⟩))∧w'=(w.alloc (cK cZ (.slice none 0 0)))):
  Calls Tryz.prog 79 #[.pointer (some ⟨T,0,none⟩),.int .u32 d,.int .u64 now] w λe w'=>e=.returned (.tuple #[Ja cZ (.slice none 0 0),.bool false])∧Below w.heap.size w w':=by
 have hd:decide (x.exp<=now)=true:=f_ hx;have hb:Below w.heap.size w (w.alloc (cK cZ (.slice none 0 0))):=bC;have hZ:=eD.new cZ (.slice none 0 0) w;have hL:=h.later hb;have HV:=(show Hid _ from hv);clear hv;dsimp only[cK,cZ]at hb hZ HV hL;go_enter Tryz.func79,Tryz.ntmps79;go_wp2_with fail;generalize World.alloc _ _=W1 at hb hZ HV hL ⊢;refine aU HV.out ?_;rintro e w1 ⟨rfl,rfl⟩;clear HV;obtain⟨_,_,_,_,_,c5,_⟩:=hL.cell;obtain⟨z0,z1,z2,z3,z4,z5,z6⟩:=hZ.cell;have zf:=hZ.free;have hF:=hZ.store cZ (.slice none 0 0);have hG:=hb.grown (mg w1 w.heap.size cZ (.slice none 0 0)) hb.size (λk e=>by cases e;exact aB _);dsimp only[cZ]at z0 z1 z2 z3 z4 z5 z6;clear hb hZ hL;go_wp2;dsimp only[tK,cZ]at hF hG;generalize World.setCell _ _ _=W8 at hF hG ⊢;obtain⟨q0,q1,q2,q3,q4,q5,q6⟩:=hF.cell;exact bodyPost_ret (v:=.tuple #[Ja cZ (.slice none 0 0),.bool false]) (by simp[results,Tryz.results79,go_sem,q0,q1,q2,q3,q4,q5,q6,cZ]) rfl ⟨rfl,hG⟩
theorem UQ(T:Nat)(d now:Int)(B:Nat)(x:Rt)(v:Value)(hx:¬x.exp<=now)(hn:x.bL.length<=4)(w:World)(h:eD B x v w)(hr:w.ownsRow 0 34 1 v x.bL.length (x.bL.map aX))(hv:Calls Tryz.prog 116 #[.pointer (some ⟨T,0,none⟩),.int .u32 d] (w.alloc (cK cZ (.slice none 0 0))) λe w'=>e=.returned (.pointer (some ⟨B,0,none⟩))∧w'=(w.alloc (cK cZ (.slice none 0 0)))):
  Calls Tryz.prog 79 #[.pointer (some ⟨T,0,none⟩),.int .u32 d,.int .u64 now] w λe w'=>∃v',e=.returned (.tuple #[Ja x v',.bool true])∧w'.ownsRow w.heap.size 34 1 v' x.bL.length (x.bL.map aX)∧Below w.heap.size w w':=by
 have hd:decide (x.exp<=now)=false:=eU hx;have hb:Below w.heap.size w (w.alloc (cK cZ (.slice none 0 0))):=bC;have hs1:w.heap.size+1<=(w.alloc (cK cZ (.slice none 0 0))).heap.size:=by simp
 have hZ:=eD.new cZ (.slice none 0 0) w;have hL:=h.later hb;have hR:=aN hr hb;have HV:=(show Hid _ from hv);clear hv;dsimp only[cK,cZ]at hb hs1 hZ HV hL hR;go_enter Tryz.func79,Tryz.ntmps79;go_wp2_with fail;generalize World.alloc _ _=W1 at hb hs1 hZ HV hL hR ⊢;refine aU HV.out ?_;rintro e w1 ⟨rfl,rfl⟩;clear HV;obtain⟨_,_,_,_,_,c5,_⟩:=hL.cell;go_wp2_with fail;refine(yj B x v hn _ hL hR).mono ?_;rintro e w2 ⟨v',rfl,ho2,hb2⟩;obtain⟨rF,c2',rfl,_⟩:=ax ho2;have hZ2:=hZ.later hb2;have hbb:=hb.trans (hb2.mono hb.size);obtain⟨z0,z1,z2,z3,z4,z5,z6⟩:=hZ2.cell;have zf:=hZ2.free;have hlt:=ho2.lt;have hF:=hZ2.store x (.slice rF x.bL.length c2');have hg4:=mg w2 w.heap.size x (.slice rF x.bL.length c2');have Dc:=ho2.kept hg4 (.inr (λe=>by have:=(hlt _ e).1;omega));have hG:=hbb.grown hg4 hbb.size (λk e=>by cases e;exact aB _);dsimp only at z0 z1 z2 z3 z4 z5 z6;clear hb hZ hL hR hb2 hbb ho2 hlt hg4 c5 hZ2;go_wp2;dsimp only[tK]at hF hG Dc;generalize World.setCell _ _ _=W8 at hF hG Dc ⊢;obtain⟨q0,q1,q2,q3,q4,q5,q6⟩:=hF.cell;exact bodyPost_ret (v:=.tuple #[Ja x (.slice rF x.bL.length c2'),.bool true]) (by simp[results,Tryz.results79,go_sem,q0,q1,q2,q3,q4,q5,q6]) rfl ⟨_,rfl,ownsRow_base_a Dc (by omega),hG⟩
theorem UU(me:Int)(T:Nat)(S:Nat->Prop)(A:List Rt)(d now:Int)(hd:a_ d)(w:World)(h:Bf me T S A w):
  Calls Tryz.prog 79 #[.pointer (some ⟨T,0,none⟩),.int .u32 d,.int .u64 now] w λe w'=>∃v',e=.returned (.tuple #[Ja (bE A d now).1 v',.bool (bE A d now).2])∧w'.ownsRow w.heap.size 34 1 v' (bE A d now).1.bL.length ((bE A d now).1.bL.map aX)∧Below w.heap.size w w':=by
 obtain⟨M,f,g,hM,hS⟩:=h;have hb:Below w.heap.size w (w.alloc (cK cZ (.slice none 0 0))):=bC;have hv:=rH (hM.later hb) hd;unfold tH at hv;unfold bE;cases hl:aK A d with
 |none=>
  rw[hl]at hv;refine(M_ T d now w hv).mono ?_;rintro e w' ⟨rfl,hb'⟩;exact⟨_,rfl,⟨rfl,.inl ⟨rfl,rfl⟩⟩,hb'⟩
 |some x=>
  rw[hl]at hv;obtain⟨hx,hxd,B,hB,hL,hR⟩:=hM.line hl;rw[hB]at hv;cases hxv:x.valid with
  |false=>
   simp only[hxv]at hv;refine(M_ T d now w hv).mono ?_;rintro e w' ⟨rfl,hb'⟩;simp only[hxv,Bool.false_and];exact⟨_,rfl,⟨rfl,.inl ⟨rfl,rfl⟩⟩,hb'⟩
  |true=>
   simp only[hxv,if_true,Option.map_some]at hv;by_cases hex:x.exp<=now
   ·refine(UR T d now B x (g d) hex w hL hv).mono ?_;rintro e w' ⟨rfl,hb'⟩;have:decide (x.exp>now)=false:=eU (by omega);simp only[hxv,this,Bool.and_false];exact⟨_,rfl,⟨rfl,.inl ⟨rfl,rfl⟩⟩,hb'⟩
   ·refine(UQ T d now B x (g d) hex (hM.ok x hx).Ue w hL hR hv).mono ?_;rintro e w' ⟨v',rfl,ho,hb'⟩;have:decide (x.exp>now)=true:=f_ (by omega);simp only[hxv,this,Bool.and_true,if_true];exact⟨v',rfl,ho,hb'⟩
variable{B N:Nat}{x y:Rt}{v:Value}{W W0:World}
@[reducible] def newR(d s h n e : Int): Rt := ⟨d, s, h, n, true, e, []⟩
def zD(s h n e:Int)(y:Rt):Rt:=⟨y.dest,s,h,n,true,e,[]⟩
def fA(me:Int)(A:List Rt)(d s h n e:Int):List Rt×Int:=
 if d=me∨d=0 then(A,2)
 else match aK A d with
  |some x=>if Va (newR d s h n e) x then(gK A d (zD s h n e),0)else(A,3)
  |none=>if 8<=A.length then(A,4)else(um A (newR d s h n e),0)
theorem MT.fresh{me:Int}{T M:Nat}{f:Int->Option Nat}{g:Int->Value}{A:List Rt}{w:World}(h:MT me T M f g A w){d:Int}{y:Rt}(lS:y.dest=d)(hok:y.Ok)(hbef:y.bL=[]){N:Nat}(_hN:w.heap.size<=N){w':World}{A':List Rt}
  (hL:eD N y (.slice none 0 0) w') (hm:fG w' M (eY f d (some N)) A'.length) (hk:∀k,k<w.heap.size->k≠M->w'.heap[k]?=w.heap[k]?)
  (hmem:∀z∈A',z=y∨(z∈A∧z.dest≠d)) (hy:y∈A') (hsub:∀z∈A,z.dest≠d->z∈A') (hasc:Asc A') (hlen:A'.length<=8):
  MT me T M (eY f d (some N)) (λe=>if e=d then .slice none 0 0 else g e) A' w'∧∀k,mZ T M (eY f d (some N)) (λe=>if e=d then .slice none 0 0 else g e) A' k->mZ T M f g A k∨k=N:=by
 have aeD:∃es cl,w.heap[M]?=some (.map es cl):=by
  obtain⟨D,⟨es,cl,hm,_⟩,_⟩:=h.map;exact⟨es,cl,hm⟩
 obtain⟨es,cl,hMm⟩:=aeD;have hTM:T≠M:=λe=>by
  have:=h.blk;unfold FP at this;rw[e,hMm]at this;cases this
 have hfo:∀z:Rt,z.dest≠d->eY f d (some N) z.dest=f z.dest:=λz hz=>ay hz;have yO:∀z:Rt,z.dest=d->eY f d (some N) z.dest=some N:=λz hz=>aI hz;have hgo:∀z:Rt,z.dest≠d->(if z.dest=d then Value.slice none 0 0 else g z.dest)=g z.dest:=λz hz=>ay hz;have hgd:∀z:Rt,z.dest=d->(if z.dest=d then Value.slice none 0 0 else g z.dest)=Value.slice none 0 0:=λz hz=>aI hz;refine⟨⟨h.blk.block (hk T h.blk.lt hTM),hm,hasc,?_,?_,?_,?_,?_,hlen⟩,?_⟩
 ·intro z hz;rcases hmem z hz with rfl|⟨JV,_⟩
  ·exact hok
  ·exact h.ok z JV
 ·intro e B he hf;by_cases hed:e=d
  ·exact⟨y,hy,by rw[lS,hed]⟩
  ·unfold eY at hf;rw[ay hed]at hf;obtain⟨z,hz,Ox⟩:=h.dom e B he hf;exact⟨z,hsub z hz (by rw[Ox];exact hed),Ox⟩
 ·intro z hz;rcases hmem z hz with rfl|⟨JV,hzd⟩
  ·refine⟨N,yO z lS,?_⟩;rw[hgd z lS];exact hL
  ·obtain⟨B,h1,h2⟩:=h.ln z JV;refine⟨B,by rw[hfo z hzd];exact h1,?_⟩;rw[hgo z hzd];refine h2.block (hk B h2.lt λe=> ?_);subst e;unfold eD at h2;rw[hMm]at h2;cases h2
 ·intro z hz;rcases hmem z hz with rfl|⟨JV,hzd⟩
  ·rw[hgd z lS,hbef];exact⟨rfl,.inl ⟨rfl,rfl⟩⟩
  ·rw[hgo z hzd];exact bQ (h.row z JV) λk hk'=>hk k ((h.row z JV).lt k hk').2 (λe=>by
    subst e;exact aL (h.row z JV) hMm (λc e=>by cases e) hk')
 ·intro a ha b hb hab;rcases hmem a ha with rfl|⟨haA,had⟩
  ·rw[hgd a lS];exact .inl rfl
  ·rw[hgo a had];rcases hmem b hb with rfl|⟨jE,hbd⟩
   ·rw[hgd b lS];cases (g a.dest).ownBlock<;>simp[Value.ownBlock]
   ·rw[hgo b hbd];exact h.apart a haA b jE hab
 ·intro k hk';rcases hk' with rfl|rfl|⟨z,hz,hk'|hk'⟩
  ·exact .inl (.inl rfl)
  ·exact .inl (.inr (.inl rfl))
  ·rcases hmem z hz with rfl|⟨JV,hzd⟩
   ·rw[yO z lS]at hk';exact .inr (Option.some.inj hk').symm
   ·rw[hfo z hzd]at hk';exact .inl (.inr (.inr ⟨z,JV,.inl hk'⟩))
  ·dsimp only at hk';rcases hmem z hz with rfl|⟨JV,hzd⟩
   ·rw[hgd z lS]at hk';cases hk'
   ·rw[hgo z hzd]at hk';exact .inl (.inr (.inr ⟨z,JV,.inr hk'⟩))
theorem Ko(T M:Nat)(me d s h n e:Int)(hd:d=me∨d=0)(w:World)(hT:FP T me M w):
  Calls Tryz.prog 161 #[.pointer (some ⟨T,0,none⟩),.int .u32 d,.int .u32 s,.int .i64 h,.int .u32 n,.int .u64 e] w λr w'=>r=.returned (.int .i64 2)∧w'=w:=by
 obtain⟨c0,c1⟩:=hT.cell;by_cases h1:d=me
 ·subst h1;go_enter Tryz.func161,Tryz.ntmps161;go_wp2;go_ret;exact⟨rfl,rfl⟩
 ·have h2:d=0:=by rcases hd with h|h;exact absurd h h1;exact h
  subst h2;have hq:((0:Int)==me)=false:=by simpa using h1
  go_enter Tryz.func161,Tryz.ntmps161;go_wp2;go_ret;exact⟨rfl,rfl⟩
@[reducible] def Du(N B : Nat)(y x : Rt)(v : Value)(W0 W : World): Prop :=
 (W.cell? ⟨N,0,none⟩=some (.int .u32 y.dest)∧W.cell? ⟨N,1,none⟩=some (.int .u32 y.seq)∧W.cell? ⟨N,2,none⟩=some (.int .i64 y.hops)∧W.cell? ⟨N,3,none⟩=some (.int .u32 y.next)∧W.cell? ⟨N,4,none⟩=some (.bool y.valid)∧W.cell? ⟨N,5,none⟩=some (.int .u64 y.exp)∧W.cell? ⟨N,6,none⟩=some (.slice none 0 0))∧
 (W.cell? ⟨B,0,none⟩=some (.int .u32 x.dest)∧W.cell? ⟨B,1,none⟩=some (.int .u32 x.seq)∧W.cell? ⟨B,2,none⟩=some (.int .i64 x.hops)∧W.cell? ⟨B,3,none⟩=some (.int .u32 x.next)∧W.cell? ⟨B,4,none⟩=some (.bool x.valid)∧W.cell? ⟨B,5,none⟩=some (.int .u64 x.exp)∧W.cell? ⟨B,6,none⟩=some v)∧
 Below W0.heap.size W0 W
theorem Du.start(h1:eD N y (.slice none 0 0) W0)(h2:eD B x v W0):Du N B y x v W0 W0:=⟨h1.cell,h2.cell,aV _ _⟩
theorem Du.drew(h:Du N B y x v W0 W):Du N B y x v W0 W.drew:=⟨h.1,h.2.1,h.2.2.trans ⟨rfl,rfl,rfl,aB _,λ_ _=>rfl⟩⟩
theorem Du.below{W1:World}(h1:eD N y (.slice none 0 0) W0)(h2:eD B x v W0)(h:Du N B y x v W0 W)(hb:Below W.heap.size W W1):Du N B y x v W0 W1:=by
 have hbb:=h.2.2.trans (hb.mono h.2.2.size);exact⟨(h1.later hbb).cell,(h2.later hbb).cell,hbb⟩
theorem Kq(T M B:Nat)(me d s h n e:Int)(hd:¬d=me)(hd0:¬d=0)(hs:a_ s)(x:Rt)(hxs:a_ x.seq)(v:Value)(hgr:Va (newR d s h n e) x=false)(w:World)(hT:FP T me M w)
  (hlk:(Instr.lookup 156 (.map (some M)) (.int .u32 d) true).run Tryz.prog (w.alloc (cK (newR d s h n e) (.slice none 0 0)))=.ok (.tuple #[.pointer (some ⟨B,0,none⟩),.bool true]) (w.alloc (cK (newR d s h n e) (.slice none 0 0)))) (hL:eD B x v w):
  Calls Tryz.prog 161 #[.pointer (some ⟨T,0,none⟩),.int .u32 d,.int .u32 s,.int .i64 h,.int .u32 n,.int .u64 e] w λr w'=>r=.returned (.int .i64 3)∧Below w.heap.size w w':=by
 have hb:Below w.heap.size w (w.alloc (cK (newR d s h n e) (.slice none 0 0))):=bC;have hN:=eD.new (newR d s h n e) (.slice none 0 0) w;have hL1:=hL.later hb;have q1:(d==me)=false:=by simpa using hd
 have q2:(d==0)=false:=by simpa using hd0
 obtain⟨c0,c1⟩:=hT.cell;obtain⟨t0,t1⟩:=(hT.block (hb.block T hT.lt)).cell;dsimp only[cK,newR]at hb hN hL1 t0 t1 hlk;have hcall:=λW=>o8 (newR d s h n e) hs (.slice none 0 0) W;have Ay:=λW=>o8 x hxs v W;have HC1:=(show Hid _ from hcall);have HC2:=(show Hid _ from Ay);have Aw:∀W,Calls Tryz.prog 180 #[.agg #[.int .i64 (rk (newR d s h n e)),.int .i64 h],.agg #[.int .i64 (rk x),.int .i64 x.hops]] W λr w'=>r=.returned (.bool false)∧Below W.heap.size W w':=λW=>by
  rw[<-hgr];exact yu _ _ _ _ W
 have HC3:=(show Hid _ from Aw);clear hcall Ay Aw;go_enter Tryz.func161,Tryz.ntmps161;go_wp2_with fail;clear hlk t0 t1;generalize World.alloc _ _=W1 at hb hN hL1 ⊢;go_cut [51]from 41 (λr W=>r=.bool true∧Below W1.heap.size W1 W)
 case first=>
  have hS:Du w.heap.size B (newR d s h n e) x v W1 W1:=Du.start hN hL1;go_region_held3 (Du w.heap.size B (newR d s h n e) x v W1) (first|exact Du.drew (by assumption)|assumption|exact Du.below hN hL1 (by assumption) (by assumption)) (first
   |(go_at_call_of 179 (Value.int IntKind.u32 s);refine aU (HC1.out _) ?_;rintro r w3 ⟨rfl,hb3⟩)
   |(go_at_call_of 179 v;refine aU (HC2.out _) ?_;rintro r w4 ⟨rfl,hb4⟩)
   |(go_at_call 180;refine aU (HC3.out _) ?_;rintro r w5 ⟨rfl,hb5⟩))
  all_goals
   rename_i hS5;have aaA:=(show Du w.heap.size B (newR d s h n e) x v W1 _ from hS5).2.2;go_wp2_with fail;go_meet;exact⟨rfl,aaA⟩
 case rest=>
  obtain⟨rfl,hb2⟩:=hcut;go_wp2;go_ret;exact⟨rfl,hb.trans (hb2.mono hb.size)⟩
end Go.Proofs.YtakaadcpaeiccabGreat
