import Derived.Test.YtakaadcpaeiccabGreatC06
set_option maxHeartbeats 2000000
set_option maxRecDepth 100000
namespace Go.Proofs.YtakaadcpaeiccabGreat
open Go.RowKit Go.Maps
theorem Ky {W:World} {base:Nat} {v:Value} {n:Nat} {cs:List Int}(h:W.ownsRow base 34 1 v n(cs.map aU)):Src Tryz.prog 1 36 v n(cs.map aU)W:=by
 obtain⟨ao,c,rfl,hH⟩:=ak h;exact hH.src Tryz.underlying36 c h.1(by decide)(fun u hu=>by
  obtain⟨y,_,rfl⟩:=List.mem_map.1 hu;rfl)
theorem PD(v:Value)(n:Nat)(cs:List Int)(hn:n≤1000000)(w:World)(h:w.ownsRow 0 34 1 v n(cs.map aU)):
  Calls Tryz.prog 135 #[v]w fun e w'=>∃v',e=.returned v'∧w'.ownsRow w.heap.size 34 1 v' n(cs.map aU)∧Below w.heap.size w w':=by
 obtain⟨i0,hi,hz0,hz1,hz2⟩:=info_parts qD;have hsrc:=Ky h;have hbe:Below w.heap.size w(w.alloc(.cells #[]34)):=(Below.refl _ _).alloc(Nat.le_refl _)_;have hoe:(w.alloc(.cells #[]34)).ownsRow w.heap.size 34 1(.slice(some⟨w.heap.size,0,none⟩)0 0)0 []:=
  ⟨rfl,.inr⟨w.heap.size,0,_,rfl,Nat.le_refl _,heap_alloc_new w _,Nat.le_refl _,by decide,rfl,rfl⟩⟩
 have hne:w.heap.size≤(w.alloc(.cells #[]34)).heap.size:=by simp
 have hsrc':Src Tryz.prog 1 36 v n(cs.map aU)(w.alloc(.cells #[]34)):=Ky(aM h hbe);rcases h.2 with⟨rfl,rfl⟩|⟨g,cap,cur,rfl,rest⟩
 ·have hq:=fun W=>Lib.run_eql_slice_nil(P:=Tryz.prog)W 36 34 none 0 0 0 0 Tryz.underlying36;simp only [Option.isNone_none]at hq;have hcs:cs.map aU=[]:=List.eq_nil_of_length_eq_zero h.1;clear hsrc hbe hoe hne hsrc';go_enter Tryz.func135,Tryz.ntmps135
  go_wp2
  go_ret
  exact⟨_,rfl,⟨h.1,.inl⟨rfl,rfl⟩⟩,Below.refl _ _⟩
 ·have hq:=fun W=>Lib.run_eql_slice_nil(P:=Tryz.prog)W 36 34(some⟨g,0,none⟩)n cap 0 0 Tryz.underlying36;simp only [Option.YD]at hq;clear rest hsrc;go_enter Tryz.func135,Tryz.ntmps135
  go_wp2_with(at_builtin;refine ik _ rfl _ _ 36 36 rfl w.heap.size 34 i0(.int .u32 0)1 4 Tryz.underlying36 hi hz0 hz1 hz2 rfl(.slice(some⟨w.heap.size,0,none⟩)0 0)0 []rfl hoe(by simp)(.slice(some⟨g,0,none⟩)n cap)n(cs.map aU)rfl hsrc' ?c1 ?c2 hne ?_)
  case c1=>unfold maxLen;omega
  case c2=>omega
  intro v7 W7 gP eu _;have Gw:=hbe.grown eu hne(fun k hk=>(hoe.lt k hk).1);clear hq hsrc' hbe hoe hne eu;go_wp2
  go_ret
  exact⟨v7,rfl,by simpa using gP,Gw⟩
@[reducible] def sK (W : World) (B : Nat) (x : Rt) (v : Value) : World := ((((((W.setCell ⟨B, 0, none⟩ (.int .u32 x.dest)).setCell ⟨B, 1, none⟩ (.int .u32 x.seq)).setCell ⟨B, 2, none⟩ (.int .i64 x.hops)).setCell ⟨B, 3, none⟩ (.int .u32 x.next)).setCell ⟨B, 4, none⟩ (.bool x.valid)).setCell ⟨B, 5, none⟩ (.int .u64 x.exp)).setCell ⟨B, 6, none⟩ v
theorem dP.store {B:Nat} {y:Rt} {u:Value} {W:World}(h:dP B y u W)(x:Rt)(v:Value):dP B x v(sK W B x v):=by
 unfold dP at h ⊢;simp [World.setCell,Array.getElem?_modify,h]
theorem lK(W:World)(B:Nat)(x:Rt)(v:Value):W.grownBy(sK W B x v)(some B):=
 aa(aa(aa(aa(aa(aa(aa(aC _ _)0 _)1 _)2 _)3 _)4 _)5 _)6 _
theorem Jr(B:Nat)(x:Rt)(ao:Option Addr)(c:Nat)(hn:x.bB.length≤4)(w:World)(h:dP B x(.slice ao x.bB.length c)w)(hr:w.ownsRow 0 34 1(.slice ao x.bB.length c)x.bB.length(x.bB.map aU)):
  Calls Tryz.prog 96 #[.pointer(some⟨B,0,none⟩)]w fun e w'=>∃v',e=.returned(Ia x v')∧w'.ownsRow w.heap.size 34 1 v' x.bB.length(x.bB.map aU)∧Below w.heap.size w w':=by
 obtain⟨c0,c1,c2,c3,c4,c5,c6⟩:=(h.later((Below.refl _ w).alloc(Nat.le_refl _)(b_⟨0,0,0,0,false,0,[]⟩(.slice none 0 0)))).cell;obtain⟨e0,e1,e2,e3,e4,e5,e6⟩:=(h.later(((Below.refl _ w).alloc(Nat.le_refl _)(b_⟨0,0,0,0,false,0,[]⟩(.slice none 0 0))).alloc(by simp)(b_ x(.slice ao x.bB.length c)))).cell;have hb1:Below w.heap.size w((w.alloc(b_⟨0,0,0,0,false,0,[]⟩(.slice none 0 0))).alloc(b_ x(.slice ao x.bB.length c))):=((Below.refl _ _).alloc(Nat.le_refl _)_).alloc(by simp)_;have hZ:=(dP.new⟨0,0,0,0,false,0,[]⟩(.slice none 0 0)w).later((Below.refl _ _).alloc(Nat.le_refl _)(b_ x(.slice ao x.bB.length c)));have hN:=dP.new x(.slice ao x.bB.length c)(w.alloc(b_⟨0,0,0,0,false,0,[]⟩(.slice none 0 0)));rw [World.size_alloc]at hN;have hr1:=aM hr hb1;have hs2:w.heap.size+2≤((w.alloc(b_⟨0,0,0,0,false,0,[]⟩(.slice none 0 0))).alloc(b_ x(.slice ao x.bB.length c))).heap.size:=by simp
 dsimp only [b_]at hb1 hZ hN hr1 hs2 c0 c1 c2 c3 c4 c5 c6 e0 e1 e2 e3 e4 e5 e6;go_enter Tryz.func96,Tryz.ntmps96
 go_wp2_with fail
 clear c0 c1 c2 c3 c4 c5 c6 e0 e1 e2 e3 e4 e5 e6;generalize World.alloc _ _=W1 at hb1 hZ hN hr1 hs2 ⊢;refine(PD(.slice ao x.bB.length c)x.bB.length x.bB(by omega)_ hr1).mono ?_;rintro e W2⟨v',rfl,ho2,hb2⟩;obtain⟨rE,c2',rfl,_⟩:=ak ho2;have hZ2:=hZ.later hb2;have EF:=hN.later hb2;have hbb:=hb1.trans(hb2.mono hb1.size);have hsz:=hb1.size;have f6:=EF.free 6;have hzf:=hZ2.free;obtain⟨n0,n1,n2,n3,n4,n5,n6⟩:=EF.cell;obtain⟨z0,z1,z2,z3,z4,z5,z6⟩:=hZ2.cell;have zI:=EF.Zy(.slice rE x.bB.length c2')x.bB;have hg3:W2.grownBy(W2.setCell⟨w.heap.size+1,6,none⟩(.slice rE x.bB.length c2'))(some(w.heap.size+1)):=aa(aC _ _)6 _;have hZ3:=hZ2.block(hg3.block w.heap.size(by have:=EF.lt;omega)(by simp));have hF:=hZ3.store x(.slice rE x.bB.length c2');have hg4:=lK(W2.setCell⟨w.heap.size+1,6,none⟩(.slice rE x.bB.length c2'))w.heap.size x(.slice rE x.bB.length c2');have hlt:=ho2.lt;have ho3:=ho2.kept hg3(.inr(fun e=>by have:=(hlt _ e).1;omega));have B_:=ho3.kept hg4(.inr(fun e=>by have:=(hlt _ e).1;omega));have hG:Below w.heap.size w(sK(W2.setCell⟨w.heap.size+1,6,none⟩(.slice rE x.bB.length c2'))w.heap.size x(.slice rE x.bB.length c2')):=(hbb.grown hg3 hbb.size(fun k e=>by cases e;omega)).grown hg4(Nat.le_trans hbb.size hg3.size)(fun k e=>by cases e;exact Nat.le_refl _);clear hZ hN hr1 hb2 hb1 zI hg3 hZ3 hg4 ho3 hlt;go_wp2
 dsimp only [sK]at hF hG B_;generalize World.setCell _ _ _=W8 at hF hG B_ ⊢;obtain⟨q0,q1,q2,q3,q4,q5,q6⟩:=hF.cell;exact bodyPost_ret(v:=Ia x(.slice rE x.bB.length c2'))(by simp [results,Tryz.results96,go_sem,q0,q1,q2,q3,q4,q5,q6])rfl⟨_,rfl,ownsRow_base_a B_(by omega),hG⟩
theorem xg(B:Nat)(x:Rt)(v:Value)(hn:x.bB.length≤4)(w:World)(h:dP B x v w)(hr:w.ownsRow 0 34 1 v x.bB.length(x.bB.map aU)):
  Calls Tryz.prog 96 #[.pointer(some⟨B,0,none⟩)]w fun e w'=>∃v',e=.returned(Ia x v')∧w'.ownsRow w.heap.size 34 1 v' x.bB.length(x.bB.map aU)∧Below w.heap.size w w':=by
 obtain⟨ao,c,rfl,_⟩:=ak hr;exact Jr B x ao c hn w h hr
theorem D9(B:Nat)(x:Rt)(v:Value)(s:Int)(w:World)(h:dP B x v w):
  Calls Tryz.prog 113 #[.pointer(some⟨B,0,none⟩),.int .u32 s]w fun e w'=>e=.returned(.tuple #[])∧dP B(pY x s)(.slice none 0 0)w'∧w.grownBy w'(some B):=by
 obtain⟨c0,c1,c2,c3,c4,c5,c6⟩:=h.cell;have hf:=h.free;have h1:Hid(∀y:Int,y=max(gr x.seq)s→dP B(pY x s)(.slice none 0 0)((((w.setCell⟨B,1,none⟩(.int .u32 y)).setCell⟨B,4,none⟩(.bool false)).setCell⟨B,5,none⟩(.int .u64 0)).setCell⟨B,6,none⟩(.slice none 0 0))):=by
  rintro y rfl;exact(((h.set1(max(gr x.seq)s)).adY false).M4 0).Zy(.slice none 0 0) []
 have hg:∀u,w.grownBy((((w.setCell⟨B,1,none⟩u).setCell⟨B,4,none⟩(.bool false)).setCell⟨B,5,none⟩(.int .u64 0)).setCell⟨B,6,none⟩(.slice none 0 0))(some B):=
  fun u=>aa(aa(aa(aa(aC _ _)1 _)4 _)5 _)6 _
 go_enter Tryz.func113,Tryz.ntmps113
 go_wp2_with fail
 refine(nZ _ _).mono ?_;rintro e w1⟨rfl,rfl⟩;go_wp2
 all_goals
  go_returns
  exact⟨rfl,h1.out _(by omega),hg _⟩
structure Fx(S:Nat→Prop)(w w':World):Prop where
 os:w'.os=w.os
 tape:w'.tape=w.tape
 output:w'.output=w.output
 size:w.heap.size≤w'.heap.size
 block:∀k,k<w.heap.size→¬S k→w'.heap[k]?=w.heap[k]?
theorem Fx.refl(S:Nat→Prop)(w:World):Fx S w w:=⟨rfl,rfl,rfl,Nat.le_refl _,fun _ _ _=>rfl⟩
theorem Fx.trans {S S':Nat→Prop} {a b c:World}(h:Fx S a b)(k:Fx S' b c)(hs:∀i,i<a.heap.size→S' i→S i):Fx S a c:=
 ⟨k.os.trans h.os,k.tape.trans h.tape,k.output.trans h.output,Nat.le_trans h.size k.size,fun i hi hn=>(k.block i(Nat.lt_of_lt_of_le hi h.size)(fun e=>hn(hs i hi e))).trans(h.block i hi hn)⟩
theorem Fx.mono {S S':Nat→Prop} {a b:World}(h:Fx S a b)(hs:∀i,S i→S' i):Fx S' a b:=
 ⟨h.os,h.tape,h.output,h.size,fun i hi hn=>h.block i hi(fun e=>hn(hs i e))⟩
theorem Fx.below {S:Nat→Prop} {a b:World}(h:Below a.heap.size a b):Fx S a b:=⟨h.os,h.tape,h.output,h.size,fun k hk _=>h.block k hk⟩
theorem Fx.grown {S:Nat→Prop} {a b:World} {r:Option Nat}(h:a.grownBy b r)(hr:∀k,r=some k→S k):Fx S a b:=
 ⟨h.os,h.tape,h.output,h.size,fun k hk hn=>h.block k hk(fun e=>hn(hr k e.symm))⟩
theorem Fx.Cx {S:Nat→Prop} {a b:World} {n:Nat}(h:Fx S a b)(hn:n≤a.heap.size)(hs:∀k,k<n→¬S k):Below n a b:=
 ⟨h.os,h.tape,h.output,h.size,fun k hk=>h.block k(Nat.lt_of_lt_of_le hk hn)(hs k hk)⟩
theorem bD {W W':World} {base e size n:Nat} {v:Value} {cs:List Value}(h:W.ownsRow base e size v n cs)(he:∀k,v.ownBlock=some k→W'.heap[k]?=W.heap[k]?):W'.ownsRow base e size v n cs:=by
 refine⟨h.1,?_⟩;rcases h.2 with hn|⟨g,cap,cur,rfl,h1,h2,h3⟩
 ·exact .inl hn
 ·exact .inr⟨g,cap,cur,rfl,h1,(he g rfl).trans h2,h3⟩
def mg(T M:Nat)(f:Int→Option Nat)(g:Int→Value)(A:List Rt)(k:Nat):Prop:=
 k=T∨k=M∨∃x∈A,f x.dest=some k∨(g x.dest).ownBlock=some k
structure MT(me:Int)(T M:Nat)(f:Int→Option Nat)(g:Int→Value)(A:List Rt)(W:World):Prop where
 blk:EH T me M W
 map:eX W M f A.length
 wC:Asc A
 ok:∀x∈A,x.Ok
 dom:∀d B,bg d→f d=some B→∃x∈A,x.dest=d
 ln:∀x∈A,∃B,f x.dest=some B∧dP B x(g x.dest)W
 row:∀x∈A,W.ownsRow 0 34 1(g x.dest)x.bB.length(x.bB.map aU)
 apart:∀x∈A,∀y∈A,x.dest≠y.dest→(g x.dest).ownBlock=none∨(g x.dest).ownBlock≠(g y.dest).ownBlock
 len:A.length≤8
theorem MT.kept {me:Int} {T M:Nat} {f:Int→Option Nat} {g:Int→Value} {A:List Rt} {W W':World}(h:MT me T M f g A W)(he:∀k,mg T M f g A k→W'.heap[k]?=W.heap[k]?):MT me T M f g A W':=by
 refine⟨h.blk.block(he T(.inl rfl)),h.map.block(he M(.inr(.inl rfl))),h.wC,h.ok,h.dom,fun x hx=> ?_,fun x hx=> ?_,h.apart,h.len⟩
 ·obtain⟨B,h1,h2⟩:=h.ln x hx;exact⟨B,h1,h2.block(he B(.inr(.inr⟨x,hx,.inl h1⟩)))⟩
 ·exact bD(h.row x hx)fun k hk=>he k(.inr(.inr⟨x,hx,.inr hk⟩))
theorem MT.lt {me:Int} {T M:Nat} {f:Int→Option Nat} {g:Int→Value} {A:List Rt} {W:World}(h:MT me T M f g A W) {k:Nat}(hk:mg T M f g A k):k<W.heap.size:=by
 rcases hk with rfl|rfl|⟨x,hx,hk|hk⟩
 ·exact h.blk.lt
 ·exact h.map.lt
 ·obtain⟨B,h1,h2⟩:=h.ln x hx;rw [h1]at hk;cases hk;exact h2.lt
 ·exact((h.row x hx).lt k hk).2
theorem MT.off {me:Int} {T M:Nat} {f:Int→Option Nat} {g:Int→Value} {A:List Rt} {W:World}(h:MT me T M f g A W) {d:Int}(hd:bg d)(hl:aJ A d=none):f d=none:=by
 cases e:f d with
 |none=>rfl
 |some B=>
  obtain⟨x,hx,hxd⟩:=h.dom d B hd e;exact absurd hxd(gM.1 hl x hx)
theorem MT.line {me:Int} {T M:Nat} {f:Int→Option Nat} {g:Int→Value} {A:List Rt} {W:World}(h:MT me T M f g A W) {d:Int} {x:Rt}(hl:aJ A d=some x):
  x∈A∧x.dest=d∧∃B,f d=some B∧dP B x(g d)W∧W.ownsRow 0 34 1(g d)x.bB.length(x.bB.map aU):=by
 obtain⟨hx,rfl⟩:=bN hl;obtain⟨B,h1,h2⟩:=h.ln x hx;exact⟨hx,rfl,B,h1,h2,h.row x hx⟩
theorem MT.inj {me:Int} {T M:Nat} {f:Int→Option Nat} {g:Int→Value} {A:List Rt} {W:World}(h:MT me T M f g A W) {x y:Rt}(hx:x∈A)(hy:y∈A) {B:Nat}(h1:f x.dest=some B)(h2:f y.dest=some B):x.dest=y.dest:=by
 obtain⟨B1,p1,q1⟩:=h.ln x hx;obtain⟨B2,p2,q2⟩:=h.ln y hy;rw [h1]at p1;rw [h2]at p2;cases p1;cases p2;unfold dP at q1 q2;rw [q1]at q2;injection q2 with q2;injection q2 with q2;have:=congrArg(fun a=>a[0]?)q2;simpa using this
theorem aA {W:World} {base e size n:Nat} {v:Value} {cs:List Value}(h:W.ownsRow base e size v n cs) {B:Nat} {o:Obj}(hB:W.heap[B]?=some o)(ho:∀c,o≠ .cells c e(0,0)):v.ownBlock≠some B:=by
 rcases ownsRow_ne_a h hB ho with e|e
 ·rw [e];simp
 ·exact e
theorem JO {a b:Option Nat}(h:a=Option.none∨a≠b):b=Option.none∨b≠a:=by
 cases a<;>cases b
 ·exact .inl rfl
 ·exact .inr(by simp)
 ·exact .inl rfl
 ·rcases h with h|h
  ·cases h
  ·exact .inr h.symm
theorem MT.turn {me:Int} {T M:Nat} {f:Int→Option Nat} {g:Int→Value} {A:List Rt} {W W':World}(h:MT me T M f g A W) {d:Int} {x:Rt}(hl:aJ A d=some x) {B:Nat}(hB:f d=some B)
  (F:Rt→Rt)(hFd:∀y,(F y).dest=y.dest)(hok:(F x).Ok)(v:Value)(hx':dP B(F x)v W')(hr':W'.ownsRow 0 34 1 v(F x).bB.length((F x).bB.map aU))
  (hv:v.ownBlock=none∨v.ownBlock=(g d).ownBlock∨∀k,v.ownBlock=some k→W.heap.size≤k)
  (hk:∀k,mg T M f g A k→k≠B→(g d).ownBlock≠some k→W'.heap[k]?=W.heap[k]?):
  MT me T M f(fun e=>if e=d then v else g e)(gI A d F)W'∧∀k,mg T M f(fun e=>if e=d then v else g e)(gI A d F)k→mg T M f g A k∨v.ownBlock=Option.some k:=by
 obtain⟨Jj,hxd,B',hB',hL,hR⟩:=h.line hl;rw [hB]at hB';cases hB';have hTB:∀o,W.heap[B]?=some o→o=b_ x(g d):=fun o ho=>by rw [show W.heap[B]?=_ from hL]at ho;exact(Option.some.inj ho).symm
 have aaL:T≠B:=fun e=>by subst e;have:=hTB _ h.blk;simp at this
 have ae6:M≠B:=fun e=>by
  subst e;obtain⟨D,⟨es,cl,hm,_⟩,_⟩:=h.map;have:=hTB _ hm;simp at this
 have hgT:(g d).ownBlock≠Option.some T:=aA hR h.blk(fun c e=>by cases e);have hgM:(g d).ownBlock≠Option.some M:=by
  obtain⟨D,⟨es,cl,hm,_⟩,_⟩:=h.map;exact aA hR hm(fun c e=>by cases e)
 have hmem:∀y∈gI A d F,(y=F x∧y.dest=d)∨(y∈A∧y.dest≠d):=by
  intro y hy;rcases zk hy with⟨z,hz,hzd,rfl⟩|hy
  ·have:z=x:=h.wC.inj hz Jj(by rw [hzd,hxd]);subst this;exact .inl⟨rfl,by rw [hFd,hzd]⟩
  ·exact .inr hy
 have hother:∀y∈A,y.dest≠d→∃C,f y.dest=Option.some C∧dP C y(g y.dest)W'∧C≠B:=by
  intro y hy kD;obtain⟨C,h1,h2⟩:=h.ln y hy;have hC:C≠B:=fun e=>by
   subst e;exact kD(by rw [h.inj hy Jj h1(by rw [hxd];exact hB),hxd])
  have gB:(g d).ownBlock≠Option.some C:=aA hR h2(fun c e=>by cases e);exact⟨C,h1,h2.block(hk C(.inr(.inr⟨y,hy,.inl h1⟩))hC gB),hC⟩
 have hrow:∀y∈A,y.dest≠d→W'.ownsRow 0 34 1(g y.dest)y.bB.length(y.bB.map aU):=by
  intro y hy kD;refine bD(h.row y hy)fun k hk'=>hk k(.inr(.inr⟨y,hy,.inr hk'⟩)) ?_ ?_
  ·rintro rfl;exact aA(h.row y hy)hL(fun c e=>by cases e)hk'
  ·intro e;rcases h.apart y hy x Jj(by rw [hxd];exact kD)with e'|e'
   ·rw [hk']at e';cases e'
   ·rw [hxd]at e';exact e'(by rw [hk',e])
 have hap:∀y∈A,y.dest≠d→v.ownBlock=Option.none∨v.ownBlock≠(g y.dest).ownBlock:=by
  intro y hy kD;rcases hv with e|e|e
  ·exact .inl e
  ·rw [e];have:=h.apart x Jj y hy(by rw [hxd];exact fun e=>kD e.symm)
   rwa [hxd]at this
  ·cases hvb:v.ownBlock with
   |none=>exact .inl rfl
   |some k=>
    refine .inr fun e'=> ?_;have h1:=e k hvb;have h2:=((h.row y hy).lt k e'.symm).2;omega
 have hgi:∀y:Rt,y.dest≠d→(if y.dest=d then v else g y.dest)=g y.dest:=fun y kD=>if_neg kD;have hgd:∀y:Rt,y.dest=d→(if y.dest=d then v else g y.dest)=v:=fun y kD=>if_pos kD;refine⟨⟨h.blk.block(hk T(.inl rfl)aaL hgT),?_,zl h.wC d F hFd,?_,?_,?_,?_,?_,by rw [mO];exact h.len⟩,?_⟩
 ·rw [mO];exact h.map.block(hk M(.inr(.inl rfl))ae6 hgM)
 ·intro y hy;rcases hmem y hy with⟨rfl,_⟩|⟨Gh,_⟩
  ·exact hok
  ·exact h.ok y Gh
 ·intro e C he hf;obtain⟨y,hy,hye⟩:=h.dom e C he hf;by_cases kD:y.dest=d
  ·exact⟨F y,List.mem_map.2⟨y,hy,if_pos kD⟩,by rw [hFd,hye]⟩
  ·exact⟨y,List.mem_map.2⟨y,hy,if_neg kD⟩,hye⟩
 ·intro y hy;rcases hmem y hy with⟨rfl,kD⟩|⟨Gh,kD⟩
  ·refine⟨B,by rw [kD];exact hB,?_⟩;rw [hgd _ kD];exact hx'
  ·obtain⟨C,h1,h2,_⟩:=hother y Gh kD;refine⟨C,h1,?_⟩;rw [hgi y kD];exact h2
 ·intro y hy;rcases hmem y hy with⟨rfl,kD⟩|⟨Gh,kD⟩
  ·rw [hgd _ kD];exact hr'
  ·rw [hgi y kD];exact hrow y Gh kD
 ·intro y hy z hz hyz;rcases hmem y hy with⟨rfl,kD⟩|⟨Gh,kD⟩
  ·rcases hmem z hz with⟨rfl,hzd⟩|⟨Ji,hzd⟩
   ·exact absurd rfl hyz
   ·rw [hgd _ kD,hgi z hzd];exact hap z Ji hzd
  ·rcases hmem z hz with⟨rfl,hzd⟩|⟨Ji,hzd⟩
   ·rw [hgd _ hzd,hgi y kD];exact JO(hap y Gh kD)
   ·rw [hgi y kD,hgi z hzd];exact h.apart y Gh z Ji hyz
 ·intro k hk';rcases hk' with rfl|rfl|⟨y,hy,hk'|hk'⟩
  ·exact .inl(.inl rfl)
  ·exact .inl(.inr(.inl rfl))
  ·rcases hmem y hy with⟨rfl,kD⟩|⟨Gh,kD⟩
   ·rw [kD]at hk';exact .inl(.inr(.inr⟨x,Jj,.inl(by rw [hxd];exact hk')⟩))
   ·exact .inl(.inr(.inr⟨y,Gh,.inl hk'⟩))
  ·rcases hmem y hy with⟨rfl,kD⟩|⟨Gh,kD⟩
   ·dsimp only at hk';rw [if_pos kD]at hk';exact .inr hk'
   ·dsimp only at hk';rw [if_neg kD]at hk';exact .inl(.inr(.inr⟨y,Gh,.inr hk'⟩))
def Ag(me:Int)(T:Nat)(S:Nat→Prop)(A:List Rt)(W:World):Prop:=
 ∃M f g,MT me T M f g A W∧∀k,mg T M f g A k→S k
def ext(S:Nat→Prop)(a b:Nat):Nat→Prop:=fun k=>S k∨(a≤k∧k<b)
theorem MT.inB {me:Int} {T M:Nat} {f:Int→Option Nat} {g:Int→Value} {A:List Rt} {w:World}(h:MT me T M f g A w) {d:Int} {x:Rt}(hl:aJ A d=some x) {B:Nat}(hB:f d=some B):mg T M f g A B:=by
 obtain⟨hx,hxd,_⟩:=h.line hl;exact .inr(.inr⟨x,hx,.inl(by rw [hxd];exact hB)⟩)
theorem MT.abW {me:Int} {T M:Nat} {f:Int→Option Nat} {g:Int→Value} {A:List Rt} {w:World}(h:MT me T M f g A w) {d:Int} {x:Rt}(hl:aJ A d=some x) {B:Nat}(hB:f d=some B):(g d).ownBlock≠some B:=by
 obtain⟨_,_,B',hB',hL,hR⟩:=h.line hl;rw [hB]at hB';cases hB';exact aA hR hL(fun c e=>by cases e)
theorem MT.Yl {me:Int} {T M:Nat} {f:Int→Option Nat} {g:Int→Value} {A:List Rt} {w w':World}(h:MT me T M f g A w) {S:Nat→Prop}(hS:∀k,mg T M f g A k→S k) {d:Int} {x:Rt}(hl:aJ A d=some x) {B:Nat}(hB:f d=some B)(hg:w.grownBy w'(some B))
  (F:Rt→Rt)(hFd:∀y,(F y).dest=y.dest)(hok:(F x).Ok)(v:Value)(hv:v.ownBlock=none∨v.ownBlock=(g d).ownBlock)(hx':dP B(F x)v w')(hr':w'.ownsRow 0 34 1 v(F x).bB.length((F x).bB.map aU)):
  Ag me T S(gI A d F)w':=by
 have ht:=h.turn(W':=w')hl hB F hFd hok v hx' hr'(by rcases hv with e|e;exact .inl e;exact .inr(.inl e))(fun k hk hkB _=>hg.block k(h.lt hk)(fun e=>hkB(by cases e;rfl)));refine⟨M,f,_,ht.1,fun k hk=> ?_⟩;rcases ht.2 k hk with h1|h1
 ·exact hS k h1
 ·rcases hv with e|e
  ·rw [e]at h1;cases h1
  ·obtain⟨hx,hxd,_⟩:=h.line hl;exact hS k(.inr(.inr⟨x,hx,.inr(by rw [hxd,←e];exact h1)⟩))
def bW:Rt:=⟨0,0,0,0,false,0,[]⟩
def sI(e:Int)(y:Rt):Rt:=if y.valid then {y with exp:=max y.exp e}else y
def iy(A:List Rt)(d e:Int):List Rt:=gI A d(sI e)
theorem lQ(e:Int)(y:Rt):(sI e y).dest=y.dest:=by
 unfold sI;split<;>rfl
def bY(aI s:Int)(y:Rt):Rt:=if y.valid&&(y.next==aI)then pY y s else y
theorem dZ(aI s:Int)(y:Rt):(bY aI s y).dest=y.dest:=by
 unfold bY;split<;>rfl
def gm(A:List Rt)(aI d s:Int):List Rt:=gI A d(bY aI s)
def l9(A:List Rt)(aI d:Int):Bool:=(aJ A d).any fun y=>y.valid&&(y.next==aI)
def bF(A:List Rt)(d now:Int):Rt×Bool:=
 match aJ A d with
 |some x=>if x.valid&&decide(x.exp>now)then(x,true)else(bW,false)
 |none=>(bW,false)
theorem o7 {A:List Rt}(h:Asc A) {d:Int} {f:Rt→Rt}(hf:∀x,aJ A d=some x→f x=x):gI A d f=A:=by
 unfold gI;conv=>rhs;rw [←List.map_id A]
 refine List.map_congr_left fun x hx=> ?_;by_cases e:x.dest=d
 ·simp only [e,if_true];exact hf x(by rw [←e];exact jm h hx)
 ·simp [e]
theorem MT.later {me:Int} {T M:Nat} {f:Int→Option Nat} {g:Int→Value} {A:List Rt} {W W':World}(h:MT me T M f g A W)(hb:Below W.heap.size W W'):MT me T M f g A W':=
 h.kept fun k hk=>hb.block k(h.lt hk)
def sH(f:Int→Option Nat)(A:List Rt)(d:Int):Value:=
 match aJ A d with
 |some x=>if x.valid then .pointer((f d).map fun B=>⟨B,0,none⟩)else .pointer none
 |none=> .pointer none
theorem qW {me:Int} {T M:Nat} {f:Int→Option Nat} {g:Int→Value} {A:List Rt} {w:World}(h:MT me T M f g A w) {d:Int}(hd:bg d):
  Calls Tryz.prog 116 #[.pointer(some⟨T,0,none⟩),.int .u32 d]w fun e w'=>e=.returned(sH f A d)∧w'=w:=by
 cases hl:aJ A d with
 |none=>
  have:=Ip T M A.length me f d hd(h.off hd hl)w h.blk h.map;unfold sH;rw [hl];exact this
 |some x=>
  obtain⟨hx,hxd,B,hB,hL,_⟩:=h.line hl;have:=Io T M A.length B me f d hd hB x(g d)w h.blk h.map hL;unfold sH;rw [hl,hB];refine this.mono ?_;rintro e w'⟨rfl,rfl⟩;refine⟨?_,rfl⟩;by_cases hxv:x.valid=true<;>simp [hxv]
theorem Vh {a b:Int}(h:Af a)(h':Af b):Af(max a b):=by
 unfold Af at *;omega
theorem Ug(T:Nat)(d ex:Int)(B:Nat)(x:Rt)(v:Value)(w:World)(hv:Calls Tryz.prog 116 #[.pointer(some⟨T,0,none⟩),.int .u32 d]w fun e w'=>e=.returned(.pointer(some⟨B,0,none⟩))∧w'=w)(h:dP B x v w):
  Calls Tryz.prog 81 #[.pointer(some⟨T,0,none⟩),.int .u32 d,.int .u64 ex]w fun e w'=>e=.returned(.tuple #[])∧dP B {x with exp:=max x.exp ex}v w'∧w.grownBy w'(some B):=by
 obtain⟨c0,c1,c2,c3,c4,c5,c6⟩:=h.cell;have hf:=h.free;have h1:Hid(∀y:Int,y=max x.exp ex→dP B {x with exp:=max x.exp ex}v(w.setCell⟨B,5,none⟩(.int .u64 y))):=by
  rintro y rfl;exact h.M4 _
 have hg:∀u,w.grownBy(w.setCell⟨B,5,none⟩u)(some B):=fun u=>aa(aC _ _)5 _;have HV:=(show Hid _ from hv);clear hv;go_enter Tryz.func81,Tryz.ntmps81
 go_wp2_with fail
 refine Calls.mono HV.out ?_;rintro e w1⟨rfl,rfl⟩;clear HV;go_wp2
 all_goals
  go_returns
  exact⟨rfl,h1.out _(by omega),hg _⟩
theorem Uf(T:Nat)(d ex:Int)(w:World)(hv:Calls Tryz.prog 116 #[.pointer(some⟨T,0,none⟩),.int .u32 d]w fun e w'=>e=.returned(.pointer none)∧w'=w):
  Calls Tryz.prog 81 #[.pointer(some⟨T,0,none⟩),.int .u32 d,.int .u64 ex]w fun e w'=>e=.returned(.tuple #[])∧w'=w:=by
 have HV:=(show Hid _ from hv);clear hv;go_enter Tryz.func81,Tryz.ntmps81
 go_wp2_with fail
 refine Calls.mono HV.out ?_;rintro e w1⟨rfl,rfl⟩;clear HV;go_wp2
 go_returns
 exact⟨rfl,rfl⟩
theorem Mk(me:Int)(T:Nat)(S:Nat→Prop)(A:List Rt)(d ex:Int)(hd:bg d)(he:Af ex)(w:World)(h:Ag me T S A w):
  Calls Tryz.prog 81 #[.pointer(some⟨T,0,none⟩),.int .u32 d,.int .u64 ex]w fun e w'=>e=.returned(.tuple #[])∧Ag me T S(iy A d ex)w'∧Fx S w w':=by
 obtain⟨M,f,g,hM,hS⟩:=h;have hv:=qW hM hd;unfold sH at hv;cases hl:aJ A d with
 |none=>
  rw [hl]at hv;refine(Uf T d ex w hv).mono ?_;rintro e w'⟨rfl,rfl⟩;refine⟨rfl,⟨M,f,g,?_,?_⟩,Fx.refl _ _⟩
  ·unfold iy;rw [nV hl];exact hM
  ·unfold iy;rw [nV hl];exact hS
 |some x=>
  rw [hl]at hv;obtain⟨hx,hxd,B,hB,hL,hR⟩:=hM.line hl;rw [hB]at hv;cases hxv:x.valid with
  |false=>
   simp only [hxv]at hv;refine(Uf T d ex w hv).mono ?_;rintro e w'⟨rfl,rfl⟩;have hid:iy A d ex=A:=o7 hM.wC fun y hy=>by
    rw [hl]at hy;cases hy;simp [sI,hxv]
   rw [hid];exact⟨rfl,⟨M,f,g,hM,hS⟩,Fx.refl _ _⟩
  |true=>
   simp only [hxv,if_true,Option.map_some]at hv;refine(Ug T d ex B x(g d)w hv hL).mono ?_;rintro e w'⟨rfl,hL',hg⟩;have hok:=hM.ok x hx;have hF:sI ex x={x with exp:=max x.exp ex}:=if_pos hxv;refine⟨rfl,hM.Yl hS(w':=w')hl hB hg(sI ex)(lQ ex) ?_(g d)(.inr rfl) ?_ ?_,Fx.grown hg(fun k e=>by cases e;exact hS _(hM.inB hl hB))⟩
   ·rw [hF];exact⟨hok.dest,hok.seq,hok.hops,hok.next,Vh hok.exp he,hok.O_,hok.bB,hok.wC⟩
   ·rw [hF];exact hL'
   ·rw [hF];exact bD hR(fun k hk=>hg.block k(hR.lt k hk).2(fun e=>hM.abW hl hB(by rw [hk,e])))
theorem Pq(T:Nat)(aI d s:Int)(B:Nat)(x:Rt)(v:Value)(w:World)(hv:Calls Tryz.prog 116 #[.pointer(some⟨T,0,none⟩),.int .u32 d](w.alloc(.cells #[.int .u32 d,.int .u32 s]237))fun e w'=>e=.returned(.pointer(some⟨B,0,none⟩))∧w'=(w.alloc(.cells #[.int .u32 d,.int .u32 s]237)))(h:dP B x v w):
  Calls Tryz.prog 168 #[.pointer(some⟨T,0,none⟩),.int .u32 aI,.agg #[.int .u32 d,.int .u32 s]]w fun e w'=>e=.returned(.bool(x.next==aI))∧(if x.next==aI then dP B(pY x s)(.slice none 0 0)w'∧w.grownBy w'(some B)else Below w.heap.size w w'):=by
 have hb:Below w.heap.size w(w.alloc(.cells #[.int .u32 d,.int .u32 s]237)):=(Below.refl _ _).alloc(Nat.le_refl _)_;have hL:=h.later hb;obtain⟨c0,c1,c2,c3,c4,c5,c6⟩:=hL.cell;have HV:=(show Hid _ from hv);clear hv;cases hq:(x.next==aI)
 ·go_enter Tryz.func168,Tryz.ntmps168
  go_wp2_with fail
  refine Calls.mono HV.out ?_;rintro e w1⟨rfl,rfl⟩;clear HV;go_wp2
  go_ret
  exact⟨rfl,by simpa using hb⟩
 ·go_enter Tryz.func168,Tryz.ntmps168
  go_wp2_with fail
  refine Calls.mono HV.out ?_;rintro e w1⟨rfl,rfl⟩;clear HV;go_wp2_with fail
  refine(D9 B x v s _ hL).mono ?_;rintro e w2⟨rfl,hL2,hg2⟩;clear c0 c1 c2 c3 c4 c5 c6 hL;have hg:w.grownBy w2(some B):=⟨hg2.os,hg2.tape,hg2.output,Nat.le_trans hb.size hg2.size,fun k hk hn=>(hg2.block k(Nat.lt_of_lt_of_le hk hb.size)hn).trans(hb.block k hk)⟩;clear hb hg2;go_wp2
  go_ret
  exact⟨rfl,by simpa using⟨hL2,hg⟩⟩
theorem MC(T:Nat)(aI d s:Int)(w:World)(hv:Calls Tryz.prog 116 #[.pointer(some⟨T,0,none⟩),.int .u32 d](w.alloc(.cells #[.int .u32 d,.int .u32 s]237))fun e w'=>e=.returned(.pointer none)∧w'=(w.alloc(.cells #[.int .u32 d,.int .u32 s]237))):
  Calls Tryz.prog 168 #[.pointer(some⟨T,0,none⟩),.int .u32 aI,.agg #[.int .u32 d,.int .u32 s]]w fun e w'=>e=.returned(.bool false)∧Below w.heap.size w w':=by
 have hb:Below w.heap.size w(w.alloc(.cells #[.int .u32 d,.int .u32 s]237)):=(Below.refl _ _).alloc(Nat.le_refl _)_;have HV:=(show Hid _ from hv);clear hv;go_enter Tryz.func168,Tryz.ntmps168
 go_wp2_with fail
 refine Calls.mono HV.out ?_;rintro e w1⟨rfl,rfl⟩;clear HV;go_wp2
 go_ret
 exact⟨rfl,hb⟩
theorem UD(me:Int)(T:Nat)(S:Nat→Prop)(A:List Rt)(aI d s:Int)(hd:bg d)(hs:bg s)(w:World)(h:Ag me T S A w):
  Calls Tryz.prog 168 #[.pointer(some⟨T,0,none⟩),.int .u32 aI,.agg #[.int .u32 d,.int .u32 s]]w fun e w'=>e=.returned(.bool(l9 A aI d))∧Ag me T S(gm A aI d s)w'∧Fx S w w':=by
 obtain⟨M,f,g,hM,hS⟩:=h;have hb:Below w.heap.size w(w.alloc(.cells #[.int .u32 d,.int .u32 s]237)):=(Below.refl _ _).alloc(Nat.le_refl _)_;have hv:=qW(hM.later hb)hd;unfold sH at hv;cases hl:aJ A d with
 |none=>
  rw [hl]at hv;refine(MC T aI d s w hv).mono ?_;rintro e w'⟨rfl,hb'⟩;have h1:l9 A aI d=false:=by unfold l9;rw [hl];rfl
  have h2:gm A aI d s=A:=by unfold gm;rw [nV hl]
  rw [h1,h2];exact⟨rfl,⟨M,f,g,hM.later hb',hS⟩,Fx.below hb'⟩
 |some x=>
  rw [hl]at hv;obtain⟨hx,hxd,B,hB,hL,hR⟩:=hM.line hl;rw [hB]at hv;cases hxv:x.valid with
  |false=>
   simp only [hxv]at hv;refine(MC T aI d s w hv).mono ?_;rintro e w'⟨rfl,hb'⟩;have h1:l9 A aI d=false:=by unfold l9;rw [hl];simp [hxv]
   have h2:gm A aI d s=A:=o7 hM.wC fun y hy=>by
    rw [hl]at hy;cases hy;simp [bY,hxv]
   rw [h1,h2];exact⟨rfl,⟨M,f,g,hM.later hb',hS⟩,Fx.below hb'⟩
  |true=>
   simp only [hxv,if_true,Option.map_some]at hv;refine(Pq T aI d s B x(g d)w hv hL).mono ?_;rintro e w'⟨rfl,hif⟩;have h1:l9 A aI d=(x.next==aI):=by unfold l9;rw [hl];simp [hxv]
   rw [h1];cases hq:(x.next==aI)with
   |false=>
    rw [hq,if_neg(by simp)]at hif;have h2:gm A aI d s=A:=o7 hM.wC fun y hy=>by
     rw [hl]at hy;cases hy;simp [bY,hq]
    rw [h2];exact⟨rfl,⟨M,f,g,hM.later hif,hS⟩,Fx.below hif⟩
   |true=>
    rw [hq,if_pos rfl]at hif;obtain⟨hL',hg⟩:=hif;have hF:bY aI s x=pY x s:=by simp [bY,hxv,hq]
    refine⟨rfl,hM.Yl hS(w':=w')hl hB hg(bY aI s)(dZ aI s) ?_(.slice none 0 0)(.inl rfl) ?_ ?_,Fx.grown hg(fun k e=>by cases e;exact hS _(hM.inB hl hB))⟩
    ·rw [hF];exact uV(hM.ok x hx)hs
    ·rw [hF];exact hL'
    ·rw [hF];exact⟨rfl,.inl⟨rfl,rfl⟩⟩
end Go.Proofs.YtakaadcpaeiccabGreat
