import Derived.Test.YtakaadcpaeiccabGreatC01
import Derived.Maps.OwnSet
import Derived.BigRegion
import Derived.ChangeAlike
import Derived.Deep.RegionHeld3
import Derived.Deep.QuietTactic
import Derived.BigQuiet
set_option maxHeartbeats 1000000
namespace Go.Proofs.YtakaadcpaeiccabGreat
open Go.RowKit Go.Maps
open Hp
theorem yB:Keyed Tryz.prog 3:=int_keyed Tryz.underlying3
theorem Vo(w:World):(zeroValue 3).run Tryz.prog w=.ok(.int .i64 0)w:=by kernel_rfl
theorem WO:(Tryz.prog.info? 254).map(fun i=>(i.zero,i.size,i.bytes))=some(some(.agg #[.int .u64 0,.int .i64 0,.int .i64 0]),3,24):=by kernel_rfl
def oC(k:Int):Prop:=-9223372036854775808≤k∧k≤9223372036854775807
theorem oC.wf {k:Int}(h:oC k):(Lit.int .i64 k).wf=true:=WalkArith.wf_i64 h
theorem oC.key {k:Int}(h:oC k):keyOf Tryz.prog 3(.int .i64 k)=some(.int .i64 k):=keyOf_int_mk Tryz.underlying3 h.wf
def j4(W:World)(M:Nat)(f:Int→Option Nat)(s:Nat):Prop:=
 ∃D:DataW Unit,W.ownsMap Tryz.prog 3(plainElem Tryz.prog 3)M s D∧Maps.size D=s∧
  ∀k,oC k→Maps.has D(.int .i64 k)=(f k).isSome∧∀v,f k=some v→∀zd,D.atKey(.int .i64 k)zd=.lit(.int .i64(v:Int))
def upd(f:Int→Option Nat)(k:Int)(v:Option Nat):Int→Option Nat:=fun x=>if x=k then v else f x
theorem fD {P:Program} {k:TypeId} {R:Value→Option(DataW Unit×List MemPlace)} {w:World} {b n:Nat} {D:DataW Unit}(h:w.ownsMap P k R b n D):w.ownsMap P k R b(Maps.size D)D:=by
 obtain⟨es,clock,hb,F,hs,rfl⟩:=h;refine⟨es,clock,hb,F,?_,rfl⟩;simp [Maps.size,length_sorted]
theorem j4.made(w:World):j4(w.alloc(.map #[]0))w.heap.size(fun _=>none)0:=by
 refine⟨.map [],World.ownsMap_made w _ _ _,rfl,fun k _=>⟨?_,fun v hv=>by cases hv⟩⟩;rfl
theorem j4.kept {W W':World} {M:Nat} {f:Int→Option Nat} {s:Nat} {row:Option Nat}(h:j4 W M f s)(hg:W.grownBy W' row)(hne:some M≠row):j4 W' M f s:=by
 obtain⟨D,h1,h2,h3⟩:=h;exact⟨D,h1.kept hg hne,h2,h3⟩
theorem j4.lt {W:World} {M:Nat} {f:Int→Option Nat} {s:Nat}(h:j4 W M f s):M<W.heap.size:=by
 obtain⟨D,h1,_⟩:=h;exact h1.lt
theorem j4.put {W:World} {M:Nat} {f:Int→Option Nat} {s:Nat}(h:j4 W M f s)(hs:s<maxLen) {k:Int}(hk:oC k) {v:Nat}(hv:oC(v:Int)):
  ∃W',(Instr.mapUpdate 162(.map(some M))(.int .i64 k)(.int .i64(v:Int))).run Tryz.prog W=.ok()W'∧j4 W' M(upd f k(some v))(if(f k).isSome then s else s+1)∧W.grownBy W'(some M):=by
 obtain⟨D,h1,h2,h3⟩:=h;obtain⟨W',hr,ho,ht⟩:=h1.store yB Tryz.underlying162 hs hk.key(plainElem_int Tryz.underlying3 hv.wf);have hm:=h1.isMap;have htd:=h1.tidy yB;have hkl:WideAt.IsKeyLit(.int .i64 k):=by trivial
 have hsz:Maps.size(D.put(.int .i64 k)(.lit(.int .i64(v:Int))))=if(f k).isSome then s else s+1:=by
  rw [size_put htd,(h3 k hk).1,h2]
 refine⟨W',hr,⟨_,?_,hsz,fun x hx=> ?_⟩,ht.grown⟩
 ·have:=fD ho;rw [hsz]at this;exact this
 ·by_cases e:x=k
  ·subst e;refine⟨by rw [has_put_same hm hkl];simp [upd],fun u hu zd=> ?_⟩;simp only [upd,if_true,Option.some.injEq]at hu;subst hu;exact atKey_put_same hm hkl _ zd
  ·have hne:(Lit.int .i64 x)≠ .int .i64 k:=fun h=>e(by cases h;rfl);refine⟨by rw [has_put_other hne];simp [upd,e,(h3 x hx).1],fun u hu zd=> ?_⟩;simp only [upd,if_neg e]at hu;rw [atKey_put_other hne];exact(h3 x hx).2 u hu zd
theorem j4.del {W:World} {M:Nat} {f:Int→Option Nat} {s:Nat}(h:j4 W M f s) {k:Int}(hk:oC k)(ty:TypeId)(hf:(f k).isSome=true):
  ∃W',(Builtin.delete_ #[162,3]ty #[.map(some M),.int .i64 k]).run Tryz.prog W=.ok(.tuple #[])W'∧j4 W' M(upd f k none)(s - 1)∧W.grownBy W'(some M):=by
 obtain⟨D,h1,h2,h3⟩:=h;obtain⟨W',hr,ho,ht⟩:=h1.drop yB Tryz.underlying162 hk.key ty;have htd:=h1.tidy yB;have hsz:Maps.size(D.del(.int .i64 k))=s - 1:=by
  have:=size_del(k:=.int .i64 k)htd;rw [(h3 k hk).1,hf,h2]at this;simp at this;omega
 refine⟨W',hr,⟨_,?_,hsz,fun x hx=> ?_⟩,ht.grown⟩
 ·have:=fD ho;rw [hsz]at this;exact this
 ·by_cases e:x=k
  ·subst e;refine⟨by rw [has_del_same];simp [upd],fun u hu zd=> ?_⟩;simp [upd]at hu
  ·have hne:(Lit.int .i64 x)≠ .int .i64 k:=fun h=>e(by cases h;rfl);refine⟨by rw [has_del_other hne];simp [upd,e,(h3 x hx).1],fun u hu zd=> ?_⟩;simp only [upd,if_neg e]at hu;rw [atKey_del_other hne];exact(h3 x hx).2 u hu zd
theorem j4.look {W:World} {M:Nat} {f:Int→Option Nat} {s:Nat}(h:j4 W M f s) {k:Int}(hk:oC k):
  ∃v:Int,(Instr.lookup 162(.map(some M))(.int .i64 k)true).run Tryz.prog W=.ok(.tuple #[.int .i64 v,.bool(f k).isSome])W∧∀u,f k=some u→v=(u:Int):=by
 obtain⟨D,h1,h2,h3⟩:=h;obtain⟨v,ps,hr,hv⟩:=h1.look_ok yB Tryz.underlying162(Vo W)(plainElem_int Tryz.underlying3(by decide))hk.key;obtain⟨c,rfl,he,_⟩:=plainElem_int_inv Tryz.underlying3 hv;rw [(h3 k hk).1]at hr;refine⟨c,hr,fun u hu=> ?_⟩;have:=(h3 k hk).2 u hu(.lit(.int .i64 0));rw [this]at he;simp at he;exact he.1.symm
theorem fF:Keyed Tryz.prog 34:=int_keyed Tryz.underlying34
theorem Kk(w:World):(zeroValue 34).run Tryz.prog w=.ok(.int .u32 0)w:=by kernel_rfl
def bg(k:Int):Prop:=0≤k∧k≤4294967295
theorem bg.wf {k:Int}(h:bg k):(Lit.int .u32 k).wf=true:=WalkArith.wf_u32 h
theorem bg.key {k:Int}(h:bg k):keyOf Tryz.prog 34(.int .u32 k)=some(.int .u32 k):=keyOf_int_mk Tryz.underlying34 h.wf
def jJ(f:Int→Option Int)(k:Int)(v:Option Int):Int→Option Int:=fun x=>if x=k then v else f x
def MapU(W:World)(M:Nat)(f:Int→Option Int)(s:Nat):Prop:=
 ∃D:DataW Unit,W.ownsMap Tryz.prog 34(plainElem Tryz.prog 34)M s D∧Maps.size D=s∧
  ∀k,bg k→Maps.has D(.int .u32 k)=(f k).isSome∧D.atKey(.int .u32 k)(.lit(.int .u32 0))=.lit(.int .u32((f k).getD 0))
theorem MapU.kept {W W':World} {M:Nat} {f:Int→Option Int} {s:Nat} {row:Option Nat}(h:MapU W M f s)(hg:W.grownBy W' row)(hne:some M≠row):MapU W' M f s:=by
 obtain⟨D,h1,h2,h3⟩:=h;exact⟨D,h1.kept hg hne,h2,h3⟩
theorem MapU.lt {W:World} {M:Nat} {f:Int→Option Int} {s:Nat}(h:MapU W M f s):M<W.heap.size:=by
 obtain⟨D,h1,_⟩:=h;exact h1.lt
theorem MapU.made(w:World):MapU(w.alloc(.map #[]0))w.heap.size(fun _=>none)0:=
 ⟨.map [],World.ownsMap_made w _ _ _,rfl,fun _ _=>⟨rfl,rfl⟩⟩
theorem MapU.put {W:World} {M:Nat} {f:Int→Option Int} {s:Nat}(h:MapU W M f s)(hs:s<maxLen) {k:Int}(hk:bg k) {v:Int}(hv:bg v):
  ∃W',(Instr.mapUpdate 115(.map(some M))(.int .u32 k)(.int .u32 v)).run Tryz.prog W=.ok()W'∧MapU W' M(jJ f k(some v))(if(f k).isSome then s else s+1)∧W.grownBy W'(some M):=by
 obtain⟨D,h1,h2,h3⟩:=h;obtain⟨W',hr,ho,ht⟩:=h1.store fF Tryz.underlying115 hs hk.key(plainElem_int Tryz.underlying34 hv.wf);have hm:=h1.isMap;have htd:=h1.tidy fF;have hkl:WideAt.IsKeyLit(.int .u32 k):=by trivial
 have hsz:Maps.size(D.put(.int .u32 k)(.lit(.int .u32 v)))=if(f k).isSome then s else s+1:=by
  rw [size_put htd,(h3 k hk).1,h2]
 refine⟨W',hr,⟨_,?_,hsz,fun x hx=> ?_⟩,ht.grown⟩
 ·have:=fD ho;rw [hsz]at this;exact this
 ·by_cases e:x=k
  ·subst e;refine⟨by rw [has_put_same hm hkl];simp [jJ],?_⟩;rw [atKey_put_same hm hkl];simp [jJ]
  ·have hne:(Lit.int .u32 x)≠ .int .u32 k:=fun h=>e(by cases h;rfl);refine⟨by rw [has_put_other hne];simp [jJ,e,(h3 x hx).1],?_⟩;rw [atKey_put_other hne,(h3 x hx).2];simp [jJ,e]
theorem MapU.look {W:World} {M:Nat} {f:Int→Option Int} {s:Nat}(h:MapU W M f s) {k:Int}(hk:bg k):
  (Instr.lookup 115(.map(some M))(.int .u32 k)false).run Tryz.prog W=.ok(.int .u32((f k).getD 0))W:=by
 obtain⟨D,h1,h2,h3⟩:=h;obtain⟨v,ps,hr,hv⟩:=h1.lookup fF Tryz.underlying115(Kk W)(plainElem_int Tryz.underlying34(by decide))hk.key;obtain⟨c,rfl,he,_⟩:=plainElem_int_inv Tryz.underlying34 hv;rw [(h3 k hk).2]at he;simp at he;rw [hr,he.1]
theorem ru(B:Nat)(w:World)(hc:w.cell?⟨B,1,none⟩=some(.int .i64 1)):
  Calls Tryz.prog 86 #[.pointer(some⟨B,0,none⟩)]w fun e w'=>e=.returned(.slice(some⟨w.heap.size,0,none⟩)5 5)∧
   w'=(w.alloc(.cells #[.pointer(some⟨B,4,none⟩),.pointer(some⟨B,5,none⟩),.pointer(some⟨B,6,none⟩),.pointer(some⟨B,7,none⟩),.pointer(some⟨B,8,none⟩)]189)).drew:=by
 go_enter Tryz.func86,Tryz.ntmps86
 go_wp2
 go_region_held3(fun _=>True)(trivial)(fail)
 go_wp2
 all_goals(go_ret;exact⟨rfl,rfl⟩)
theorem rq(B:Nat)(w:World)(hc:w.cell?⟨B,1,none⟩=some(.int .i64 2)):
  Calls Tryz.prog 86 #[.pointer(some⟨B,0,none⟩)]w fun e w'=>e=.returned(.slice(some⟨w.heap.size,0,none⟩)4 4)∧
   w'=(w.alloc(.cells #[.pointer(some⟨B,5,none⟩),.pointer(some⟨B,6,none⟩),.pointer(some⟨B,7,none⟩),.pointer(some⟨B,9,none⟩)]189)).drew:=by
 go_enter Tryz.func86,Tryz.ntmps86
 go_wp2
 go_region_held3(fun _=>True)(trivial)(fail)
 go_wp2
 all_goals(go_ret;exact⟨rfl,rfl⟩)
theorem rf(B:Nat)(w:World)(hc:w.cell?⟨B,1,none⟩=some(.int .i64 9)):
  Calls Tryz.prog 86 #[.pointer(some⟨B,0,none⟩)]w fun e w'=>e=.returned(.slice(some⟨w.heap.size,0,none⟩)3 3)∧
   w'=(w.alloc(.cells #[.pointer(some⟨B,4,none⟩),.pointer(some⟨B,5,none⟩),.pointer(some⟨B,7,none⟩)]189)).drew:=by
 go_enter Tryz.func86,Tryz.ntmps86
 go_wp2
 go_region_held3(fun _=>True)(trivial)(fail)
 go_wp2
 all_goals(go_ret;exact⟨rfl,rfl⟩)
theorem ky(B:Nat)(k:Int)(h1:(k==1)=false)(h2:(k==2)=false)(h9:(k==9)=false)(w:World)(hc:w.cell?⟨B,1,none⟩=some(.int .i64 k)):
  Calls Tryz.prog 86 #[.pointer(some⟨B,0,none⟩)]w fun e w'=>e=.returned(.slice none 0 0)∧w'=w:=by
 go_enter Tryz.func86,Tryz.ntmps86
 go_wp2
 all_goals(go_ret;exact⟨rfl,rfl⟩)
def ah.kW(p:ah):ah:=
 if p.kind=1 then {p with hops:=0,iK:=false,id:=0,dest:=0,aW:=0,aI:=0,dm:=0}
 else if p.kind=2 then {p with hops:=0,dest:=0,aW:=0,aI:=0,life:=0}
 else if p.kind=3 then {p with la:=none,ln:=0,lc:=0}
 else if p.kind=9 then {p with id:=0,dest:=0,aI:=0,pay:=⟨#[]⟩}
 else p
theorem OL(p:ah)(hk:p.kind=1)(w:World):
  Calls Tryz.prog 128 #[p.val]w fun e w'=>e=.returned p.kW.val∧Below w.heap.size w w':=by
 obtain⟨aS,kind,hops,iK,id,dest,aW,aI,dm,life,la,ln,lc,pay⟩:=p;simp only at hk;subst hk;go_enter Tryz.func128,Tryz.ntmps128
 go_wp2_with(go_at_call 86;refine(ru _ _ ?_).mono ?_;(simp [go_sem]);rintro e w'⟨rfl,rfl⟩)
 go_rounds 6
 all_goals(go_returns;refine⟨rfl,?_⟩;go_grown)
theorem OJ(p:ah)(hk:p.kind=2)(w:World):
  Calls Tryz.prog 128 #[p.val]w fun e w'=>e=.returned p.kW.val∧Below w.heap.size w w':=by
 obtain⟨aS,kind,hops,iK,id,dest,aW,aI,dm,life,la,ln,lc,pay⟩:=p;simp only at hk;subst hk;go_enter Tryz.func128,Tryz.ntmps128
 go_wp2_with(go_at_call 86;refine(rq _ _ ?_).mono ?_;(simp [go_sem]);rintro e w'⟨rfl,rfl⟩)
 go_rounds 5
 all_goals(go_returns;refine⟨rfl,?_⟩;go_grown)
theorem OI(p:ah)(hk:p.kind=3)(w:World):
  Calls Tryz.prog 128 #[p.val]w fun e w'=>e=.returned p.kW.val∧Below w.heap.size w w':=by
 obtain⟨aS,kind,hops,iK,id,dest,aW,aI,dm,life,la,ln,lc,pay⟩:=p;simp only at hk;subst hk;go_enter Tryz.func128,Tryz.ntmps128
 go_wp2_with(go_at_call 86;refine(ky _ 3 rfl rfl rfl _ ?_).mono ?_;(simp [go_sem]);rintro e w'⟨rfl,rfl⟩)
 go_rounds 1
 all_goals(go_returns;refine⟨rfl,?_⟩;go_grown)
theorem OH(p:ah)(hk:p.kind=9)(w:World):
  Calls Tryz.prog 128 #[p.val]w fun e w'=>e=.returned p.kW.val∧Below w.heap.size w w':=by
 obtain⟨aS,kind,hops,iK,id,dest,aW,aI,dm,life,la,ln,lc,pay⟩:=p;simp only at hk;subst hk;go_enter Tryz.func128,Tryz.ntmps128
 go_wp2_with(go_at_call 86;refine(rf _ _ ?_).mono ?_;(simp [go_sem]);rintro e w'⟨rfl,rfl⟩)
 go_rounds 4
 all_goals(go_returns;refine⟨rfl,?_⟩;go_grown)
theorem OM(p:ah)(h1:(p.kind==1)=false)(h2:(p.kind==2)=false)(h3:(p.kind==3)=false)(h9:(p.kind==9)=false)(w:World):
  Calls Tryz.prog 128 #[p.val]w fun e w'=>e=.returned p.kW.val∧Below w.heap.size w w':=by
 have hf:p.kW=p:=by
  unfold ah.kW;simp only [beq_eq_false_iff_ne,ne_eq]at h1 h2 h3 h9;simp [h1,h2,h3,h9]
 rw [hf];clear hf;go_enter Tryz.func128,Tryz.ntmps128
 go_wp2_with(go_at_call 86;refine(ky _ p.kind h1 h2 h9 _ ?_).mono ?_;(simp [go_sem]);rintro e w'⟨rfl,rfl⟩)
 go_rounds 1
 all_goals(go_returns;refine⟨rfl,?_⟩;go_grown)
theorem xw(p:ah)(w:World):
  Calls Tryz.prog 128 #[p.val]w fun e w'=>e=.returned p.kW.val∧Below w.heap.size w w':=by
 by_cases h1:p.kind=1
 ·exact OL p h1 w
 by_cases h2:p.kind=2
 ·exact OJ p h2 w
 by_cases h3:p.kind=3
 ·exact OI p h3 w
 by_cases h9:p.kind=9
 ·exact OH p h9 w
 exact OM p(by simpa using h1)(by simpa using h2)(by simpa using h3)(by simpa using h9)w
@[reducible] def yt (p : ah) (w W : World) : Prop :=
 W.cell?⟨w.heap.size,0,none⟩=some(.int .i64 p.aS)∧W.cell?⟨w.heap.size,1,none⟩=some(.int .i64 p.kind)∧W.cell?⟨w.heap.size,2,none⟩=some(.int .i64 p.hops)∧
 W.cell?⟨w.heap.size,3,none⟩=some(.bool p.iK)∧W.cell?⟨w.heap.size,4,none⟩=some(.int .u32 p.id)∧W.cell?⟨w.heap.size,5,none⟩=some(.int .u32 p.dest)∧
 W.cell?⟨w.heap.size,6,none⟩=some(.int .u32 p.aW)∧W.cell?⟨w.heap.size,7,none⟩=some(.int .u32 p.aI)∧W.cell?⟨w.heap.size,8,none⟩=some(.int .u32 p.dm)∧
 W.cell?⟨w.heap.size,9,none⟩=some(.int .u32 p.life)∧W.cell?⟨w.heap.size,10,none⟩=some(.slice p.la p.ln p.lc)∧W.cell?⟨w.heap.size,11,none⟩=some(.string p.pay)∧
 w.heap.size<W.heap.size∧Below w.heap.size w W
theorem yt.start(p:ah)(w:World):yt p w(w.alloc p.box).drew:=
 ⟨World.cell?_alloc_new w _ _ _,World.cell?_alloc_new w _ _ _,World.cell?_alloc_new w _ _ _,World.cell?_alloc_new w _ _ _,World.cell?_alloc_new w _ _ _,World.cell?_alloc_new w _ _ _,
 World.cell?_alloc_new w _ _ _,World.cell?_alloc_new w _ _ _,World.cell?_alloc_new w _ _ _,World.cell?_alloc_new w _ _ _,World.cell?_alloc_new w _ _ _,World.cell?_alloc_new w _ _ _,
 by simp,((Below.refl _ _).alloc(Nat.le_refl _)_).drew⟩
theorem yt.below {p:ah} {w W W1:World}(h:yt p w W)(hb:Below W.heap.size W W1):yt p w W1:=by
 obtain⟨c0,c1,c2,c3,c4,c5,c6,c7,c8,c9,c10,c11,hs,hB⟩:=h;have k:∀i,W1.cell?⟨w.heap.size,i,none⟩=W.cell?⟨w.heap.size,i,none⟩:=fun i=>hb.cell(p:=⟨w.heap.size,i,none⟩)hs;exact⟨(k _).trans c0,(k _).trans c1,(k _).trans c2,(k _).trans c3,(k _).trans c4,(k _).trans c5,(k _).trans c6,(k _).trans c7,(k _).trans c8,(k _).trans c9,(k _).trans c10,(k _).trans c11,
  Nat.lt_of_lt_of_le hs hb.size,hB.trans(hb.mono(Nat.le_of_lt hs))⟩
theorem xz {B:Nat} {w w1 w2 w3:World}(h:Below B w w1)(hs:B<w1.heap.size)(h2:Below w1.heap.size w1 w2)(h3:Below w2.heap.size w2 w3):Below B w w3:=
 (h.trans(h2.mono(Nat.le_of_lt hs))).trans(h3.mono(Nat.le_trans(Nat.le_of_lt hs)h2.size))
def ah.dL(p:ah):Bool:=
 decide(1≤p.aS∧p.aS≤255)&&rY p.kind p.cnt&&!(p.iK&&p.aW !=0)&&p.kW.jV
theorem ah.Wf.kW {p:ah}(h:p.Wf):p.kW.Wf:=by
 obtain⟨h1,h2,h3,h4,h5,h6,h7,h8,h9,h10,h11,h12,U5,h14,h15,h16,h17,h18,h19,h20⟩:=h;unfold ah.kW;split
 ·constructor<;>(dsimp only;omega)
 split
 ·constructor<;>(dsimp only;omega)
 split
 ·constructor<;>(dsimp only;omega)
 split
 ·constructor<;>(first|(dsimp only;omega)|(simp [ByteArray.size]))
 ·constructor<;>assumption
theorem Ga(p:ah)(w:World)(ht:p.aS<1):
  Calls Tryz.prog 90 #[p.val]w fun e w'=>e=.returned(.bool false)∧Below w.heap.size w w':=by
 have d1:decide(p.aS<1)=true:=by simpa using ht
 go_enter Tryz.func90,Tryz.ntmps90
 go_wp2
 go_quiet(fail)
 all_goals go_wp2
 all_goals(go_ret;go_light;refine⟨rfl,below_drewN ?_ _⟩;go_grown)
theorem Gb(p:ah)(w:World)(ht:¬p.aS<1)(ht2:255<p.aS):
  Calls Tryz.prog 90 #[p.val]w fun e w'=>e=.returned(.bool false)∧Below w.heap.size w w':=by
 have d1:decide(p.aS<1)=false:=by simpa using ht
 have d2:decide(255<p.aS)=true:=by simpa using ht2
 go_enter Tryz.func90,Tryz.ntmps90
 go_wp2
 go_quiet(fail)
 all_goals go_wp2
 all_goals(go_ret;go_light;refine⟨rfl,below_drewN ?_ _⟩;go_grown)
theorem Dx(p:ah)(hp:p.Wf)(w:World)(ht:¬p.aS<1)(ht2:¬255<p.aS):
  Calls Tryz.prog 90 #[p.val]w fun e w'=>e=.returned(.bool(rY p.kind p.cnt&&!(p.iK&&p.aW !=0)&&p.kW.jV))∧Below w.heap.size w w':=by
 have d1:decide(p.aS<1)=false:=by simpa using ht
 have d2:decide(255<p.aS)=false:=by simpa using ht2
 go_enter Tryz.func90,Tryz.ntmps90
 go_wp2
 go_region_held3(yt p w)(first|exact yt.start p w|assumption|exact yt.below(by assumption)(by assumption))(first
  |(go_at_call 126;refine(Co p _).mono ?_;rintro e w1⟨rfl,hb1⟩)
  |(go_at_call 125;refine(Tu _ _ _).mono ?_;rintro e w1⟨rfl,rfl⟩))
 obtain⟨c0,c1,c2,c3,c4,c5,c6,c7,c8,c9,c10,c11,hs,hB⟩:yt p w _:=by assumption
 clear hb1;have hf:=hp.kW;have hz:p.kW.Wf:=hf;obtain⟨aS,kind,hops,iK,id,dest,aW,aI,dm,life,la,ln,lc,pay⟩:=p;cases iK;all_goals(try dsimp only at c0 c1 c2 c3 c4 c5 c6 c7 c8 c9 c10 c11)
 ·go_wp2_with(first
   |(go_at_call 128;refine(xw⟨aS,kind,hops,false,id,dest,aW,aI,dm,life,la,ln,lc,pay⟩_).mono ?_;rintro e w2⟨rfl,hb2⟩)
   |(go_at_call 127;refine(wV _ hz _).mono ?_;rintro e w3⟨rfl,hb3⟩))
  all_goals(go_ret;go_light;refine⟨kT ?_,?_⟩)
  all_goals first|(simp_all;done)|exact hB|exact xz hB hs hb2 hb3
 ·go_wp2_with(first
   |(go_at_call 128;refine(xw⟨aS,kind,hops,true,id,dest,aW,aI,dm,life,la,ln,lc,pay⟩_).mono ?_;rintro e w2⟨rfl,hb2⟩)
   |(go_at_call 127;refine(wV _ hz _).mono ?_;rintro e w3⟨rfl,hb3⟩))
  all_goals(go_ret;go_light;refine⟨kT ?_,?_⟩)
  all_goals first|(simp_all;done)|exact hB|exact xz hB hs hb2 hb3
theorem bz(p:ah)(hp:p.Wf)(w:World):
  Calls Tryz.prog 90 #[p.val]w fun e w'=>e=.returned(.bool p.dL)∧Below w.heap.size w w':=by
 by_cases h1:p.aS<1
 ·have:p.dL=false:=by
   unfold ah.dL;rw [decide_eq_false(by omega)];simp
  rw [this];exact Ga p w h1
 by_cases h2:255<p.aS
 ·have:p.dL=false:=by
   unfold ah.dL;rw [decide_eq_false(by omega)];simp
  rw [this];exact Gb p w h1 h2
 ·have:p.dL=(rY p.kind p.cnt&&!(p.iK&&p.aW !=0)&&p.kW.jV):=by
   unfold ah.dL;rw [decide_eq_true(by omega)];simp
  rw [this];exact Dx p hp w h1 h2
theorem uN:(Tryz.prog.info? 5).map(fun i=>(i.zero,i.size,i.bytes))=some(some(.int .u8 0),1,1):=by kernel_rfl
theorem Zq(w:World)(n:Int):
  Src Tryz.prog 1 58(.slice(some⟨w.heap.size,0,none⟩)4 4)4(U(b4 n))(w.alloc(.cells #[.int .u8(n / 16777216),.int .u8(n / 65536%256),.int .u8(n / 256%256),.int .u8(n%256)]5)):=by
 refine Src.ofSlice _ Tryz.underlying58 _ 4 4 _ rfl ?_ ?_
 ·intro j u hj;have hadd:(⟨w.heap.size,0,none⟩:Addr).add j=⟨w.heap.size,j,none⟩:=by unfold Addr.add;split<;>simp_all
  rw [hadd,World.cell?_alloc_new w];rw [←hj];simp [U,b4]
 ·intro u hu;simp only [U,b4,List.map_cons,List.map_nil,List.mem_cons,List.not_mem_nil,or_false]at hu;rcases hu with rfl|rfl|rfl|rfl<;>rfl
theorem dB(base:Nat)(v:Value)(n:Int)(xs:List Int)(w:World)(h0:0≤n)(h1:n<4294967296)
  (hown:w.ownsRow base 5 1 v xs.length(U xs))(hv:v≠ .slice none 0 0)(hb:base≤w.heap.size)(hlen:xs.length≤1000000):
  Calls Tryz.prog 57 #[v,.int .u32 n]w fun e w'=>∃v',e=.returned v'∧w'.ownsRow base 5 1 v'(xs++b4 n).length(U(xs++b4 n))∧w.grownBy w' v.ownBlock∧v'≠ .slice none 0 0:=by
 obtain⟨i0,hi,hz0,hz1,hz2⟩:=info_parts uN;have hsrc:=Zq w n;go_enter Tryz.func57,Tryz.ntmps57
 go_wp2_with(at_builtin;refine ik _ rfl _ _ 58 58 rfl base 5 i0(.int .u8 0)1 1 Tryz.underlying58 hi hz0 hz1 hz2 rfl v xs.length(U xs)rfl(hown.alloc _)hv _ 4(U(b4 n))rfl hsrc ?c1 ?c2 ?c3 ?_)
 case c1=>unfold maxLen;omega
 case c2=>omega
 case c3=>simp;omega
 intro v' w' hown' hgrow hv';go_wp2
 go_ret
 refine⟨v',rfl,?_,?_,hv'⟩
 ·rw [List.length_append,kH,←Ae];exact hown'
 ·have hg:=World.grownBy_alloc w(.cells #[.int .u8(n / 16777216),.int .u8(n / 65536%256),.int .u8(n / 256%256),.int .u8(n%256)]5)v.ownBlock;exact⟨hgrow.os.trans hg.os,hgrow.tape.trans hg.tape,hgrow.output.trans hg.output,Nat.le_trans hg.size hgrow.size,fun k hk hne=>(hgrow.block k(Nat.lt_of_lt_of_le hk hg.size)hne).trans(hg.block k hk hne)⟩
end Go.Proofs.YtakaadcpaeiccabGreat
namespace Go.Proofs.YtakaadcpaeiccabGreat.EJ
def g(c:Nat):Nat:=if c%2=1 then(c / 2)^^^ 3988292384 else c / 2
def gs:Nat→Nat→Nat
 |0,c=>c
 |k+1,c=>g(gs k c)
def tab(i:Nat):Nat:=gs 8 i
def step(s x:Nat):Nat:=tab((s%256)^^^ x)^^^ (s / 256)
def run:List Nat→Nat→Nat
 | [],s=>s
 |x::r,s=>run r(step s x)
theorem P9 {a b:Nat}(ha:a<4294967296)(hb:b<4294967296):a ^^^ b<4294967296:=Nat.xor_lt_two_pow(n:=32)ha hb
theorem afj {c:Nat}(h:c<4294967296):g c<4294967296:=by
 unfold g;split
 ·exact P9(by omega)(by omega)
 ·omega
theorem Tp {c:Nat}(h:c<4294967296):∀k,gs k c<4294967296
 |0=>h
 |k+1=>afj(Tp h k)
theorem Qf {i:Nat}(h:i<4294967296):tab i<4294967296:=Tp h 8
theorem yw {a b:Nat}(ha:a<256)(hb:b<256):a ^^^ b<256:=Nat.xor_lt_two_pow(n:=8)ha hb
theorem VH {s x:Nat}(hs:s<4294967296)(hx:x<256):step s x<4294967296:=by
 unfold step;have:=yw(Nat.mod_lt s(by decide:0<256))hx;exact P9(Qf(by omega))(by omega)
theorem Qv:∀(l:List Nat) {s:Nat},s<4294967296→(∀x∈l,x<256)→run l s<4294967296
 | [],_,h,_=>h
 |x::r,_,h,hx=>Qv r(VH h(hx x(by simp)))(fun y hy=>hx y(by simp [hy]))
theorem yP:∀(a b:List Nat)(s:Nat),run(a++b)s=run b(run a s)
 | [],_,_=>rfl
 |x::a,b,s=>yP a b(step s x)
end Go.Proofs.YtakaadcpaeiccabGreat.EJ
