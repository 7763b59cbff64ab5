import Derived.Test.YtakaadcpaeiccabGreatC61
set_option maxHeartbeats 8000000
set_option maxRecDepth 100000
namespace Go.Proofs.YtakaadcpaeiccabGreat
open Go.RowKit Go.Maps
theorem UE(ao:Option Addr)(g n c:Nat)(hao:0<n→ao=some⟨g,0,none⟩)(L:List Int)(d:Int)(w:World)(hn:n≤100)(hc:∀k,k<n→w.cell?⟨g,k,none⟩=some(.int .u32(L.getD k 0)))(hd:∀k,k<n→L.getD k 0≠d):
  Calls Tryz.prog 136 #[.slice ao n c,.int .u32 d]w fun e w'=>e=.returned(.int .i64(-1))∧w'=w:=by
 go_enter Tryz.func136,Tryz.ntmps136
 go_wp2_with fail
 go_loopw [8](fun i wr=>∃(j:Nat),j≤n∧i=.int .i64 j∧wr=w)(fun i _=>n - (intOf i).toNat)
 case atStart=>exact⟨0,Nat.zero_le _,rfl,rfl⟩
 case round=>
  obtain⟨j,hj,rfl,rfl⟩:=hrel;by_cases hlt:j<n
  ·have hix:(j:Int)<(n:Int):=by omega
   have hne:(d==L.getD j 0)=false:=by
    rw [beq_eq_false_iff_ne];exact fun e=>hd j hlt e.symm
   have h0:=hc j hlt;obtain⟨x,hx⟩:∃x,L.getD j 0=x:=⟨_,rfl⟩;rw [hx]at h0 hne;cases hao(by omega);clear hc hd hx hao;go_wp2
   go_roundw
   case rel=>exact⟨j+1,by omega,by go_num,by trivial⟩
   case measure=>simp [intOf];omega
  ·obtain rfl:j=n:=by omega
   clear hc hd hao;go_wp2
   go_ret
   exact⟨rfl,rfl⟩
theorem HZ(ao:Option Addr)(g n c:Nat)(hao:0<n→ao=some⟨g,0,none⟩)(L:List Int)(d:Int)(w:World)(hn:n≤100)(hc:∀k,k<n→w.cell?⟨g,k,none⟩=some(.int .u32(L.getD k 0)))(hd:∀k,k<n→L.getD k 0≠d):
  Calls Tryz.prog 97 #[.slice ao n c,.int .u32 d]w fun e w'=>e=.returned(.bool false)∧w'=w:=by
 have HI:=hide(UE ao g n c hao L d w hn hc hd);clear hc hd hao;go_enter Tryz.func97,Tryz.ntmps97
 go_wp2_with(go_at_call 136;refine HI.out.mono ?_;rintro e w2⟨rfl,hw⟩;replace hw:=hide hw)
 go_ret
 exact⟨rfl,hw.out⟩
theorem XE(g n c:Nat)(L:List Int)(w:World)(hn:0<n∧n≤6)(hcap:n≤c)(hc:∀k,k<n→w.cell?⟨g,k,none⟩=some(.int .u32(L.getD k 0)))(h0:∀k,k<n→L.getD k 0≠0)(hd:∀j k,j<k→k<n→L.getD j 0≠L.getD k 0):
  Calls Tryz.prog 61 #[.slice(some⟨g,0,none⟩)n c]w fun e w'=>e=.returned(.bool true)∧w'=w:=by
 have hz:((n:Int)==0)=false:=by
  rw [beq_eq_false_iff_ne];omega
 have hs:decide((n:Int)>6)=false:=decide_eq_false(by omega);have hs':decide(6<(n:Int))=false:=decide_eq_false(by omega);have hz':decide((n:Int)=0)=false:=decide_eq_false(by omega);have HC:=hide fun(k:Nat)(hk:k<n)=>HZ(some⟨g,0,none⟩)g k c(fun _=>rfl)L(L.getD k 0)w(by omega)(fun j hj=>hc j(by omega))(fun j hj=>hd j k hj hk);replace hc:=hide hc;replace h0:=hide h0;clear hd;go_enter Tryz.func61,Tryz.ntmps61
 go_wp2_with fail
 go_loopw [15](fun i wr=>∃(j:Nat),j≤n∧i=.int .i64 j∧wr=w)(fun i _=>n - (intOf i).toNat)
 case atStart=>exact⟨0,Nat.zero_le _,rfl,rfl⟩
 case round=>
  obtain⟨j,hj,rfl,rfl⟩:=hrel;by_cases hlt:j<n
  ·have hix:(j:Int)<(n:Int):=by omega
   have hjc:(j:Int)≤(c:Int):=by omega
   have hne:(L.getD j 0==0)=false:=by
    rw [beq_eq_false_iff_ne];exact h0.out j hlt
   have k0:=hc.out j hlt;have HX:=hide(HC.out j hlt);obtain⟨x,hx⟩:∃x,L.getD j 0=x:=⟨_,rfl⟩;rw [hx]at k0 hne HX;clear hc h0 HC hx;go_wp2_with(go_at_call 97;refine HX.out.mono ?_;rintro e w2⟨rfl,hw⟩;obtain rfl:=hw)
   go_roundw
   case rel=>exact⟨j+1,by omega,by go_num,by trivial⟩
   case measure=>simp [intOf];omega
  ·obtain rfl:j=n:=by omega
   clear hc h0 HC;go_wp2
   go_ret
   exact⟨rfl,rfl⟩
theorem dQ {α:Type} {L:List α} {j:Nat} {a b:α}(h:(L++ [a])[j]?=some b):L[j]?=some b∨(j=L.length∧b=a):=by
 by_cases hj:j<L.length
 ·rw [List.getElem?_append_left hj]at h;exact .inl h
 ·rw [List.getElem?_append_right(by omega)]at h;obtain⟨h1,h2⟩:=List.getElem?_eq_some_iff.1 h;have h3:j - L.length=0:=by simpa using h1
  refine .inr⟨by omega,?_⟩;simp only [h3,List.getElem_cons_zero]at h2;exact h2.symm
theorem lt_of_some {α:Type} {L:List α} {j:Nat} {b:α}(h:L[j]?=some b):j<L.length:=(List.getElem?_eq_some_iff.1 h).1
theorem MM.add {y:MG} {m:aK} {W:World}(h:MM y m W) {x:SG} {s:bi}(hx:mf x s W)(hap:∀k,kJ x s k→¬oz y m k) {v7:Value} {w7:World}(ho:w7.ownsRow 0 94 1 v7(m.S.length+1)(J2 y.L++J2 [x]))(hg:W.grownBy w7 y.sv.ownBlock)(hv:v7.ownBlock=y.sv.ownBlock∨v7.ownBlock=some W.heap.size):
  (w7.cell?⟨y.G,1,none⟩=some y.sv∧w7.frozen?⟨y.G,1,none⟩=false)∧MM {y with L:=y.L++ [x],sv:=v7} {m with S:=m.S++ [s]}(w7.setCell⟨y.G,1,none⟩v7)∧∀k,oz {y with L:=y.L++ [x],sv:=v7} {m with S:=m.S++ [s]}k→oz y m k∨kJ x s k∨(W.heap.size≤k∧k<(w7.setCell⟨y.G,1,none⟩v7).heap.size):=by
 have hne:y.sv.ownBlock≠some y.G:=aA h.yD h.blk(fun c e=>(by cases e));have hblk:=hg.block _(aD h.blk)fun e=>hne e.symm;obtain⟨_,c1,_,fz⟩:=h.cell;have Gw:=hblk.trans h.blk;have hg2:w7.grownBy(w7.setCell⟨y.G,1,none⟩v7)(some y.G):=aa(aC _(some y.G))1 _;have hsz:=hg.size;have hkeep:∀k,k<W.heap.size→k≠y.G→y.sv.ownBlock≠some k→(w7.setCell⟨y.G,1,none⟩v7).heap[k]?=W.heap[k]?:=fun k hk h1 h2=>(hg2.block k(by omega)fun e=>h1(Option.some.inj e)).trans(hg.block k hk fun e=>h2 e.symm);have hst:∀(i:Nat)z u,y.L[i]?=some z→m.S[i]?=some u→mf z u(w7.setCell⟨y.G,1,none⟩v7):=fun i z u h1 h2=>(h.st i z u h1 h2).kept fun k hk=>by
  obtain⟨q1,q2,_⟩:=h.own h1 h2 hk;exact hkeep k((h.st i z u h1 h2).lt hk)q1 q2
 have hxs:mf x s(w7.setCell⟨y.G,1,none⟩v7):=hx.kept fun k hk=>hkeep k(hx.lt hk)(fun e=>hap k hk(.inl e))fun e=>hap k hk(.inr(.inl e));have hll:=h.len;refine⟨⟨(World.cell?_of_block(a:=⟨y.G,1,none⟩)hblk).trans c1,(World.frozen?_of_block(a:=⟨y.G,1,none⟩)hblk).trans(fz 1)⟩,⟨?_,?_,?_,?_,fun i z u h1 h2=> ?_,fun i j z u z' u' hij h1 h2 h3 h4 k hk hk'=> ?_⟩,fun k hk=> ?_⟩
 ·simp [World.setCell,Array.getElem?_modify,Gw]
 ·have hr:=ho.kept hg2(.inr(aA ho Gw(fun c e=>(by cases e))));show World.ownsRow _ 0 _ 1 v7(m.S++ [s]).length(J2(y.L++ [x]));rw [List.length_append,show J2(y.L++ [x])=J2 y.L++J2 [x]from List.map_append];exact hr
 ·refine bD h.bG fun k hk=>hkeep k(h.bG.lt k hk).2(fun e=> ?_)fun e=> ?_
  ·subst e;exact aA h.bG h.blk(fun c e=>(by cases e))hk
  ·rcases bX h.yD h.bG(by decide)with q|q
   ·rw [q]at e;cases e
   ·exact q(e.trans hk.symm)
 ·show(y.L++ [x]).length=(m.S++ [s]).length;rw [List.length_append,List.length_append,hll];rfl
 ·rcases dQ h1 with h1|⟨e1,rfl⟩
  ·rcases dQ h2 with h2|⟨e2,_⟩
   ·exact hst i z u h1 h2
   ·have:=lt_of_some h1;omega
  ·rcases dQ h2 with h2|⟨_,rfl⟩
   ·have:=lt_of_some h2;omega
   ·exact hxs
 ·rcases dQ h1 with p1|⟨e1,rfl⟩
  ·rcases dQ h2 with p2|⟨e2,_⟩
   ·rcases dQ h3 with h3|⟨e3,rfl⟩
    ·rcases dQ h4 with h4|⟨e4,_⟩
     ·exact h.ap i j z u z' u' hij p1 p2 h3 h4 k hk hk'
     ·have:=lt_of_some h3;omega
    ·rcases dQ h4 with h4|⟨_,rfl⟩
     ·have:=lt_of_some h4;omega
     ·exact hap k hk'(.inr(.inr(.inr⟨i,z,u,p1,p2,hk⟩)))
   ·have:=lt_of_some p1;omega
  ·rcases dQ h2 with h2|⟨_,rfl⟩
   ·have:=lt_of_some h2;omega
   ·rcases dQ h3 with h3|⟨e3,_⟩
    ·rcases dQ h4 with h4|⟨e4,_⟩
     ·exact hap k hk(.inr(.inr(.inr⟨j,z',u',h3,h4,hk'⟩)))
     ·have:=lt_of_some h3;omega
    ·exact absurd(e1.trans e3.symm)hij
 ·rcases hk with hk|hk|hk|⟨i,z,u,h1,h2,hk⟩
  ·exact .inl(.inl hk)
  ·rcases hv with e|e
   ·exact .inl(.inr(.inl(by rw [←e];exact hk)))
   ·have h1:=(ho.lt k hk).2;rw [show({y with L:=y.L++ [x],sv:=v7}:MG).sv=v7 from rfl,e]at hk;cases hk;exact .inr(.inr⟨Nat.le_refl _,by simpa using h1⟩)
  ·exact .inl(.inr(.inr(.inl hk)))
  ·rcases dQ h1 with h1|⟨e1,rfl⟩
   ·rcases dQ h2 with h2|⟨e2,_⟩
    ·exact .inl(.inr(.inr(.inr⟨i,z,u,h1,h2,hk⟩)))
    ·have:=lt_of_some h1;omega
   ·rcases dQ h2 with h2|⟨_,rfl⟩
    ·have:=lt_of_some h2;omega
    ·exact .inr(.inl hk)
theorem Rj:Nonempty bA:=⟨by repeat'(first|exact Value.slice none 0 0|exact(0:Nat)|exact(0:Int)|exact false|exact(⟨#[]⟩:ByteArray)|exact []|exact none|constructor|intro)⟩
def l5(a:Int):Obj:=.cells #[.int .u32 a,.slice none 0 0,.pointer none,.bool false,.bool false,.bool false,.bool false,.bool false,.bool false,.bool false,.int .i64 0]102
def ES(a:Int):bi:=⟨a,bn(St.new a []0).a_,some(St.new a []0),List.replicate 6 false,false,0⟩
theorem Zo(wr:World)(a:Int)(hU:bg a)(h0:a≠0):Calls Tryz.prog 37 #[.pointer(some⟨wr.heap.size,0,none⟩),.int .u64 0](wr.alloc(l5 a))fun e W3=>∃aI bH bI,e=.returned(iE(St.new a []0).aY(St.new a []0).aZ aI bH bI)∧Hid(Calls Tryz.prog 62 #[.pointer(some⟨wr.heap.size,0,none⟩),iE(St.new a []0).aY(St.new a []0).aZ aI bH bI]W3 fun e W4=>e=.returned(.bool true)∧∃x2:SG,x2.B=wr.heap.size∧mf x2(ES a)W4∧Fx(fun k=>k=wr.heap.size)(wr.alloc(l5 a))W4∧∀k,kJ x2(ES a)k→wr.heap.size≤k):=by
 obtain⟨g0⟩:=Rj;have hx:mf⟨wr.heap.size,.slice none 0 0,0,g0,[]⟩⟨a,[],none,List.replicate 6 false,false,0⟩(wr.alloc(l5 a)):=
  ⟨heap_alloc_new _ _,rfl,⟨rfl,.inl⟨rfl,rfl⟩⟩,fun z hz=>(by cases hz)⟩
 have hs:Bg 1 0 0⟨a,[],none,List.replicate 6 false,false,0⟩:=⟨hU,h0,fun x h=>(by cases h),Nat.zero_le _,Int.le_refl _,fun z hz=>(by cases hz),fun z hz=>(by cases hz)⟩;have hp:=Dl hs(Int.le_refl _)⟨Int.le_refl _,by decide⟩;have hsz:(wr.alloc(l5 a)).heap.size=wr.heap.size+1:=by simp
 have hin:∀k,kJ⟨wr.heap.size,.slice none 0 0,0,g0,[]⟩⟨a,[],none,List.replicate 6 false,false,0⟩k→k=wr.heap.size:=by
  intro k hk;rcases hk with hk|hk|⟨z,hz,_⟩
  ·exact hk
  ·cases hk
  ·cases hz
 refine(Mq hx rfl 0⟨hU,h0,fun x h=>(by cases h),Nat.zero_le _,⟨[],Nat.zero_le _,fun a h=>(by cases h)⟩,⟨Int.le_refl _,by decide⟩⟩).mono ?_;rintro e W3⟨aI,bH,bI,rfl,⟨x1,hB1,hm1,hf1,hu1⟩,_⟩;refine⟨aI,bH,bI,rfl,hide ?_⟩;dsimp only at hB1 hm1 hu1;have hnw:=hp.nwl;have hcn:=hp.nd.inv.bd;have HW:=G8 hm1(St.new a []0).ot aI bH bI hcn(by show(St.new a []0).a_.length≤_;dsimp only at hnw;omega)(Nat.zero_le _)(Int.le_refl _);rw [hB1]at HW;have hne:(St.new a []0).ot.a_≠ []∨(St.new a []0).ot.aZ=true:=by
  refine .inl fun e=> ?_;have h1:=hp.no;have h2:=hp.yes;have h3:=hp.pos;have e':(St.new a []0).a_=[]:=e;dsimp only at h1 h2 h3;rw [e']at h1 h2;cases hr:(St.new a []0).aZ with
  |false=>
   have h4:=h1 hr;simp only [List.length_nil]at h4;omega
  |true=>
   have h4:=h2 hr;simp only [List.length_nil]at h4;omega
 have hwe:=bi.jy(s:=⟨a,[],some(St.new a []0),List.replicate 6 false,false,0⟩)hne rfl;have hs2:(bi.write⟨a,[],some(St.new a []0),List.replicate 6 false,false,0⟩(St.new a []0).ot).1=ES a:=by
  rw [hwe];unfold ES;dsimp only;split<;>rfl
 have hs3:(bi.write⟨a,[],some(St.new a []0),List.replicate 6 false,false,0⟩(St.new a []0).ot).2=true:=by rw [hwe]
 rw [hs2,hs3]at HW;refine HW.mono ?_;rintro e W4⟨rfl,x2,hB2,hm2,hf2,hu2⟩;have hz1:=hf1.size;refine⟨rfl,x2,hB2.trans hB1,hm2,(hf1.mono hin).trans hf2 fun i hi hk=> ?_,fun k hk=> ?_⟩
 ·rcases hu1 i hk with h|h
  ·exact hin i h
  ·omega
 ·rcases hu2 k hk with h|h
  ·rcases hu1 k h with h|h
   ·exact Nat.le_of_eq(hin k h).symm
   ·omega
  ·omega
theorem RS:(Tryz.prog.info? 94).map(fun i=>(i.zero,i.size,i.bytes))=some(some(.pointer none),1,8):=by kernel_rfl
def NwI(M:Nat)(w:World)(L:List Int)(k:Nat)(wr:World):Prop:=∃y:MG,y.G=M∧MM y(aK.new(L.take k))wr∧Fx(fun _=>False)w wr∧∀q,oz y(aK.new(L.take k))q→w.heap.size≤q
theorem FL {L:List Int} {k:Nat}(hk:k<L.length):aK.new(L.take(k+1))={aK.new(L.take k)with S:=(aK.new(L.take k)).S++ [ES(L.getD k 0)]}:=by
 unfold aK.new;rw [List.take_add_one,List.map_append]
 congr 1
 rw [List.getD_eq_getElem?_getD,List.getElem?_eq_getElem hk];rfl
theorem Dm(L:List Int):(aK.new L).S.length=L.length:=by
 unfold aK.new;rw [List.length_map]
theorem Ws {M:Nat} {w wr:World} {L:List Int} {k:Nat}(hk:k<L.length) {y:MG}(hG:y.G=M)(hm:MM y(aK.new(L.take k))wr)(hf:Fx(fun _=>False)w wr)(hge:∀q,oz y(aK.new(L.take k))q→w.heap.size≤q)(W4:World)(x2:SG)(hB:x2.B=wr.heap.size)(hx:mf x2(ES(L.getD k 0))W4)(h4:Fx(fun q=>q=wr.heap.size)(wr.alloc(l5(L.getD k 0)))W4)(hxg:∀q,kJ x2(ES(L.getD k 0))q→wr.heap.size≤q):
  MM y(aK.new(L.take k))W4∧∀(v7:Value)(w7:World),w7.ownsRow 0 94 1 v7((aK.new(L.take k)).S.length+1)(J2 y.L++ [.pointer(some⟨wr.heap.size,0,none⟩)])→(W4.alloc(.cells #[.pointer(some⟨wr.heap.size,0,none⟩)]94)).grownBy w7 y.sv.ownBlock→(v7.ownBlock=y.sv.ownBlock∨v7.ownBlock=some(W4.alloc(.cells #[.pointer(some⟨wr.heap.size,0,none⟩)]94)).heap.size)→(w7.cell?⟨M,1,none⟩=some y.sv∧w7.frozen?⟨M,1,none⟩=false)∧Hid(NwI M w L(k+1)(w7.setCell⟨M,1,none⟩v7)):=by
 subst hG;have hsz:(wr.alloc(l5(L.getD k 0))).heap.size=wr.heap.size+1:=by simp
 have hz4:=h4.size;have hm2:=hm.later((Below.refl wr.heap.size wr).alloc(Nat.le_refl _)(l5(L.getD k 0)));have A_:MM y(aK.new(L.take k))W4:=hm2.kept fun q hq=>h4.block q(hm2.lt hq)fun e=>by
  have:=hm.lt hq;omega
 refine⟨A_,fun v7 w7 ho hg hv=> ?_⟩;have hb5:Below W4.heap.size W4(W4.alloc(.cells #[.pointer(some⟨wr.heap.size,0,none⟩)]94)):=(Below.refl _ _).alloc(Nat.le_refl _)_;have hm5:=A_.later hb5;rw [←hB]at ho;obtain⟨c1,UY,hin⟩:=hm5.add(hx.later hb5)(fun q hq hq'=>by
  have h1:=hxg q hq;have h2:=hm.lt hq';omega)ho hg hv
 refine⟨c1,hide⟨{y with L:=y.L++ [x2],sv:=v7},rfl,?_,?_,fun q hq=> ?_⟩⟩
 ·rw [FL hk];exact UY
 ·have f1:Fx(fun _=>False)w(wr.alloc(l5(L.getD k 0))):=hf.trans(S':=fun _=>False)(Fx.below((Below.refl wr.heap.size wr).alloc(Nat.le_refl _)_))fun _ _ h=>h;have hzf:=hf.size;have f2:Fx(fun _=>False)w W4:=f1.trans h4 fun i hi e=>by omega
  have f3:Fx(fun _=>False)w(W4.alloc(.cells #[.pointer(some⟨wr.heap.size,0,none⟩)]94)):=f2.trans(S':=fun _=>False)(Fx.below hb5)fun _ _ h=>h;have f4:Fx(fun _=>False)w w7:=aT f3 hg fun i hi e=>by
   have:=hge i(.inr(.inl e));omega
  exact aT f4(aa(aC w7(some y.G))1 v7)fun i hi e=>by
   cases e;have:=hge y.G(.inl rfl);omega
 ·rw [FL hk]at hq;have hzf:=hf.size;have afZ:=hb5.size;rcases hin q hq with h|h|⟨h,_⟩
  ·exact hge q h
  ·have:=hxg q h;omega
  ·omega
theorem adM(g n c:Nat)(L:List Int)(w:World)(hL:L.length=n)(hn:0<n∧n≤6)(hcap:n≤c)(hU:∀k,k<n→bg(L.getD k 0))(hgl:g<w.heap.size)(hc:∀k,k<n→w.cell?⟨g,k,none⟩=some(.int .u32(L.getD k 0)))(h0:∀k,k<n→L.getD k 0≠0)(hd:∀j k,j<k→k<n→L.getD j 0≠L.getD k 0):
  Calls Tryz.prog 27 #[.slice(some⟨g,0,none⟩)n c]w fun e w'=>∃y:MG,e=.returned(.tuple #[.pointer(some⟨y.G,0,none⟩),.int .i64 0])∧MM y(aK.new L)w'∧Fx(fun _=>False)w w'∧∀q,oz y(aK.new L)q→w.heap.size≤q:=by
 have HFt:=hide(XE g n c L w hn hcap hc h0 hd);have hst:Hid(NwI w.heap.size w L 0(w.alloc(.cells #[.int .u64 0,.slice none 0 0,.slice none 0 0]97))):=by
  refine hide⟨⟨w.heap.size,.slice none 0 0,.slice none 0 0,[]⟩,rfl,⟨heap_alloc_new _ _,⟨rfl,.inl⟨rfl,rfl⟩⟩,⟨rfl,.inl⟨rfl,rfl⟩⟩,rfl,fun i x s h=>(by cases h),fun i j x s x' s' _ h=>(by cases h)⟩,Fx.below((Below.refl _ _).alloc(Nat.le_refl _)_),fun q hq=> ?_⟩;rcases hq with h|h|h|⟨i,x,s,h,_⟩
  ·exact Nat.le_of_eq h.symm
  ·cases h
  ·cases h
  ·cases h
 replace hc:=hide hc;replace h0:=hide h0;replace hU:=hide hU;obtain⟨i0,hi,hz0,hz1,hz2⟩:=info_parts RS;go_enter Tryz.func27,Tryz.ntmps27
 go_upto_region 4 with(go_at_call 61;refine HFt.out.mono ?_;rintro e w2⟨rfl,hw⟩;have hw2:=hw.symm;subst hw2)
 generalize World.alloc _ _=W1 at hst ⊢;generalize w.heap.size=M at hst ⊢;go_wp2_with fail
 go_loopw [15](fun i wr=>∃(j:Nat),j≤n∧i=.int .i64 j∧Hid(NwI M w L j wr))(fun i _=>n - (intOf i).toNat)
 case atStart=>exact⟨0,Nat.zero_le _,rfl,hst⟩
 case round=>
  obtain⟨j,hj,rfl,hr⟩:=hrel;by_cases hlt:j<n
  ·have hlL:j<L.length:=by omega
   have hix:(j:Int)<(n:Int):=by omega
   obtain⟨y,hG,hm,hf,hge⟩:=hr.out;have k0:=(World.cell?_of_block(a:=⟨g,j,none⟩)(hf.block g hgl(fun h=>h))).trans(hc.out j hlt);have HX:=Zo wr _(hU.out j hlt)(h0.out j hlt);have HS:=Ws hlL hG hm hf hge;have hlen:(aK.new(L.take j)).S.length=j:=by
    rw [Dm,List.length_take];omega
   have q0:wr.cell?⟨M,0,none⟩=some(.int .u64 0):=by
    rw [←hG];exact hm.cell.1
   obtain⟨a,ha⟩:∃a,L.getD j 0=a:=⟨_,rfl⟩;rw [ha]at k0 HX HS;have q2:=(((Below.refl wr.heap.size wr).alloc(Nat.le_refl _)(l5 a)).cell(World.block_lt_of_cell? _ _ q0)).trans q0;obtain⟨W2,hW2⟩:∃W2,wr.alloc(l5 a)=W2:=⟨_,rfl⟩;rw [hW2]at HX HS q2;unfold l5 at hW2;obtain⟨D,hD⟩:∃D,wr.heap.size=D:=⟨_,rfl⟩;obtain⟨mk,hmk⟩:∃mk,aK.new(L.take j)=mk:=⟨_,rfl⟩;rw [hmk]at HS hlen;rw [hlen]at HS;rw [hD]at HX HS;replace HX:=hide HX;have HS2:Hid(∀(W4:World)(x2:SG),x2.B=D→mf x2(ES a)W4→Fx(fun q=>q=D)W2 W4→(∀q,kJ x2(ES a)q→D≤q)→∃ao cc,y.sv=.slice ao j cc∧W4.cell?⟨M,1,none⟩=some(.slice ao j cc)∧(W4.alloc(.cells #[.pointer(some⟨D,0,none⟩)]94)).ownsRow 0 94 1(.slice ao j cc)j(J2 y.L)∧∀(v7:Value)(w7:World),w7.ownsRow 0 94 1 v7(j+1)(J2 y.L++ [.pointer(some⟨D,0,none⟩)])→(W4.alloc(.cells #[.pointer(some⟨D,0,none⟩)]94)).grownBy w7(Value.slice ao j cc).ownBlock→(v7.ownBlock=(Value.slice ao j cc).ownBlock∨v7.ownBlock=some(W4.alloc(.cells #[.pointer(some⟨D,0,none⟩)]94)).heap.size)→(w7.cell?⟨M,1,none⟩=some(.slice ao j cc)∧w7.frozen?⟨M,1,none⟩=false)∧Hid(NwI M w L(j+1)(w7.setCell⟨M,1,none⟩v7))):=by
    refine hide fun W4 x2 p1 p2 p3 p4=> ?_;obtain⟨A_,hnx⟩:=HS W4 x2 p1 p2 p3 p4;obtain⟨ao,cc,hsv,_⟩:=ak A_.yD;rw [hlen]at hsv;have hs5:=(A_.later((Below.refl W4.heap.size W4).alloc(Nat.le_refl _)(.cells #[.pointer(some⟨D,0,none⟩)]94))).yD;have c1:=A_.cell.2.1;rw [hsv,hlen]at hs5;rw [hG,hsv]at c1;rw [hsv]at hnx;exact⟨ao,cc,hsv,c1,hs5,hnx⟩
   have hsrc:Hid(∀W4:World,Src Tryz.prog 1 95(.slice(some⟨W4.heap.size,0,none⟩)1 1)1 [.pointer(some⟨D,0,none⟩)](W4.alloc(.cells #[.pointer(some⟨D,0,none⟩)]94))):=hide fun W4=>Src.ofRow(base:=0)(e':=94)(e:=94)Tryz.underlying95⟨rfl,.inr⟨W4.heap.size,1,_,rfl,Nat.zero_le _,heap_alloc_new _ _,Nat.le_refl _,by decide,rfl,rfl⟩⟩(fun u hu=>by
    rw [List.mem_singleton]at hu;subst hu;rfl)
   have hmx:Hid(j+1≤maxLen∧(j+1)* 8≤140737488355328):=by unfold maxLen;exact hide(by omega)
   clear HS hm hf hge hlen hmk ha q0 hG hr;go_upto_region 8 with(fail)
   clear hW2 hD k0;go_wp2_with(first
    |(go_at_call 37;refine HX.out.mono ?_;rintro e W3⟨aI,bH,bI,rfl,HW⟩)
    |(go_at_call 62;refine HW.out.mono ?_;rintro e W4⟨rfl,x2,hB2,hm2,hf2,acJ⟩;obtain⟨ao,cc,hsv,c1,hs5,hnx⟩:=HS2.out W4 x2 hB2 hm2 hf2 acJ;have Ie:=hsrc.out W4;replace hnx:=hide hnx;clear hB2 hm2 hf2 acJ HW hsv)
    |(at_builtin;refine t_ rfl _ _ _ _ rfl 0 94 i0(.pointer none)1 8 Tryz.underlying95 hi hz0 hz1 hz2 rfl(.slice ao j cc)j(J2 y.L)rfl hs5 _ 1 [.pointer(some⟨D,0,none⟩)]rfl Ie hmx.out.1 hmx.out.2(Nat.zero_le _) ?_;intro v7 w7 ho hg hv;obtain⟨⟨g1,g2⟩,hnw⟩:=hnx.out v7 w7 ho hg hv;obtain⟨PS,TW,rfl,_⟩:=ak ho;clear ho hg hv hnx hs5 Ie))
   go_roundw
   case rel=>exact⟨j+1,by omega,by go_num,hnw⟩
   case measure=>simp [intOf];omega
  ·obtain rfl:j=n:=by omega
   obtain⟨y,hG,hm,hf,hge⟩:=hr.out;rw [List.take_of_length_le(Nat.le_of_eq hL)]at hm hge;have hfin:Hid(∃y:MG,y.G=M∧MM y(aK.new L)wr∧Fx(fun _=>False)w wr∧∀q,oz y(aK.new L)q→w.heap.size≤q):=⟨y,hG,hm,hf,hge⟩;clear hm hf hge hG hr hc h0 hU;go_wp2
   go_returns
   obtain⟨y,hG,hm,hf,hge⟩:=hfin.out;exact⟨y,by rw [hG];rfl,hm,hf,hge⟩
theorem Zp {a:Int}(hU:bg a)(h0:a≠0):Bg 1 0 0(ES a):=by
 have hs:Bg 1 0 0⟨a,[],none,List.replicate 6 false,false,0⟩:=⟨hU,h0,fun x h=>(by cases h),Nat.zero_le _,Int.le_refl _,fun z hz=>(by cases hz),fun z hz=>(by cases hz)⟩;have hp:=Dl hs(Int.le_refl _)⟨Int.le_refl _,by decide⟩;dsimp only at hp;have hne:(St.new a []0).ot.a_≠ []∨(St.new a []0).ot.aZ=true:=by
  refine .inl fun e=> ?_;have h1:=hp.no;have h2:=hp.yes;have h3:=hp.pos;have e':(St.new a []0).a_=[]:=e;dsimp only at h1 h2 h3;rw [e']at h1 h2;cases hr:(St.new a []0).aZ with
  |false=>
   have h4:=h1 hr;simp only [List.length_nil]at h4;omega
  |true=>
   have h4:=h2 hr;simp only [List.length_nil]at h4;omega
 have hwe:=bi.jy(s:=⟨a,[],some(St.new a []0),List.replicate 6 false,false,0⟩)hne rfl;have hs2:(bi.write⟨a,[],some(St.new a []0),List.replicate 6 false,false,0⟩(St.new a []0).ot).1=ES a:=by
  rw [hwe];unfold ES;dsimp only;split<;>rfl
 have:=hp.write;rw [hs2]at this;exact this
theorem La {L:List Int}(hn:L.length≤6)(hU:∀a∈L,bg a)(h0:∀a∈L,a≠0):iC 1 0(aK.new L)∧qa(aK.new L):=by
 refine⟨⟨by rw [Dm];exact hn,Nat.zero_le _,⟨Int.le_refl _,by show(0:Int)≤4611686018427387904;decide⟩,fun s hs=> ?_⟩,fun f hf=>by cases hf⟩;obtain⟨a,ha,rfl⟩:=List.mem_map.1 hs;exact Zp(hU a ha)(h0 a ha)
def Pv(L:List(Int×ByteArray)):Prop:=∀f∈L,f.2.size≤65536
theorem qa.eG {m:aK}(h:qa m) {i j:Nat} {b:ByteArray}(hi:i<m.S.length)(hj:j<m.S.length)(hb:b.size≤65536):qa(m.eG(i,j,b)):=by
 intro f hf;have h1:∀f∈m.bG++ [(i,j,b)],f.1<m.S.length∧f.2.1<m.S.length∧f.2.2.size≤65536:=by
  intro f hf;rcases List.mem_append.1 hf with hf|hf
  ·exact h f hf
  ·rw [List.mem_singleton]at hf;subst hf;exact⟨hi,hj,hb⟩
 unfold aK.eG at hf;dsimp only at hf;split at hf
 ·exact h1 f(List.fK hf)
 ·exact h1 f hf
theorem qa.put {m:aK}(h:qa m)(i:Nat)(s:bi):qa(m.put i s):=by
 intro f hf;rw [(gK _ _ _).1,List.length_set];exact h f hf
theorem qa.foldl {i:Nat} {b:ByteArray}(hb:b.size≤65536):∀(l:List Nat)(m:aK),qa m→i<m.S.length→(∀j∈l,j<m.S.length)→qa(l.foldl(fun m j=>m.eG(i,j,b))m)
 | [],_,h,_,_=>h
 |a::l,m,h,hi,hl=>by
  rw [List.foldl_cons];exact qa.foldl hb l _(h.eG hi(hl a(List.mem_cons_self ..))hb)hi fun j hj=>hl j(List.mem_cons_of_mem _ hj)
theorem qa.bR {m:aK}(h:qa m) {i:Nat} {f:Int×ByteArray}(hi:i<m.S.length)(hb:f.2.size≤65536):qa(m.bR i f):=by
 refine qa.foldl hb _ _ h hi fun j hj=> ?_;unfold aK.heard at hj;exact List.mem_range.1(List.mem_filter.1 hj).1
theorem OT {p:ah} {L:List(Int×Int)}(h:L=[]∨L.length=p.ln):(strOfNums(mF p L)).size≤65536:=by
 have hs:∀xs:List Int,(strOfNums xs).size=xs.length:=fun xs=>by simp [strOfNums,ByteArray.size]
 rw [hs];unfold mF;split
 ·rename_i hg;obtain⟨hl,_,_,_,_,hp,hk⟩:=ek hg;have hln:p.ln≤8:=by
   have h1:=(o9 hl).1;rcases hk with hk|hk|hk|hk
   ·rw [h1];simp [ah.dw,hk]
   ·rw [h1];simp [ah.dw,hk]
   ·rw [h1];simp [ah.dw,hk]
   ·exact hk.2.2
  have hL:L.length≤8:=by
   rcases h with h|h
   ·rw [h];exact Nat.zero_le _
   ·omega
  have h1:=uE p p.nums.length;have h2:(gL L L.length).length≤64:=by
   unfold gL;rw [List.take_length,v_];omega
  simp only [xU,List.length_append,ah.head,List.length_cons,List.length_nil,dx];omega
 ·exact Nat.zero_le _
theorem aa1 {c:mh} {s s':St}(h:Pr c s s')(hs:∀f∈s.aH,f.2.size≤65536):∀f∈s'.aH,f.2.size≤65536:=by
 cases h with
 |xK h=>rw [h.aH];exact hs
 |tab _=>exact hs
 |aI t p L _ hz=>
  intro f hf;rcases List.mem_append.1(show f∈s.aH++ [(t,strOfNums(mF p L))]from hf)with hf|hf
  ·exact hs f hf
  ·rw [List.mem_singleton]at hf;subst hf;exact OT hz
 |grw=>exact hs
 |mx _ _ _ _=>exact hs
 |wr=>exact hs
theorem Xw {c:mh} {n:Nat} {s s':St}(h:fC c n s s')(hs:∀f∈s.aH,f.2.size≤65536):∀f∈s'.aH,f.2.size≤65536:=by
 induction h with
 |nil=>exact hs
 |snoc _ k ih=>exact aa1 k(ih hs)
theorem uS {c:mh} {n:Nat} {s s':St} {now:Int}(h:fC c n(s.aQ.begin now)s'):∀f∈s'.finish.freed.aH,f.2.size≤65536:=by
 have h1:=Xw h(fun f hf=>by cases hf);rw [show s'.finish.freed.aH=s'.aH from(aO s').aH];exact h1
end Go.Proofs.YtakaadcpaeiccabGreat
