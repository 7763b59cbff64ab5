import Derived.Test.YtakaadcpaeiccabGreatC45
set_option maxHeartbeats 4000000
set_option maxRecDepth 100000
namespace Go.Proofs.YtakaadcpaeiccabGreat
open Go.RowKit Go.Maps
theorem lM(W:World)(q:Nat):Below W.heap.size W(W.drewN q):=below_drewN(Below.refl _ _)q
theorem abq {W1:World} {M:Nat} {f:Int→Option Nat} {s:Nat}(hm:eX W1 M f s)(hs:s≤8) {x:Bool×Int×Int}(hx:bg x.2.1)(hf:f x.2.1=none):
  ∀q:Nat×Nat,∃W6,(Instr.mapUpdate 156(.map(some M))(.int .u32 x.2.1)(.pointer(some⟨W1.heap.size,0,none⟩))).run Tryz.prog(((W1.drewN q.1).alloc(b_(xM x)(.slice none 0 0))).drewN q.2)=.ok()W6∧
   eX W6 M(eD f x.2.1(some W1.heap.size))(s+1)∧dP W1.heap.size(xM x)(.slice none 0 0)W6∧W1.grownBy W6(some M):=by
 intro q;have hb:Below W1.heap.size W1(((W1.drewN q.1).alloc(b_(xM x)(.slice none 0 0))).drewN q.2):=below_drewN((below_drewN(Below.refl _ _)q.1).alloc(Nat.le_refl _)_)q.2;have hm1:=hm.block(hb.block M hm.lt);have hN:dP W1.heap.size(xM x)(.slice none 0 0)(((W1.drewN q.1).alloc(b_(xM x)(.slice none 0 0))).drewN q.2):=dP.new(xM x)(.slice none 0 0)(W1.drewN q.1);have hMl:=hm.lt;obtain⟨W6,hr,DI,fB⟩:=hm1.put(by unfold maxLen;omega)hx W1.heap.size;rw [hf,if_neg(by simp)]at DI;exact⟨W6,hr,DI,hN.block(fB.block _ hN.lt(fun e=>by cases e;omega)),⟨fB.os.trans hb.os,fB.tape.trans hb.tape,fB.output.trans hb.output,Nat.le_trans hb.size fB.size,fun k hk hn=>(fB.block k(Nat.lt_of_lt_of_le hk hb.size)hn).trans(hb.block k hk)⟩⟩
theorem Bi(me:Int)(ao:Option Addr)(n c:Nat)(L:List(Bool×Int×Int))(hL:L.length=n)(hn:n≤50000)(hbd:pW L)(hfw:Yh L)(w:World)(hA:f_ w ao(RC L)):
  Calls Tryz.prog 44 #[.int .u32 me,.slice ao n c]w fun e w'=>∃T out,e=.returned(.pointer(some⟨T,0,none⟩))∧iw(lU L)(qb L)out∧Ag me T(fun k=>w.heap.size≤k∧k<w'.heap.size)(tY me out)w'∧Below w.heap.size w w':=by
 have hmm:=@run_makeMap Tryz.prog;have hM0:eX((w.alloc(.map #[]0)).alloc(.cells #[.int .u32 me,.map(some w.heap.size)]158))w.heap.size(fun _=>none)0:=(eX.made w).block(((Below.refl _(w.alloc(.map #[]0))).alloc(Nat.le_refl _)_).block w.heap.size(by simp));have hT0:EH(w.heap.size+1)me w.heap.size((w.alloc(.map #[]0)).alloc(.cells #[.int .u32 me,.map(some w.heap.size)]158)):=by
  have:=heap_alloc_new(w.alloc(.map #[]0))(.cells #[.int .u32 me,.map(some w.heap.size)]158);rw [World.size_alloc]at this;exact this
 have hb0:Below w.heap.size w((w.alloc(.map #[]0)).alloc(.cells #[.int .u32 me,.map(some w.heap.size)]158)):=((Below.refl _ _).alloc(Nat.le_refl _)_).alloc(by simp)_;have hs0:((w.alloc(.map #[]0)).alloc(.cells #[.int .u32 me,.map(some w.heap.size)]158)).heap.size=w.heap.size+2:=by simp
 go_enter Tryz.func44,Tryz.ntmps44
 go_wp2_with fail
 clear hmm;generalize World.alloc _ _=W0 at hM0 hT0 hb0 hs0 ⊢;refine(uJ ao n c L hL hn hbd hfw W0(hA.below hb0)).mono ?_;rintro e w1⟨v,out,rfl,hcmp,hol,hrow,hb1⟩;rw [hs0]at hb1 hrow;have hbb:Below w.heap.size w w1:=hb0.trans(hb1.mono(by omega));have hm1:MT me(w.heap.size+1)w.heap.size(fun _=>none)(fun _=> .slice none 0 0) []w1:=MT.empty(hT0.block(hb1.block _(by omega)))(hM0.block(hb1.block _(by omega)));have hs1:=hb1.size;rw [hs0]at hs1;have hris:=V3 hcmp;obtain⟨av,cv,rfl,_⟩:=ak hrow;clear hM0 hT0 hb0 hb1 hs0 hA;go_wp2_with fail
 go_loopw [15](fun i wr=>∃(k:Nat)(f:Int→Option Nat)(g:Int→Value),k≤out.length∧i=.int .i64 k∧MT me(w.heap.size+1)w.heap.size f g(tY me(out.take k))wr∧(∀q,mg(w.heap.size+1)w.heap.size f g(tY me(out.take k))q→w.heap.size≤q)∧wr.ownsRow(w.heap.size+2)82 3(.slice av out.length cv)out.length(RC out)∧Below w.heap.size w wr)(fun i _=>out.length - (intOf i).toNat)
 case atStart=>
  refine⟨0,_,_,Nat.zero_le _,rfl,hm1,?_,hrow,hbb⟩;rintro q(rfl|rfl|⟨x,hx,_⟩)
  ·omega
  ·omega
  ·cases hx
 case round=>
  clear hrow hbb hm1 hs1;obtain⟨k,f,g,hk,rfl,hM,zK,hrow,hb⟩:=hrel;by_cases hlt:k<out.length
  ·have hki:(k:Int)<(out.length:Int):=by omega
   obtain⟨x,hx⟩:∃x,out[k]?=some x:=⟨_,List.getElem?_eq_getElem(by omega)⟩;have hat:∀i z,i<3→([.bool x.1,.int .u32 x.2.1,.int .u32 x.2.2]:List Value)[i]?=some z→(RC out)[k * 3+i]?=some z:=fun i z hi hz=>(jT(fun x:Bool×Int×Int=>([Value.bool x.1,Value.int .u32 x.2.1,Value.int .u32 x.2.2]:List Value))3(by decide)(fun _=>rfl)out k i hi hx).trans hz;obtain⟨av',cv',hv,hA'⟩:=ak hrow;obtain⟨rfl,rfl⟩:av'=av∧cv'=cv:=by cases hv;exact⟨rfl,rfl⟩
   clear hv;obtain⟨b1,o1,rfl,hj1⟩:=hA'(k * 3+0)_(hat 0 _(by decide)rfl);have d0:=hA'.one rfl(hat 0 _(by decide)rfl);have d1:=hA'.one rfl(hat 1 _(by decide)rfl);have d2:=hA'.one rfl(hat 2 _(by decide)rfl);rw [Nat.add_zero]at d0;rw [←Nat.add_assoc]at d1 d2;have hst:=(show Hid _ from zi me hx);have hxo:=fun h=>Rb hbd hcmp(List.mem_of_getElem? hx)h;have hbl:=(show Hid _ from NL me hris hx);have hln:=(show Hid _ from KZ me out k);generalize hAe:tY me(out.take k)=A at hM zK hst hbl hln;obtain⟨xo,xa,xs⟩:=x;dsimp only at d0 d1 d2 hxo;have hM1:=hM.later((Below.refl _ wr).alloc(Nat.le_refl _)(aV xo xa xs));have wZ:=hrow.alloc(aV xo xa xs);have hb1:=hb.alloc hb.size(aV xo xa xs);have hB1:qd wr.heap.size xo xa xs(wr.alloc(aV xo xa xs)):=qd.new xo xa xs wr;have hs1:=hM.map.lt;have LD:(AC me(xo,xa,xs)&&decide(A.length<8))=false→Hid(tY me(out.take(k+1))=A):=fun h=>by
    show _=_;rw [hst.out];exact if_neg(by rw [h];simp)
   have hadd:(AC me(xo,xa,xs)&&decide(A.length<8))=true→Hid(tY me(out.take(k+1))=A++ [xM(xo,xa,xs)]):=fun h=>by
    show _=_;rw [hst.out];exact if_pos h
   clear hj1 hat hA' hx hM hrow hb hAe hst;have hsz:(wr.alloc(aV xo xa xs)).heap.size=wr.heap.size+1:=by simp
   dsimp only [aV]at hM1 wZ hb1 hB1 hsz;have hk1:k+1≤out.length:=by omega
   go_upto_region 5 with(fail)
   generalize World.alloc _ _=W1 at hM1 wZ hb1 hB1 hsz ⊢;obtain⟨c0,c1,c2⟩:=hB1.cell;go_cut [32]from 19 to 32(fun p W6=>p=.bool(AC me(xo,xa,xs)&&decide(A.length<8))∧W1=W6)
   case first=>
    have hfull:=(show Hid _ from GA(w.heap.size+1)w.heap.size A.length me f _ hM1.blk hM1.map);have acE:Hid(decide(A.length<8)=!decide(8≤A.length)):=by
     show _=_;by_cases h8:8≤A.length
     ·simp [h8]
     ·simp [h8];omega
    clear LD hadd hxo hbl hM1 wZ hb1;cases xo
    ·cases hxm:(xa !=me)
     ·have hv:Hid((AC me(false,xa,xs)&&decide(A.length<8))=false):=by
       show _=_;simp only [AC,hxm];rfl
      clear hfull;go_wp2_with fail
      go_meet
      exact⟨(congrArg Value.bool hv.out).symm,rfl⟩
     ·have hv:Hid((AC me(false,xa,xs)&&decide(A.length<8))=!decide(8≤A.length)):=by
       show _=_;rw [acE.out];simp only [AC,hxm];rfl
      clear acE;go_wp2_with fail
      refine Calls.mono hfull.out ?_;rintro e w3⟨rfl,rfl⟩;clear hfull;go_wp2_with fail
      go_meet
      exact⟨(congrArg Value.bool hv.out).symm,rfl⟩
    ·have hv:Hid((AC me(true,xa,xs)&&decide(A.length<8))=false):=by
      show _=_;simp [AC]
     clear hfull;go_wp2_with fail
     go_meet
     exact⟨(congrArg Value.bool hv.out).symm,rfl⟩
   case rest=>
    obtain⟨rfl,hW⟩:=hcut;subst hW;have hwk0:Hid(wrap64((k:Int)+1)=(k:Int)+1):=by
     show _=_;unfold wrap64;omega
    have hme:Hid(out.length - (intOf(.int .i64((k:Int)+1))).toNat<out.length - (intOf(.int .i64(k:Int))).toNat):=by
     show _<_;simp [intOf];omega
    have R7:Hid(tY me(out.take(k+1))=A)→Hid(∃(k':Nat)(f':Int→Option Nat)(g':Int→Value),k'≤out.length∧Value.int .i64((k:Int)+1)=.int .i64 k'∧MT me(w.heap.size+1)w.heap.size f' g'(tY me(out.take k'))W1∧(∀q,mg(w.heap.size+1)w.heap.size f' g'(tY me(out.take k'))q→w.heap.size≤q)∧(W1).ownsRow(w.heap.size+2)82 3(.slice(some⟨b1,o1,none⟩)out.length cv')out.length(RC out)∧Below w.heap.size w W1):=fun h=>by
     show ∃k' f' g',_;refine⟨k+1,f,g,hk1,by simp,?_⟩;rw [h.out];exact⟨hM1,zK,wZ,hb1⟩
    have hA8:=hln.out;cases hb:(AC me(xo,xa,xs)&&decide(A.length<8))
    ·have hsk:=R7(LD hb);clear LD hadd R7 hb;go_wp2
     exact⟨hsk.out,hme.out⟩
    ·have had:=hadd hb;have hp:AC me(xo,xa,xs)=true:=by revert hb;cases AC me(xo,xa,xs)<;>simp
     have hl8:A.length<8:=by
      rw [hp,Bool.true_and]at hb;simpa using hb
     obtain rfl:xo=false:=Di hp;have hxu:=hxo rfl;have hbx:∀z∈A,z.dest<xa:=hbl.out hp;have hno:aJ A xa=none:=gM.2 fun z hz=>by
      have:=hbx z hz;omega
     obtain⟨V,hV⟩:=Classical.adX.1(abq(x:=(false,xa,xs))hM1.map(by omega)hxu.1(hM1.off hxu.1 hno));have v00:=(hV(0,0)).1;have v01:=(hV(0,1)).1;have v0n:=fun q=>(hV(0,q)).1;have v10:=(hV(1,0)).1;have v11:=(hV(1,1)).1;have v1n:=fun q=>(hV(1,q)).1;have vn0:=fun q=>(hV(q,0)).1;have vn1:=fun q=>(hV(q,1)).1;have vnn:=fun q q'=>(hV(q,q')).1;obtain⟨t0,t1⟩:=hM1.blk.cell;dsimp only [b_,xM]at v00 v01 v0n v10 v11 v1n vn0 vn1 vnn;simp only [World.drewN_zero,←World.drew_is_drewN]at v00 v01 v0n v10 v11 v1n vn0 vn1;have hre:∀(q:Nat)(B j:Nat)(u:Value),W1.cell?⟨B,j,none⟩=some u→((W1.drewN q).alloc(.cells #[.int .u32 xa,.int .u32(gr xs),.int .i64 0,.int .u32 0,.bool false,.int .u64 0,.slice none 0 0]38)).cell?⟨B,j,none⟩=some u:=fun q B j u h=>Go.cell_later((lM W1 q).alloc(Nat.le_refl _)_)h;have r1n:=fun q=>hre q _ _ _ t1;have r2n:=fun q=>hre q _ _ _ c1;have r3n:=fun q=>hre q _ _ _ c2;have r10:=r1n 0;have r20:=r2n 0;have r30:=r3n 0;have r11:=r1n 1;have r21:=r2n 1;have r31:=r3n 1;simp only [World.drewN_zero,←World.drew_is_drewN]at r10 r20 r30 r11 r21 r31;have hfin:Hid(∀q,∃(k':Nat)(f':Int→Option Nat)(g':Int→Value),k'≤out.length∧Value.int .i64(wrap64((k:Int)+1))=.int .i64 k'∧MT me(w.heap.size+1)w.heap.size f' g'(tY me(out.take k'))(V q)∧(∀p,mg(w.heap.size+1)w.heap.size f' g'(tY me(out.take k'))p→w.heap.size≤p)∧((V q)).ownsRow(w.heap.size+2)82 3(.slice(some⟨b1,o1,none⟩)out.length cv')out.length(RC out)∧Below w.heap.size w(V q)):=fun q=>by
      refine⟨k+1,eD f xa(some W1.heap.size),fun e=>if e=xa then .slice none 0 0 else g e,hk1,by rw [hwk0.out];simp,?_⟩;rw [had.out];obtain⟨_,DI,PO,fB⟩:=hV q;have hf:=hM1.fresh(d:=xa)(y:=xM(false,xa,xs))rfl(KY hxu.1 hxu.2)rfl(N:=W1.heap.size)(Nat.le_refl _)(w':=V q)(A':=A++ [xM(false,xa,xs)])PO(by rw [List.length_append];exact DI)(fun p hp hpM=>fB.block p hp(fun e=>hpM(by cases e;rfl)))(fun z hz=>by
       rcases List.mem_append.1 hz with hz|hz
       ·exact .inr⟨hz,by have:=hbx z hz;omega⟩
       ·exact .inl(by simpa using hz))(by simp)(fun z hz _=>List.mem_append_left _ hz)(Uc hM1.wC hbx)(by rw [List.length_append];simp;omega)
      refine⟨hf.1,fun p hp=> ?_,?_,?_⟩
      ·rcases hf.2 p hp with h1|rfl
       ·exact zK p h1
       ·omega
      ·exact bD wZ fun p hp=>fB.block p(wZ.lt p hp).2(fun e=>by
        have h1:=(wZ.lt p hp).1;cases e;omega)
      ·exact hb1.grown fB hb1.size(fun p e=>by cases e;exact Nat.le_refl _)
     clear hV hno hp hl8 hxo hre hbl LD hadd had R7 hM1 wZ hb1 zK hcmp hris hbd hB1 hs1 hol hL hn hki hk hA8 hln hbx hsz;have aez:Hid(out.length - (intOf(.int .i64(wrap64((k:Int)+1)))).toNat<out.length - (intOf(.int .i64(k:Int))).toNat):=by
      show _<_;rw [hwk0.out];exact hme.out
     clear hme hwk0;go_wp2_with fail
     clear hb;go_region_law(go_simp;go_at_call 42;refine(nZ _ _).mono ?_;rintro e w5⟨rfl,rfl⟩)
     all_goals
      clear r1n r2n r3n r10 r20 r30 r11 r21 r31 v00 v01 v0n v10 v11 v1n vn0 vn1 vnn c0 c1 c2 t0 t1;go_wp2
      exact⟨hfin.out _,aez.out⟩
  ·have hkn:out.length≤k:=by omega
   rw [List.take_of_length_le hkn]at hM zK;clear hrow hkn;go_wp2
   go_ret
   exact⟨_,out,rfl,hcmp,⟨_,f,g,hM,fun q hq=>⟨zK q hq,hM.lt hq⟩⟩,hb⟩
end Go.Proofs.YtakaadcpaeiccabGreat
