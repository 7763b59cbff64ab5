import Derived.Test.YtakaadcpaeiccabGreatC10
set_option maxHeartbeats 4000000
set_option maxRecDepth 100000
namespace Go.Proofs.YtakaadcpaeiccabGreat
open Go.RowKit Go.Maps Go.WideElems
theorem FI:∀(l m:List Int),l.Nodup→(∀a∈l,a∈m)→l.length≤m.length
 | [],_,_,_=>Nat.zero_le _
 |a::l,m,hn,hm=>by
  rw [List.nodup_cons]at hn;have h1:=FI l(m.erase a)hn.2 fun b hb=>by
   have hne:b≠a:=fun e=>hn.1(e▸hb);exact(List.xN hne).2(hm b(List.mem_cons_of_mem _ hb))
  have h2:a∈m:=hm a List.mem_cons_self;have h3:=List.length_erase_of_mem h2;have h4:=List.mQ h2;simp only [List.length_cons];omega
theorem FP {H:Type}(l:List(Lit×DataW H))(p:Lit×DataW H)(h:p∈l.foldr DataW.insert []):p∈l:=by
 induction l with
 |nil=>simp at h
 |cons x l ih=>
  rw [List.foldr_cons]at h;rcases ChangeMaps.mem_insert_iff.1 h with rfl|h
  ·exact List.mem_cons_self
  ·exact List.mem_cons_of_mem _(ih h)
theorem MapU.size_le {W:World} {M:Nat} {f:Int→Option Int} {s:Nat}(h:MapU W M f s)(l:List Int)(hl:∀d,bg d→(f d).isSome=true→d∈l):s≤l.length:=by
 obtain⟨D,h1,h2,h3⟩:=h;obtain⟨es0,he0,hp⟩:=h1.tidy fF;obtain⟨es,clock,hb,F,hs,hD⟩:=h1;rw [hD]at he0;simp only [DataW.map.injEq]at he0;have hkey:∀p∈es0,∃d,bg d∧p.1=.int .u32 d:=by
  intro p hp;rw [←he0]at hp;have:=FP _ _ hp;obtain⟨x,hx,rfl⟩:=List.mem_map.1 this;obtain⟨y,hy⟩:=F.reads x hx;have h5:=rd_key hy;have h6:rg Tryz.prog 34(plainElem Tryz.prog 34)x=y:=by
   unfold rg;rw [hy];rfl
  obtain⟨d,_,hd,hwf⟩:=kC Tryz.underlying34 h5;have hb:=bounds_u32 hwf;exact⟨d,⟨hb.1,by have:=hb.2;omega⟩,by rw [h6];exact hd⟩
 have hlen:es0.length=s:=by
  rw [←h2,hD,he0];rfl
 have hmem:∀p∈es0,∀d,bg d→p.1=.int .u32 d→d∈l:=by
  intro p hp d hd e;refine hl d hd ?_;rw [←(h3 d hd).1,hD,he0,has_eq];rw [List.any_eq_true];exact⟨p,hp,by rw [e];simp [Lit.sameKey]⟩
 have aeN:∀es0:List(Lit×DataW Unit),es0.Pairwise(fun p q=>p.1≠q.1)→(∀p∈es0,∃d,bg d∧p.1=.int .u32 d)→∃ds:List Int,ds.length=es0.length∧ds.Nodup∧∀d∈ds,∃p∈es0,bg d∧p.1=.int .u32 d:=by
  intro es0
  induction es0 with
  |nil=>intro _ _;exact⟨[],rfl,List.nodup_nil,fun _ h=>by cases h⟩
  |cons p es0 ih=>
   intro hp hk;rw [List.pairwise_cons]at hp;obtain⟨ds,e1,e2,e3⟩:=ih hp.2 fun q hq=>hk q(List.mem_cons_of_mem _ hq);obtain⟨d,hd,hpd⟩:=hk p List.mem_cons_self;refine⟨d::ds,by simp [e1],List.nodup_cons.2⟨fun hmem=> ?_,e2⟩,fun d' hd'=> ?_⟩
   ·obtain⟨q,hq,_,YF⟩:=e3 d hmem;exact hp.1 q hq(by rw [hpd,YF])
   ·rcases List.mem_cons.1 hd' with rfl|h
    ·exact⟨p,List.mem_cons_self,hd,hpd⟩
    ·obtain⟨q,hq,h1⟩:=e3 d' h;exact⟨q,List.mem_cons_of_mem _ hq,h1⟩
 obtain⟨ds,e1,e2,e3⟩:=aeN es0 hp hkey;rw [←hlen,←e1];exact FI ds l e2 fun d hd=>by
  obtain⟨p,hp,hu,he⟩:=e3 d hd;exact hmem p hp d hu he
def Yh(L:List(Bool×Int×Int)):Prop:=∃l:List Int,l.length≤12∧∀a,(lU L a).isSome=true→a∈l
theorem aa5 {W:World} {M:Nat} {L:List(Bool×Int×Int)} {sz:Nat}(h:Yh L)(hm:MapU W M(lU L)sz):sz≤12:=by
 obtain⟨l,h1,h2⟩:=h;exact Nat.le_trans(hm.size_le l fun d _ hd=>h2 d hd)h1
theorem bX {W:World} {b1 b2 e1 e2 s1 s2 n1 n2:Nat} {v1 v2:Value} {x1 x2:List Value}(h1:W.ownsRow b1 e1 s1 v1 n1 x1)(h2:W.ownsRow b2 e2 s2 v2 n2 x2)(hne:e1≠e2):v1.ownBlock=none∨v1.ownBlock≠v2.ownBlock:=by
 rcases h1.2 with⟨rfl,_⟩|⟨g1,c1,k1,rfl,_,q1,_⟩
 ·exact .inl rfl
 ·rcases h2.2 with⟨rfl,_⟩|⟨g2,c2,k2,rfl,_,q2,_⟩
  ·exact .inr(by simp [Value.ownBlock])
  ·refine .inr fun e=> ?_;simp only [Value.ownBlock,Option.some.injEq]at e;subst e;rw [q1]at q2;cases q2;exact hne rfl
theorem qd.VQ {B:Nat} {o:Bool} {a s:Int} {W:World}(h:qd B o a s W)(s':Int):qd B o a s'(W.setCell⟨B,2,none⟩(.int .u32 s')):=by
 unfold qd at h ⊢;simp [World.setCell,Array.getElem?_modify,h]
theorem BN(f:Int→Option Int)(ss:List Int)(a:Int):fV f(ss++ [a])=fV f ss++ [(false,a,(f a).getD 0)]:=by simp [fV]
theorem Bw(f:Int→Option Int)(a s:Int):gJ f(false,a,s)=jJ f a(some(max((f a).getD 0)s)):=rfl
theorem Rp:MB fun _=>none:=fun a v h=>by cases h
theorem Ra:OB none:=fun v h=>by cases h
theorem KM {L:List(Bool×Int×Int)}(h:pW L) {x:Bool×Int×Int}(hx:x∈L):bg x.2.1∧bg x.2.2:=by
 have:=h x hx;unfold bg;omega
theorem uJ(ao:Option Addr)(n c:Nat)(L:List(Bool×Int×Int))(hL:L.length=n)(hn:n≤50000)(hbd:pW L)(hfw:Yh L)(w:World)(hA:f_ w ao(RC L)):
  Calls Tryz.prog 69 #[.slice ao n c]w(adQ L w):=by
 obtain⟨i0,hi,hz0,hz1,hz2⟩:=info_parts qE;have hmm:=@run_makeMap Tryz.prog;have hM0:=MapU.made(w.alloc(aV true 0 0));rw [World.size_alloc]at hM0;have hB0:qd w.heap.size true 0 0((w.alloc(aV true 0 0)).alloc(.map #[]0)):=(qd.new true 0 0 w).later((Below.refl _ _).alloc(Nat.le_refl _)_);have hb0:Below w.heap.size w((w.alloc(aV true 0 0)).alloc(.map #[]0)):=((Below.refl _ _).alloc(Nat.le_refl _)_).alloc(by simp)_;have hs0:w.heap.size+2≤((w.alloc(aV true 0 0)).alloc(.map #[]0)).heap.size:=by simp
 dsimp only [aV]at hM0 hB0 hb0 hs0;go_enter Tryz.func69,Tryz.ntmps69
 go_wp2_with fail
 clear hmm;generalize World.alloc _ _=W0 at hM0 hB0 hb0 hs0 ⊢;go_loopw [4,15](fun q i wr=>∃(k sz:Nat),k≤n∧i=.int .i64 k∧q=.bool(qb(L.take k)).isSome∧MB(lU(L.take k))∧OB(qb(L.take k))∧qd w.heap.size true 0((qb(L.take k)).getD 0)wr∧MapU wr(w.heap.size+1)(lU(L.take k))sz∧sz≤k∧Below w.heap.size w wr∧w.heap.size+2≤wr.heap.size)(fun _ i _=>n - (intOf i).toNat)
 case atStart=>exact⟨0,0,Nat.zero_le _,rfl,rfl,Rp,Ra,hB0,hM0,Nat.le_refl _,hb0,hs0⟩
 case round=>
  clear hM0 hB0 hb0 hs0;obtain⟨k,sz,hk,rfl,rfl,hmb,hob,hB,hm,hsz,hb,hs2⟩:=hrel;by_cases hlt:k<n
  ·have hki:(k:Int)<(n:Int):=by omega
   obtain⟨x,hx⟩:∃x,L[k]?=some x:=⟨_,List.getElem?_eq_getElem(by omega)⟩;have hat:∀i z,i<3→([.bool x.1,.int .u32 x.2.1,.int .u32 x.2.2]:List Value)[i]?=some z→(RC L)[k * 3+i]?=some z:=fun i z hi hz=>(jT(fun x:Bool×Int×Int=>([Value.bool x.1,Value.int .u32 x.2.1,Value.int .u32 x.2.2]:List Value))3(by decide)(fun _=>rfl)L k i hi hx).trans hz;have hA':=hA.below hb;obtain⟨b1,o1,rfl,hj1⟩:=hA'(k * 3+0)_(hat 0 _(by decide)rfl);have d0:=hA'.one rfl(hat 0 _(by decide)rfl);have d1:=hA'.one rfl(hat 1 _(by decide)rfl);have d2:=hA'.one rfl(hat 2 _(by decide)rfl);have hxu:=KM hbd(List.mem_of_getElem? hx);have eM:Hid(lU(L.take(k+1))=gJ(lU(L.take k))x):=by
    show _=_;rw [oH hx,FN]
   have eO:Hid(qb(L.take(k+1))=kQ(qb(L.take k))x):=by
    show _=_;rw [oH hx,zg]
   have aat:Hid(MB(lU(L.take(k+1)))):=by
    show MB _;rw [eM.out];exact hmb.step hxu.1 hxu.2
   have acw:Hid(OB(qb(L.take(k+1)))):=by
    show OB _;rw [eO.out];exact hob.step hxu.2
   obtain⟨xo,xa,xs⟩:=x;dsimp only at d0 d1 d2 hxu;rw [Nat.add_zero]at d0;rw [←Nat.add_assoc]at d1 d2;have hB1:=hB.later((Below.refl _ wr).alloc(Nat.le_refl _)(aV xo xa xs));have hm1:=hm.kept(World.grownBy_alloc wr(aV xo xa xs)none)(by simp);have hb1:=hb.alloc hb.size(aV xo xa xs);have hs1:w.heap.size+2≤(wr.alloc(aV xo xa xs)).heap.size:=by simp;omega
   clear hj1 hat hA' hx hB hm hb hmb;generalize lU(L.take k)=f at hm1 eM;have ho:OB(qb(L.take k)):=hob;generalize qb(L.take k)=cc at hB1 eO ho ⊢;clear hob;cases xo
   ·have hl:=hm1.look hxu.1;obtain⟨W2,hr,hm2,hg2⟩:=hm1.put(by unfold maxLen;omega)hxu.1(v:=max((f xa).getD 0)xs)(by
     have hh:=(aat.out);rw [eM.out,Bw]at hh;exact(hh xa _(by simp [jJ])).2)
    have hB2:=hB1.kept hg2(by simp);have hb2:=hb1.grown hg2 hb1.size(fun k e=>by cases e;omega);have hs3:=Nat.le_trans hs1 hg2.size;have ael:(if(f xa).isSome then sz else sz+1)≤k+1:=by split<;>omega
    rw [Bw]at eM;clear hm1 hB1 hb1 hg2 hs1 hs2 ho;dsimp only [aV]at hl hr;generalize(f xa).getD 0=fx at hl hr hm2 eM;go_wp2
    go_roundw
    case rel=>exact⟨k+1,_,by omega,by go_num,by rw [eO.out];rfl,aat.out,acw.out,by rw [eO.out];exact hB2,by rw [eM.out];exact hm2,ael,hb2,hs3⟩
    case measure=>simp [intOf];omega
   ·obtain⟨c0,c1,c2⟩:=hB1.cell;have ff:=hB1.free 2;have hm2:=fun v=>hm1.kept(aa(aC _(some w.heap.size))2 v)(by simp);have hB2:=fun v=>hB1.VQ v;have hb2:=fun v=>hb1.setCell(p:=⟨w.heap.size,2,none⟩)(Nat.le_refl _)v;have hs3:∀v,w.heap.size+2≤((wr.alloc(aV true xa xs)).setCell⟨w.heap.size,2,none⟩v).heap.size:=fun v=>Nat.le_trans hs1(aa(aC _(some w.heap.size))2 v).size;clear hm1 hB1 hb1 hs1 hs2 hxu;dsimp only [aV]at c0 c1 c2 ff hm2 hB2 hb2 hs3;have XL:Hid(qb(L.take(k+1))=some(max(cc.getD 0)xs)):=by
     show _=_;rw [eO.out];rfl
    clear eO ho;generalize cc.getD 0=t at c2 XL;go_wp2
    go_roundw
    case rel=>exact⟨k+1,sz,by omega,by go_num,by rw [XL.out];rfl,aat.out,acw.out,by rw [XL.out];exact hB2 _,by rw [eM.out];exact hm2 _,by omega,hb2 _,hs3 _⟩
    case measure=>simp [intOf];omega
  ·have hkn:n≤k:=by omega
   rw [List.take_of_length_le(by omega)]at hB hm hmb hob ⊢;have hsn:sz≤L.length:=by omega
   have hLn:L.length≤50000:=by omega
   have hnn:n=L.length:=hL.symm;clear hkn hsz hs2 hA hL;have afM:=aa5 hfw hm;clear hfw;generalize hf:lU L=f at hm hmb;have hf':=(show Hid _ from hf);generalize hc:qb L=cc at hB hob ⊢;have hc':=(show Hid _ from hc);clear hf hc;have hs2:=hB.lt;have hMl:=hm.lt;have hkf:decide((k:Int)<(n:Int))=false:=decide_eq_false(by omega);have aeI:decide(k<n)=false:=decide_eq_false(by omega);cases cc with
   |none=>
    have EE:wr.ownsRow(w.heap.size+2)82 3(.slice none 0 0)(dw none).length(RC(dw none)):=⟨rfl,.inl⟨rfl,rfl⟩⟩;have aem:=hb.size;have ae7:=hm.lt;have Dz:Below wr.heap.size wr(wr.alloc(.cells #[.map(some(w.heap.size+1))]115)):=(Below.refl _ _).alloc(Nat.le_refl _)_;have hseq:=hm.yg(wr.alloc(.cells #[.map(some(w.heap.size+1))]115))wr.heap.size(by simp)(by simp)Dz;have hso:=sM 141 #[.pointer(some⟨wr.heap.size,0,none⟩)](enters_of Tryz.func141(by kernel_rfl)rfl)_ sz(by omega)_ hseq;have Y8:=(show Hid _ from hso);clear hso hseq;go_wp2_with fail
    refine(F6 _ _).mono ?_;rintro e w9⟨rfl,rfl⟩;go_wp2_with fail
    refine Calls.mono Y8.out ?_;rintro e W2⟨v,ts,ss,rfl,hS,hperm,hle,hlen,hrow,hb2⟩;have LK:=hm.kept⟨Dz.os,Dz.tape,Dz.output,Dz.size,fun k hk _=>Dz.block k hk⟩(row:=none)(by simp);have hm2:=LK.kept(below_grown hb2 none)(by simp);have hbb:=(hb.trans(Dz.mono hb.size)).trans(hb2.mono(by simp;omega));have ho2:=(aM EE Dz);have ho3:=aM ho2 hb2;have hlts:ts.Pairwise(·<·):=by
     have hnd:ts.Nodup:=hperm.nodup_iff.2 hS.1;rw [List.pairwise_iff_getElem]at hle ⊢;intro i j hi hj hij;have h1:=hle i j hi hj hij;have h2:=List.pairwise_iff_getElem.1 hnd i j hi hj hij;omega
    have hmem:∀a,a∈ts ↔ (f a).isSome=true:=fun a=>by
     rw [hperm.mem_iff,hS.2 a];constructor
     ·exact fun h=>h.2
     ·intro h;obtain⟨y,hy⟩:=Option.isSome_iff_exists.1 h;exact⟨(hmb a y hy).1,h⟩
    have hcmp:iw f none(dw none++fV f ts):=⟨ts,hlts,hmem,rfl⟩;have Sn:∀a∈ts,bg a:=fun a ha=>((hS.2 a).1(hperm.mem_iff.1 ha)).1;obtain⟨rE,c2',rfl,_⟩:=ak hrow;have SS:=(show Hid _ from hcmp);clear Y8 hm LK ho2 hb hb2 Dz hS hperm hle hlts hmem hcmp EE;go_wp2_with fail
    go_loopw [8,47](fun v i wr2=>∃j:Nat,j≤ts.length∧i=.int .i64 j∧wr2.ownsRow(w.heap.size+2)82 3 v((dw none).length+j)(RC(dw none++fV f(ts.take j)))∧wr2.ownsRow(wr.heap.size+1)34 1(.slice rE ts.length c2')ts.length(ts.map aU)∧MapU wr2(w.heap.size+1)f sz∧Below w.heap.size w wr2∧w.heap.size+2≤wr2.heap.size)(fun _ i _=>ts.length - (intOf i).toNat)
    case atStart=>
     refine⟨0,Nat.zero_le _,rfl,?_,by simpa using hrow,hm2,hbb,?_⟩
     ·simpa [fV]using ho3
     ·have:=hm2.lt;omega
    case round=>
     obtain⟨j,hj,rfl,dJ,hts,hmr,hbr,Ie⟩:=hrel;clear ho3 hrow hm2 hbb;by_cases hjl:j<ts.length
     ·have hji:(j:Int)<(ts.length:Int):=by omega
      obtain⟨g,cap,hv,_⟩:=bS hts(by omega);cases hv;have hta:(ts.map aU)[j]?=some(aU ts[j]):=by rw [List.getElem?_map,List.getElem?_eq_getElem hjl];rfl
      have d0:=(hts.cellAt j(by omega)).trans hta;have hau:=Sn _(List.getElem_mem hjl);have htk:Hid(ts.take(j+1)=ts.take j++ [ts[j]]):=List.bJ hjl;generalize ts[j]=a at d0 hau htk hta;have hlk:=hmr.look hau;have hap:=bX hts dJ(by decide);have hla:=dJ.lt;have hk1:Hid((dw none).length+j+1≤maxLen):=by show _≤_;simp [dw];unfold maxLen;omega
      have hk2:Hid(((dw none).length+j+1)* 12≤140737488355328):=by show _≤_;simp [dw];omega
      clear hta;generalize dw none=m_ at *;go_wp2_with(at_builtin;refine wpList_append_own_at _ rfl _ _ 79 rfl(w.heap.size+2)82 i0(.agg #[.bool false,.int .u32 0,.int .u32 0])3 12 Tryz.underlying79 hi hz0 hz1 hz2 rfl(by decide)u8(m_.length+j)(RC(m_++fV f(ts.take j)))rfl(dJ.alloc _)⟨wr.heap.size,0,none⟩1 1(RC [(false,a,(f a).getD 0)])rfl rfl(kF wr false a((f a).getD 0))(mM false a((f a).getD 0))hk1.out hk2.out ?c4 ?_)
      case c4=>simp;omega
      intro v9 w9 ho9 bQ _ _;have Z_:=(hts.alloc(aV false a((f a).getD 0))).kept bQ hap;have LK:=(hmr.kept(World.grownBy_alloc wr(aV false a((f a).getD 0))none)(by simp)).kept bQ(fun e=>by have:=(hla _ e.symm).1;omega);have gy:=(hbr.alloc hbr.size(aV false a((f a).getD 0))).grown bQ(by simp;omega)(fun k e=>by have:=(hla k e).1;omega);have qG:w.heap.size+2≤w9.heap.size:=by have:=bQ.size;simp at this;omega
      clear dJ hts hmr hbr bQ hap hlk d0;go_wp2
      go_roundw
      case rel=>
       refine⟨j+1,by omega,by go_num,?_,Z_,LK,gy,qG⟩;rw [htk.out,BN,←List.append_assoc,kK,←Nat.add_assoc];exact ho9
      case measure=>simp [intOf];omega
     ·have hjn:j=ts.length:=by omega
      subst hjn;rw [List.take_length]at dJ;clear hts hmr;go_wp2
      go_ret
      refine⟨_,dw none++fV f ts,rfl,?_,?_,?_,hbr⟩
      ·rw [hf'.out,hc'.out];exact SS.out
      ·simp [dw,fV];omega
      ·have hol:(dw none++fV f ts).length=(dw none).length+ts.length:=by simp [fV]
       rw [hol];exact ownsRow_base_a dJ(by omega)
   |some t=>
    obtain⟨c0,c1,c2⟩:=hB.cell;rw [Option.getD_some]at c2;go_wp2_with(at_builtin;refine wpList_append_own_at _ rfl _ _ 79 rfl(w.heap.size+2)82 i0(.agg #[.bool false,.int .u32 0,.int .u32 0])3 12 Tryz.underlying79 hi hz0 hz1 hz2 rfl(by decide)(.slice none 0 0)0 []rfl⟨rfl,.inl⟨rfl,rfl⟩⟩⟨wr.heap.size,0,none⟩1 1(RC [(true,0,t)])rfl rfl(kF wr true 0 t)(mM true 0 t)(by decide)(by decide) ?c3 ?_)
    case c3=>simp;omega
    intro v8 w8 EE jh hn8 _;have Oe:=(hm.kept(World.grownBy_alloc wr(aV true 0 t)none)(by simp)).kept jh(by simp [Value.ownBlock]);have ll:Below w.heap.size w w8:=(hb.alloc hb.size _).grown jh(by simp;omega)(fun k e=>by simp [Value.ownBlock]at e);clear hm hb jh hn8 c0 c1 c2 hkf aeI;have acx:w8.ownsRow(w.heap.size+2)82 3 v8(dw(some t)).length(RC(dw(some t))):=EE;clear EE;have hm:=Oe;have hb:=ll;clear Oe ll;have aem:=hb.size;have ae7:=hm.lt;have Dz:Below w8.heap.size w8(w8.alloc(.cells #[.map(some(w.heap.size+1))]115)):=(Below.refl _ _).alloc(Nat.le_refl _)_;have hseq:=hm.yg(w8.alloc(.cells #[.map(some(w.heap.size+1))]115))w8.heap.size(by simp)(by simp)Dz;have hso:=sM 141 #[.pointer(some⟨w8.heap.size,0,none⟩)](enters_of Tryz.func141(by kernel_rfl)rfl)_ sz(by omega)_ hseq;have Y8:=(show Hid _ from hso);clear hso hseq;go_wp2_with fail
    refine(F6 _ _).mono ?_;rintro e w9⟨rfl,rfl⟩;go_wp2_with fail
    refine Calls.mono Y8.out ?_;rintro e W2⟨v,ts,ss,rfl,hS,hperm,hle,hlen,hrow,hb2⟩;have LK:=hm.kept⟨Dz.os,Dz.tape,Dz.output,Dz.size,fun k hk _=>Dz.block k hk⟩(row:=none)(by simp);have hm2:=LK.kept(below_grown hb2 none)(by simp);have hbb:=(hb.trans(Dz.mono hb.size)).trans(hb2.mono(by simp;omega));have ho2:=(aM acx Dz);have ho3:=aM ho2 hb2;have hlts:ts.Pairwise(·<·):=by
     have hnd:ts.Nodup:=hperm.nodup_iff.2 hS.1;rw [List.pairwise_iff_getElem]at hle ⊢;intro i j hi hj hij;have h1:=hle i j hi hj hij;have h2:=List.pairwise_iff_getElem.1 hnd i j hi hj hij;omega
    have hmem:∀a,a∈ts ↔ (f a).isSome=true:=fun a=>by
     rw [hperm.mem_iff,hS.2 a];constructor
     ·exact fun h=>h.2
     ·intro h;obtain⟨y,hy⟩:=Option.isSome_iff_exists.1 h;exact⟨(hmb a y hy).1,h⟩
    have hcmp:iw f(some t)(dw(some t)++fV f ts):=⟨ts,hlts,hmem,rfl⟩;have Sn:∀a∈ts,bg a:=fun a ha=>((hS.2 a).1(hperm.mem_iff.1 ha)).1;obtain⟨rE,c2',rfl,_⟩:=ak hrow;have SS:=(show Hid _ from hcmp);clear Y8 hm LK ho2 hb hb2 Dz hS hperm hle hlts hmem hcmp acx;go_wp2_with fail
    go_loopw [8,47](fun v i wr2=>∃j:Nat,j≤ts.length∧i=.int .i64 j∧wr2.ownsRow(w.heap.size+2)82 3 v((dw(some t)).length+j)(RC(dw(some t)++fV f(ts.take j)))∧wr2.ownsRow(w8.heap.size+1)34 1(.slice rE ts.length c2')ts.length(ts.map aU)∧MapU wr2(w.heap.size+1)f sz∧Below w.heap.size w wr2∧w.heap.size+2≤wr2.heap.size)(fun _ i _=>ts.length - (intOf i).toNat)
    case atStart=>
     refine⟨0,Nat.zero_le _,rfl,?_,by simpa using hrow,hm2,hbb,?_⟩
     ·simpa [fV]using ho3
     ·have:=hm2.lt;omega
    case round=>
     obtain⟨j,hj,rfl,dJ,hts,hmr,hbr,Ie⟩:=hrel;clear ho3 hrow hm2 hbb;by_cases hjl:j<ts.length
     ·have hji:(j:Int)<(ts.length:Int):=by omega
      obtain⟨g,cap,hv,_⟩:=bS hts(by omega);cases hv;have hta:(ts.map aU)[j]?=some(aU ts[j]):=by rw [List.getElem?_map,List.getElem?_eq_getElem hjl];rfl
      have d0:=(hts.cellAt j(by omega)).trans hta;have hau:=Sn _(List.getElem_mem hjl);have htk:Hid(ts.take(j+1)=ts.take j++ [ts[j]]):=List.bJ hjl;generalize ts[j]=a at d0 hau htk hta;have hlk:=hmr.look hau;have hap:=bX hts dJ(by decide);have hla:=dJ.lt;have hk1:Hid((dw(some t)).length+j+1≤maxLen):=by show _≤_;simp [dw];unfold maxLen;omega
      have hk2:Hid(((dw(some t)).length+j+1)* 12≤140737488355328):=by show _≤_;simp [dw];omega
      clear hta;generalize dw(some t)=m_ at *;go_wp2_with(at_builtin;refine wpList_append_own_at _ rfl _ _ 79 rfl(w.heap.size+2)82 i0(.agg #[.bool false,.int .u32 0,.int .u32 0])3 12 Tryz.underlying79 hi hz0 hz1 hz2 rfl(by decide)u8(m_.length+j)(RC(m_++fV f(ts.take j)))rfl(dJ.alloc _)⟨wr.heap.size,0,none⟩1 1(RC [(false,a,(f a).getD 0)])rfl rfl(kF wr false a((f a).getD 0))(mM false a((f a).getD 0))hk1.out hk2.out ?c4 ?_)
      case c4=>simp;omega
      intro v9 w9 ho9 bQ _ _;have Z_:=(hts.alloc(aV false a((f a).getD 0))).kept bQ hap;have LK:=(hmr.kept(World.grownBy_alloc wr(aV false a((f a).getD 0))none)(by simp)).kept bQ(fun e=>by have:=(hla _ e.symm).1;omega);have gy:=(hbr.alloc hbr.size(aV false a((f a).getD 0))).grown bQ(by simp;omega)(fun k e=>by have:=(hla k e).1;omega);have qG:w.heap.size+2≤w9.heap.size:=by have:=bQ.size;simp at this;omega
      clear dJ hts hmr hbr bQ hap hlk d0;go_wp2
      go_roundw
      case rel=>
       refine⟨j+1,by omega,by go_num,?_,Z_,LK,gy,qG⟩;rw [htk.out,BN,←List.append_assoc,kK,←Nat.add_assoc];exact ho9
      case measure=>simp [intOf];omega
     ·have hjn:j=ts.length:=by omega
      subst hjn;rw [List.take_length]at dJ;clear hts hmr;go_wp2
      go_ret
      refine⟨_,dw(some t)++fV f ts,rfl,?_,?_,?_,hbr⟩
      ·rw [hf'.out,hc'.out];exact SS.out
      ·simp [dw,fV];omega
      ·have hol:(dw(some t)++fV f ts).length=(dw(some t)).length+ts.length:=by simp [fV]
       rw [hol];exact ownsRow_base_a dJ(by omega)
end Go.Proofs.YtakaadcpaeiccabGreat
