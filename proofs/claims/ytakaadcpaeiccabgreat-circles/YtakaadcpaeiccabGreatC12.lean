import Derived.Test.YtakaadcpaeiccabGreatC11
set_option maxHeartbeats 4000000
set_option maxRecDepth 100000
namespace Go.Proofs.YtakaadcpaeiccabGreat
open Go.RowKit Go.Maps
theorem M9(M:Nat)(w:World):
  Calls Tryz.prog 134 #[.map(some M)]w fun e w'=>e=.returned(.func(.func 170)#[]#[.pointer(some⟨w.heap.size,0,none⟩)])∧w'=w.alloc(.cells #[.map(some M)]156):=by
 go_enter Tryz.func134,Tryz.ntmps134
 go_wp2
 go_ret
 exact⟨rfl,rfl⟩
theorem eX.yg {W:World} {M:Nat} {f:Int→Option Nat} {s:Nat}(h:eX W M f s)(w:World)(Bm:Nat)(hBm:Bm<w.heap.size)(hm:w.cell?⟨Bm,0,none⟩=some(.map(some M)))(hW:Below W.heap.size W w):
  SeqGives Fence.wide 1 Tryz.prog 170 #[.pointer(some⟨Bm,0,none⟩)]aU(fun ss=>ss.Nodup∧∀x,x∈ss ↔ (bg x∧(f x).isSome=true))s w:=by
 have hl:=h.lt;obtain⟨D,h1,h2,h3⟩:=h;have h1':w.ownsMap Tryz.prog 34 CX M s D:=by
  obtain⟨es,clock,hb,Ft,hs,hD⟩:=h1;exact⟨es,clock,(hW.block M hl).trans hb,Ft,hs,hD⟩
 have hg:=E_ Fence.wide 1 trivial rfl(Nat.le_refl _)Bm M s D w hBm hm h1';rw [h2]at hg;intro l J W' hW' hJ hY h0;refine(hg l J W' hW' hJ hY h0).mono ?_;rintro e W2⟨hv,ss,hk,hj⟩;refine⟨hv,ss,⟨hk.1,fun x=> ?_⟩,hj⟩;constructor
 ·intro hx;have hw:=bounds_u32(hk.2.1 x hx);have hU:bg x:=⟨hw.1,by have:=hw.2;omega⟩;exact⟨hU,by rw [←(h3 x hU).1];exact(hk.2.2 x).1 hx⟩
 ·rintro⟨hU,hs⟩;exact(hk.2.2 x).2(by rw [(h3 x hU).1];exact hs)
theorem Cn {me:Int} {T M:Nat} {f:Int→Option Nat} {g:Int→Value} {A:List Rt} {w:World}(h:MT me T M f g A w):
  Calls Tryz.prog 95 #[.pointer(some⟨T,0,none⟩)]w fun e w'=>∃v,e=.returned v∧w'.ownsRow w.heap.size 34 1 v A.length((A.map(·.dest)).map aU)∧Below w.heap.size w w':=by
 obtain⟨c0,c1⟩:=h.blk.cell;have gy:Below w.heap.size w(w.alloc(.cells #[.map(some M)]156)):=(Below.refl _ _).alloc(Nat.le_refl _)_;have hseq:=h.map.yg(w.alloc(.cells #[.map(some M)]156))w.heap.size(by simp)(by simp)gy;have hso:=sM 170 #[.pointer(some⟨w.heap.size,0,none⟩)](enters_of Tryz.func170(by kernel_rfl)rfl)_ A.length(by have:=h.len;omega)_ hseq;have Y8:=(show Hid _ from hso);clear hso hseq;go_enter Tryz.func95,Tryz.ntmps95
 go_wp2_with fail
 refine(M9 _ _).mono ?_;rintro e w9⟨rfl,rfl⟩;go_wp2_with fail
 refine Calls.mono Y8.out ?_;rintro e W2⟨v,ts,ss,rfl,hS,hperm,hle,hlen,hrow,hb2⟩;have hlts:ts.Pairwise(·<·):=by
  have hnd:ts.Nodup:=hperm.nodup_iff.2 hS.1;rw [List.pairwise_iff_getElem]at hle ⊢;intro i j hi hj hij;have h1:=hle i j hi hj hij;have h2:=List.pairwise_iff_getElem.1 hnd i j hi hj hij;omega
 have hts:ts=A.map(·.dest):=by
  refine BS hlts(by rw [List.pairwise_map];exact h.wC)fun a=> ?_;rw [hperm.mem_iff,hS.2 a,List.mem_map];constructor
  ·rintro⟨hU,hs⟩;obtain⟨B,hB⟩:=Option.isSome_iff_exists.1 hs;obtain⟨x,hx,hxd⟩:=h.dom a B hU hB;exact⟨x,hx,hxd⟩
  ·rintro⟨x,hx,rfl⟩;obtain⟨B,hB,_⟩:=h.ln x hx;exact⟨(h.ok x hx).dest,by rw [hB];rfl⟩
 subst hts;have hbb:=gy.trans(hb2.mono(by simp));rw [List.length_map]at hrow;have hrow':=ownsRow_base_a(base':=w.heap.size)hrow(by simp);clear Y8 hS hperm hle hlen hrow hlts gy hb2;go_wp2
 go_ret
 exact⟨v,rfl,hrow',hbb⟩
def Zz(p:Rt×Value):List Value:=[.int .u32 p.1.dest,.int .u32 p.1.seq,.int .i64 p.1.hops,.int .u32 p.1.next,.bool p.1.valid,.int .u64 p.1.exp,p.2]
def PV(L:List(Rt×Value)):List Value:=L.flatMap Zz
theorem JY(a b:List(Rt×Value)):PV(a++b)=PV a++PV b:=by simp [PV]
theorem Uj {L:List(Rt×Value)} {k:Nat} {p:Rt×Value}(h:L[k]?=some p) {i:Nat}(hi:i<7):(PV L)[k * 7+i]?=(Zz p)[i]?:=
 jT Zz 7(by decide)(fun _=>rfl)L k i hi h
theorem WP:(Tryz.prog.info? 38).map(fun i=>(i.zero,i.size,i.bytes))=some(some(.agg #[.int .u32 0,.int .u32 0,.int .i64 0,.int .u32 0,.bool false,.int .u64 0,.slice none 0 0]),7,56):=by kernel_rfl
theorem ZI(x:Rt)(a:Option Addr)(n c:Nat):∀u∈PV [(x,.slice a n c)],u.oneCell'=true:=by
 intro u hu;simp only [PV,Zz,List.flatMap_cons,List.flatMap_nil,List.append_nil,List.mem_cons,List.not_mem_nil,or_false]at hu;rcases hu with rfl|rfl|rfl|rfl|rfl|rfl|rfl<;>rfl
theorem TS(W:World)(x:Rt)(v:Value):∀(j:Nat)(u:Value),(PV [(x,v)])[j]?=some u→(W.alloc(b_ x v)).cell?((⟨W.heap.size,0,none⟩:Addr).add j)=some u:=by
 intro j u hj;obtain⟨q0,q1,q2,q3,q4,q5,q6⟩:=(dP.new x v W).cell;rw [Addr.add_lit,Nat.zero_add];simp only [PV,Zz,List.flatMap_cons,List.flatMap_nil,List.append_nil]at hj
 match j,hj with
 |0,hj=>exact q0.trans hj
 |1,hj=>exact q1.trans hj
 |2,hj=>exact q2.trans hj
 |3,hj=>exact q3.trans hj
 |4,hj=>exact q4.trans hj
 |5,hj=>exact q5.trans hj
 |6,hj=>exact q6.trans hj
 |j+7,hj=>simp at hj
structure nJ(base:Nat)(v:Value)(L:List(Rt×Value))(W:World):Prop where
 row:W.ownsRow base 38 7 v L.length(PV L)
 bB:∀p∈L,W.ownsRow base 34 1 p.2 p.1.bB.length(p.1.bB.map aU)
theorem nJ.later {base:Nat} {v:Value} {L:List(Rt×Value)} {W W':World}(h:nJ base v L W)(hb:Below W.heap.size W W'):nJ base v L W':=
 ⟨aM h.row hb,fun p hp=>aM(h.bB p hp)hb⟩
theorem Hu {me:Int} {T M:Nat} {f:Int→Option Nat} {g:Int→Value} {A:List Rt} {w:World}(h:MT me T M f g A w):
  Calls Tryz.prog 60 #[.pointer(some⟨T,0,none⟩)]w fun e w'=>∃v L,e=.returned v∧L.map(·.1)=A∧nJ w.heap.size v L w'∧Below w.heap.size w w':=by
 obtain⟨i0,hi,hz0,hz1,hz2⟩:=info_parts WP;have hlen:=h.len;have HD:=(show Hid _ from Cn h);go_enter Tryz.func60,Tryz.ntmps60
 go_wp2_with fail
 refine Calls.mono HD.out ?_;rintro e w1⟨dv,rfl,hdr,hb1⟩;clear HD;obtain⟨ad,cd,rfl,_⟩:=ak hdr;go_wp2_with fail
 go_loopw [3,9](fun lv i wr=>∃(k:Nat)(L:List(Rt×Value)),k≤A.length∧i=.int .i64 k∧L.map(·.1)=A.take k∧nJ w.heap.size lv L wr∧wr.ownsRow w.heap.size 34 1(.slice ad A.length cd)A.length((A.map(·.dest)).map aU)∧Below w.heap.size w wr)(fun _ i _=>A.length - (intOf i).toNat)
 case atStart=>exact⟨0,[],Nat.zero_le _,rfl,rfl,⟨⟨rfl,.inl⟨rfl,rfl⟩⟩,fun p hp=>by simp at hp⟩,hdr,hb1⟩
 case round=>
  clear hdr hb1;obtain⟨k,L,hk,rfl,hL,hls,hdr,hb⟩:=hrel;have Xk:L.length=k:=by
   have:=congrArg List.length hL;simp at this;omega
  by_cases hlt:k<A.length
  ·have hki:(k:Int)<(A.length:Int):=by omega
   obtain⟨x,hx⟩:∃x,A[k]?=some x:=⟨_,List.getElem?_eq_getElem hlt⟩;have Jj:=List.mem_of_getElem? hx;obtain⟨gd,afp,hv,_⟩:=bS hdr(by omega);cases hv;have d0:=(hdr.cellAt k(by omega)).trans(by rw [List.getElem?_map,List.getElem?_map,hx];rfl:((A.map(·.dest)).map aU)[k]?=some(aU x.dest));have hM:=h.later hb;obtain⟨B,hB,hLn⟩:=hM.ln x Jj;have hR:=hM.row x Jj;have hok:=h.ok x Jj;have hlk:=hM.map.look hok.dest;rw [hB]at hlk;simp only [fJ]at hlk;obtain⟨t0,t1⟩:=hM.blk.cell;have hx':=(show Hid _ from hx);have hL':=(show Hid _ from hL);clear hM hx hL;go_wp2_with fail
   refine(xg B x(g x.dest)hok.O_ _ hLn hR).mono ?_;rintro e w2⟨v',rfl,ho2,hb2⟩;obtain⟨rE,c2',rfl,_⟩:=ak ho2;have zB:=hls.later hb2;have DT:=aM hdr hb2;have hbb:=hb.trans(hb2.mono hb.size);have acy:=ownsRow_base_a ho2 hb.size;clear hls hdr hb2 ho2 hLn hR hlk t0 t1 d0;have hla:=zB.row.lt;have hap:∀p∈L++ [(x,Value.slice rE x.bB.length c2')],w2.ownsRow w.heap.size 34 1 p.2 p.1.bB.length(p.1.bB.map aU):=by
    intro p hp;rcases List.mem_append.1 hp with hp|hp
    ·exact zB.bB p hp
    ·rw [List.mem_singleton]at hp;subst hp;exact acy
   have hk1:Hid(L.length+1≤maxLen):=by show _≤_;unfold maxLen;omega
   have hk2:Hid((L.length+1)* 56≤140737488355328):=by show _≤_;omega
   have hr0:=zB.row;go_wp2_with(at_builtin;refine wpList_append_own_at _ rfl _ _ 31 rfl w.heap.size 38 i0(.agg #[.int .u32 0,.int .u32 0,.int .i64 0,.int .u32 0,.bool false,.int .u64 0,.slice none 0 0])7 56 Tryz.underlying31 hi hz0 hz1 hz2 rfl(by decide)u3 L.length(PV L)rfl(hr0.alloc _)⟨w2.heap.size,0,none⟩1 1(PV [(x,.slice rE x.bB.length c2')])rfl rfl(TS w2 x(.slice rE x.bB.length c2'))(ZI x rE x.bB.length c2')hk1.out hk2.out ?c3 ?_)
   case c3=>have:=hbb.size;simp;omega
   intro v3 w3 ho3 hg3 _ _;have hb3:Below w2.heap.size w2(w2.alloc(b_ x(.slice rE x.bB.length c2'))):=(Below.refl _ _).alloc(Nat.le_refl _)_;have aeC:nJ w.heap.size v3(L++ [(x,.slice rE x.bB.length c2')])w3:=by
    refine⟨by rw [List.length_append,JY,Xk];exact ho3,fun p hp=> ?_⟩;have h1:=aM(hap p hp)hb3;exact h1.kept hg3(bX h1(hr0.alloc _)(by decide))
   have aaA:=(aM DT hb3).kept hg3(bX(aM DT hb3)(hr0.alloc _)(by decide));have hb4:=(hbb.trans(hb3.mono hbb.size)).grown hg3(by have:=hbb.size;simp;omega)(fun k e=>(hla k e).1);clear zB DT hbb hap acy ho3 hg3 hb3 hr0 hla;go_wp2
   go_roundw
   case rel=>
    refine⟨k+1,L++ [(x,.slice rE x.bB.length c2')],by omega,by go_num,?_,aeC,aaA,hb4⟩;rw [List.map_append,hL'.out,List.take_add_one,hx'.out];rfl
   case measure=>simp [intOf];omega
  ·have hkn:A.length≤k:=by omega
   rw [List.take_of_length_le hkn]at hL;clear hdr hkn;go_wp2
   go_ret
   exact⟨_,L,rfl,hL,hls,hb⟩
def jK(F:Rt→Rt)(j:Nat)(A:List Rt):List Rt:=(A.take j).map F++A.drop j
theorem yF(F:Rt→Rt)(A:List Rt):jK F 0 A=A:=by simp [jK]
theorem MW(F:Rt→Rt) {A:List Rt} {j:Nat}(h:A.length≤j):jK F j A=A.map F:=by
 unfold jK;rw [List.take_of_length_le h,List.drop_eq_nil_of_le h,List.append_nil]
theorem Bz(F:Rt→Rt) {A:List Rt} {j i:Nat}(hi:j≤i):(jK F j A)[i]?=A[i]?:=by
 unfold jK;by_cases hj:j≤A.length
 ·rw [List.getElem?_append_right(by simp;omega),List.getElem?_drop]
  congr 1
  simp;omega
 ·rw [List.getElem?_eq_none(by simp;omega),List.getElem?_eq_none(by omega)]
theorem MS(F:Rt→Rt) {A:List Rt} {j:Nat} {x:Rt}(hx:A[j]?=some x):(jK F j A).set j(F x)=jK F(j+1)A:=by
 obtain⟨hj,rfl⟩:=List.getElem?_eq_some_iff.1 hx;unfold jK;rw [List.vL _ _(by simp;omega),List.bJ hj,List.map_append,List.append_assoc]
 congr 1
 have h0:j - ((A.take j).map F).length=0:=by rw [List.length_map,List.length_take,Nat.min_eq_left(Nat.le_of_lt hj),Nat.sub_self]
 rw [h0,List.drop_eq_getElem_cons hj];rfl
theorem MV(F:Rt→Rt) {A:List Rt} {j:Nat} {x:Rt}(hs:Asc(jK F j A))(hx:A[j]?=some x):gI(jK F j A)x.dest F=jK F(j+1)A:=by
 rw [Rm hs(by rw [Bz F(Nat.le_refl _)];exact hx)rfl,MS F hx]
def Bf(dX:Int)(y:Rt):Option(Int×Int):=if(y.valid&&(y.next==dX))&&decide(0<y.bB.length)then some(y.dest,max(gr y.seq)0)else none
def nG(dX:Int)(A:List Rt):List(Int×Int):=A.filterMap(Bf dX)
theorem O6(dX:Int) {A:List Rt} {k:Nat} {x:Rt}(h:A[k]?=some x):nG dX(A.take(k+1))=nG dX(A.take k)++(Bf dX x).toList:=by
 unfold nG;rw [List.take_add_one,h,List.OQ]
 congr 1
theorem qR(dX:Int)(A:List Rt):(nG dX A).length≤A.length:=List.Ic _ _
def Bl(L:List(Int×Int)):List Value:=L.flatMap fun x=> [.int .u32 x.1,.int .u32 x.2]
theorem Ar(a b:List(Int×Int)):Bl(a++b)=Bl a++Bl b:=by simp [Bl]
theorem Lx:(Tryz.prog.info? 237).map(fun i=>(i.zero,i.size,i.bytes))=some(some(.agg #[.int .u32 0,.int .u32 0]),2,8):=by kernel_rfl
theorem G5(W:World)(d s:Int):∀(j:Nat)(u:Value),(Bl [(d,s)])[j]?=some u→(W.alloc(.cells #[.int .u32 d,.int .u32 s]237)).cell?((⟨W.heap.size,0,none⟩:Addr).add j)=some u:=by
 intro j u hj;have h:=heap_alloc_new W(.cells #[.int .u32 d,.int .u32 s]237);rw [Addr.add_lit,Nat.zero_add];simp only [Bl,List.flatMap_cons,List.flatMap_nil,List.append_nil]at hj
 match j,hj with
 |0,hj=>exact(cell_of_row _ _ 0 _ _ _ h).trans hj
 |1,hj=>exact(cell_of_row _ _ 1 _ _ _ h).trans hj
 |j+2,hj=>simp at hj
theorem Q6(d s:Int):∀u∈Bl [(d,s)],u.oneCell'=true:=by
 intro u hu;simp only [Bl,List.flatMap_cons,List.flatMap_nil,List.append_nil,List.mem_cons,List.not_mem_nil,or_false]at hu;rcases hu with rfl|rfl<;>rfl
theorem DX {S:Nat→Prop} {w W W':World} {e size n:Nat} {v:Value} {cs:List Value}(h:W.ownsRow w.heap.size e size v n cs)(hS:∀k,S k→k<w.heap.size) {B:Nat}(hB:S B)(hg:W.grownBy W'(some B)):W'.ownsRow w.heap.size e size v n cs:=
 bD h fun k hk=>hg.block k(h.lt k hk).2(fun e=>by
  have h1:=(h.lt k hk).1;have h2:=hS _ hB;have h3:B=k:=by injection e with e;exact e.symm
  omega)
theorem Kg {me:Int} {T M:Nat} {f:Int→Option Nat} {g:Int→Value} {A:List Rt} {S:Nat→Prop}(dX:Int) {w:World}(h:MT me T M f g A w)(hS:∀k,mg T M f g A k→S k)(hSb:∀k,S k→k<w.heap.size):
  Calls Tryz.prog 138 #[.pointer(some⟨T,0,none⟩),.int .u32 dX]w fun e w'=>∃v g',e=.returned v∧w'.ownsRow w.heap.size 237 2 v(nG dX A).length(Bl(nG dX A))∧MT me T M f g'(A.map(bY dX 0))w'∧(∀k,mg T M f g'(A.map(bY dX 0))k→S k)∧Fx S w w':=by
 obtain⟨i0,hi,hz0,hz1,hz2⟩:=info_parts Lx;have hlen:=h.len;have HD:=(show Hid _ from Cn h);have hok0:=h.ok;go_enter Tryz.func138,Tryz.ntmps138
 go_wp2_with fail
 refine Calls.mono HD.out ?_;rintro e w1⟨dv,rfl,hdr,hb1⟩;clear HD;obtain⟨ad,cd,rfl,_⟩:=ak hdr;have h1:=h.later hb1;go_wp2_with fail
 go_loopw [5,13](fun lv i wr=>∃(k:Nat)(g':Int→Value),k≤A.length∧i=.int .i64 k∧MT me T M f g'(jK(bY dX 0)k A)wr∧(∀q,mg T M f g'(jK(bY dX 0)k A)q→S q)∧wr.ownsRow w.heap.size 237 2 lv(nG dX(A.take k)).length(Bl(nG dX(A.take k)))∧wr.ownsRow w.heap.size 34 1(.slice ad A.length cd)A.length((A.map(·.dest)).map aU)∧Fx S w wr)(fun _ i _=>A.length - (intOf i).toNat)
 case atStart=>
  refine⟨0,g,Nat.zero_le _,rfl,?_,?_,⟨rfl,.inl⟨rfl,rfl⟩⟩,hdr,Fx.below hb1⟩
  ·rw [yF];exact h1
  ·rw [yF];exact hS
 case round=>
  clear hdr hb1 h1;obtain⟨k,g',hk,rfl,hM,zK,hls,hdr,hfx⟩:=hrel;by_cases hlt:k<A.length
  ·have hki:(k:Int)<(A.length:Int):=by omega
   obtain⟨x,hx⟩:∃x,A[k]?=some x:=⟨_,List.getElem?_eq_getElem hlt⟩;have Jj:=List.mem_of_getElem? hx;obtain⟨gd,afp,hv,_⟩:=bS hdr(by omega);cases hv;have d0:=(hdr.cellAt k(by omega)).trans(by rw [List.getElem?_map,List.getElem?_map,hx];rfl:((A.map(·.dest)).map aU)[k]?=some(aU x.dest));have hxs:(jK(bY dX 0)k A)[k]?=some x:=by rw [Bz _(Nat.le_refl _)];exact hx
   have hxM:=List.mem_of_getElem? hxs;have hok:=hok0 x Jj;have hl:=jm hM.wC hxM;obtain⟨B,hB,hLn⟩:=hM.ln x hxM;have hR:=hM.row x hxM;have hlk:=hM.map.look hok.dest;rw [hB]at hlk;simp only [fJ]at hlk;obtain⟨t0,t1⟩:=hM.blk.cell;obtain⟨c0,c1,c2,c3,c4,c5,c6⟩:=hLn.cell;obtain⟨av,cv,hgv,_⟩:=ak hR;have hrB:=hM.abW hl hB;rw [hgv]at c6;have hsn:=O6 dX hx;have hmod:=MV(bY dX 0)hM.wC hx;have YQ:S B:=zK B(hM.inB hl hB);have Ig:=(show Hid _ from hsn);have hMod:=(show Hid _ from hmod);clear hsn hmod hx hxs;by_cases UU:(x.valid&&(x.next==dX))=true
   ·have hxv:x.valid=true:=by revert UU;cases x.valid<;>simp
    have Ob:(x.next==dX)=true:=by revert UU;cases x.valid<;>simp
    have hF:bY dX 0 x=pY x 0:=by unfold bY;rw [if_pos UU]
    rw [hxv]at c4;have hel:x.next=dX:=by simpa using Ob
    have hpre:Hid(∀w':World,dP B(pY x 0)(.slice none 0 0)w'→wr.grownBy w'(some B)→∃g2,MT me T M f g2(jK(bY dX 0)(k+1)A)w'∧(∀q,mg T M f g2(jK(bY dX 0)(k+1)A)q→S q)):=by
     intro w' hL' hg;have ht:=hM.turn(W':=w')hl hB(bY dX 0)(dZ dX 0)(by rw [hF];exact uV hok(by simp [bg]))(.slice none 0 0)(by rw [hF];exact hL')(by rw [hF];exact⟨rfl,.inl⟨rfl,rfl⟩⟩)(.inl rfl)(fun q hq hqB _=>hg.block q(hM.lt hq)(fun e=>hqB(by cases e;rfl)));rw [hMod.out]at ht;refine⟨_,ht.1,fun q hq=> ?_⟩;rcases ht.2 q hq with h3|h3
     ·exact zK q h3
     ·cases h3
    have HE:=(show Hid _ from D9 B x(g' x.dest)0 wr hLn);clear hM zK hR;by_cases hbf:0<x.bB.length
    ·have hbp:Bf dX x=some(x.dest,max(gr x.seq)0):=by
      unfold Bf;rw [UU,decide_eq_true hbf];rfl
     rw [hbp]at Ig;have hd1:decide(0<(x.bB.length:Int))=true:=decide_eq_true(by omega);have hd2:decide(0<x.bB.length)=true:=decide_eq_true hbf;go_wp2_with fail
     refine Calls.mono HE.out ?_;rintro e w2⟨rfl,hL2,hg2⟩;obtain⟨g2,hM2,Xi⟩:=hpre.out w2 hL2 hg2;have zB:=DX hls hSb YQ hg2;have DT:=DX hdr hSb YQ hg2;have Ba:=hfx.trans(Fx.grown(S:=S)hg2(fun q e=>by cases e;exact YQ))(fun _ _ h=>h);clear HE hpre c0 c1 c2 c3 c4 c5 c6 hLn hls hdr hfx t0 t1 hlk d0 hg2;obtain⟨_,c1,_⟩:=hL2.cell;have hla:=zB.lt;have hk1:Hid((nG dX(A.take k)).length+1≤maxLen):=by
      show _≤_;have:=qR dX(A.take k);simp at this;unfold maxLen;omega
     have hk2:Hid(((nG dX(A.take k)).length+1)* 8≤140737488355328):=by
      show _≤_;have:=qR dX(A.take k);simp at this;omega
     have hsz:=Ba.size;have c1':w2.cell?⟨B,1,none⟩=some(.int .u32(max(gr x.seq)0)):=c1;generalize max(gr x.seq)0=qs at Ig c1';clear c1 hL2;go_wp2_with(at_builtin;refine wpList_append_own_at _ rfl _ _ 71 rfl w.heap.size 237 i0(.agg #[.int .u32 0,.int .u32 0])2 8 Tryz.underlying71 hi hz0 hz1 hz2 rfl(by decide)u5(nG dX(A.take k)).length(Bl(nG dX(A.take k)))rfl(zB.alloc _)⟨w2.heap.size,0,none⟩1 1(Bl [(x.dest,qs)])rfl rfl(G5 w2 x.dest qs)(Q6 x.dest qs)hk1.out hk2.out ?c3 ?_)
     case c3=>simp;omega
     intro v3 w3 ho3 hg3 _ _;have hb3:Below w2.heap.size w2(w2.alloc(.cells #[.int .u32 x.dest,.int .u32 qs]237)):=(Below.refl _ _).alloc(Nat.le_refl _)_;have aaA:=(aM DT hb3).kept hg3(bX(aM DT hb3)(zB.alloc _)(by decide));have hM3:=(hM2.later hb3).kept(W':=w3)(fun q hq=>hg3.block q((hM2.later hb3).lt hq)(fun e=>by have:=(hla q e.symm).1;have:=hSb q(Xi q hq);omega));have aaw:Fx S w w3:=(Ba.trans(Fx.below(S:=S)hb3)(fun _ _ h=>h)).trans(Fx.grown(S:=fun q=>w.heap.size≤q)hg3(fun q e=>(hla q e).1))(fun q hq hq'=>by omega);clear zB DT Ba hM2 hg3 hb3 hla;go_wp2
     go_roundw
     case rel=>
      refine⟨k+1,g2,by omega,by go_num,hM3,Xi,?_,aaA,aaw⟩;rw [Ig.out,Option.toList_some,Ar,List.length_append];exact ho3
     case measure=>simp [intOf];omega
    ·have hbp:Bf dX x=none:=by
      unfold Bf;rw [decide_eq_false hbf,Bool.and_false];rfl
     rw [hbp,Option.EM,List.append_nil]at Ig;have hd1:decide(0<(x.bB.length:Int))=false:=decide_eq_false(by omega);have hd2:decide(0<x.bB.length)=false:=decide_eq_false hbf;go_wp2_with fail
     refine Calls.mono HE.out ?_;rintro e w2⟨rfl,hL2,hg2⟩;obtain⟨g2,hM2,Xi⟩:=hpre.out w2 hL2 hg2;have zB:=DX hls hSb YQ hg2;have DT:=DX hdr hSb YQ hg2;have Ba:=hfx.trans(Fx.grown(S:=S)hg2(fun q e=>by cases e;exact YQ))(fun _ _ h=>h);clear HE hpre c0 c1 c2 c3 c4 c5 c6 hLn hls hdr hfx t0 t1 hlk d0 hg2;go_wp2
     go_roundw
     case rel=>
      refine⟨k+1,g2,by omega,by go_num,hM2,Xi,?_,DT,Ba⟩;rw [Ig.out];exact zB
     case measure=>simp [intOf];omega
   ·have hF:bY dX 0 x=x:=by unfold bY;rw [if_neg UU]
    have hbp:Bf dX x=none:=by
     unfold Bf;rw [Bool.not_eq_true _|>.mp UU,Bool.false_and];rfl
    rw [hbp,Option.EM,List.append_nil]at Ig;have hst:jK(bY dX 0)(k+1)A=jK(bY dX 0)k A:=by
     rw [←hMod.out];exact o7 hM.wC fun y hy=>by
      rw [hl]at hy;cases hy;exact hF
    have hSt:=(show Hid _ from hst);clear hst;cases hxv:x.valid
    ·rw [hxv]at c4;clear UU hxv;go_wp2
     go_roundw
     case rel=>exact⟨k+1,g',by omega,by go_num,by rw [hSt.out];exact hM,by rw [hSt.out];exact zK,by rw [Ig.out];exact hls,hdr,hfx⟩
     case measure=>simp [intOf];omega
    ·rw [hxv]at c4;have Ob:(x.next==dX)=false:=by
      rw [hxv,Bool.true_and]at UU;simpa using UU
     clear UU hxv;go_wp2
     go_roundw
     case rel=>exact⟨k+1,g',by omega,by go_num,by rw [hSt.out];exact hM,by rw [hSt.out];exact zK,by rw [Ig.out];exact hls,hdr,hfx⟩
     case measure=>simp [intOf];omega
  ·have hkn:A.length≤k:=by omega
   rw [List.take_of_length_le hkn]at hls;rw [MW _ hkn]at hM zK;clear hdr hkn;go_wp2
   go_ret
   exact⟨_,g',rfl,hls,hM,zK,hfx⟩
def JB(now:Int)(y:Rt):Bool:=y.valid&&decide(y.exp≤now)
def og(now:Int)(y:Rt):Rt:=if JB now y then pY y 0 else y
theorem gF(now:Int)(y:Rt):(og now y).dest=y.dest:=by
 unfold og;split<;>rfl
def iG(A:List Rt)(now:Int):List Rt:=A.map(og now)
def vQ(left:Lit→Bool)(now:Int)(A:List Rt):List Rt:=A.map fun y=>if left(.int .u32 y.dest)then y else og now y
theorem NW {left:Lit→Bool} {x:Int}(h:left(.int .u32 x)=true)(now:Int)(A:List Rt):gI(vQ left now A)x(og now)=vQ(fun z=>left z&&!z.sameKey(.int .u32 x))now A:=by
 unfold gI vQ;rw [List.map_map];refine List.map_congr_left fun y _=> ?_;by_cases e:y.dest=x
 ·subst e;simp [h,Lit.sameKey]
 ·by_cases hl:left(.int .u32 y.dest)=true
  ·simp [hl,e,Lit.sameKey]
  ·simp [hl,e,Lit.sameKey,gF]
theorem NY {left:Lit→Bool} {A:List Rt} {y:Rt}(hy:y∈A)(h:left(.int .u32 y.dest)=true)(now:Int):y∈vQ left now A:=
 List.mem_map.2⟨y,hy,by simp [h]⟩
theorem IP {v:Value} {y:DataW Unit×List MemPlace}(h:CX v=some y):∃c:Option Nat,v=fJ c:=by
 unfold CX at h;split at h
 ·exact⟨none,rfl⟩
 ·exact⟨some _,rfl⟩
 ·cases h
theorem J9 {me:Int} {T M:Nat} {f:Int→Option Nat} {g:Int→Value} {A:List Rt} {S:Nat→Prop}(now:Int) {w:World}(h:MT me T M f g A w)(hS:∀k,mg T M f g A k→S k)(hSb:∀k,S k→k<w.heap.size):
  Calls Tryz.prog 76 #[.pointer(some⟨T,0,none⟩),.int .u64 now]w fun e w'=>∃g',e=.returned(.tuple #[])∧MT me T M f g'(iG A now)w'∧(∀k,mg T M f g'(iG A now)k→S k)∧Fx S w w':=by
 obtain⟨D,h1,h2,h3⟩:=h.map;obtain⟨t0,t1⟩:=h.blk.cell;have hok0:=h.ok;have acP:=h.dom;have h3':=(show Hid _ from h3);have hhas:∀y∈A,has D(.int .u32 y.dest)=true:=fun y hy=>by
  obtain⟨B,hB,_⟩:=h.ln y hy;rw [(h3 _(hok0 y hy).dest).1,hB];rfl
 have hst:vQ(has D)now A=A:=by
  unfold vQ;conv=>rhs;rw [←List.map_id A]
  exact List.map_congr_left fun y hy=>by simp [hhas y hy]
 have hSt:=(show Hid _ from hst);clear h3 hst;go_enter Tryz.func76,Tryz.ntmps76
 go_wp2_with(at_range;refine wpList_range_own _ rfl _ 156 rfl 34 161 fF Tryz.underlying156 _ M A.length _ rfl h1 ?_;intro w0 hrg0 hg0 hs0)
 go_frame
 go_loopw [5](fun _ wr=>∃(left:Lit→Bool)(cnt:Nat)(g':Int→Value),wr.ranges Tryz.prog 34 CX M w.heap.size A.length D left cnt∧MT me T M f g'(vQ left now A)wr∧(∀q,mg T M f g'(vQ left now A)q→S q)∧Fx S w wr)
  (fun _ wr=>wr.rangeLeft M w.heap.size)
 case atStart=>
  have hb:Below w.heap.size w w0:=⟨hg0.os,hg0.tape,hg0.output,hg0.size,fun k hk=>hg0.block k hk(by simp)⟩;refine⟨_,_,g,hrg0,?_,?_,Fx.below hb⟩
  ·rw [hSt.out];exact h.later hb
  ·rw [hSt.out];exact hS
 case round=>
  clear h h1 hg0 hs0 hrg0 t0 t1;obtain⟨left,cnt,g',hrg,hM,zK,hfx⟩:=hrel;go_wp2_with(at_next;refine wpList_next_ranges _ rfl _ rfl 34 fF CX aU fJ(fun key kl hk=>by obtain⟨x,hx,_⟩:=kC Tryz.underlying34 hk;exact⟨x,hx⟩)(fun v y hv=>IP hv)M w.heap.size A.length _ _ _ rfl hrg ?_ ?_)
  ·intro hc0 hl0;have hall:vQ left now A=iG A now:=by
    unfold vQ iG;exact List.map_congr_left fun y _=>by simp [hl0]
   rw [hall]at hM zK;clear hall;go_wp2
   go_end0
   exact⟨g',rfl,hM,zK,hfx⟩
  ·intro x c kl yd yp w2 cnt2 hkey hlk hv hat hrg2 hlt hg2 hs2 hen;obtain⟨x',ex,rfl,hwf⟩:=kC Tryz.underlying34 hkey;obtain rfl:x=x':=zR ex;clear ex hkey;have hb:=bounds_u32 hwf;have hxu:bg x:=⟨hb.1,by have:=hb.2;omega⟩;have h3x:=(h3'.out x hxu).2;rw [hat]at h3x;rw [oQ]at hv;have hcl:kU c=kU(f x):=by
    have e1:=congrArg Prod.fst(Option.some.inj hv);rw [h3x]at e1;simpa using e1
   have hsome:=(h3'.out x hxu).1;rw [has_true_of_atKey hat]at hsome;obtain⟨B,hB⟩:=Option.isSome_iff_exists.1 hsome.symm;have hc:c=some B:=by
    rw [hB]at hcl;cases c with
    |none=>simp [kU]at hcl
    |some c=>
     simp only [kU]at hcl;exact congrArg some(by omega)
   subst hc;simp only [fJ]at hen ⊢;obtain⟨y,Gh,rfl⟩:=acP x B hxu hB;have hyM:=NY Gh hlk now;have hM2:MT me T M f g'(vQ left now A)w2:=hM.kept(fun q hq=>hg2.block q(hM.lt hq)(fun e=>by
    have h4:=hSb q(zK q hq);have h5:w.heap.size=q:=by injection e with e;exact e.symm
    omega))
   have Ba:Fx S w w2:=hfx.trans(Fx.grown(S:=fun q=>w.heap.size≤q)hg2(fun q e=>by cases e;exact Nat.le_refl _))(fun q hq hq'=>by omega);have hl:=jm hM2.wC hyM;have hLn:dP B y(g' y.dest)w2:=by
    obtain⟨B',hB',hL⟩:=hM2.ln y hyM;rw [hB]at hB';cases hB';exact hL
   have YQ:S B:=zK B(hM.inB hl hB);have hmod:=NW hlk now A;have hMod:=(show Hid _ from hmod);have hlq:=hrg.left_eq;have hme:=(show Hid(cnt2<wr.rangeLeft M w.heap.size)from by show _<_;rw [hlq];exact hlt);obtain⟨c0,c1,c2,c3,c4,c5,c6⟩:=hLn.cell;clear hs2 hmod hat hv hcl h3x hsome hM hfx hrg hlq hlt hlk hb hwf;by_cases hex:JB now y=true
   ·have hF:og now y=pY y 0:=if_pos hex;have hyv:y.valid=true:=by unfold JB at hex;revert hex;cases y.valid<;>simp
    have hye:decide(y.exp≤now)=true:=by unfold JB at hex;revert hex;cases y.valid<;>simp
    rw [hyv]at c4;have HE:=(show Hid _ from D9 B y(g' y.dest)0 w2 hLn);go_wp2_with fail
    refine Calls.mono HE.out ?_;rintro e w3⟨rfl,hL3,hg3⟩;have ht:=hM2.turn(W':=w3)hl hB(og now)(gF now)(by rw [hF];exact uV(hok0 y Gh)(by simp [bg]))(.slice none 0 0)(by rw [hF];exact hL3)(by rw [hF];exact⟨rfl,.inl⟨rfl,rfl⟩⟩)(.inl rfl)(fun q hq hqB _=>hg3.block q(hM2.lt hq)(fun e=>hqB(by cases e;rfl)));rw [hMod.out]at ht;have hrg3:=hrg2.of_walks(KeepsWalks.of_grownBy hg3(fun j o e ho=>by
     cases e;rw [show w2.heap[B]?=_ from hLn]at ho;cases ho;rfl))
    have aaw:Fx S w w3:=Ba.trans(Fx.grown(S:=S)hg3(fun q e=>by cases e;exact YQ))(fun _ _ h=>h);have hmS:∀q,mg T M f _ _ q→S q:=fun q hq=>by
     rcases ht.2 q hq with h4|h4
     ·exact zK q h4
     ·cases h4
    have hM3:=ht.1;clear HE c0 c1 c2 c3 c4 c5 c6 hLn hg3 hg2 hM2 hrg2 Ba ht hL3;go_wp2
    go_roundw
    case rel=>exact⟨_,cnt2,_,hrg3,hM3,hmS,aaw⟩
    case measure=>rw [hrg3.left_eq];exact hme.out
   ·have hF:og now y=y:=if_neg hex;have hid:vQ left now A=vQ(fun z=>left z&&!z.sameKey(.int .u32 y.dest))now A:=by
     rw [←hMod.out];exact(o7 hM2.wC fun z hz=>by
      rw [hl]at hz;cases hz;exact hF).symm
    rw [hid]at hM2 zK;clear hid;cases hyv:y.valid
    ·rw [hyv]at c4;go_wp2
     go_roundw
     case rel=>exact⟨_,cnt2,g',hrg2,hM2,zK,Ba⟩
     case measure=>rw [hrg2.left_eq];exact hme.out
    ·rw [hyv]at c4;have hye:decide(y.exp≤now)=false:=by
      unfold JB at hex;rw [hyv,Bool.true_and]at hex;simpa using hex
     go_wp2
     go_roundw
     case rel=>exact⟨_,cnt2,g',hrg2,hM2,zK,Ba⟩
     case measure=>rw [hrg2.left_eq];exact hme.out
end Go.Proofs.YtakaadcpaeiccabGreat
