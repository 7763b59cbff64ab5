import Derived.Test.YtakaadcpaeiccabGreatC07
import Derived.Deep.RegionLaw
set_option maxHeartbeats 4000000
set_option maxRecDepth 100000
namespace Go.Proofs.YtakaadcpaeiccabGreat
open Go.RowKit
variable{W:World}
theorem bX{b1 b2 e1 e2 s1 s2 n1 n2:Nat}{v1 v2:Value}{x1 x2:List Value}(h1:W.ownsRow b1 e1 s1 v1 n1 x1)(h2:W.ownsRow b2 e2 s2 v2 n2 x2)(hne:e1≠e2):v1.ownBlock=none∨v1.ownBlock≠v2.ownBlock:=by
 rcases h1.2 with⟨rfl,_⟩|⟨g1,c1,k1,rfl,_,q1,_⟩
 ·exact .inl rfl
 ·rcases h2.2 with⟨rfl,_⟩|⟨g2,c2,k2,rfl,_,q2,_⟩
  ·exact .inr (by simp[Value.ownBlock])
  ·refine .inr λe=> ?_;simp only[Value.ownBlock,Option.some.injEq]at e;subst e;rw[q1]at q2;cases q2;exact hne rfl
theorem qG.WJ{B:Nat}{o:Bool}{a s:Int}(h:qG B o a s W)(s':Int):qG B o a s' (W.setCell ⟨B,2,none⟩ (.int .u32 s')):=by
 unfold qG at h ⊢;simp[World.setCell,Array.getElem?_modify,h]
theorem CV(f:Int->Option Int)(ss:List Int)(a:Int):gL f (ss++ [a])=gL f ss++ [(false,a,(f a).getD 0)]:=by simp[gL]
theorem Cx(f:Int->Option Int)(a s:Int):stepM f (false,a,s)=kC f a (some (max ((f a).getD 0) s)):=rfl
theorem Sk:MB λ_=>none:=λa v h=>by cases h
theorem RZ:OB none:=λv h=>by cases h
theorem LY{L:List (Bool×Int×Int)}(h:qx L){x:Bool×Int×Int}(hx:x∈L):bB x.2.1∧bB x.2.2:=by
 have:=h x hx;unfold bB;omega
theorem vD(ao:Option Addr)(n c:Nat)(L:List (Bool×Int×Int))(hL:L.length=n)(hn:n<=50000)(hbd:qx L)(hfw:Y3 L)(w:World)(hA:gM w ao (RC L)):
  Calls Tryz.prog 69 #[.slice ao n c] w (aev L w):=by
 obtain⟨i0,hi,hz0,hz1,hz2⟩:=info_parts qX;have hmm:=@run_makeMap Tryz.prog;have hM0:=MapU.made (w.alloc (aZ true 0 0));rw[World.size_alloc]at hM0;have hB0:qG w.heap.size true 0 0 ((w.alloc (aZ true 0 0)).alloc (.map #[] 0)):=(qG.new true 0 0 w).later (bq);have hb0:Below w.heap.size w ((w.alloc (aZ true 0 0)).alloc (.map #[] 0)):=(bq).alloc (by simp) _;have hs0:w.heap.size+2<=((w.alloc (aZ true 0 0)).alloc (.map #[] 0)).heap.size:=by simp
 dsimp only[aZ]at hM0 hB0 hb0 hs0;go_enter Tryz.func69,Tryz.ntmps69;go_wp2_with fail;clear hmm;generalize World.alloc _ _=W0 at hM0 hB0 hb0 hs0 ⊢;go_loopw [4,15] (λq i wr=>∃(k sz:Nat),k<=n∧i=.int .i64 k∧q=.bool (qF (L.take k)).isSome∧MB (mI (L.take k))∧OB (qF (L.take k))∧qG w.heap.size true 0 ((qF (L.take k)).getD 0) wr∧MapU wr (w.heap.size+1) (mI (L.take k)) sz∧sz<=k∧Below w.heap.size w wr∧w.heap.size+2<=wr.heap.size) (λ_ i _=>n - (intOf i).toNat)
 case atStart=>exact⟨0,0,dh _,rfl,rfl,Sk,RZ,hB0,hM0,aD _,hb0,hs0⟩
 case round=>
  clear hM0 hB0 hb0 hs0;obtain⟨k,sz,hk,rfl,rfl,hmb,hob,hB,hm,hsz,hb,hs2⟩:=hrel;by_cases hlt:k<n
  ·have hki:(k:Int)<(n:Int):=by omega
   obtain⟨x,hx⟩:∃x,L[k]?=some x:=⟨_,cZ (by omega)⟩;have hat:∀i z,i<3->([.bool x.1,.int .u32 x.2.1,.int .u32 x.2.2]:List Value)[i]?=some z->(RC L)[k * 3+i]?=some z:=λi z hi hz=>(kM (λx:Bool×Int×Int=>([Value.bool x.1,Value.int .u32 x.2.1,Value.int .u32 x.2.2]:List Value)) 3 (by decide) (λ_=>rfl) L k i hi hx).trans hz;have hA':=hA.below hb;obtain⟨b1,o1,rfl,hj1⟩:=hA' (k * 3+0) _ (hat 0 _ (by decide) rfl);have d0:=hA'.one rfl (hat 0 _ (by decide) rfl);have d1:=hA'.one rfl (hat 1 _ (by decide) rfl);have d2:=hA'.one rfl (hat 2 _ (by decide) rfl);have hxu:=LY hbd (gG hx);have eM:Hid (mI (L.take (k+1))=stepM (mI (L.take k)) x):=by
    show _=_;rw[o9 hx,GN]
   have eO:Hid (qF (L.take (k+1))=lK (qF (L.take k)) x):=by
    show _=_;rw[o9 hx,Ab]
   have aa5:Hid (MB (mI (L.take (k+1)))):=by
    show MB _;rw[eM.out];exact hmb.step hxu.1 hxu.2
   have adg:Hid (OB (qF (L.take (k+1)))):=by
    show OB _;rw[eO.out];exact hob.step hxu.2
   obtain⟨xo,xa,xs⟩:=x;dsimp only at d0 d1 d2 hxu;rw[Nat.add_zero]at d0;rw[<-Nat.add_assoc]at d1 d2;have hB1:=hB.later ((aV _ wr).alloc (aD _) (aZ xo xa xs));have hm1:=hm.kept (ku wr (aZ xo xa xs) none) (by simp);have hb1:=hb.alloc hb.size (aZ xo xa xs);have hs1:w.heap.size+2<=(wr.alloc (aZ xo xa xs)).heap.size:=by simp;omega
   clear hj1 hat hA' hx hB hm hb hmb;generalize mI (L.take k)=f at hm1 eM;have ho:OB (qF (L.take k)):=hob;generalize qF (L.take k)=cc at hB1 eO ho ⊢;clear hob;cases xo
   ·have hl:=hm1.look hxu.1;obtain⟨W2,hr,hm2,hg2⟩:=hm1.put (by unfold maxLen;omega) hxu.1 (v:=max ((f xa).getD 0) xs) (by
     have hh:=(aa5.out);rw[eM.out,Cx]at hh;exact(hh xa _ (by simp[kC])).2)
    have hB2:=hB1.kept hg2 (by simp);have hb2:=hb1.grown hg2 hb1.size (λk e=>by cases e;omega);have hs3:=dH hs1 hg2.size;have aeV:(if (f xa).isSome then sz else sz+1)<=k+1:=by split<;>omega
    rw[Cx]at eM;clear hm1 hB1 hb1 hg2 hs1 hs2 ho;dsimp only[aZ]at hl hr;generalize (f xa).getD 0=fx at hl hr hm2 eM;go_wp2;go_roundw
    case rel=>exact⟨k+1,_,by omega,by go_num,by rw[eO.out];rfl,aa5.out,adg.out,by rw[eO.out];exact hB2,by rw[eM.out];exact hm2,aeV,hb2,hs3⟩
    case measure=>simp[intOf];omega
   ·obtain⟨c0,c1,c2⟩:=hB1.cell;have ff:=hB1.free 2;have hm2:=λv=>hm1.kept (ah (aC _ (some w.heap.size)) 2 v) (by simp);have hB2:=λv=>hB1.WJ v;have hb2:=λv=>hb1.setCell (p:=⟨w.heap.size,2,none⟩) (aD _) v;have hs3:∀v,w.heap.size+2<=((wr.alloc (aZ true xa xs)).setCell ⟨w.heap.size,2,none⟩ v).heap.size:=λv=>dH hs1 (ah (aC _ (some w.heap.size)) 2 v).size;clear hm1 hB1 hb1 hs1 hs2 hxu;dsimp only[aZ]at c0 c1 c2 ff hm2 hB2 hb2 hs3;have Yy:Hid (qF (L.take (k+1))=some (max (cc.getD 0) xs)):=by
     show _=_;rw[eO.out];rfl
    clear eO ho;generalize cc.getD 0=t at c2 Yy;go_wp2;go_roundw
    case rel=>exact⟨k+1,sz,by omega,by go_num,by rw[Yy.out];rfl,aa5.out,adg.out,by rw[Yy.out];exact hB2 _,by rw[eM.out];exact hm2 _,by omega,hb2 _,hs3 _⟩
    case measure=>simp[intOf];omega
  ·have hkn:n<=k:=by omega
   rw[ko (by omega)]at hB hm hmb hob ⊢;have hsn:sz<=L.length:=by omega
   have hLn:L.length<=50000:=by omega
   have hnn:n=L.length:=hL.symm;clear hkn hsz hs2 hA hL;have agm:=abM hfw hm;clear hfw;generalize hf:mI L=f at hm hmb;have hf':=(show Hid _ from hf);generalize hc:qF L=cc at hB hob ⊢;have hc':=(show Hid _ from hc);clear hf hc;have hs2:=hB.lt;have hMl:=hm.lt;have hkf:decide ((k:Int)<(n:Int))=false:=fA (by omega);have afh:decide (k<n)=false:=fA (by omega);cases cc with
   |none=>
    have FM:wr.ownsRow (w.heap.size+2) 82 3 (.slice none 0 0) (dz none).length (RC (dz none)):=⟨rfl,.inl ⟨rfl,rfl⟩⟩;have aeW:=hb.size;have afF:=hm.lt;have EB:Below wr.heap.size wr (wr.alloc (.cells #[.map (some (w.heap.size+1))] 115)):=bq;have hseq:=hm.yZ (wr.alloc (.cells #[.map (some (w.heap.size+1))] 115)) wr.heap.size (by simp) (by simp) EB;have hso:=tN 141 #[.pointer (some ⟨wr.heap.size,0,none⟩)] (enters_of Tryz.func141 (by kernel_rfl) rfl) _ sz (by omega) _ hseq;have ZP:=(show Hid _ from hso);clear hso hseq;go_wp2_with fail;refine(G_ _ _).mono ?_;rintro e w9 ⟨rfl,rfl⟩;go_wp2_with fail;refine aU ZP.out ?_;rintro e W2 ⟨v,ts,ss,rfl,hS,hperm,hle,hlen,hrow,hb2⟩;have MZ:=hm.kept ⟨EB.os,EB.tape,EB.output,EB.size,λk hk _=>EB.block k hk⟩ (row:=none) (by simp);have hm2:=MZ.kept (below_grown hb2 none) (by simp);have hbb:=(hb.trans (EB.mono hb.size)).trans (hb2.mono (by simp;omega));have ho2:=(aO FM EB);have ho3:=aO ho2 hb2;have hlts:ts.Pairwise (·<·):=by
     have hnd:ts.Nodup:=hperm.nodup_iff.2 hS.1;rw[List.pairwise_iff_getElem]at hle ⊢;intro i j hi hj hij;have h1:=hle i j hi hj hij;have h2:=List.pairwise_iff_getElem.1 hnd i j hi hj hij;omega
    have hmem:∀a,a∈ts ↔ (f a).isSome=true:=λa=>by
     rw[hperm.mem_iff,hS.2 a];constructor
     ·exact λh=>h.2
     ·intro h;obtain⟨y,hy⟩:=Option.isSome_iff_exists.1 h;exact⟨(hmb a y hy).1,h⟩
    have hcmp:iO f none (dz none++gL f ts):=⟨ts,hlts,hmem,rfl⟩;have TB:∀a∈ts,bB a:=λa ha=>((hS.2 a).1 (hperm.mem_iff.1 ha)).1;obtain⟨rZ,c2',rfl,_⟩:=ak hrow;have TW:=(show Hid _ from hcmp);clear ZP hm MZ ho2 hb hb2 EB hS hperm hle hlts hmem hcmp FM;go_wp2_with fail;go_loopw [8,47] (λv i wr2=>∃j:Nat,j<=ts.length∧i=.int .i64 j∧wr2.ownsRow (w.heap.size+2) 82 3 v ((dz none).length+j) (RC (dz none++gL f (ts.take j)))∧wr2.ownsRow (wr.heap.size+1) 34 1 (.slice rZ ts.length c2') ts.length (ts.map aX)∧MapU wr2 (w.heap.size+1) f sz∧Below w.heap.size w wr2∧w.heap.size+2<=wr2.heap.size) (λ_ i _=>ts.length - (intOf i).toNat)
    case atStart=>
     refine⟨0,dh _,rfl,?_,by simpa using hrow,hm2,hbb,?_⟩
     ·simpa[gL]using ho3
     ·have:=hm2.lt;omega
    case round=>
     obtain⟨j,hj,rfl,iN,hts,hmr,hbr,hsr⟩:=hrel;clear ho3 hrow hm2 hbb;by_cases hjl:j<ts.length
     ·have hji:(j:Int)<(ts.length:Int):=by omega
      obtain⟨g,cap,hv,_⟩:=bV hts (by omega);cases hv;have hta:(ts.map aX)[j]?=some (aX ts[j]):=by rw[kr,cZ hjl];rfl
      have d0:=(hts.cellAt j (by omega)).trans hta;have hau:=TB _ (List.getElem_mem hjl);have htk:Hid (ts.take (j+1)=ts.take j++ [ts[j]]):=List.take_succ_eq_append_getElem hjl;generalize ts[j]=a at d0 hau htk hta;have hlk:=hmr.look hau;have hap:=bX hts iN (by decide);have hla:=iN.lt;have hk1:Hid ((dz none).length+j+1<=maxLen):=by show _<=_;simp[dz];unfold maxLen;omega
      have hk2:Hid (((dz none).length+j+1)* 12<=140737488355328):=by show _<=_;simp[dz];omega
      clear hta;generalize dz none=nX at *;go_wp2_with(at_builtin;refine wpList_append_own_at _ rfl _ _ 79 rfl (w.heap.size+2) 82 i0 (.agg #[.bool false,.int .u32 0,.int .u32 0]) 3 12 Tryz.underlying79 hi hz0 hz1 hz2 rfl (by decide) u8 (nX.length+j) (RC (nX++gL f (ts.take j))) rfl (iN.alloc _) ⟨wr.heap.size,0,none⟩ 1 1 (RC [(false,a,(f a).getD 0)]) rfl rfl (lq wr false a ((f a).getD 0)) (nO false a ((f a).getD 0)) hk1.out hk2.out ?c4 ?_)
      case c4=>simp;omega
      intro v9 w9 ho9 fM _ _;have aaL:=(hts.alloc (aZ false a ((f a).getD 0))).kept fM hap;have MZ:=(hmr.kept (ku wr (aZ false a ((f a).getD 0)) none) (by simp)).kept fM (λe=>by have:=(hla _ e.symm).1;omega);have lT:=(hbr.alloc hbr.size (aZ false a ((f a).getD 0))).grown fM (by simp;omega) (λk e=>by have:=(hla k e).1;omega);have qZ:w.heap.size+2<=w9.heap.size:=by have:=fM.size;simp at this;omega
      clear iN hts hmr hbr fM hap hlk d0;go_wp2;go_roundw
      case rel=>
       refine⟨j+1,by omega,by go_num,?_,aaL,MZ,lT,qZ⟩;rw[htk.out,CV,<-List.append_assoc,lG,<-Nat.add_assoc];exact ho9
      case measure=>simp[intOf];omega
     ·have hjn:j=ts.length:=by omega
      subst hjn;rw[List.take_length]at iN;clear hts hmr;go_wp2;go_ret;refine⟨_,dz none++gL f ts,rfl,?_,?_,?_,hbr⟩
      ·rw[hf'.out,hc'.out];exact TW.out
      ·simp[dz,gL];omega
      ·have hol:(dz none++gL f ts).length=(dz none).length+ts.length:=by simp[gL]
       rw[hol];exact ownsRow_base_a iN (by omega)
   |some t=>
    obtain⟨c0,c1,c2⟩:=hB.cell;rw[Option.getD_some]at c2;go_wp2_with(at_builtin;refine wpList_append_own_at _ rfl _ _ 79 rfl (w.heap.size+2) 82 i0 (.agg #[.bool false,.int .u32 0,.int .u32 0]) 3 12 Tryz.underlying79 hi hz0 hz1 hz2 rfl (by decide) (.slice none 0 0) 0 [] rfl ⟨rfl,.inl ⟨rfl,rfl⟩⟩ ⟨wr.heap.size,0,none⟩ 1 1 (RC [(true,0,t)]) rfl rfl (lq wr true 0 t) (nO true 0 t) (by decide) (by decide) ?c3 ?_)
    case c3=>simp;omega
    intro v8 w8 FM jN hn8 _;have O0:=(hm.kept (ku wr (aZ true 0 t) none) (by simp)).kept jN (by simp[Value.ownBlock]);have l7:Below w.heap.size w w8:=(hb.alloc hb.size _).grown jN (by simp;omega) (λk e=>by simp[Value.ownBlock]at e);clear hm hb jN hn8 c0 c1 c2 hkf afh;have adh:w8.ownsRow (w.heap.size+2) 82 3 v8 (dz (some t)).length (RC (dz (some t))):=FM;clear FM;have hm:=O0;have hb:=l7;clear O0 l7;have aeW:=hb.size;have afF:=hm.lt;have EB:Below w8.heap.size w8 (w8.alloc (.cells #[.map (some (w.heap.size+1))] 115)):=bq;have hseq:=hm.yZ (w8.alloc (.cells #[.map (some (w.heap.size+1))] 115)) w8.heap.size (by simp) (by simp) EB;have hso:=tN 141 #[.pointer (some ⟨w8.heap.size,0,none⟩)] (enters_of Tryz.func141 (by kernel_rfl) rfl) _ sz (by omega) _ hseq;have ZP:=(show Hid _ from hso);clear hso hseq;go_wp2_with fail;refine(G_ _ _).mono ?_;rintro e w9 ⟨rfl,rfl⟩;go_wp2_with fail;refine aU ZP.out ?_;rintro e W2 ⟨v,ts,ss,rfl,hS,hperm,hle,hlen,hrow,hb2⟩;have MZ:=hm.kept ⟨EB.os,EB.tape,EB.output,EB.size,λk hk _=>EB.block k hk⟩ (row:=none) (by simp);have hm2:=MZ.kept (below_grown hb2 none) (by simp);have hbb:=(hb.trans (EB.mono hb.size)).trans (hb2.mono (by simp;omega));have ho2:=(aO adh EB);have ho3:=aO ho2 hb2;have hlts:ts.Pairwise (·<·):=by
     have hnd:ts.Nodup:=hperm.nodup_iff.2 hS.1;rw[List.pairwise_iff_getElem]at hle ⊢;intro i j hi hj hij;have h1:=hle i j hi hj hij;have h2:=List.pairwise_iff_getElem.1 hnd i j hi hj hij;omega
    have hmem:∀a,a∈ts ↔ (f a).isSome=true:=λa=>by
     rw[hperm.mem_iff,hS.2 a];constructor
     ·exact λh=>h.2
     ·intro h;obtain⟨y,hy⟩:=Option.isSome_iff_exists.1 h;exact⟨(hmb a y hy).1,h⟩
    have hcmp:iO f (some t) (dz (some t)++gL f ts):=⟨ts,hlts,hmem,rfl⟩;have TB:∀a∈ts,bB a:=λa ha=>((hS.2 a).1 (hperm.mem_iff.1 ha)).1;obtain⟨rZ,c2',rfl,_⟩:=ak hrow;have TW:=(show Hid _ from hcmp);clear ZP hm MZ ho2 hb hb2 EB hS hperm hle hlts hmem hcmp adh;go_wp2_with fail;go_loopw [8,47] (λv i wr2=>∃j:Nat,j<=ts.length∧i=.int .i64 j∧wr2.ownsRow (w.heap.size+2) 82 3 v ((dz (some t)).length+j) (RC (dz (some t)++gL f (ts.take j)))∧wr2.ownsRow (w8.heap.size+1) 34 1 (.slice rZ ts.length c2') ts.length (ts.map aX)∧MapU wr2 (w.heap.size+1) f sz∧Below w.heap.size w wr2∧w.heap.size+2<=wr2.heap.size) (λ_ i _=>ts.length - (intOf i).toNat)
    case atStart=>
     refine⟨0,dh _,rfl,?_,by simpa using hrow,hm2,hbb,?_⟩
     ·simpa[gL]using ho3
     ·have:=hm2.lt;omega
    case round=>
     obtain⟨j,hj,rfl,iN,hts,hmr,hbr,hsr⟩:=hrel;clear ho3 hrow hm2 hbb;by_cases hjl:j<ts.length
     ·have hji:(j:Int)<(ts.length:Int):=by omega
      obtain⟨g,cap,hv,_⟩:=bV hts (by omega);cases hv;have hta:(ts.map aX)[j]?=some (aX ts[j]):=by rw[kr,cZ hjl];rfl
      have d0:=(hts.cellAt j (by omega)).trans hta;have hau:=TB _ (List.getElem_mem hjl);have htk:Hid (ts.take (j+1)=ts.take j++ [ts[j]]):=List.take_succ_eq_append_getElem hjl;generalize ts[j]=a at d0 hau htk hta;have hlk:=hmr.look hau;have hap:=bX hts iN (by decide);have hla:=iN.lt;have hk1:Hid ((dz (some t)).length+j+1<=maxLen):=by show _<=_;simp[dz];unfold maxLen;omega
      have hk2:Hid (((dz (some t)).length+j+1)* 12<=140737488355328):=by show _<=_;simp[dz];omega
      clear hta;generalize dz (some t)=nX at *;go_wp2_with(at_builtin;refine wpList_append_own_at _ rfl _ _ 79 rfl (w.heap.size+2) 82 i0 (.agg #[.bool false,.int .u32 0,.int .u32 0]) 3 12 Tryz.underlying79 hi hz0 hz1 hz2 rfl (by decide) u8 (nX.length+j) (RC (nX++gL f (ts.take j))) rfl (iN.alloc _) ⟨wr.heap.size,0,none⟩ 1 1 (RC [(false,a,(f a).getD 0)]) rfl rfl (lq wr false a ((f a).getD 0)) (nO false a ((f a).getD 0)) hk1.out hk2.out ?c4 ?_)
      case c4=>simp;omega
      intro v9 w9 ho9 fM _ _;have aaL:=(hts.alloc (aZ false a ((f a).getD 0))).kept fM hap;have MZ:=(hmr.kept (ku wr (aZ false a ((f a).getD 0)) none) (by simp)).kept fM (λe=>by have:=(hla _ e.symm).1;omega);have lT:=(hbr.alloc hbr.size (aZ false a ((f a).getD 0))).grown fM (by simp;omega) (λk e=>by have:=(hla k e).1;omega);have qZ:w.heap.size+2<=w9.heap.size:=by have:=fM.size;simp at this;omega
      clear iN hts hmr hbr fM hap hlk d0;go_wp2;go_roundw
      case rel=>
       refine⟨j+1,by omega,by go_num,?_,aaL,MZ,lT,qZ⟩;rw[htk.out,CV,<-List.append_assoc,lG,<-Nat.add_assoc];exact ho9
      case measure=>simp[intOf];omega
     ·have hjn:j=ts.length:=by omega
      subst hjn;rw[List.take_length]at iN;clear hts hmr;go_wp2;go_ret;refine⟨_,dz (some t)++gL f ts,rfl,?_,?_,?_,hbr⟩
      ·rw[hf'.out,hc'.out];exact TW.out
      ·simp[dz,gL];omega
      ·have hol:(dz (some t)++gL f ts).length=(dz (some t)).length+ts.length:=by simp[gL]
       rw[hol];exact ownsRow_base_a iN (by omega)
open Go.Maps
variable{f:Int->Option Nat}{L:List (Rt×Value)}{A:List Rt}{M T:Nat}{W w:World}
theorem N_(M:Nat)(w:World):
  Calls Tryz.prog 134 #[.map (some M)] w λe w'=>e=.returned (.func (.func 170) #[] #[.pointer (some ⟨w.heap.size,0,none⟩)])∧w'=w.alloc (.cells #[.map (some M)] 156):=by
 go_enter Tryz.func134,Tryz.ntmps134;go_wp2;go_ret;exact⟨rfl,rfl⟩
theorem fG.yZ{s:Nat}(h:fG W M f s)(w:World)(Bm:Nat)(hBm:Bm<w.heap.size)(hm:w.cell? ⟨Bm,0,none⟩=some (.map (some M)))(hW:Below W.heap.size W w):
  SeqGives Fence.wide 1 Tryz.prog 170 #[.pointer (some ⟨Bm,0,none⟩)] aX (λss=>ss.Nodup∧∀x,x∈ss ↔ (bB x∧(f x).isSome=true)) s w:=by
 have hl:=h.lt;obtain⟨D,h1,h2,h3⟩:=h;have h1':w.ownsMap Tryz.prog 34 D8 M s D:=by
  obtain⟨es,clock,hb,Ft,hs,hD⟩:=h1;exact⟨es,clock,(hW.block M hl).trans hb,Ft,hs,hD⟩
 have hg:=Gf Fence.wide 1 trivial rfl (aD _) Bm M s D w hBm hm h1';rw[h2]at hg;intro l J W' hW' hJ hY h0;refine(hg l J W' hW' hJ hY h0).mono ?_;rintro e W2 ⟨hv,ss,hk,hj⟩;refine⟨hv,ss,⟨hk.1,λx=> ?_⟩,hj⟩;constructor
 ·intro hx;have hw:=bounds_u32 (hk.2.1 x hx);have hU:bB x:=⟨hw.1,by have:=hw.2;omega⟩;exact⟨hU,by rw[<-(h3 x hU).1];exact(hk.2.2 x).1 hx⟩
 ·rintro⟨hU,hs⟩;exact(hk.2.2 x).2 (by rw[(h3 x hU).1];exact hs)
theorem Dt{me:Int}{g:Int->Value}(h:MT me T M f g A w):
  Calls Tryz.prog 95 #[.pointer (some ⟨T,0,none⟩)] w λe w'=>∃v,e=.returned v∧w'.ownsRow w.heap.size 34 1 v A.length ((A.map (·.dest)).map aX)∧Below w.heap.size w w':=by
 obtain⟨c0,c1⟩:=h.blk.cell;have lT:Below w.heap.size w (w.alloc (.cells #[.map (some M)] 156)):=bq;have hseq:=h.map.yZ (w.alloc (.cells #[.map (some M)] 156)) w.heap.size (by simp) (by simp) lT;have hso:=tN 170 #[.pointer (some ⟨w.heap.size,0,none⟩)] (enters_of Tryz.func170 (by kernel_rfl) rfl) _ A.length (by have:=h.len;omega) _ hseq;have ZP:=(show Hid _ from hso);clear hso hseq;go_enter Tryz.func95,Tryz.ntmps95;go_wp2_with fail;refine(N_ _ _).mono ?_;rintro e w9 ⟨rfl,rfl⟩;go_wp2_with fail;refine aU ZP.out ?_;rintro e W2 ⟨v,ts,ss,rfl,hS,hperm,hle,hlen,hrow,hb2⟩;have hlts:ts.Pairwise (·<·):=by
  have hnd:ts.Nodup:=hperm.nodup_iff.2 hS.1;rw[List.pairwise_iff_getElem]at hle ⊢;intro i j hi hj hij;have h1:=hle i j hi hj hij;have h2:=List.pairwise_iff_getElem.1 hnd i j hi hj hij;omega
 have hts:ts=A.map (·.dest):=by
  refine C8 hlts (by rw[List.pairwise_map];exact h.xC) λa=> ?_;rw[hperm.mem_iff,hS.2 a,di];constructor
  ·rintro⟨hU,hs⟩;obtain⟨B,hB⟩:=Option.isSome_iff_exists.1 hs;obtain⟨x,hx,hxd⟩:=h.dom a B hU hB;exact⟨x,hx,hxd⟩
  ·rintro⟨x,hx,rfl⟩;obtain⟨B,hB,_⟩:=h.ln x hx;exact⟨(h.ok x hx).dest,by rw[hB];rfl⟩
 subst hts;have hbb:=lT.trans (hb2.mono (by simp));rw[iK]at hrow;have hrow':=ownsRow_base_a (base':=w.heap.size) hrow (by simp);clear ZP hS hperm hle hlen hrow hlts lT hb2;go_wp2;go_ret;exact⟨v,rfl,hrow',hbb⟩
def rtC(p:Rt×Value):List Value:=[.int .u32 p.1.dest,.int .u32 p.1.seq,.int .i64 p.1.hops,.int .u32 p.1.next,.bool p.1.valid,.int .u64 p.1.exp,p.2]
def QD(L:List (Rt×Value)):List Value:=L.flatMap rtC
theorem KS(a b:List (Rt×Value)):QD (a++b)=QD a++QD b:=by simp[QD]
theorem U4{k:Nat}{p:Rt×Value}(h:L[k]?=some p){i:Nat}(hi:i<7):(QD L)[k * 7+i]?=(rtC p)[i]?:=
 kM rtC 7 (by decide) (λ_=>rfl) L k i hi h
theorem XG:(Tryz.prog.info? 38).map (λi=>(i.zero,i.size,i.bytes))=some (some (.agg #[.int .u32 0,.int .u32 0,.int .i64 0,.int .u32 0,.bool false,.int .u64 0,.slice none 0 0]),7,56):=by kernel_rfl
theorem aas(x:Rt)(a:Option Addr)(n c:Nat):∀u∈QD [(x,.slice a n c)],u.oneCell'=true:=by
 intro u hu;simp only[QD,rtC,List.flatMap_cons,List.flatMap_nil,iD,fe,List.not_mem_nil,or_false]at hu;rcases hu with rfl|rfl|rfl|rfl|rfl|rfl|rfl<;>rfl
theorem UI(W:World)(x:Rt)(v:Value):∀(j:Nat) (u:Value),(QD [(x,v)])[j]?=some u->(W.alloc (bZ x v)).cell? ((⟨W.heap.size,0,none⟩:Addr).add j)=some u:=by
 intro j u hj;obtain⟨q0,q1,q2,q3,q4,q5,q6⟩:=(dS.new x v W).cell;rw[Addr.add_lit,Nat.zero_add];simp only[QD,rtC,List.flatMap_cons,List.flatMap_nil,iD]at hj
 match j,hj with
 |0,hj=>exact q0.trans hj
 |1,hj=>exact q1.trans hj
 |2,hj=>exact q2.trans hj
 |3,hj=>exact q3.trans hj
 |4,hj=>exact q4.trans hj
 |5,hj=>exact q5.trans hj
 |6,hj=>exact q6.trans hj
 |j+7,hj=>simp at hj
structure oo(base:Nat)(v:Value)(L:List (Rt×Value))(W:World):Prop where
 row:W.ownsRow base 38 7 v L.length (QD L)
 bH:∀p∈L,W.ownsRow base 34 1 p.2 p.1.bH.length (p.1.bH.map aX)
theorem oo.later{base:Nat}{v:Value}{W':World}(h:oo base v L W)(hb:Below W.heap.size W W'):oo base v L W':=
 ⟨aO h.row hb,λp hp=>aO (h.bH p hp) hb⟩
theorem I9{me:Int}{g:Int->Value}(h:MT me T M f g A w):
  Calls Tryz.prog 60 #[.pointer (some ⟨T,0,none⟩)] w λe w'=>∃v L,e=.returned v∧L.map (·.1)=A∧oo w.heap.size v L w'∧Below w.heap.size w w':=by
 obtain⟨i0,hi,hz0,hz1,hz2⟩:=info_parts XG;have hlen:=h.len;have HD:=(show Hid _ from Dt h);go_enter Tryz.func60,Tryz.ntmps60;go_wp2_with fail;refine aU HD.out ?_;rintro e w1 ⟨dv,rfl,hdr,hb1⟩;clear HD;obtain⟨ad,cd,rfl,_⟩:=ak hdr;go_wp2_with fail;go_loopw [3,9] (λlv i wr=>∃(k:Nat) (L:List (Rt×Value)),k<=A.length∧i=.int .i64 k∧L.map (·.1)=A.take k∧oo w.heap.size lv L wr∧wr.ownsRow w.heap.size 34 1 (.slice ad A.length cd) A.length ((A.map (·.dest)).map aX)∧Below w.heap.size w wr) (λ_ i _=>A.length - (intOf i).toNat)
 case atStart=>exact⟨0,[],dh _,rfl,rfl,⟨⟨rfl,.inl ⟨rfl,rfl⟩⟩,λp hp=>by simp at hp⟩,hdr,hb1⟩
 case round=>
  clear hdr hb1;obtain⟨k,L,hk,rfl,hL,hls,hdr,hb⟩:=hrel;have X7:L.length=k:=by
   have:=congrArg List.length hL;simp at this;omega
  by_cases hlt:k<A.length
  ·have hki:(k:Int)<(A.length:Int):=by omega
   obtain⟨x,hx⟩:∃x,A[k]?=some x:=⟨_,cZ hlt⟩;have J_:=gG hx;obtain⟨gd,afX,hv,_⟩:=bV hdr (by omega);cases hv;have d0:=(hdr.cellAt k (by omega)).trans (by rw[kr,kr,hx];rfl:((A.map (·.dest)).map aX)[k]?=some (aX x.dest));have hM:=h.later hb;obtain⟨B,hB,hLn⟩:=hM.ln x J_;have hR:=hM.row x J_;have hok:=h.ok x J_;have hlk:=hM.map.look hok.dest;rw[hB]at hlk;simp only[gF]at hlk;obtain⟨t0,t1⟩:=hM.blk.cell;have hx':=(show Hid _ from hx);have hL':=(show Hid _ from hL);clear hM hx hL;go_wp2_with fail;refine(x_ B x (g x.dest) hok.PZ _ hLn hR).mono ?_;rintro e w2 ⟨v',rfl,ho2,hb2⟩;obtain⟨rZ,c2',rfl,_⟩:=ak ho2;have Ar:=hls.later hb2;have EK:=aO hdr hb2;have hbb:=hb.trans (hb2.mono hb.size);have adi:=ownsRow_base_a ho2 hb.size;clear hls hdr hb2 ho2 hLn hR hlk t0 t1 d0;have hla:=Ar.row.lt;have hap:∀p∈L++ [(x,Value.slice rZ x.bH.length c2')],w2.ownsRow w.heap.size 34 1 p.2 p.1.bH.length (p.1.bH.map aX):=by
    intro p hp;rcases eu.1 hp with hp|hp
    ·exact Ar.bH p hp
    ·rw[eZ]at hp;subst hp;exact adi
   have hk1:Hid (L.length+1<=maxLen):=by show _<=_;unfold maxLen;omega
   have hk2:Hid ((L.length+1)* 56<=140737488355328):=by show _<=_;omega
   have hr0:=Ar.row;go_wp2_with(at_builtin;refine wpList_append_own_at _ rfl _ _ 31 rfl w.heap.size 38 i0 (.agg #[.int .u32 0,.int .u32 0,.int .i64 0,.int .u32 0,.bool false,.int .u64 0,.slice none 0 0]) 7 56 Tryz.underlying31 hi hz0 hz1 hz2 rfl (by decide) u3 L.length (QD L) rfl (hr0.alloc _) ⟨w2.heap.size,0,none⟩ 1 1 (QD [(x,.slice rZ x.bH.length c2')]) rfl rfl (UI w2 x (.slice rZ x.bH.length c2')) (aas x rZ x.bH.length c2') hk1.out hk2.out ?c3 ?_)
   case c3=>have:=hbb.size;simp;omega
   intro v3 w3 ho3 hg3 _ _;have hb3:Below w2.heap.size w2 (w2.alloc (bZ x (.slice rZ x.bH.length c2'))):=bq;have afc:oo w.heap.size v3 (L++ [(x,.slice rZ x.bH.length c2')]) w3:=by
    refine⟨by rw[dw,KS,X7];exact ho3,λp hp=> ?_⟩;have h1:=aO (hap p hp) hb3;exact h1.kept hg3 (bX h1 (hr0.alloc _) (by decide))
   have abe:=(aO EK hb3).kept hg3 (bX (aO EK hb3) (hr0.alloc _) (by decide));have hb4:=(hbb.trans (hb3.mono hbb.size)).grown hg3 (by have:=hbb.size;simp;omega) (λk e=>(hla k e).1);clear Ar EK hbb hap adi ho3 hg3 hb3 hr0 hla;go_wp2;go_roundw
   case rel=>
    refine⟨k+1,L++ [(x,.slice rZ x.bH.length c2')],by omega,by go_num,?_,afc,abe,hb4⟩;rw[List.map_append,hL'.out,List.take_add_one,hx'.out];rfl
   case measure=>simp[intOf];omega
  ·have hkn:A.length<=k:=by omega
   rw[ko hkn]at hL;clear hdr hkn;go_wp2;go_ret;exact⟨_,L,rfl,hL,hls,hb⟩
def kD(F:Rt->Rt)(j:Nat)(A:List Rt):List Rt:=(A.take j).map F++A.drop j
theorem zH(F:Rt->Rt)(A:List Rt):kD F 0 A=A:=by simp[kD]
theorem NS(F:Rt->Rt){A:List Rt}{j:Nat}(h:A.length<=j):kD F j A=A.map F:=by
 unfold kD;rw[ko h,List.drop_eq_nil_of_le h,iD]
theorem Cy(F:Rt->Rt){A:List Rt}{j i:Nat}(hi:j<=i):(kD F j A)[i]?=A[i]?:=by
 unfold kD;by_cases hj:j<=A.length
 ·rw[List.getElem?_append_right (by simp;omega),List.getElem?_drop]
  congr 1
  simp;omega
 ·rw[List.getElem?_eq_none (by simp;omega),List.getElem?_eq_none (by omega)]
theorem NQ(F:Rt->Rt){A:List Rt}{j:Nat}{x:Rt}(hx:A[j]?=some x):(kD F j A).set j (F x)=kD F (j+1) A:=by
 obtain⟨hj,rfl⟩:=eB.1 hx;unfold kD;rw[List.set_append_right _ _ (by simp;omega),List.take_succ_eq_append_getElem hj,List.map_append,List.append_assoc]
 congr 1
 have h0:j - ((A.take j).map F).length=0:=by rw[iK,List.length_take,Nat.min_eq_left (Nat.le_of_lt hj),Nat.sub_self]
 rw[h0,List.drop_eq_getElem_cons hj];rfl
theorem NR(F:Rt->Rt){A:List Rt}{j:Nat}{x:Rt}(hs:Asc (kD F j A))(hx:A[j]?=some x):g_ (kD F j A) x.dest F=kD F (j+1) A:=by
 rw[Sg hs (by rw[Cy F (aD _)];exact hx) rfl,NQ F hx]
def Ci(d_:Int)(y:Rt):Option (Int×Int):=if (y.valid&&(y.next==d_))&&decide (0<y.bH.length)then some (y.dest,max (gr y.seq) 0)else none
def oh(d_:Int)(A:List Rt):List (Int×Int):=A.filterMap (Ci d_)
theorem PV(d_:Int){A:List Rt}{k:Nat}{x:Rt}(h:A[k]?=some x):oh d_ (A.take (k+1))=oh d_ (A.take k)++(Ci d_ x).toList:=by
 unfold oh;rw[List.take_add_one,h,List.filterMap_append]
 congr 1
theorem rH(d_:Int)(A:List Rt):(oh d_ A).length<=A.length:=List.length_filterMap_le _ _
def Co(L:List (Int×Int)):List Value:=L.flatMap λx=> [.int .u32 x.1,.int .u32 x.2]
theorem Bw(a b:List (Int×Int)):Co (a++b)=Co a++Co b:=by simp[Co]
theorem MO:(Tryz.prog.info? 237).map (λi=>(i.zero,i.size,i.bytes))=some (some (.agg #[.int .u32 0,.int .u32 0]),2,8):=by kernel_rfl
theorem IK(W:World)(d s:Int):∀(j:Nat) (u:Value),(Co [(d,s)])[j]?=some u->(W.alloc (.cells #[.int .u32 d,.int .u32 s] 237)).cell? ((⟨W.heap.size,0,none⟩:Addr).add j)=some u:=by
 intro j u hj;have h:=bS W (.cells #[.int .u32 d,.int .u32 s] 237);rw[Addr.add_lit,Nat.zero_add];simp only[Co,List.flatMap_cons,List.flatMap_nil,iD]at hj
 match j,hj with
 |0,hj=>exact(aH _ _ 0 _ _ _ h).trans hj
 |1,hj=>exact(aH _ _ 1 _ _ _ h).trans hj
 |j+2,hj=>simp at hj
theorem RS(d s:Int):∀u∈Co [(d,s)],u.oneCell'=true:=by
 intro u hu;simp only[Co,List.flatMap_cons,List.flatMap_nil,iD,fe,List.not_mem_nil,or_false]at hu;rcases hu with rfl|rfl<;>rfl
theorem EQ{S:Nat->Prop}{w W W':World}{e size n:Nat}{v:Value}{cs:List Value}(h:W.ownsRow w.heap.size e size v n cs)(hS:∀k,S k->k<w.heap.size){B:Nat}(hB:S B)(hg:W.grownBy W' (some B)):W'.ownsRow w.heap.size e size v n cs:=
 bK h λk hk=>hg.block k (h.lt k hk).2 (λe=>by
  have h1:=(h.lt k hk).1;have h2:=hS _ hB;have h3:B=k:=by injection e with e;exact e.symm
  omega)
theorem Lf{me:Int}{T M:Nat}{f:Int->Option Nat}{g:Int->Value}{A:List Rt}{S:Nat->Prop}(d_:Int){w:World}(h:MT me T M f g A w)(hS:∀k,nu T M f g A k->S k)(hSb:∀k,S k->k<w.heap.size):
  Calls Tryz.prog 138 #[.pointer (some ⟨T,0,none⟩),.int .u32 d_] w λe w'=>∃v g',e=.returned v∧w'.ownsRow w.heap.size 237 2 v (oh d_ A).length (Co (oh d_ A))∧MT me T M f g' (A.map (bY d_ 0)) w'∧(∀k,nu T M f g' (A.map (bY d_ 0)) k->S k)∧Fx S w w':=by
 obtain⟨i0,hi,hz0,hz1,hz2⟩:=info_parts MO;have hlen:=h.len;have HD:=(show Hid _ from Dt h);have hok0:=h.ok;go_enter Tryz.func138,Tryz.ntmps138;go_wp2_with fail;refine aU HD.out ?_;rintro e w1 ⟨dv,rfl,hdr,hb1⟩;clear HD;obtain⟨ad,cd,rfl,_⟩:=ak hdr;have h1:=h.later hb1;go_wp2_with fail;go_loopw [5,13] (λlv i wr=>∃(k:Nat) (g':Int->Value),k<=A.length∧i=.int .i64 k∧MT me T M f g' (kD (bY d_ 0) k A) wr∧(∀q,nu T M f g' (kD (bY d_ 0) k A) q->S q)∧wr.ownsRow w.heap.size 237 2 lv (oh d_ (A.take k)).length (Co (oh d_ (A.take k)))∧wr.ownsRow w.heap.size 34 1 (.slice ad A.length cd) A.length ((A.map (·.dest)).map aX)∧Fx S w wr) (λ_ i _=>A.length - (intOf i).toNat)
 case atStart=>
  refine⟨0,g,dh _,rfl,?_,?_,⟨rfl,.inl ⟨rfl,rfl⟩⟩,hdr,Fx.below hb1⟩
  ·rw[zH];exact h1
  ·rw[zH];exact hS
 case round=>
  clear hdr hb1 h1;obtain⟨k,g',hk,rfl,hM,AJ,hls,hdr,hfx⟩:=hrel;by_cases hlt:k<A.length
  ·have hki:(k:Int)<(A.length:Int):=by omega
   obtain⟨x,hx⟩:∃x,A[k]?=some x:=⟨_,cZ hlt⟩;have J_:=gG hx;obtain⟨gd,afX,hv,_⟩:=bV hdr (by omega);cases hv;have d0:=(hdr.cellAt k (by omega)).trans (by rw[kr,kr,hx];rfl:((A.map (·.dest)).map aX)[k]?=some (aX x.dest));have hxs:(kD (bY d_ 0) k A)[k]?=some x:=by rw[Cy _ (aD _)];exact hx
   have hxM:=gG hxs;have hok:=hok0 x J_;have hl:=jT hM.xC hxM;obtain⟨B,hB,hLn⟩:=hM.ln x hxM;have hR:=hM.row x hxM;have hlk:=hM.map.look hok.dest;rw[hB]at hlk;simp only[gF]at hlk;obtain⟨t0,t1⟩:=hM.blk.cell;obtain⟨c0,c1,c2,c3,c4,c5,c6⟩:=hLn.cell;obtain⟨av,cv,hgv,_⟩:=ak hR;have hrB:=hM.acF hl hB;rw[hgv]at c6;have hsn:=PV d_ hx;have hmod:=NR (bY d_ 0) hM.xC hx;have Zx:S B:=AJ B (hM.inB hl hB);have Jj:=(show Hid _ from hsn);have hMod:=(show Hid _ from hmod);clear hsn hmod hx hxs;by_cases VD:(x.valid&&(x.next==d_))=true
   ·have hxv:x.valid=true:=by revert VD;cases x.valid<;>simp
    have hxn:(x.next==d_)=true:=by revert VD;cases x.valid<;>simp
    have hF:bY d_ 0 x=qC x 0:=by unfold bY;rw[aQ VD]
    rw[hxv]at c4;have hel:x.next=d_:=by simpa using hxn
    have hpre:Hid (∀w':World,dS B (qC x 0) (.slice none 0 0) w'->wr.grownBy w' (some B)->∃g2,MT me T M f g2 (kD (bY d_ 0) (k+1) A) w'∧(∀q,nu T M f g2 (kD (bY d_ 0) (k+1) A) q->S q)):=by
     intro w' hL' hg;have ht:=hM.turn (W':=w') hl hB (bY d_ 0) (eG d_ 0) (by rw[hF];exact vN hok (by simp[bB])) (.slice none 0 0) (by rw[hF];exact hL') (by rw[hF];exact⟨rfl,.inl ⟨rfl,rfl⟩⟩) (.inl rfl) (λq hq hqB _=>hg.block q (hM.lt hq) (λe=>hqB (by cases e;rfl)));rw[hMod.out]at ht;refine⟨_,ht.1,λq hq=> ?_⟩;rcases ht.2 q hq with h3|h3
     ·exact AJ q h3
     ·cases h3
    have HE:=(show Hid _ from EZ B x (g' x.dest) 0 wr hLn);clear hM AJ hR;by_cases hbf:0<x.bH.length
    ·have hbp:Ci d_ x=some (x.dest,max (gr x.seq) 0):=by
      unfold Ci;rw[VD,gm hbf];rfl
     rw[hbp]at Jj;have hd1:decide (0<(x.bH.length:Int))=true:=gm (by omega);have hd2:decide (0<x.bH.length)=true:=gm hbf;go_wp2_with fail;refine aU HE.out ?_;rintro e w2 ⟨rfl,hL2,hg2⟩;obtain⟨g2,hM2,X5⟩:=hpre.out w2 hL2 hg2;have Ar:=EQ hls hSb Zx hg2;have EK:=EQ hdr hSb Zx hg2;have Cc:=hfx.trans (Fx.grown (S:=S) hg2 (λq e=>by cases e;exact Zx)) (λ_ _ h=>h);clear HE hpre c0 c1 c2 c3 c4 c5 c6 hLn hls hdr hfx t0 t1 hlk d0 hg2;obtain⟨_,c1,_⟩:=hL2.cell;have hla:=Ar.lt;have hk1:Hid ((oh d_ (A.take k)).length+1<=maxLen):=by
      show _<=_;have:=rH d_ (A.take k);simp at this;unfold maxLen;omega
     have hk2:Hid (((oh d_ (A.take k)).length+1)* 8<=140737488355328):=by
      show _<=_;have:=rH d_ (A.take k);simp at this;omega
     have hsz:=Cc.size;have c1':w2.cell? ⟨B,1,none⟩=some (.int .u32 (max (gr x.seq) 0)):=c1;generalize max (gr x.seq) 0=qs at Jj c1';clear c1 hL2;go_wp2_with(at_builtin;refine wpList_append_own_at _ rfl _ _ 71 rfl w.heap.size 237 i0 (.agg #[.int .u32 0,.int .u32 0]) 2 8 Tryz.underlying71 hi hz0 hz1 hz2 rfl (by decide) u5 (oh d_ (A.take k)).length (Co (oh d_ (A.take k))) rfl (Ar.alloc _) ⟨w2.heap.size,0,none⟩ 1 1 (Co [(x.dest,qs)]) rfl rfl (IK w2 x.dest qs) (RS x.dest qs) hk1.out hk2.out ?c3 ?_)
     case c3=>simp;omega
     intro v3 w3 ho3 hg3 _ _;have hb3:Below w2.heap.size w2 (w2.alloc (.cells #[.int .u32 x.dest,.int .u32 qs] 237)):=bq;have abe:=(aO EK hb3).kept hg3 (bX (aO EK hb3) (Ar.alloc _) (by decide));have hM3:=(hM2.later hb3).kept (W':=w3) (λq hq=>hg3.block q ((hM2.later hb3).lt hq) (λe=>by have:=(hla q e.symm).1;have:=hSb q (X5 q hq);omega));have aa8:Fx S w w3:=(Cc.trans (Fx.below (S:=S) hb3) (λ_ _ h=>h)).trans (Fx.grown (S:=λq=>w.heap.size<=q) hg3 (λq e=>(hla q e).1)) (λq hq hq'=>by omega);clear Ar EK Cc hM2 hg3 hb3 hla;go_wp2;go_roundw
     case rel=>
      refine⟨k+1,g2,by omega,by go_num,hM3,X5,?_,abe,aa8⟩;rw[Jj.out,Option.toList_some,Bw,dw];exact ho3
     case measure=>simp[intOf];omega
    ·have hbp:Ci d_ x=none:=by
      unfold Ci;rw[fA hbf,Bool.and_false];rfl
     rw[hbp,Option.toList_none,iD]at Jj;have hd1:decide (0<(x.bH.length:Int))=false:=fA (by omega);have hd2:decide (0<x.bH.length)=false:=fA hbf;go_wp2_with fail;refine aU HE.out ?_;rintro e w2 ⟨rfl,hL2,hg2⟩;obtain⟨g2,hM2,X5⟩:=hpre.out w2 hL2 hg2;have Ar:=EQ hls hSb Zx hg2;have EK:=EQ hdr hSb Zx hg2;have Cc:=hfx.trans (Fx.grown (S:=S) hg2 (λq e=>by cases e;exact Zx)) (λ_ _ h=>h);clear HE hpre c0 c1 c2 c3 c4 c5 c6 hLn hls hdr hfx t0 t1 hlk d0 hg2;go_wp2;go_roundw
     case rel=>
      refine⟨k+1,g2,by omega,by go_num,hM2,X5,?_,EK,Cc⟩;rw[Jj.out];exact Ar
     case measure=>simp[intOf];omega
   ·have hF:bY d_ 0 x=x:=by unfold bY;rw[aM VD]
    have hbp:Ci d_ x=none:=by
     unfold Ci;rw[Bool.not_eq_true _|>.mp VD,Bool.false_and];rfl
    rw[hbp,Option.toList_none,iD]at Jj;have hst:kD (bY d_ 0) (k+1) A=kD (bY d_ 0) k A:=by
     rw[<-hMod.out];exact pO hM.xC λy hy=>by
      rw[hl]at hy;cases hy;exact hF
    have hSt:=(show Hid _ from hst);clear hst;cases hxv:x.valid
    ·rw[hxv]at c4;clear VD hxv;go_wp2;go_roundw
     case rel=>exact⟨k+1,g',by omega,by go_num,by rw[hSt.out];exact hM,by rw[hSt.out];exact AJ,by rw[Jj.out];exact hls,hdr,hfx⟩
     case measure=>simp[intOf];omega
    ·rw[hxv]at c4;have hxn:(x.next==d_)=false:=by
      rw[hxv,Bool.true_and]at VD;simpa using VD
     clear VD hxv;go_wp2;go_roundw
     case rel=>exact⟨k+1,g',by omega,by go_num,by rw[hSt.out];exact hM,by rw[hSt.out];exact AJ,by rw[Jj.out];exact hls,hdr,hfx⟩
     case measure=>simp[intOf];omega
  ·have hkn:A.length<=k:=by omega
   rw[ko hkn]at hls;rw[NS _ hkn]at hM AJ;clear hdr hkn;go_wp2;go_ret;exact⟨_,g',rfl,hls,hM,AJ,hfx⟩
variable{A:List Rt}{left:Lit->Bool}
def Kv(now:Int)(y:Rt):Bool:=y.valid&&decide (y.exp<=now)
def oP(now:Int)(y:Rt):Rt:=if Kv now y then qC y 0 else y
theorem gX(now:Int)(y:Rt):(oP now y).dest=y.dest:=by
 unfold oP;split<;>rfl
def iZ(A:List Rt)(now:Int):List Rt:=A.map (oP now)
def wO(left:Lit->Bool)(now:Int)(A:List Rt):List Rt:=A.map λy=>if left (.int .u32 y.dest)then y else oP now y
theorem OO{x:Int}(h:left (.int .u32 x)=true)(now:Int)(A:List Rt):g_ (wO left now A) x (oP now)=wO (λz=>left z&&!z.sameKey (.int .u32 x)) now A:=by
 unfold g_ wO;rw[List.map_map];refine List.map_congr_left λy _=> ?_;by_cases e:y.dest=x
 ·subst e;simp[h,Lit.sameKey]
 ·by_cases hl:left (.int .u32 y.dest)=true
  ·simp[hl,e,Lit.sameKey]
  ·simp[hl,e,Lit.sameKey,gX]
theorem OP{y:Rt}(hy:y∈A)(h:left (.int .u32 y.dest)=true)(now:Int):y∈wO left now A:=
 di.2 ⟨y,hy,by simp[h]⟩
theorem JN{v:Value}{y:DataW Unit×List MemPlace}(h:D8 v=some y):∃c:Option Nat,v=gF c:=by
 unfold D8 at h;split at h
 ·exact⟨none,rfl⟩
 ·exact⟨some _,rfl⟩
 ·cases h
theorem K6{me:Int}{T M:Nat}{f:Int->Option Nat}{g:Int->Value}{S:Nat->Prop}(now:Int){w:World}(h:MT me T M f g A w)(hS:∀k,nu T M f g A k->S k)(hSb:∀k,S k->k<w.heap.size):
  Calls Tryz.prog 76 #[.pointer (some ⟨T,0,none⟩),.int .u64 now] w λe w'=>∃g',e=.returned (.tuple #[])∧MT me T M f g' (iZ A now) w'∧(∀k,nu T M f g' (iZ A now) k->S k)∧Fx S w w':=by
 obtain⟨D,h1,h2,h3⟩:=h.map;obtain⟨t0,t1⟩:=h.blk.cell;have hok0:=h.ok;have adA:=h.dom;have h3':=(show Hid _ from h3);have hhas:∀y∈A,has D (.int .u32 y.dest)=true:=λy hy=>by
  obtain⟨B,hB,_⟩:=h.ln y hy;rw[(h3 _ (hok0 y hy).dest).1,hB];rfl
 have hst:wO (has D) now A=A:=by
  unfold wO;conv=>rhs;rw[<-List.map_id A]
  exact List.map_congr_left λy hy=>by simp[hhas y hy]
 have hSt:=(show Hid _ from hst);clear h3 hst;go_enter Tryz.func76,Tryz.ntmps76;go_wp2_with(at_range;refine wpList_range_own _ rfl _ 156 rfl 34 161 gu Tryz.underlying156 _ M A.length _ rfl h1 ?_;intro w0 hrg0 hg0 hs0);go_frame;go_loopw [5] (λ_ wr=>∃(left:Lit->Bool) (cnt:Nat) (g':Int->Value),wr.ranges Tryz.prog 34 D8 M w.heap.size A.length D left cnt∧MT me T M f g' (wO left now A) wr∧(∀q,nu T M f g' (wO left now A) q->S q)∧Fx S w wr)
  (λ_ wr=>wr.rangeLeft M w.heap.size)
 case atStart=>
  have hb:Below w.heap.size w w0:=⟨hg0.os,hg0.tape,hg0.output,hg0.size,λk hk=>hg0.block k hk (by simp)⟩;refine⟨_,_,g,hrg0,?_,?_,Fx.below hb⟩
  ·rw[hSt.out];exact h.later hb
  ·rw[hSt.out];exact hS
 case round=>
  clear h h1 hg0 hs0 hrg0 t0 t1;obtain⟨left,cnt,g',hrg,hM,AJ,hfx⟩:=hrel;go_wp2_with(at_next;refine wpList_next_ranges _ rfl _ rfl 34 gu D8 aX gF (λkey kl hk=>by obtain⟨x,hx,_⟩:=lg Tryz.underlying34 hk;exact⟨x,hx⟩) (λv y hv=>JN hv) M w.heap.size A.length _ _ _ rfl hrg ?_ ?_)
  ·intro hc0 hl0;have hall:wO left now A=iZ A now:=by
    unfold wO iZ;exact List.map_congr_left λy _=>by simp[hl0]
   rw[hall]at hM AJ;clear hall;go_wp2
   go_end0
   exact⟨g',rfl,hM,AJ,hfx⟩
  ·intro x c kl yd yp w2 cnt2 hkey hlk hv hat hrg2 hlt hg2 hs2 hen;obtain⟨x',ex,rfl,hwf⟩:=lg Tryz.underlying34 hkey;obtain rfl:x=x':=AR ex;clear ex hkey;have hb:=bounds_u32 hwf;have hxu:bB x:=⟨hb.1,by have:=hb.2;omega⟩;have h3x:=(h3'.out x hxu).2;rw[hat]at h3x;rw[pG]at hv;have hcl:lS c=lS (f x):=by
    have e1:=congrArg Prod.fst (Option.some.inj hv);rw[h3x]at e1;simpa using e1
   have hsome:=(h3'.out x hxu).1;rw[has_true_of_atKey hat]at hsome;obtain⟨B,hB⟩:=Option.isSome_iff_exists.1 hsome.symm;have hc:c=some B:=by
    rw[hB]at hcl;cases c with
    |none=>simp[lS]at hcl
    |some c=>
     simp only[lS]at hcl;exact congrArg some (by omega)
   subst hc;simp only[gF]at hen ⊢;obtain⟨y,Hw,rfl⟩:=adA x B hxu hB;have hyM:=OP Hw hlk now;have hM2:MT me T M f g' (wO left now A) w2:=hM.kept (λq hq=>hg2.block q (hM.lt hq) (λe=>by
    have h4:=hSb q (AJ q hq);have h5:w.heap.size=q:=by injection e with e;exact e.symm
    omega))
   have Cc:Fx S w w2:=hfx.trans (Fx.grown (S:=λq=>w.heap.size<=q) hg2 (λq e=>by cases e;exact aD _)) (λq hq hq'=>by omega);have hl:=jT hM2.xC hyM;have hLn:dS B y (g' y.dest) w2:=by
    obtain⟨B',hB',hL⟩:=hM2.ln y hyM;rw[hB]at hB';cases hB';exact hL
   have Zx:S B:=AJ B (hM.inB hl hB);have hmod:=OO hlk now A;have hMod:=(show Hid _ from hmod);have hlq:=hrg.left_eq;have hme:=(show Hid (cnt2<wr.rangeLeft M w.heap.size)from by show _<_;rw[hlq];exact hlt);obtain⟨c0,c1,c2,c3,c4,c5,c6⟩:=hLn.cell;clear hs2 hmod hat hv hcl h3x hsome hM hfx hrg hlq hlt hlk hb hwf;by_cases hex:Kv now y=true
   ·have hF:oP now y=qC y 0:=aQ hex;have hyv:y.valid=true:=by unfold Kv at hex;revert hex;cases y.valid<;>simp
    have hye:decide (y.exp<=now)=true:=by unfold Kv at hex;revert hex;cases y.valid<;>simp
    rw[hyv]at c4;have HE:=(show Hid _ from EZ B y (g' y.dest) 0 w2 hLn);go_wp2_with fail;refine aU HE.out ?_;rintro e w3 ⟨rfl,hL3,hg3⟩;have ht:=hM2.turn (W':=w3) hl hB (oP now) (gX now) (by rw[hF];exact vN (hok0 y Hw) (by simp[bB])) (.slice none 0 0) (by rw[hF];exact hL3) (by rw[hF];exact⟨rfl,.inl ⟨rfl,rfl⟩⟩) (.inl rfl) (λq hq hqB _=>hg3.block q (hM2.lt hq) (λe=>hqB (by cases e;rfl)));rw[hMod.out]at ht;have hrg3:=hrg2.of_walks (KeepsWalks.of_grownBy hg3 (λj o e ho=>by
     cases e;rw[show w2.heap[B]?=_ from hLn]at ho;cases ho;rfl))
    have aa8:Fx S w w3:=Cc.trans (Fx.grown (S:=S) hg3 (λq e=>by cases e;exact Zx)) (λ_ _ h=>h);have hmS:∀q,nu T M f _ _ q->S q:=λq hq=>by
     rcases ht.2 q hq with h4|h4
     ·exact AJ q h4
     ·cases h4
    have hM3:=ht.1;clear HE c0 c1 c2 c3 c4 c5 c6 hLn hg3 hg2 hM2 hrg2 Cc ht hL3;go_wp2;go_roundw
    case rel=>exact⟨_,cnt2,_,hrg3,hM3,hmS,aa8⟩
    case measure=>rw[hrg3.left_eq];exact hme.out
   ·have hF:oP now y=y:=aM hex;have hid:wO left now A=wO (λz=>left z&&!z.sameKey (.int .u32 y.dest)) now A:=by
     rw[<-hMod.out];exact(pO hM2.xC λz hz=>by
      rw[hl]at hz;cases hz;exact hF).symm
    rw[hid]at hM2 AJ;clear hid;cases hyv:y.valid
    ·rw[hyv]at c4;go_wp2;go_roundw
     case rel=>exact⟨_,cnt2,g',hrg2,hM2,AJ,Cc⟩
     case measure=>rw[hrg2.left_eq];exact hme.out
    ·rw[hyv]at c4;have hye:decide (y.exp<=now)=false:=by
      unfold Kv at hex;rw[hyv,Bool.true_and]at hex;simpa using hex
     go_wp2;go_roundw
     case rel=>exact⟨_,cnt2,g',hrg2,hM2,AJ,Cc⟩
     case measure=>rw[hrg2.left_eq];exact hme.out
variable{a:Act}{K:Act->World->Prop}{ops:Array Oper}{Q:Exit->Act->World->Prop}{o:Oper}{P:Program}{E:Prop}{w:World}
theorem yE
  (hg:o.guard=none) (s x:Operand) (t:TypeId) (hop:o.op=Op.call {callee:=Callee.builtin Builtin.append,args:=#[s,x],argTypes:=#[t,t]})
  (base:Nat) (e:TypeId) (i:TypeInfo) (z:Value) (size bytes:Nat) (h1:P.underlying t=some (.slice e)) (h2:P.info? e=some i) (h3:i.zero=some z) (h4:i.size=size) (h5:i.bytes=bytes) (h6:z.cells.size=size) (h7:0<size)
  (v:Value) (n:Nat) (xs:List Value) (hs:a.eval s=v) (hown:w.ownsRow base e size v n xs)
  (ad:Addr) (m c:Nat) (news:List Value) (hx:a.eval x=.slice (some ad) m c) (hn:news.length=m * size) (hc:∀j u,news[j]?=some u->w.cell? (ad.add j)=some u) (h1c:∀u∈news,u.oneCell'=true)
  (b1:n+m<=maxLen) (b2:(n+m)* bytes<=140737488355328) (hbase:base<=w.heap.size)
  (hK:∀v' w',w'.ownsRow base e size v' (n+m) (xs++news)->w.grownBy w' v.ownBlock->K (a.put o.dst v') w'):
  if Region.wanted o (yielded ops a.tmps)=true then Oper.wp P o a w K Q else E:=by
 have hw:Region.wanted o (yielded ops a.tmps)=true:=by simp[Region.wanted,hg]
 rw[aQ hw];obtain⟨v',w',hrun,r1,r2,_⟩:=run_append_own (P:=P) w base t o.type e i z size bytes h1 h2 h3 h4 h5 h6 h7 v n xs hown ad m c news hn hc h1c b1 b2 hbase;unfold Oper.wp;simp[execOp,hop,resolve,invoke,builtin,hs,hx,hrun,Result.andThen];exact hK v' w' r1 r2
theorem gU
  (hg:o.guard=none) (s x:Operand) (t:TypeId) (hop:o.op=Op.call {callee:=Callee.builtin Builtin.append,args:=#[s,x],argTypes:=#[t,t]})
  (base:Nat) (e:TypeId) (i:TypeInfo) (z:Value) (size bytes:Nat) (h1:P.underlying t=some (.slice e)) (h2:P.info? e=some i) (h3:i.zero=some z) (h4:i.size=size) (h5:i.bytes=bytes) (h6:z.cells.size=size) (h7:0<size)
  (v:Value) (n:Nat) (xs:List Value) (hs:a.eval s=v) (hown:w.ownsRow base e size v n xs)
  (ad:Addr) (m c:Nat) (news:List Value) (hx:a.eval x=.slice (some ad) m c) (hn:news.length=m * size) (hc:∀j u,news[j]?=some u->w.cell? (ad.add j)=some u) (h1c:∀u∈news,u.oneCell'=true)
  (b1:n+m<=maxLen) (b2:(n+m)* bytes<=140737488355328) (hbase:base<=w.heap.size)
  (hK:∀v' w',w'.ownsRow base e size v' (n+m) (xs++news)->w.grownBy w' v.ownBlock->(v'.ownBlock=v.ownBlock∨v'.ownBlock=some w.heap.size)->K (a.put o.dst v') w'):
  if Region.wanted o (yielded ops a.tmps)=true then Oper.wp P o a w K Q else E:=by
 have hw:Region.wanted o (yielded ops a.tmps)=true:=by simp[Region.wanted,hg]
 rw[aQ hw];obtain⟨v',w',hrun,r1,r2,_,r3⟩:=run_append_own_at (P:=P) w base t o.type e i z size bytes h1 h2 h3 h4 h5 h6 h7 v n xs hown ad m c news hn hc h1c b1 b2 hbase;unfold Oper.wp;simp[execOp,hop,resolve,invoke,builtin,hs,hx,hrun,Result.andThen];exact hK v' w' r1 r2 r3
end Go.Proofs.YtakaadcpaeiccabGreat
