import Derived.Test.YtakaadcpaeiccabGreatC07
import Derived.Deep.RegionLaw
set_option maxHeartbeats 4000000
set_option maxRecDepth 100000
namespace Go.Proofs.YtakaadcpaeiccabGreat
open Go.RowKit
variable{W:World}
theorem bX{b1 b2 e1 e2 s1 s2 n1 n2:Nat}{v1 v2:Value}{x1 x2:List Value}(h1:W.ownsRow b1 e1 s1 v1 n1 x1)(h2:W.ownsRow b2 e2 s2 v2 n2 x2)(hne:e1≠e2):v1.ownBlock=none∨v1.ownBlock≠v2.ownBlock:=by
 rcases h1.2 with⟨rfl,_⟩|⟨g1,c1,k1,rfl,_,q1,_⟩
 ·exact .inl rfl
 ·rcases h2.2 with⟨rfl,_⟩|⟨g2,c2,k2,rfl,_,q2,_⟩
  ·exact .inr (by simp[Value.ownBlock])
  ·refine .inr λe=> ?_;simp only[Value.ownBlock,Option.some.injEq]at e;subst e;rw[q1]at q2;cases q2;exact hne rfl
theorem qJ.Xe{B:Nat}{o:Bool}{a s:Int}(h:qJ B o a s W)(s':Int):qJ B o a s' (W.setCell ⟨B,2,none⟩ (.int .u32 s')):=by
 unfold qJ at h ⊢;simp[World.setCell,Array.getElem?_modify,h]
theorem DK(f:Int->Option Int)(ss:List Int)(a:Int):gM f (ss++ [a])=gM f ss++ [(false,a,(f a).getD 0)]:=by simp[gM]
theorem Dq(f:Int->Option Int)(a s:Int):stepM f (false,a,s)=ku f a (some (max ((f a).getD 0) s)):=rfl
theorem Te:MB λ_=>none:=λa v h=>by cases h
theorem SI:OB none:=λv h=>by cases h
theorem MK{L:List (Bool×Int×Int)}(h:qx L){x:Bool×Int×Int}(hx:x∈L):a_ x.2.1∧a_ x.2.2:=by
 have:=h x hx;unfold a_;omega
theorem vO(ao:Option Addr)(n c:Nat)(L:List (Bool×Int×Int))(hL:L.length=n)(hn:n<=50000)(hbd:qx L)(hfw:Zq L)(w:World)(hA:gN w ao (RC L)):
  Calls Tryz.prog 69 #[.slice ao n c] w (aex L w):=by
 obtain⟨i0,hi,hz0,hz1,hz2⟩:=info_parts rq;have hmm:=@run_makeMap Tryz.prog;have hM0:=MapU.made (w.alloc (aY true 0 0));rw[World.size_alloc]at hM0;have hB0:qJ w.heap.size true 0 0 ((w.alloc (aY true 0 0)).alloc (.map #[] 0)):=(qJ.new true 0 0 w).later (bC);have hb0:Below w.heap.size w ((w.alloc (aY true 0 0)).alloc (.map #[] 0)):=(bC).alloc (by simp) _;have hs0:w.heap.size+2<=((w.alloc (aY true 0 0)).alloc (.map #[] 0)).heap.size:=by simp
 dsimp only[aY]at hM0 hB0 hb0 hs0;go_enter Tryz.func69,Tryz.ntmps69;go_wp2_with fail;clear hmm;generalize World.alloc _ _=W0 at hM0 hB0 hb0 hs0 ⊢;go_loopw [4,15] (λq i wr=>∃(k sz:Nat),k<=n∧i=.int .i64 k∧q=.bool (qI (L.take k)).isSome∧MB (mG (L.take k))∧OB (qI (L.take k))∧qJ w.heap.size true 0 ((qI (L.take k)).getD 0) wr∧MapU wr (w.heap.size+1) (mG (L.take k)) sz∧sz<=k∧Below w.heap.size w wr∧w.heap.size+2<=wr.heap.size) (λ_ i _=>n - (intOf i).toNat)
 case atStart=>exact⟨0,0,b_ _,rfl,rfl,Te,SI,hB0,hM0,aB _,hb0,hs0⟩
 case round=>
  clear hM0 hB0 hb0 hs0;obtain⟨k,sz,hk,rfl,rfl,hmb,ZJ,hB,hm,hsz,hb,hs2⟩:=hrel;by_cases hlt:k<n
  ·have hki:(k:Int)<(n:Int):=by omega
   obtain⟨x,hx⟩:∃x,L[k]?=some x:=⟨_,cK (by omega)⟩;have hat:∀i z,i<3->([.bool x.1,.int .u32 x.2.1,.int .u32 x.2.2]:List Value)[i]?=some z->(RC L)[k * 3+i]?=some z:=λi z hi hz=>(jh (λx:Bool×Int×Int=>([Value.bool x.1,Value.int .u32 x.2.1,Value.int .u32 x.2.2]:List Value)) 3 (by decide) (λ_=>rfl) L k i hi hx).trans hz;have hA':=hA.below hb;obtain⟨b1,o1,rfl,hj1⟩:=hA' (k * 3+0) _ (hat 0 _ (by decide) rfl);have d0:=hA'.one rfl (hat 0 _ (by decide) rfl);have d1:=hA'.one rfl (hat 1 _ (by decide) rfl);have d2:=hA'.one rfl (hat 2 _ (by decide) rfl);have hxu:=MK hbd (gI hx);have eM:Hid (mG (L.take (k+1))=stepM (mG (L.take k)) x):=by
    show _=_;rw[o8 hx,Ik]
   have eO:Hid (qI (L.take (k+1))=lH (qI (L.take k)) x):=by
    show _=_;rw[o8 hx,AV]
   have abr:Hid (MB (mG (L.take (k+1)))):=by
    show MB _;rw[eM.out];exact hmb.step hxu.1 hxu.2
   have adv:Hid (OB (qI (L.take (k+1)))):=by
    show OB _;rw[eO.out];exact ZJ.step hxu.2
   obtain⟨xo,xa,xs⟩:=x;dsimp only at d0 d1 d2 hxu;rw[Nat.add_zero]at d0;rw[<-Nat.add_assoc]at d1 d2;have hB1:=hB.later ((aU _ wr).alloc (aB _) (aY xo xa xs));have hm1:=hm.kept (ko wr (aY xo xa xs) none) (by simp);have hb1:=hb.alloc hb.size (aY xo xa xs);have hs1:w.heap.size+2<=(wr.alloc (aY xo xa xs)).heap.size:=by simp;omega
   clear hj1 hat hA' hx hB hm hb hmb;generalize mG (L.take k)=f at hm1 eM;have ho:OB (qI (L.take k)):=ZJ;generalize qI (L.take k)=cc at hB1 eO ho ⊢;clear ZJ;cases xo
   ·have hl:=hm1.look hxu.1;obtain⟨W2,hr,hm2,hg2⟩:=hm1.put (by unfold maxLen;omega) hxu.1 (v:=max ((f xa).getD 0) xs) (by
     have hh:=(abr.out);rw[eM.out,Dq]at hh;exact(hh xa _ (by simp[ku])).2)
    have hB2:=hB1.kept hg2 (by simp);have hb2:=hb1.grown hg2 hb1.size (λk e=>by cases e;omega);have hs3:=dH hs1 hg2.size;have ae0:(if (f xa).isSome then sz else sz+1)<=k+1:=by split<;>omega
    rw[Dq]at eM;clear hm1 hB1 hb1 hg2 hs1 hs2 ho;dsimp only[aY]at hl hr;generalize (f xa).getD 0=fx at hl hr hm2 eM;go_wp2;go_roundw
    case rel=>exact⟨k+1,_,by omega,by go_num,by rw[eO.out];rfl,abr.out,adv.out,by rw[eO.out];exact hB2,by rw[eM.out];exact hm2,ae0,hb2,hs3⟩
    case measure=>simp[intOf];omega
   ·obtain⟨c0,c1,c2⟩:=hB1.cell;have ff:=hB1.free 2;have hm2:=λv=>hm1.kept (ah (aC _ (some w.heap.size)) 2 v) (by simp);have hB2:=λv=>hB1.Xe v;have hb2:=λv=>hb1.setCell (p:=⟨w.heap.size,2,none⟩) (aB _) v;have hs3:∀v,w.heap.size+2<=((wr.alloc (aY true xa xs)).setCell ⟨w.heap.size,2,none⟩ v).heap.size:=λv=>dH hs1 (ah (aC _ (some w.heap.size)) 2 v).size;clear hm1 hB1 hb1 hs1 hs2 hxu;dsimp only[aY]at c0 c1 c2 ff hm2 hB2 hb2 hs3;have YU:Hid (qI (L.take (k+1))=some (max (cc.getD 0) xs)):=by
     show _=_;rw[eO.out];rfl
    clear eO ho;generalize cc.getD 0=t at c2 YU;go_wp2;go_roundw
    case rel=>exact⟨k+1,sz,by omega,by go_num,by rw[YU.out];rfl,abr.out,adv.out,by rw[YU.out];exact hB2 _,by rw[eM.out];exact hm2 _,by omega,hb2 _,hs3 _⟩
    case measure=>simp[intOf];omega
  ·have hkn:n<=k:=by omega
   rw[jD (by omega)]at hB hm hmb ZJ ⊢;have hsn:sz<=L.length:=by omega
   have hLn:L.length<=50000:=by omega
   have hnn:n=L.length:=hL.symm;clear hkn hsz hs2 hA hL;have agx:=ab4 hfw hm;clear hfw;generalize hf:mG L=f at hm hmb;have hf':=(show Hid _ from hf);generalize hc:qI L=cc at hB ZJ ⊢;have hc':=(show Hid _ from hc);clear hf hc;have hs2:=hB.lt;have hMl:=hm.lt;have hkf:decide ((k:Int)<(n:Int))=false:=fD (by omega);have afn:decide (k<n)=false:=fD (by omega);cases cc with
   |none=>
    have Gq:wr.ownsRow (w.heap.size+2) 82 3 (.slice none 0 0) (dz none).length (RC (dz none)):=⟨rfl,.inl ⟨rfl,rfl⟩⟩;have ae1:=hb.size;have afN:=hm.lt;have Fp:Below wr.heap.size wr (wr.alloc (.cells #[.map (some (w.heap.size+1))] 115)):=bC;have hseq:=hm.zQ (wr.alloc (.cells #[.map (some (w.heap.size+1))] 115)) wr.heap.size (by simp) (by simp) Fp;have hso:=tV 141 #[.pointer (some ⟨wr.heap.size,0,none⟩)] (enters_of Tryz.func141 (by kernel_rfl) rfl) _ sz (by omega) _ hseq;have HSO:=(show Hid _ from hso);clear hso hseq;go_wp2_with fail;refine(IB _ _).mono ?_;rintro e w9 ⟨rfl,rfl⟩;go_wp2_with fail;refine aT HSO.out ?_;rintro e W2 ⟨v,ts,ss,rfl,hS,hperm,hle,hlen,hrow,hb2⟩;have Nz:=hm.kept ⟨Fp.os,Fp.tape,Fp.output,Fp.size,λk hk _=>Fp.block k hk⟩ (row:=none) (by simp);have hm2:=Nz.kept (below_grown hb2 none) (by simp);have hbb:=(hb.trans (Fp.mono hb.size)).trans (hb2.mono (by simp;omega));have ho2:=(aL Gq Fp);have ho3:=aL ho2 hb2;have hlts:ts.Pairwise (·<·):=by
     have hnd:ts.Nodup:=hperm.nodup_iff.2 hS.1;rw[List.pairwise_iff_getElem]at hle ⊢;intro i j hi hj hij;have h1:=hle i j hi hj hij;have h2:=List.pairwise_iff_getElem.1 hnd i j hi hj hij;omega
    have hmem:∀a,a∈ts ↔ (f a).isSome=true:=λa=>by
     rw[hperm.mem_iff,hS.2 a];constructor
     ·exact λh=>h.2
     ·intro h;obtain⟨y,hy⟩:=Option.isSome_iff_exists.1 h;exact⟨(hmb a y hy).1,h⟩
    have hcmp:iT f none (dz none++gM f ts):=⟨ts,hlts,hmem,rfl⟩;have Ud:∀a∈ts,a_ a:=λa ha=>((hS.2 a).1 (hperm.mem_iff.1 ha)).1;obtain⟨sH,c2',rfl,_⟩:=ay hrow;have Ur:=(show Hid _ from hcmp);clear HSO hm Nz ho2 hb hb2 Fp hS hperm hle hlts hmem hcmp Gq;go_wp2_with fail;go_loopw [8,47] (λv i wr2=>∃j:Nat,j<=ts.length∧i=.int .i64 j∧wr2.ownsRow (w.heap.size+2) 82 3 v ((dz none).length+j) (RC (dz none++gM f (ts.take j)))∧wr2.ownsRow (wr.heap.size+1) 34 1 (.slice sH ts.length c2') ts.length (ts.map aW)∧MapU wr2 (w.heap.size+1) f sz∧Below w.heap.size w wr2∧w.heap.size+2<=wr2.heap.size) (λ_ i _=>ts.length - (intOf i).toNat)
    case atStart=>
     refine⟨0,b_ _,rfl,?_,by simpa using hrow,hm2,hbb,?_⟩
     ·simpa[gM]using ho3
     ·have:=hm2.lt;omega
    case round=>
     obtain⟨j,hj,rfl,iR,hts,hmr,hbr,hsr⟩:=hrel;clear ho3 hrow hm2 hbb;by_cases hjl:j<ts.length
     ·have hji:(j:Int)<(ts.length:Int):=by omega
      obtain⟨g,cap,hv,_⟩:=bY hts (by omega);cases hv;have hta:(ts.map aW)[j]?=some (aW ts[j]):=by rw[jQ,cK hjl];rfl
      have d0:=(hts.cellAt j (by omega)).trans hta;have hau:=Ud _ (List.getElem_mem hjl);have htk:Hid (ts.take (j+1)=ts.take j++ [ts[j]]):=List.take_succ_eq_append_getElem hjl;generalize ts[j]=a at d0 hau htk hta;have hlk:=hmr.look hau;have hap:=bX hts iR (by decide);have hla:=iR.lt;have hk1:Hid ((dz none).length+j+1<=maxLen):=by show _<=_;simp[dz];unfold maxLen;omega
      have hk2:Hid (((dz none).length+j+1)* 12<=140737488355328):=by show _<=_;simp[dz];omega
      clear hta;generalize dz none=nU at *;go_wp2_with(at_builtin;refine wpList_append_own_at _ rfl _ _ 79 rfl (w.heap.size+2) 82 i0 (.agg #[.bool false,.int .u32 0,.int .u32 0]) 3 12 Tryz.underlying79 hi hz0 hz1 hz2 rfl (by decide) u8 (nU.length+j) (RC (nU++gM f (ts.take j))) rfl (iR.alloc _) ⟨wr.heap.size,0,none⟩ 1 1 (RC [(false,a,(f a).getD 0)]) rfl rfl (kY wr false a ((f a).getD 0)) (nJ false a ((f a).getD 0)) hk1.out hk2.out ?c4 ?_)
      case c4=>simp;omega
      intro v9 w9 ho9 fM _ _;have aa5:=(hts.alloc (aY false a ((f a).getD 0))).kept fM hap;have Nz:=(hmr.kept (ko wr (aY false a ((f a).getD 0)) none) (by simp)).kept fM (λe=>by have:=(hla _ e.symm).1;omega);have nY:=(hbr.alloc hbr.size (aY false a ((f a).getD 0))).grown fM (by simp;omega) (λk e=>by have:=(hla k e).1;omega);have rz:w.heap.size+2<=w9.heap.size:=by have:=fM.size;simp at this;omega
      clear iR hts hmr hbr fM hap hlk d0;go_wp2;go_roundw
      case rel=>
       refine⟨j+1,by omega,by go_num,?_,aa5,Nz,nY,rz⟩;rw[htk.out,DK,<-List.append_assoc,lD,<-Nat.add_assoc];exact ho9
      case measure=>simp[intOf];omega
     ·have hjn:j=ts.length:=by omega
      subst hjn;rw[List.take_length]at iR;clear hts hmr;go_wp2;go_ret;refine⟨_,dz none++gM f ts,rfl,?_,?_,?_,hbr⟩
      ·rw[hf'.out,hc'.out];exact Ur.out
      ·simp[dz,gM];omega
      ·have hol:(dz none++gM f ts).length=(dz none).length+ts.length:=by simp[gM]
       rw[hol];exact ownsRow_base_a iR (by omega)
   |some t=>
    obtain⟨c0,c1,c2⟩:=hB.cell;rw[Option.getD_some]at c2;go_wp2_with(at_builtin;refine wpList_append_own_at _ rfl _ _ 79 rfl (w.heap.size+2) 82 i0 (.agg #[.bool false,.int .u32 0,.int .u32 0]) 3 12 Tryz.underlying79 hi hz0 hz1 hz2 rfl (by decide) (.slice none 0 0) 0 [] rfl ⟨rfl,.inl ⟨rfl,rfl⟩⟩ ⟨wr.heap.size,0,none⟩ 1 1 (RC [(true,0,t)]) rfl rfl (kY wr true 0 t) (nJ true 0 t) (by decide) (by decide) ?c3 ?_)
    case c3=>simp;omega
    intro v8 w8 Gq jL hn8 _;have hm8:=(hm.kept (ko wr (aY true 0 t) none) (by simp)).kept jL (by simp[Value.ownBlock]);have r_:Below w.heap.size w w8:=(hb.alloc hb.size _).grown jL (by simp;omega) (λk e=>by simp[Value.ownBlock]at e);clear hm hb jL hn8 c0 c1 c2 hkf afn;have adw:w8.ownsRow (w.heap.size+2) 82 3 v8 (dz (some t)).length (RC (dz (some t))):=Gq;clear Gq;have hm:=hm8;have hb:=r_;clear hm8 r_;have ae1:=hb.size;have afN:=hm.lt;have Fp:Below w8.heap.size w8 (w8.alloc (.cells #[.map (some (w.heap.size+1))] 115)):=bC;have hseq:=hm.zQ (w8.alloc (.cells #[.map (some (w.heap.size+1))] 115)) w8.heap.size (by simp) (by simp) Fp;have hso:=tV 141 #[.pointer (some ⟨w8.heap.size,0,none⟩)] (enters_of Tryz.func141 (by kernel_rfl) rfl) _ sz (by omega) _ hseq;have HSO:=(show Hid _ from hso);clear hso hseq;go_wp2_with fail;refine(IB _ _).mono ?_;rintro e w9 ⟨rfl,rfl⟩;go_wp2_with fail;refine aT HSO.out ?_;rintro e W2 ⟨v,ts,ss,rfl,hS,hperm,hle,hlen,hrow,hb2⟩;have Nz:=hm.kept ⟨Fp.os,Fp.tape,Fp.output,Fp.size,λk hk _=>Fp.block k hk⟩ (row:=none) (by simp);have hm2:=Nz.kept (below_grown hb2 none) (by simp);have hbb:=(hb.trans (Fp.mono hb.size)).trans (hb2.mono (by simp;omega));have ho2:=(aL adw Fp);have ho3:=aL ho2 hb2;have hlts:ts.Pairwise (·<·):=by
     have hnd:ts.Nodup:=hperm.nodup_iff.2 hS.1;rw[List.pairwise_iff_getElem]at hle ⊢;intro i j hi hj hij;have h1:=hle i j hi hj hij;have h2:=List.pairwise_iff_getElem.1 hnd i j hi hj hij;omega
    have hmem:∀a,a∈ts ↔ (f a).isSome=true:=λa=>by
     rw[hperm.mem_iff,hS.2 a];constructor
     ·exact λh=>h.2
     ·intro h;obtain⟨y,hy⟩:=Option.isSome_iff_exists.1 h;exact⟨(hmb a y hy).1,h⟩
    have hcmp:iT f (some t) (dz (some t)++gM f ts):=⟨ts,hlts,hmem,rfl⟩;have Ud:∀a∈ts,a_ a:=λa ha=>((hS.2 a).1 (hperm.mem_iff.1 ha)).1;obtain⟨sH,c2',rfl,_⟩:=ay hrow;have Ur:=(show Hid _ from hcmp);clear HSO hm Nz ho2 hb hb2 Fp hS hperm hle hlts hmem hcmp adw;go_wp2_with fail;go_loopw [8,47] (λv i wr2=>∃j:Nat,j<=ts.length∧i=.int .i64 j∧wr2.ownsRow (w.heap.size+2) 82 3 v ((dz (some t)).length+j) (RC (dz (some t)++gM f (ts.take j)))∧wr2.ownsRow (w8.heap.size+1) 34 1 (.slice sH ts.length c2') ts.length (ts.map aW)∧MapU wr2 (w.heap.size+1) f sz∧Below w.heap.size w wr2∧w.heap.size+2<=wr2.heap.size) (λ_ i _=>ts.length - (intOf i).toNat)
    case atStart=>
     refine⟨0,b_ _,rfl,?_,by simpa using hrow,hm2,hbb,?_⟩
     ·simpa[gM]using ho3
     ·have:=hm2.lt;omega
    case round=>
     obtain⟨j,hj,rfl,iR,hts,hmr,hbr,hsr⟩:=hrel;clear ho3 hrow hm2 hbb;by_cases hjl:j<ts.length
     ·have hji:(j:Int)<(ts.length:Int):=by omega
      obtain⟨g,cap,hv,_⟩:=bY hts (by omega);cases hv;have hta:(ts.map aW)[j]?=some (aW ts[j]):=by rw[jQ,cK hjl];rfl
      have d0:=(hts.cellAt j (by omega)).trans hta;have hau:=Ud _ (List.getElem_mem hjl);have htk:Hid (ts.take (j+1)=ts.take j++ [ts[j]]):=List.take_succ_eq_append_getElem hjl;generalize ts[j]=a at d0 hau htk hta;have hlk:=hmr.look hau;have hap:=bX hts iR (by decide);have hla:=iR.lt;have hk1:Hid ((dz (some t)).length+j+1<=maxLen):=by show _<=_;simp[dz];unfold maxLen;omega
      have hk2:Hid (((dz (some t)).length+j+1)* 12<=140737488355328):=by show _<=_;simp[dz];omega
      clear hta;generalize dz (some t)=nU at *;go_wp2_with(at_builtin;refine wpList_append_own_at _ rfl _ _ 79 rfl (w.heap.size+2) 82 i0 (.agg #[.bool false,.int .u32 0,.int .u32 0]) 3 12 Tryz.underlying79 hi hz0 hz1 hz2 rfl (by decide) u8 (nU.length+j) (RC (nU++gM f (ts.take j))) rfl (iR.alloc _) ⟨wr.heap.size,0,none⟩ 1 1 (RC [(false,a,(f a).getD 0)]) rfl rfl (kY wr false a ((f a).getD 0)) (nJ false a ((f a).getD 0)) hk1.out hk2.out ?c4 ?_)
      case c4=>simp;omega
      intro v9 w9 ho9 fM _ _;have aa5:=(hts.alloc (aY false a ((f a).getD 0))).kept fM hap;have Nz:=(hmr.kept (ko wr (aY false a ((f a).getD 0)) none) (by simp)).kept fM (λe=>by have:=(hla _ e.symm).1;omega);have nY:=(hbr.alloc hbr.size (aY false a ((f a).getD 0))).grown fM (by simp;omega) (λk e=>by have:=(hla k e).1;omega);have rz:w.heap.size+2<=w9.heap.size:=by have:=fM.size;simp at this;omega
      clear iR hts hmr hbr fM hap hlk d0;go_wp2;go_roundw
      case rel=>
       refine⟨j+1,by omega,by go_num,?_,aa5,Nz,nY,rz⟩;rw[htk.out,DK,<-List.append_assoc,lD,<-Nat.add_assoc];exact ho9
      case measure=>simp[intOf];omega
     ·have hjn:j=ts.length:=by omega
      subst hjn;rw[List.take_length]at iR;clear hts hmr;go_wp2;go_ret;refine⟨_,dz (some t)++gM f ts,rfl,?_,?_,?_,hbr⟩
      ·rw[hf'.out,hc'.out];exact Ur.out
      ·simp[dz,gM];omega
      ·have hol:(dz (some t)++gM f ts).length=(dz (some t)).length+ts.length:=by simp[gM]
       rw[hol];exact ownsRow_base_a iR (by omega)
open Go.Maps
variable{f:Int->Option Nat}{L:List (Rt×Value)}{A:List Rt}{M T:Nat}{W w:World}
theorem OQ(M:Nat)(w:World):
  Calls Tryz.prog 134 #[.map (some M)] w λe w'=>e=.returned (.func (.func 170) #[] #[.pointer (some ⟨w.heap.size,0,none⟩)])∧w'=w.alloc (.cells #[.map (some M)] 156):=by
 go_enter Tryz.func134,Tryz.ntmps134;go_wp2;go_ret;exact⟨rfl,rfl⟩
theorem fH.zQ{s:Nat}(h:fH W M f s)(w:World)(Bm:Nat)(hBm:Bm<w.heap.size)(hm:w.cell? ⟨Bm,0,none⟩=some (.map (some M)))(hW:Below W.heap.size W w):
  SeqGives Fence.wide 1 Tryz.prog 170 #[.pointer (some ⟨Bm,0,none⟩)] aW (λss=>ss.Nodup∧∀x,x∈ss ↔ (a_ x∧(f x).isSome=true)) s w:=by
 have hl:=h.lt;obtain⟨D,h1,h2,h3⟩:=h;have h1':w.ownsMap Tryz.prog 34 EG M s D:=by
  obtain⟨es,clock,hb,Ft,hs,hD⟩:=h1;exact⟨es,clock,(hW.block M hl).trans hb,Ft,hs,hD⟩
 have hg:=G6 Fence.wide 1 trivial rfl (aB _) Bm M s D w hBm hm h1';rw[h2]at hg;intro l J W' hW' hJ hY h0;refine(hg l J W' hW' hJ hY h0).mono ?_;rintro e W2 ⟨hv,ss,hk,hj⟩;refine⟨hv,ss,⟨hk.1,λx=> ?_⟩,hj⟩;constructor
 ·intro hx;have hw:=bounds_u32 (hk.2.1 x hx);have hU:a_ x:=⟨hw.1,by have:=hw.2;omega⟩;exact⟨hU,by rw[<-(h3 x hU).1];exact(hk.2.2 x).1 hx⟩
 ·rintro⟨hU,hs⟩;exact(hk.2.2 x).2 (by rw[(h3 x hU).1];exact hs)
theorem Ed{me:Int}{g:Int->Value}(h:MT me T M f g A w):
  Calls Tryz.prog 95 #[.pointer (some ⟨T,0,none⟩)] w λe w'=>∃v,e=.returned v∧w'.ownsRow w.heap.size 34 1 v A.length ((A.map (·.dest)).map aW)∧Below w.heap.size w w':=by
 obtain⟨c0,c1⟩:=h.blk.cell;have nY:Below w.heap.size w (w.alloc (.cells #[.map (some M)] 156)):=bC;have hseq:=h.map.zQ (w.alloc (.cells #[.map (some M)] 156)) w.heap.size (by simp) (by simp) nY;have hso:=tV 170 #[.pointer (some ⟨w.heap.size,0,none⟩)] (enters_of Tryz.func170 (by kernel_rfl) rfl) _ A.length (by have:=h.len;omega) _ hseq;have HSO:=(show Hid _ from hso);clear hso hseq;go_enter Tryz.func95,Tryz.ntmps95;go_wp2_with fail;refine(OQ _ _).mono ?_;rintro e w9 ⟨rfl,rfl⟩;go_wp2_with fail;refine aT HSO.out ?_;rintro e W2 ⟨v,ts,ss,rfl,hS,hperm,hle,hlen,hrow,hb2⟩;have hlts:ts.Pairwise (·<·):=by
  have hnd:ts.Nodup:=hperm.nodup_iff.2 hS.1;rw[List.pairwise_iff_getElem]at hle ⊢;intro i j hi hj hij;have h1:=hle i j hi hj hij;have h2:=List.pairwise_iff_getElem.1 hnd i j hi hj hij;omega
 have hts:ts=A.map (·.dest):=by
  refine DU hlts (by rw[List.pairwise_map];exact h.y_) λa=> ?_;rw[hperm.mem_iff,hS.2 a,dh];constructor
  ·rintro⟨hU,hs⟩;obtain⟨B,hB⟩:=Option.isSome_iff_exists.1 hs;obtain⟨x,hx,hxd⟩:=h.dom a B hU hB;exact⟨x,hx,hxd⟩
  ·rintro⟨x,hx,rfl⟩;obtain⟨B,hB,_⟩:=h.ln x hx;exact⟨(h.ok x hx).dest,by rw[hB];rfl⟩
 subst hts;have hbb:=nY.trans (hb2.mono (by simp));rw[iL]at hrow;have hrow':=ownsRow_base_a (base':=w.heap.size) hrow (by simp);clear HSO hS hperm hle hlen hrow hlts nY hb2;go_wp2;go_ret;exact⟨v,rfl,hrow',hbb⟩
def rtC(p:Rt×Value):List Value:=[.int .u32 p.1.dest,.int .u32 p.1.seq,.int .i64 p.1.hops,.int .u32 p.1.next,.bool p.1.valid,.int .u64 p.1.exp,p.2]
def Ri(L:List (Rt×Value)):List Value:=L.flatMap rtC
theorem LG(a b:List (Rt×Value)):Ri (a++b)=Ri a++Ri b:=by simp[Ri]
theorem acp{k:Nat}{p:Rt×Value}(h:L[k]?=some p){i:Nat}(hi:i<7):(Ri L)[k * 7+i]?=(rtC p)[i]?:=
 jh rtC 7 (by decide) (λ_=>rfl) L k i hi h
theorem X5:(Tryz.prog.info? 38).map (λi=>(i.zero,i.size,i.bytes))=some (some (.agg #[.int .u32 0,.int .u32 0,.int .i64 0,.int .u32 0,.bool false,.int .u64 0,.slice none 0 0]),7,56):=by kernel_rfl
theorem aaJ(x:Rt)(a:Option Addr)(n c:Nat):∀u∈Ri [(x,.slice a n c)],u.oneCell'=true:=by
 intro u hu;simp only[Ri,rtC,List.flatMap_cons,List.flatMap_nil,gU,eD,List.not_mem_nil,or_false]at hu;rcases hu with rfl|rfl|rfl|rfl|rfl|rfl|rfl<;>rfl
theorem U5(W:World)(x:Rt)(v:Value):∀(j:Nat) (u:Value),(Ri [(x,v)])[j]?=some u->(W.alloc (bZ x v)).cell? ((⟨W.heap.size,0,none⟩:Addr).add j)=some u:=by
 intro j u hj;obtain⟨q0,q1,q2,q3,q4,q5,q6⟩:=(eu.new x v W).cell;rw[Addr.add_lit,Nat.zero_add];simp only[Ri,rtC,List.flatMap_cons,List.flatMap_nil,gU]at hj
 match j,hj with
 |0,hj=>exact q0.trans hj
 |1,hj=>exact q1.trans hj
 |2,hj=>exact q2.trans hj
 |3,hj=>exact q3.trans hj
 |4,hj=>exact q4.trans hj
 |5,hj=>exact q5.trans hj
 |6,hj=>exact q6.trans hj
 |j+7,hj=>simp at hj
structure J3(base:Nat)(v:Value)(L:List (Rt×Value))(W:World):Prop where
 row:W.ownsRow base 38 7 v L.length (Ri L)
 bN:∀p∈L,W.ownsRow base 34 1 p.2 p.1.bN.length (p.1.bN.map aW)
theorem J3.later{base:Nat}{v:Value}{W':World}(h:J3 base v L W)(hb:Below W.heap.size W W'):J3 base v L W':=
 ⟨aL h.row hb,λp hp=>aL (h.bN p hp) hb⟩
theorem VK{me:Int}{g:Int->Value}(h:MT me T M f g A w):
  Calls Tryz.prog 60 #[.pointer (some ⟨T,0,none⟩)] w λe w'=>∃v L,e=.returned v∧L.map (·.1)=A∧J3 w.heap.size v L w'∧Below w.heap.size w w':=by
 obtain⟨i0,hi,hz0,hz1,hz2⟩:=info_parts X5;have hlen:=h.len;have HD:=(show Hid _ from Ed h);go_enter Tryz.func60,Tryz.ntmps60;go_wp2_with fail;refine aT HD.out ?_;rintro e w1 ⟨dv,rfl,hdr,hb1⟩;clear HD;obtain⟨ad,cd,rfl,_⟩:=ay hdr;go_wp2_with fail;go_loopw [3,9] (λlv i wr=>∃(k:Nat) (L:List (Rt×Value)),k<=A.length∧i=.int .i64 k∧L.map (·.1)=A.take k∧J3 w.heap.size lv L wr∧wr.ownsRow w.heap.size 34 1 (.slice ad A.length cd) A.length ((A.map (·.dest)).map aW)∧Below w.heap.size w wr) (λ_ i _=>A.length - (intOf i).toNat)
 case atStart=>exact⟨0,[],b_ _,rfl,rfl,⟨⟨rfl,.inl ⟨rfl,rfl⟩⟩,λp hp=>by simp at hp⟩,hdr,hb1⟩
 case round=>
  clear hdr hb1;obtain⟨k,L,hk,rfl,hL,hls,hdr,hb⟩:=hrel;have Yt:L.length=k:=by
   have:=congrArg List.length hL;simp at this;omega
  by_cases hlt:k<A.length
  ·have hki:(k:Int)<(A.length:Int):=by omega
   obtain⟨x,hx⟩:∃x,A[k]?=some x:=⟨_,cK hlt⟩;have KP:=gI hx;obtain⟨gd,af6,hv,_⟩:=bY hdr (by omega);cases hv;have d0:=(hdr.cellAt k (by omega)).trans (by rw[jQ,jQ,hx];rfl:((A.map (·.dest)).map aW)[k]?=some (aW x.dest));have hM:=h.later hb;obtain⟨B,hB,hLn⟩:=hM.ln x KP;have hR:=hM.row x KP;have hok:=h.ok x KP;have hlk:=hM.map.look hok.dest;rw[hB]at hlk;simp only[gH]at hlk;obtain⟨t0,t1⟩:=hM.blk.cell;have hx':=(show Hid _ from hx);have hL':=(show Hid _ from hL);clear hM hx hL;go_wp2_with fail;refine(yO B x (g x.dest) hok.Vd _ hLn hR).mono ?_;rintro e w2 ⟨v',rfl,ho2,hb2⟩;obtain⟨sH,c2',rfl,_⟩:=ay ho2;have Bl:=hls.later hb2;have Fz:=aL hdr hb2;have hbb:=hb.trans (hb2.mono hb.size);have adx:=ownsRow_base_a ho2 hb.size;clear hls hdr hb2 ho2 hLn hR hlk t0 t1 d0;have hla:=Bl.row.lt;have hap:∀p∈L++ [(x,Value.slice sH x.bN.length c2')],w2.ownsRow w.heap.size 34 1 p.2 p.1.bN.length (p.1.bN.map aW):=by
    intro p hp;rcases dG.1 hp with hp|hp
    ·exact Bl.bN p hp
    ·rw[dO]at hp;subst hp;exact adx
   have hk1:Hid (L.length+1<=maxLen):=by show _<=_;unfold maxLen;omega
   have hk2:Hid ((L.length+1)* 56<=140737488355328):=by show _<=_;omega
   have hr0:=Bl.row;go_wp2_with(at_builtin;refine wpList_append_own_at _ rfl _ _ 31 rfl w.heap.size 38 i0 (.agg #[.int .u32 0,.int .u32 0,.int .i64 0,.int .u32 0,.bool false,.int .u64 0,.slice none 0 0]) 7 56 Tryz.underlying31 hi hz0 hz1 hz2 rfl (by decide) u3 L.length (Ri L) rfl (hr0.alloc _) ⟨w2.heap.size,0,none⟩ 1 1 (Ri [(x,.slice sH x.bN.length c2')]) rfl rfl (U5 w2 x (.slice sH x.bN.length c2')) (aaJ x sH x.bN.length c2') hk1.out hk2.out ?c3 ?_)
   case c3=>have:=hbb.size;simp;omega
   intro v3 w3 ho3 hg3 _ _;have hb3:Below w2.heap.size w2 (w2.alloc (bZ x (.slice sH x.bN.length c2'))):=bC;have afh:J3 w.heap.size v3 (L++ [(x,.slice sH x.bN.length c2')]) w3:=by
    refine⟨by rw[dx,LG,Yt];exact ho3,λp hp=> ?_⟩;have h1:=aL (hap p hp) hb3;exact h1.kept hg3 (bX h1 (hr0.alloc _) (by decide))
   have aby:=(aL Fz hb3).kept hg3 (bX (aL Fz hb3) (hr0.alloc _) (by decide));have hb4:=(hbb.trans (hb3.mono hbb.size)).grown hg3 (by have:=hbb.size;simp;omega) (λk e=>(hla k e).1);clear Bl Fz hbb hap adx ho3 hg3 hb3 hr0 hla;go_wp2;go_roundw
   case rel=>
    refine⟨k+1,L++ [(x,.slice sH x.bN.length c2')],by omega,by go_num,?_,afh,aby,hb4⟩;rw[List.map_append,hL'.out,List.take_add_one,hx'.out];rfl
   case measure=>simp[intOf];omega
  ·have hkn:A.length<=k:=by omega
   rw[jD hkn]at hL;clear hdr hkn;go_wp2;go_ret;exact⟨_,L,rfl,hL,hls,hb⟩
def kz(F:Rt->Rt)(j:Nat)(A:List Rt):List Rt:=(A.take j).map F++A.drop j
theorem Aj(F:Rt->Rt)(A:List Rt):kz F 0 A=A:=by simp[kz]
theorem OD(F:Rt->Rt){A:List Rt}{j:Nat}(h:A.length<=j):kz F j A=A.map F:=by
 unfold kz;rw[jD h,List.drop_eq_nil_of_le h,gU]
theorem Dr(F:Rt->Rt){A:List Rt}{j i:Nat}(hi:j<=i):(kz F j A)[i]?=A[i]?:=by
 unfold kz;by_cases hj:j<=A.length
 ·rw[List.getElem?_append_right (by simp;omega),List.getElem?_drop]
  congr 1
  simp;omega
 ·rw[List.getElem?_eq_none (by simp;omega),List.getElem?_eq_none (by omega)]
theorem OA(F:Rt->Rt){A:List Rt}{j:Nat}{x:Rt}(hx:A[j]?=some x):(kz F j A).set j (F x)=kz F (j+1) A:=by
 obtain⟨hj,rfl⟩:=fu.1 hx;unfold kz;rw[List.set_append_right _ _ (by simp;omega),List.take_succ_eq_append_getElem hj,List.map_append,List.append_assoc]
 congr 1
 have h0:j - ((A.take j).map F).length=0:=by rw[iL,List.length_take,Nat.min_eq_left (Nat.le_of_lt hj),Nat.sub_self]
 rw[h0,List.drop_eq_getElem_cons hj];rfl
theorem OC(F:Rt->Rt){A:List Rt}{j:Nat}{x:Rt}(hs:Asc (kz F j A))(hx:A[j]?=some x):gV (kz F j A) x.dest F=kz F (j+1) A:=by
 rw[Ta hs (by rw[Dr F (aB _)];exact hx) rfl,OA F hx]
def C9(d_:Int)(y:Rt):Option (Int×Int):=if (y.valid&&(y.next==d_))&&decide (0<y.bN.length)then some (y.dest,max (gr y.seq) 0)else none
def nC(d_:Int)(A:List Rt):List (Int×Int):=A.filterMap (C9 d_)
theorem QC(d_:Int){A:List Rt}{k:Nat}{x:Rt}(h:A[k]?=some x):nC d_ (A.take (k+1))=nC d_ (A.take k)++(C9 d_ x).toList:=by
 unfold nC;rw[List.take_add_one,h,List.filterMap_append]
 congr 1
theorem rR(d_:Int)(A:List Rt):(nC d_ A).length<=A.length:=List.length_filterMap_le _ _
def Df(L:List (Int×Int)):List Value:=L.flatMap λx=> [.int .u32 x.1,.int .u32 x.2]
theorem Cn(a b:List (Int×Int)):Df (a++b)=Df a++Df b:=by simp[Df]
theorem Nq:(Tryz.prog.info? 237).map (λi=>(i.zero,i.size,i.bytes))=some (some (.agg #[.int .u32 0,.int .u32 0]),2,8):=by kernel_rfl
theorem Jw(W:World)(d s:Int):∀(j:Nat) (u:Value),(Df [(d,s)])[j]?=some u->(W.alloc (.cells #[.int .u32 d,.int .u32 s] 237)).cell? ((⟨W.heap.size,0,none⟩:Addr).add j)=some u:=by
 intro j u hj;have h:=bS W (.cells #[.int .u32 d,.int .u32 s] 237);rw[Addr.add_lit,Nat.zero_add];simp only[Df,List.flatMap_cons,List.flatMap_nil,gU]at hj
 match j,hj with
 |0,hj=>exact(aG _ _ 0 _ _ _ h).trans hj
 |1,hj=>exact(aG _ _ 1 _ _ _ h).trans hj
 |j+2,hj=>simp at hj
theorem SB(d s:Int):∀u∈Df [(d,s)],u.oneCell'=true:=by
 intro u hu;simp only[Df,List.flatMap_cons,List.flatMap_nil,gU,eD,List.not_mem_nil,or_false]at hu;rcases hu with rfl|rfl<;>rfl
theorem FI{S:Nat->Prop}{w W W':World}{e size n:Nat}{v:Value}{cs:List Value}(h:W.ownsRow w.heap.size e size v n cs)(hS:∀k,S k->k<w.heap.size){B:Nat}(hB:S B)(hg:W.grownBy W' (some B)):W'.ownsRow w.heap.size e size v n cs:=
 bP h λk hk=>hg.block k (h.lt k hk).2 (λe=>by
  have h1:=(h.lt k hk).1;have h2:=hS _ hB;have h3:B=k:=by injection e with e;exact e.symm
  omega)
theorem L9{me:Int}{T M:Nat}{f:Int->Option Nat}{g:Int->Value}{A:List Rt}{S:Nat->Prop}(d_:Int){w:World}(h:MT me T M f g A w)(hS:∀k,mY T M f g A k->S k)(hSb:∀k,S k->k<w.heap.size):
  Calls Tryz.prog 138 #[.pointer (some ⟨T,0,none⟩),.int .u32 d_] w λe w'=>∃v g',e=.returned v∧w'.ownsRow w.heap.size 237 2 v (nC d_ A).length (Df (nC d_ A))∧MT me T M f g' (A.map (bQ d_ 0)) w'∧(∀k,mY T M f g' (A.map (bQ d_ 0)) k->S k)∧Fx S w w':=by
 obtain⟨i0,hi,hz0,hz1,hz2⟩:=info_parts Nq;have hlen:=h.len;have HD:=(show Hid _ from Ed h);have hok0:=h.ok;go_enter Tryz.func138,Tryz.ntmps138;go_wp2_with fail;refine aT HD.out ?_;rintro e w1 ⟨dv,rfl,hdr,hb1⟩;clear HD;obtain⟨ad,cd,rfl,_⟩:=ay hdr;have h1:=h.later hb1;go_wp2_with fail;go_loopw [5,13] (λlv i wr=>∃(k:Nat) (g':Int->Value),k<=A.length∧i=.int .i64 k∧MT me T M f g' (kz (bQ d_ 0) k A) wr∧(∀q,mY T M f g' (kz (bQ d_ 0) k A) q->S q)∧wr.ownsRow w.heap.size 237 2 lv (nC d_ (A.take k)).length (Df (nC d_ (A.take k)))∧wr.ownsRow w.heap.size 34 1 (.slice ad A.length cd) A.length ((A.map (·.dest)).map aW)∧Fx S w wr) (λ_ i _=>A.length - (intOf i).toNat)
 case atStart=>
  refine⟨0,g,b_ _,rfl,?_,?_,⟨rfl,.inl ⟨rfl,rfl⟩⟩,hdr,Fx.below hb1⟩
  ·rw[Aj];exact h1
  ·rw[Aj];exact hS
 case round=>
  clear hdr hb1 h1;obtain⟨k,g',hk,rfl,hM,Bv,hls,hdr,hfx⟩:=hrel;by_cases hlt:k<A.length
  ·have hki:(k:Int)<(A.length:Int):=by omega
   obtain⟨x,hx⟩:∃x,A[k]?=some x:=⟨_,cK hlt⟩;have KP:=gI hx;obtain⟨gd,af6,hv,_⟩:=bY hdr (by omega);cases hv;have d0:=(hdr.cellAt k (by omega)).trans (by rw[jQ,jQ,hx];rfl:((A.map (·.dest)).map aW)[k]?=some (aW x.dest));have hxs:(kz (bQ d_ 0) k A)[k]?=some x:=by rw[Dr _ (aB _)];exact hx
   have hxM:=gI hxs;have hok:=hok0 x KP;have hl:=mU hM.y_ hxM;obtain⟨B,hB,hLn⟩:=hM.ln x hxM;have hR:=hM.row x hxM;have hlk:=hM.map.look hok.dest;rw[hB]at hlk;simp only[gH]at hlk;obtain⟨t0,t1⟩:=hM.blk.cell;obtain⟨c0,c1,c2,c3,c4,c5,c6⟩:=hLn.cell;obtain⟨av,cv,hgv,_⟩:=ay hR;have hrB:=hM.ac1 hl hB;rw[hgv]at c6;have hsn:=QC d_ hx;have hmod:=OC (bQ d_ 0) hM.y_ hx;have ZU:S B:=Bv B (hM.inB hl hB);have JW:=(show Hid _ from hsn);have hMod:=(show Hid _ from hmod);clear hsn hmod hx hxs;by_cases V4:(x.valid&&(x.next==d_))=true
   ·have hxv:x.valid=true:=by revert V4;cases x.valid<;>simp
    have hxn:(x.next==d_)=true:=by revert V4;cases x.valid<;>simp
    have hF:bQ d_ 0 x=qE x 0:=by unfold bQ;rw[aM V4]
    rw[hxv]at c4;have hel:x.next=d_:=by simpa using hxn
    have hpre:Hid (∀w':World,eu B (qE x 0) (.slice none 0 0) w'->wr.grownBy w' (some B)->∃g2,MT me T M f g2 (kz (bQ d_ 0) (k+1) A) w'∧(∀q,mY T M f g2 (kz (bQ d_ 0) (k+1) A) q->S q)):=by
     intro w' hL' hg;have ht:=hM.turn (W':=w') hl hB (bQ d_ 0) (eU d_ 0) (by rw[hF];exact vW hok (by simp[a_])) (.slice none 0 0) (by rw[hF];exact hL') (by rw[hF];exact⟨rfl,.inl ⟨rfl,rfl⟩⟩) (.inl rfl) (λq hq hqB _=>hg.block q (hM.lt hq) (λe=>hqB (by cases e;rfl)));rw[hMod.out]at ht;refine⟨_,ht.1,λq hq=> ?_⟩;rcases ht.2 q hq with h3|h3
     ·exact Bv q h3
     ·cases h3
    have HE:=(show Hid _ from FT B x (g' x.dest) 0 wr hLn);clear hM Bv hR;by_cases hbf:0<x.bN.length
    ·have hbp:C9 d_ x=some (x.dest,max (gr x.seq) 0):=by
      unfold C9;rw[V4,gu hbf];rfl
     rw[hbp]at JW;have hd1:decide (0<(x.bN.length:Int))=true:=gu (by omega);have hd2:decide (0<x.bN.length)=true:=gu hbf;go_wp2_with fail;refine aT HE.out ?_;rintro e w2 ⟨rfl,hL2,hg2⟩;obtain⟨g2,hM2,Yq⟩:=hpre.out w2 hL2 hg2;have Bl:=FI hls hSb ZU hg2;have Fz:=FI hdr hSb ZU hg2;have CV:=hfx.trans (Fx.grown (S:=S) hg2 (λq e=>by cases e;exact ZU)) (λ_ _ h=>h);clear HE hpre c0 c1 c2 c3 c4 c5 c6 hLn hls hdr hfx t0 t1 hlk d0 hg2;obtain⟨_,c1,_⟩:=hL2.cell;have hla:=Bl.lt;have hk1:Hid ((nC d_ (A.take k)).length+1<=maxLen):=by
      show _<=_;have:=rR d_ (A.take k);simp at this;unfold maxLen;omega
     have hk2:Hid (((nC d_ (A.take k)).length+1)* 8<=140737488355328):=by
      show _<=_;have:=rR d_ (A.take k);simp at this;omega
     have hsz:=CV.size;have c1':w2.cell? ⟨B,1,none⟩=some (.int .u32 (max (gr x.seq) 0)):=c1;generalize max (gr x.seq) 0=qs at JW c1';clear c1 hL2;go_wp2_with(at_builtin;refine wpList_append_own_at _ rfl _ _ 71 rfl w.heap.size 237 i0 (.agg #[.int .u32 0,.int .u32 0]) 2 8 Tryz.underlying71 hi hz0 hz1 hz2 rfl (by decide) u5 (nC d_ (A.take k)).length (Df (nC d_ (A.take k))) rfl (Bl.alloc _) ⟨w2.heap.size,0,none⟩ 1 1 (Df [(x.dest,qs)]) rfl rfl (Jw w2 x.dest qs) (SB x.dest qs) hk1.out hk2.out ?c3 ?_)
     case c3=>simp;omega
     intro v3 w3 ho3 hg3 _ _;have hb3:Below w2.heap.size w2 (w2.alloc (.cells #[.int .u32 x.dest,.int .u32 qs] 237)):=bC;have aby:=(aL Fz hb3).kept hg3 (bX (aL Fz hb3) (Bl.alloc _) (by decide));have hM3:=(hM2.later hb3).kept (W':=w3) (λq hq=>hg3.block q ((hM2.later hb3).lt hq) (λe=>by have:=(hla q e.symm).1;have:=hSb q (Yq q hq);omega));have abu:Fx S w w3:=(CV.trans (Fx.below (S:=S) hb3) (λ_ _ h=>h)).trans (Fx.grown (S:=λq=>w.heap.size<=q) hg3 (λq e=>(hla q e).1)) (λq hq hq'=>by omega);clear Bl Fz CV hM2 hg3 hb3 hla;go_wp2;go_roundw
     case rel=>
      refine⟨k+1,g2,by omega,by go_num,hM3,Yq,?_,aby,abu⟩;rw[JW.out,Option.toList_some,Cn,dx];exact ho3
     case measure=>simp[intOf];omega
    ·have hbp:C9 d_ x=none:=by
      unfold C9;rw[fD hbf,Bool.and_false];rfl
     rw[hbp,Option.toList_none,gU]at JW;have hd1:decide (0<(x.bN.length:Int))=false:=fD (by omega);have hd2:decide (0<x.bN.length)=false:=fD hbf;go_wp2_with fail;refine aT HE.out ?_;rintro e w2 ⟨rfl,hL2,hg2⟩;obtain⟨g2,hM2,Yq⟩:=hpre.out w2 hL2 hg2;have Bl:=FI hls hSb ZU hg2;have Fz:=FI hdr hSb ZU hg2;have CV:=hfx.trans (Fx.grown (S:=S) hg2 (λq e=>by cases e;exact ZU)) (λ_ _ h=>h);clear HE hpre c0 c1 c2 c3 c4 c5 c6 hLn hls hdr hfx t0 t1 hlk d0 hg2;go_wp2;go_roundw
     case rel=>
      refine⟨k+1,g2,by omega,by go_num,hM2,Yq,?_,Fz,CV⟩;rw[JW.out];exact Bl
     case measure=>simp[intOf];omega
   ·have hF:bQ d_ 0 x=x:=by unfold bQ;rw[aH V4]
    have hbp:C9 d_ x=none:=by
     unfold C9;rw[Bool.not_eq_true _|>.mp V4,Bool.false_and];rfl
    rw[hbp,Option.toList_none,gU]at JW;have hst:kz (bQ d_ 0) (k+1) A=kz (bQ d_ 0) k A:=by
     rw[<-hMod.out];exact pO hM.y_ λy hy=>by
      rw[hl]at hy;cases hy;exact hF
    have hSt:=(show Hid _ from hst);clear hst;cases hxv:x.valid
    ·rw[hxv]at c4;clear V4 hxv;go_wp2;go_roundw
     case rel=>exact⟨k+1,g',by omega,by go_num,by rw[hSt.out];exact hM,by rw[hSt.out];exact Bv,by rw[JW.out];exact hls,hdr,hfx⟩
     case measure=>simp[intOf];omega
    ·rw[hxv]at c4;have hxn:(x.next==d_)=false:=by
      rw[hxv,Bool.true_and]at V4;simpa using V4
     clear V4 hxv;go_wp2;go_roundw
     case rel=>exact⟨k+1,g',by omega,by go_num,by rw[hSt.out];exact hM,by rw[hSt.out];exact Bv,by rw[JW.out];exact hls,hdr,hfx⟩
     case measure=>simp[intOf];omega
  ·have hkn:A.length<=k:=by omega
   rw[jD hkn]at hls;rw[OD _ hkn]at hM Bv;clear hdr hkn;go_wp2;go_ret;exact⟨_,g',rfl,hls,hM,Bv,hfx⟩
variable{A:List Rt}{left:Lit->Bool}
def K8(now:Int)(y:Rt):Bool:=y.valid&&decide (y.exp<=now)
def n_(now:Int)(y:Rt):Rt:=if K8 now y then qE y 0 else y
theorem h_(now:Int)(y:Rt):(n_ now y).dest=y.dest:=by
 unfold n_;split<;>rfl
def iW(A:List Rt)(now:Int):List Rt:=A.map (n_ now)
def xJ(left:Lit->Bool)(now:Int)(A:List Rt):List Rt:=A.map λy=>if left (.int .u32 y.dest)then y else n_ now y
theorem Pq{x:Int}(h:left (.int .u32 x)=true)(now:Int)(A:List Rt):gV (xJ left now A) x (n_ now)=xJ (λz=>left z&&!z.sameKey (.int .u32 x)) now A:=by
 unfold gV xJ;rw[List.map_map];refine List.map_congr_left λy _=> ?_;by_cases e:y.dest=x
 ·subst e;simp[h,Lit.sameKey]
 ·by_cases hl:left (.int .u32 y.dest)=true
  ·simp[hl,e,Lit.sameKey]
  ·simp[hl,e,Lit.sameKey,h_]
theorem Ps{y:Rt}(hy:y∈A)(h:left (.int .u32 y.dest)=true)(now:Int):y∈xJ left now A:=
 dh.2 ⟨y,hy,by simp[h]⟩
theorem Ku{v:Value}{y:DataW Unit×List MemPlace}(h:EG v=some y):∃c:Option Nat,v=gH c:=by
 unfold EG at h;split at h
 ·exact⟨none,rfl⟩
 ·exact⟨some _,rfl⟩
 ·cases h
theorem LW{me:Int}{T M:Nat}{f:Int->Option Nat}{g:Int->Value}{S:Nat->Prop}(now:Int){w:World}(h:MT me T M f g A w)(hS:∀k,mY T M f g A k->S k)(hSb:∀k,S k->k<w.heap.size):
  Calls Tryz.prog 76 #[.pointer (some ⟨T,0,none⟩),.int .u64 now] w λe w'=>∃g',e=.returned (.tuple #[])∧MT me T M f g' (iW A now) w'∧(∀k,mY T M f g' (iW A now) k->S k)∧Fx S w w':=by
 obtain⟨D,h1,h2,h3⟩:=h.map;obtain⟨t0,t1⟩:=h.blk.cell;have hok0:=h.ok;have adP:=h.dom;have h3':=(show Hid _ from h3);have hhas:∀y∈A,has D (.int .u32 y.dest)=true:=λy hy=>by
  obtain⟨B,hB,_⟩:=h.ln y hy;rw[(h3 _ (hok0 y hy).dest).1,hB];rfl
 have hst:xJ (has D) now A=A:=by
  unfold xJ;conv=>rhs;rw[<-List.map_id A]
  exact List.map_congr_left λy hy=>by simp[hhas y hy]
 have hSt:=(show Hid _ from hst);clear h3 hst;go_enter Tryz.func76,Tryz.ntmps76;go_wp2_with(at_range;refine wpList_range_own _ rfl _ 156 rfl 34 161 gy Tryz.underlying156 _ M A.length _ rfl h1 ?_;intro w0 hrg0 hg0 hs0);go_frame;go_loopw [5] (λ_ wr=>∃(left:Lit->Bool) (cnt:Nat) (g':Int->Value),wr.ranges Tryz.prog 34 EG M w.heap.size A.length D left cnt∧MT me T M f g' (xJ left now A) wr∧(∀q,mY T M f g' (xJ left now A) q->S q)∧Fx S w wr)
  (λ_ wr=>wr.rangeLeft M w.heap.size)
 case atStart=>
  have hb:Below w.heap.size w w0:=⟨hg0.os,hg0.tape,hg0.output,hg0.size,λk hk=>hg0.block k hk (by simp)⟩;refine⟨_,_,g,hrg0,?_,?_,Fx.below hb⟩
  ·rw[hSt.out];exact h.later hb
  ·rw[hSt.out];exact hS
 case round=>
  clear h h1 hg0 hs0 hrg0 t0 t1;obtain⟨left,cnt,g',hrg,hM,Bv,hfx⟩:=hrel;go_wp2_with(at_next;refine wpList_next_ranges _ rfl _ rfl 34 gy EG aW gH (λkey kl hk=>by obtain⟨x,hx,_⟩:=kW Tryz.underlying34 hk;exact⟨x,hx⟩) (λv y hv=>Ku hv) M w.heap.size A.length _ _ _ rfl hrg ?_ ?_)
  ·intro hc0 hl0;have hall:xJ left now A=iW A now:=by
    unfold xJ iW;exact List.map_congr_left λy _=>by simp[hl0]
   rw[hall]at hM Bv;clear hall;go_wp2
   go_end0
   exact⟨g',rfl,hM,Bv,hfx⟩
  ·intro x c kl yd yp w2 cnt2 hkey hlk hv hat hrg2 hlt hg2 hs2 hen;obtain⟨x',ex,rfl,hwf⟩:=kW Tryz.underlying34 hkey;obtain rfl:x=x':=BH ex;clear ex hkey;have hb:=bounds_u32 hwf;have hxu:a_ x:=⟨hb.1,by have:=hb.2;omega⟩;have h3x:=(h3'.out x hxu).2;rw[hat]at h3x;rw[pF]at hv;have hcl:lN c=lN (f x):=by
    have e1:=congrArg Prod.fst (Option.some.inj hv);rw[h3x]at e1;simpa using e1
   have hsome:=(h3'.out x hxu).1;rw[has_true_of_atKey hat]at hsome;obtain⟨B,hB⟩:=Option.isSome_iff_exists.1 hsome.symm;have hc:c=some B:=by
    rw[hB]at hcl;cases c with
    |none=>simp[lN]at hcl
    |some c=>
     simp only[lN]at hcl;exact congrArg some (by omega)
   subst hc;simp only[gH]at hen ⊢;obtain⟨y,IU,rfl⟩:=adP x B hxu hB;have hyM:=Ps IU hlk now;have hM2:MT me T M f g' (xJ left now A) w2:=hM.kept (λq hq=>hg2.block q (hM.lt hq) (λe=>by
    have h4:=hSb q (Bv q hq);have h5:w.heap.size=q:=by injection e with e;exact e.symm
    omega))
   have CV:Fx S w w2:=hfx.trans (Fx.grown (S:=λq=>w.heap.size<=q) hg2 (λq e=>by cases e;exact aB _)) (λq hq hq'=>by omega);have hl:=mU hM2.y_ hyM;have hLn:eu B y (g' y.dest) w2:=by
    obtain⟨B',hB',hL⟩:=hM2.ln y hyM;rw[hB]at hB';cases hB';exact hL
   have ZU:S B:=Bv B (hM.inB hl hB);have hmod:=Pq hlk now A;have hMod:=(show Hid _ from hmod);have hlq:=hrg.left_eq;have hme:=(show Hid (cnt2<wr.rangeLeft M w.heap.size)from by show _<_;rw[hlq];exact hlt);obtain⟨c0,c1,c2,c3,c4,c5,c6⟩:=hLn.cell;clear hs2 hmod hat hv hcl h3x hsome hM hfx hrg hlq hlt hlk hb hwf;by_cases hex:K8 now y=true
   ·have hF:n_ now y=qE y 0:=aM hex;have hyv:y.valid=true:=by unfold K8 at hex;revert hex;cases y.valid<;>simp
    have hye:decide (y.exp<=now)=true:=by unfold K8 at hex;revert hex;cases y.valid<;>simp
    rw[hyv]at c4;have HE:=(show Hid _ from FT B y (g' y.dest) 0 w2 hLn);go_wp2_with fail;refine aT HE.out ?_;rintro e w3 ⟨rfl,hL3,hg3⟩;have ht:=hM2.turn (W':=w3) hl hB (n_ now) (h_ now) (by rw[hF];exact vW (hok0 y IU) (by simp[a_])) (.slice none 0 0) (by rw[hF];exact hL3) (by rw[hF];exact⟨rfl,.inl ⟨rfl,rfl⟩⟩) (.inl rfl) (λq hq hqB _=>hg3.block q (hM2.lt hq) (λe=>hqB (by cases e;rfl)));rw[hMod.out]at ht;have hrg3:=hrg2.of_walks (KeepsWalks.of_grownBy hg3 (λj o e ho=>by
     cases e;rw[show w2.heap[B]?=_ from hLn]at ho;cases ho;rfl))
    have abu:Fx S w w3:=CV.trans (Fx.grown (S:=S) hg3 (λq e=>by cases e;exact ZU)) (λ_ _ h=>h);have hmS:∀q,mY T M f _ _ q->S q:=λq hq=>by
     rcases ht.2 q hq with h4|h4
     ·exact Bv q h4
     ·cases h4
    have hM3:=ht.1;clear HE c0 c1 c2 c3 c4 c5 c6 hLn hg3 hg2 hM2 hrg2 CV ht hL3;go_wp2;go_roundw
    case rel=>exact⟨_,cnt2,_,hrg3,hM3,hmS,abu⟩
    case measure=>rw[hrg3.left_eq];exact hme.out
   ·have hF:n_ now y=y:=aH hex;have hid:xJ left now A=xJ (λz=>left z&&!z.sameKey (.int .u32 y.dest)) now A:=by
     rw[<-hMod.out];exact(pO hM2.y_ λz hz=>by
      rw[hl]at hz;cases hz;exact hF).symm
    rw[hid]at hM2 Bv;clear hid;cases hyv:y.valid
    ·rw[hyv]at c4;go_wp2;go_roundw
     case rel=>exact⟨_,cnt2,g',hrg2,hM2,Bv,CV⟩
     case measure=>rw[hrg2.left_eq];exact hme.out
    ·rw[hyv]at c4;have hye:decide (y.exp<=now)=false:=by
      unfold K8 at hex;rw[hyv,Bool.true_and]at hex;simpa using hex
     go_wp2;go_roundw
     case rel=>exact⟨_,cnt2,g',hrg2,hM2,Bv,CV⟩
     case measure=>rw[hrg2.left_eq];exact hme.out
variable{a:Act}{K:Act->World->Prop}{ops:Array Oper}{Q:Exit->Act->World->Prop}{o:Oper}{P:Program}{E:Prop}{w:World}
theorem zm
  (hg:o.guard=none) (s x:Operand) (t:TypeId) (hop:o.op=Op.call {callee:=Callee.builtin Builtin.append,args:=#[s,x],argTypes:=#[t,t]})
  (base:Nat) (e:TypeId) (i:TypeInfo) (z:Value) (size bytes:Nat) (h1:P.underlying t=some (.slice e)) (h2:P.info? e=some i) (h3:i.zero=some z) (h4:i.size=size) (h5:i.bytes=bytes) (h6:z.cells.size=size) (h7:0<size)
  (v:Value) (n:Nat) (xs:List Value) (hs:a.eval s=v) (hown:w.ownsRow base e size v n xs)
  (ad:Addr) (m c:Nat) (news:List Value) (hx:a.eval x=.slice (some ad) m c) (hn:news.length=m * size) (hc:∀j u,news[j]?=some u->w.cell? (ad.add j)=some u) (h1c:∀u∈news,u.oneCell'=true)
  (b1:n+m<=maxLen) (b2:(n+m)* bytes<=140737488355328) (hbase:base<=w.heap.size)
  (hK:∀v' w',w'.ownsRow base e size v' (n+m) (xs++news)->w.grownBy w' v.ownBlock->K (a.put o.dst v') w'):
  if Region.wanted o (yielded ops a.tmps)=true then Oper.wp P o a w K Q else E:=by
 have hw:Region.wanted o (yielded ops a.tmps)=true:=by simp[Region.wanted,hg]
 rw[aM hw];obtain⟨v',w',hrun,r1,r2,_⟩:=run_append_own (P:=P) w base t o.type e i z size bytes h1 h2 h3 h4 h5 h6 h7 v n xs hown ad m c news hn hc h1c b1 b2 hbase;unfold Oper.wp;simp[execOp,hop,resolve,invoke,builtin,hs,hx,hrun,Result.andThen];exact hK v' w' r1 r2
theorem gY
  (hg:o.guard=none) (s x:Operand) (t:TypeId) (hop:o.op=Op.call {callee:=Callee.builtin Builtin.append,args:=#[s,x],argTypes:=#[t,t]})
  (base:Nat) (e:TypeId) (i:TypeInfo) (z:Value) (size bytes:Nat) (h1:P.underlying t=some (.slice e)) (h2:P.info? e=some i) (h3:i.zero=some z) (h4:i.size=size) (h5:i.bytes=bytes) (h6:z.cells.size=size) (h7:0<size)
  (v:Value) (n:Nat) (xs:List Value) (hs:a.eval s=v) (hown:w.ownsRow base e size v n xs)
  (ad:Addr) (m c:Nat) (news:List Value) (hx:a.eval x=.slice (some ad) m c) (hn:news.length=m * size) (hc:∀j u,news[j]?=some u->w.cell? (ad.add j)=some u) (h1c:∀u∈news,u.oneCell'=true)
  (b1:n+m<=maxLen) (b2:(n+m)* bytes<=140737488355328) (hbase:base<=w.heap.size)
  (hK:∀v' w',w'.ownsRow base e size v' (n+m) (xs++news)->w.grownBy w' v.ownBlock->(v'.ownBlock=v.ownBlock∨v'.ownBlock=some w.heap.size)->K (a.put o.dst v') w'):
  if Region.wanted o (yielded ops a.tmps)=true then Oper.wp P o a w K Q else E:=by
 have hw:Region.wanted o (yielded ops a.tmps)=true:=by simp[Region.wanted,hg]
 rw[aM hw];obtain⟨v',w',hrun,r1,r2,_,r3⟩:=run_append_own_at (P:=P) w base t o.type e i z size bytes h1 h2 h3 h4 h5 h6 h7 v n xs hown ad m c news hn hc h1c b1 b2 hbase;unfold Oper.wp;simp[execOp,hop,resolve,invoke,builtin,hs,hx,hrun,Result.andThen];exact hK v' w' r1 r2 r3
end Go.Proofs.YtakaadcpaeiccabGreat
