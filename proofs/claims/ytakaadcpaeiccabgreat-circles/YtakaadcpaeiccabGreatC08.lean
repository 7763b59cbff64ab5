import Derived.Test.YtakaadcpaeiccabGreatC07
import Derived.Deep.RegionLaw
set_option maxHeartbeats 4000000
set_option maxRecDepth 100000
namespace Go.Proofs.YtakaadcpaeiccabGreat
open Go.RowKit
variable{W:World}
theorem bX{b1 b2 e1 e2 s1 s2 n1 n2:Nat}{v1 v2:Value}{x1 x2:List Value}(h1:W.ownsRow b1 e1 s1 v1 n1 x1)(h2:W.ownsRow b2 e2 s2 v2 n2 x2)(hne:e1≠e2):v1.ownBlock=none∨v1.ownBlock≠v2.ownBlock:=by
 rcases h1.2 with⟨rfl,_⟩|⟨g1,c1,k1,rfl,_,q1,_⟩
 ·exact .inl rfl
 ·rcases h2.2 with⟨rfl,_⟩|⟨g2,c2,k2,rfl,_,q2,_⟩
  ·exact .inr (by simp[Value.ownBlock])
  ·refine .inr λe=> ?_;simp only[Value.ownBlock,Option.some.injEq]at e;subst e;rw[q1]at q2;cases q2;exact hne rfl
theorem qH.WK{B:Nat}{o:Bool}{a s:Int}(h:qH B o a s W)(s':Int):qH B o a s' (W.setCell ⟨B,2,none⟩ (.int .u32 s')):=by
 unfold qH at h ⊢;simp[World.setCell,dX,h]
theorem CW(f:Int->Option Int)(ss:List Int)(a:Int):gM f (ss++ [a])=gM f ss++ [(false,a,(f a).getD 0)]:=by simp[gM]
theorem Cy(f:Int->Option Int)(a s:Int):stepM f (false,a,s)=kD f a (some (max ((f a).getD 0) s)):=rfl
theorem Sl:MB λ_=>none:=λa v h=>by cases h
theorem R4:OB none:=λv h=>by cases h
theorem LZ{L:List (Bool×Int×Int)}(h:qy L){x:Bool×Int×Int}(hx:x∈L):bB x.2.1∧bB x.2.2:=by
 have:=h x hx;unfold bB;omega
theorem vE(ao:Option Addr)(n c:Nat)(L:List (Bool×Int×Int))(hL:L.length=n)(hn:n<=50000)(hbd:qy L)(hfw:Y4 L)(w:World)(hA:gN w ao (RC L)):
  Calls Tryz.prog 69 #[.slice ao n c] w (aex L w):=by
 obtain⟨i0,hi,hz0,hz1,hz2⟩:=info_parts qY;have hmm:=@run_makeMap Tryz.prog;have hM0:=MapU.made (w.alloc (aZ true 0 0));rw[World.size_alloc]at hM0;have hB0:qH w.heap.size true 0 0 ((w.alloc (aZ true 0 0)).alloc (.map #[] 0)):=(qH.new true 0 0 w).later (bq);have hb0:Below w.heap.size w ((w.alloc (aZ true 0 0)).alloc (.map #[] 0)):=(bq).alloc (by simp) _;have hs0:w.heap.size+2<=((w.alloc (aZ true 0 0)).alloc (.map #[] 0)).heap.size:=by simp
 dsimp only[aZ]at hM0 hB0 hb0 hs0;go_enter Tryz.func69,Tryz.ntmps69;go_wp2_with fail;clear hmm;generalize World.alloc _ _=W0 at hM0 hB0 hb0 hs0 ⊢;go_loopw [4,15] (λq i wr=>∃(k sz:Nat),k<=n∧i=.int .i64 k∧q=.bool (qG (L.take k)).isSome∧MB (mJ (L.take k))∧OB (qG (L.take k))∧qH w.heap.size true 0 ((qG (L.take k)).getD 0) wr∧MapU wr (w.heap.size+1) (mJ (L.take k)) sz∧sz<=k∧Below w.heap.size w wr∧w.heap.size+2<=wr.heap.size) (λ_ i _=>n - (intOf i).toNat)
 case atStart=>exact⟨0,0,dh _,rfl,rfl,Sl,R4,hB0,hM0,aD _,hb0,hs0⟩
 case round=>
  clear hM0 hB0 hb0 hs0;obtain⟨k,sz,hk,rfl,rfl,hmb,hob,hB,hm,hsz,hb,hs2⟩:=hrel;by_cases hlt:k<n
  ·have hki:(k:Int)<(n:Int):=by omega
   obtain⟨x,hx⟩:∃x,L[k]?=some x:=⟨_,bZ (by omega)⟩;have hat:∀i z,i<3->([.bool x.1,.int .u32 x.2.1,.int .u32 x.2.2]:List Value)[i]?=some z->(RC L)[k * 3+i]?=some z:=λi z hi hz=>(kN (λx:Bool×Int×Int=>([Value.bool x.1,Value.int .u32 x.2.1,Value.int .u32 x.2.2]:List Value)) 3 (by decide) (λ_=>rfl) L k i hi hx).trans hz;have hA':=hA.below hb;obtain⟨b1,o1,rfl,hj1⟩:=hA' (k * 3+0) _ (hat 0 _ (by decide) rfl);have d0:=hA'.one rfl (hat 0 _ (by decide) rfl);have d1:=hA'.one rfl (hat 1 _ (by decide) rfl);have d2:=hA'.one rfl (hat 2 _ (by decide) rfl);have hxu:=LZ hbd (gH hx);have eM:Hid (mJ (L.take (k+1))=stepM (mJ (L.take k)) x):=by
    show _=_;rw[o_ hx,GQ]
   have eO:Hid (qG (L.take (k+1))=lM (qG (L.take k)) x):=by
    show _=_;rw[o_ hx,Ac]
   have aa6:Hid (MB (mJ (L.take (k+1)))):=by
    show MB _;rw[eM.out];exact hmb.step hxu.1 hxu.2
   have adh:Hid (OB (qG (L.take (k+1)))):=by
    show OB _;rw[eO.out];exact hob.step hxu.2
   obtain⟨xo,xa,xs⟩:=x;dsimp only at d0 d1 d2 hxu;rw[Nat.add_zero]at d0;rw[<-Nat.add_assoc]at d1 d2;have hB1:=hB.later ((aV _ wr).alloc (aD _) (aZ xo xa xs));have hm1:=hm.kept (kz wr (aZ xo xa xs) none) (by simp);have hb1:=hb.alloc hb.size (aZ xo xa xs);have hs1:w.heap.size+2<=(wr.alloc (aZ xo xa xs)).heap.size:=by simp;omega
   clear hj1 hat hA' hx hB hm hb hmb;generalize mJ (L.take k)=f at hm1 eM;have ho:OB (qG (L.take k)):=hob;generalize qG (L.take k)=cc at hB1 eO ho ⊢;clear hob;cases xo
   ·have hl:=hm1.look hxu.1;obtain⟨W2,hr,hm2,hg2⟩:=hm1.put (by unfold maxLen;omega) hxu.1 (v:=max ((f xa).getD 0) xs) (by
     have hh:=(aa6.out);rw[eM.out,Cy]at hh;exact(hh xa _ (by simp[kD])).2)
    have hB2:=hB1.kept hg2 (by simp);have hb2:=hb1.grown hg2 hb1.size (λk e=>by cases e;omega);have hs3:=dH hs1 hg2.size;have aeX:(if (f xa).isSome then sz else sz+1)<=k+1:=by split<;>omega
    rw[Cy]at eM;clear hm1 hB1 hb1 hg2 hs1 hs2 ho;dsimp only[aZ]at hl hr;generalize (f xa).getD 0=fx at hl hr hm2 eM;go_wp2;go_roundw
    case rel=>exact⟨k+1,_,by omega,by go_num,by rw[eO.out];rfl,aa6.out,adh.out,by rw[eO.out];exact hB2,by rw[eM.out];exact hm2,aeX,hb2,hs3⟩
    case measure=>simp[intOf];omega
   ·obtain⟨c0,c1,c2⟩:=hB1.cell;have ff:=hB1.free 2;have hm2:=λv=>hm1.kept (ah (aC _ (some w.heap.size)) 2 v) (by simp);have hB2:=λv=>hB1.WK v;have hb2:=λv=>hb1.setCell (p:=⟨w.heap.size,2,none⟩) (aD _) v;have hs3:∀v,w.heap.size+2<=((wr.alloc (aZ true xa xs)).setCell ⟨w.heap.size,2,none⟩ v).heap.size:=λv=>dH hs1 (ah (aC _ (some w.heap.size)) 2 v).size;clear hm1 hB1 hb1 hs1 hs2 hxu;dsimp only[aZ]at c0 c1 c2 ff hm2 hB2 hb2 hs3;have Yz:Hid (qG (L.take (k+1))=some (max (cc.getD 0) xs)):=by
     show _=_;rw[eO.out];rfl
    clear eO ho;generalize cc.getD 0=t at c2 Yz;go_wp2;go_roundw
    case rel=>exact⟨k+1,sz,by omega,by go_num,by rw[Yz.out];rfl,aa6.out,adh.out,by rw[Yz.out];exact hB2 _,by rw[eM.out];exact hm2 _,by omega,hb2 _,hs3 _⟩
    case measure=>simp[intOf];omega
  ·have hkn:n<=k:=by omega
   rw[kr (by omega)]at hB hm hmb hob ⊢;have hsn:sz<=L.length:=by omega
   have hLn:L.length<=50000:=by omega
   have hnn:n=L.length:=hL.symm;clear hkn hsz hs2 hA hL;have agp:=abN hfw hm;clear hfw;generalize hf:mJ L=f at hm hmb;have hf':=(show Hid _ from hf);generalize hc:qG L=cc at hB hob ⊢;have hc':=(show Hid _ from hc);clear hf hc;have hs2:=hB.lt;have hMl:=hm.lt;have hkf:decide ((k:Int)<(n:Int))=false:=fB (by omega);have afj:decide (k<n)=false:=fB (by omega);cases cc with
   |none=>
    have FN:wr.ownsRow (w.heap.size+2) 82 3 (.slice none 0 0) (dz none).length (RC (dz none)):=⟨rfl,.inl ⟨rfl,rfl⟩⟩;have aeY:=hb.size;have afH:=hm.lt;have EC:Below wr.heap.size wr (wr.alloc (.cells #[.map (some (w.heap.size+1))] 115)):=bq;have hseq:=hm.y_ (wr.alloc (.cells #[.map (some (w.heap.size+1))] 115)) wr.heap.size (by simp) (by simp) EC;have hso:=tO 141 #[.pointer (some ⟨wr.heap.size,0,none⟩)] (enters_of Tryz.func141 (by kernel_rfl) rfl) _ sz (by omega) _ hseq;have ZQ:=(show Hid _ from hso);clear hso hseq;go_wp2_with fail;refine(He _ _).mono ?_;rintro e w9 ⟨rfl,rfl⟩;go_wp2_with fail;refine aU ZQ.out ?_;rintro e W2 ⟨v,ts,ss,rfl,hS,hperm,hle,hlen,hrow,hb2⟩;have M0:=hm.kept ⟨EC.os,EC.tape,EC.output,EC.size,λk hk _=>EC.block k hk⟩ (row:=none) (by simp);have hm2:=M0.kept (below_grown hb2 none) (by simp);have hbb:=(hb.trans (EC.mono hb.size)).trans (hb2.mono (by simp;omega));have ho2:=(aO FN EC);have ho3:=aO ho2 hb2;have hlts:ts.Pairwise (·<·):=by
     have hnd:ts.Nodup:=hperm.nodup_iff.2 hS.1;rw[List.pairwise_iff_getElem]at hle ⊢;intro i j hi hj hij;have h1:=hle i j hi hj hij;have h2:=List.pairwise_iff_getElem.1 hnd i j hi hj hij;omega
    have hmem:∀a,a∈ts ↔ (f a).isSome=true:=λa=>by
     rw[hperm.mem_iff,hS.2 a];constructor
     ·exact λh=>h.2
     ·intro h;obtain⟨y,hy⟩:=Option.isSome_iff_exists.1 h;exact⟨(hmb a y hy).1,h⟩
    have hcmp:iP f none (dz none++gM f ts):=⟨ts,hlts,hmem,rfl⟩;have TD:∀a∈ts,bB a:=λa ha=>((hS.2 a).1 (hperm.mem_iff.1 ha)).1;obtain⟨r_,c2',rfl,_⟩:=ak hrow;have TY:=(show Hid _ from hcmp);clear ZQ hm M0 ho2 hb hb2 EC hS hperm hle hlts hmem hcmp FN;go_wp2_with fail;go_loopw [8,47] (λv i wr2=>∃j:Nat,j<=ts.length∧i=.int .i64 j∧wr2.ownsRow (w.heap.size+2) 82 3 v ((dz none).length+j) (RC (dz none++gM f (ts.take j)))∧wr2.ownsRow (wr.heap.size+1) 34 1 (.slice r_ ts.length c2') ts.length (ts.map aX)∧MapU wr2 (w.heap.size+1) f sz∧Below w.heap.size w wr2∧w.heap.size+2<=wr2.heap.size) (λ_ i _=>ts.length - (intOf i).toNat)
    case atStart=>
     refine⟨0,dh _,rfl,?_,by simpa using hrow,hm2,hbb,?_⟩
     ·simpa[gM]using ho3
     ·have:=hm2.lt;omega
    case round=>
     obtain⟨j,hj,rfl,iO,hts,hmr,hbr,hsr⟩:=hrel;clear ho3 hrow hm2 hbb;by_cases hjl:j<ts.length
     ·have hji:(j:Int)<(ts.length:Int):=by omega
      obtain⟨g,cap,hv,_⟩:=bV hts (by omega);cases hv;have hta:(ts.map aX)[j]?=some (aX ts[j]):=by rw[ku,bZ hjl];rfl
      have d0:=(hts.cellAt j (by omega)).trans hta;have hau:=TD _ (List.getElem_mem hjl);have htk:Hid (ts.take (j+1)=ts.take j++ [ts[j]]):=List.take_succ_eq_append_getElem hjl;generalize ts[j]=a at d0 hau htk hta;have hlk:=hmr.look hau;have hap:=bX hts iO (by decide);have hla:=iO.lt;have hk1:Hid ((dz none).length+j+1<=maxLen):=by show _<=_;simp[dz];unfold maxLen;omega
      have hk2:Hid (((dz none).length+j+1)* 12<=140737488355328):=by show _<=_;simp[dz];omega
      clear hta;generalize dz none=nY at *;go_wp2_with(at_builtin;refine wpList_append_own_at _ rfl _ _ 79 rfl (w.heap.size+2) 82 i0 (.agg #[.bool false,.int .u32 0,.int .u32 0]) 3 12 Tryz.underlying79 hi hz0 hz1 hz2 rfl (by decide) u8 (nY.length+j) (RC (nY++gM f (ts.take j))) rfl (iO.alloc _) ⟨wr.heap.size,0,none⟩ 1 1 (RC [(false,a,(f a).getD 0)]) rfl rfl (lu wr false a ((f a).getD 0)) (nP false a ((f a).getD 0)) hk1.out hk2.out ?c4 ?_)
      case c4=>simp;omega
      intro v9 w9 ho9 fO _ _;have aaM:=(hts.alloc (aZ false a ((f a).getD 0))).kept fO hap;have M0:=(hmr.kept (kz wr (aZ false a ((f a).getD 0)) none) (by simp)).kept fO (λe=>by have:=(hla _ e.symm).1;omega);have lU:=(hbr.alloc hbr.size (aZ false a ((f a).getD 0))).grown fO (by simp;omega) (λk e=>by have:=(hla k e).1;omega);have rf:w.heap.size+2<=w9.heap.size:=by have:=fO.size;simp at this;omega
      clear iO hts hmr hbr fO hap hlk d0;go_wp2;go_roundw
      case rel=>
       refine⟨j+1,by omega,by go_num,?_,aaM,M0,lU,rf⟩;rw[htk.out,CW,<-List.append_assoc,lH,<-Nat.add_assoc];exact ho9
      case measure=>simp[intOf];omega
     ·have hjn:j=ts.length:=by omega
      subst hjn;rw[List.take_length]at iO;clear hts hmr;go_wp2;go_ret;refine⟨_,dz none++gM f ts,rfl,?_,?_,?_,hbr⟩
      ·rw[hf'.out,hc'.out];exact TY.out
      ·simp[dz,gM];omega
      ·have hol:(dz none++gM f ts).length=(dz none).length+ts.length:=by simp[gM]
       rw[hol];exact ownsRow_base_a iO (by omega)
   |some t=>
    obtain⟨c0,c1,c2⟩:=hB.cell;rw[Option.getD_some]at c2;go_wp2_with(at_builtin;refine wpList_append_own_at _ rfl _ _ 79 rfl (w.heap.size+2) 82 i0 (.agg #[.bool false,.int .u32 0,.int .u32 0]) 3 12 Tryz.underlying79 hi hz0 hz1 hz2 rfl (by decide) (.slice none 0 0) 0 [] rfl ⟨rfl,.inl ⟨rfl,rfl⟩⟩ ⟨wr.heap.size,0,none⟩ 1 1 (RC [(true,0,t)]) rfl rfl (lu wr true 0 t) (nP true 0 t) (by decide) (by decide) ?c3 ?_)
    case c3=>simp;omega
    intro v8 w8 FN jO hn8 _;have O1:=(hm.kept (kz wr (aZ true 0 t) none) (by simp)).kept jO (by simp[Value.ownBlock]);have l8:Below w.heap.size w w8:=(hb.alloc hb.size _).grown jO (by simp;omega) (λk e=>by simp[Value.ownBlock]at e);clear hm hb jO hn8 c0 c1 c2 hkf afj;have adi:w8.ownsRow (w.heap.size+2) 82 3 v8 (dz (some t)).length (RC (dz (some t))):=FN;clear FN;have hm:=O1;have hb:=l8;clear O1 l8;have aeY:=hb.size;have afH:=hm.lt;have EC:Below w8.heap.size w8 (w8.alloc (.cells #[.map (some (w.heap.size+1))] 115)):=bq;have hseq:=hm.y_ (w8.alloc (.cells #[.map (some (w.heap.size+1))] 115)) w8.heap.size (by simp) (by simp) EC;have hso:=tO 141 #[.pointer (some ⟨w8.heap.size,0,none⟩)] (enters_of Tryz.func141 (by kernel_rfl) rfl) _ sz (by omega) _ hseq;have ZQ:=(show Hid _ from hso);clear hso hseq;go_wp2_with fail;refine(He _ _).mono ?_;rintro e w9 ⟨rfl,rfl⟩;go_wp2_with fail;refine aU ZQ.out ?_;rintro e W2 ⟨v,ts,ss,rfl,hS,hperm,hle,hlen,hrow,hb2⟩;have M0:=hm.kept ⟨EC.os,EC.tape,EC.output,EC.size,λk hk _=>EC.block k hk⟩ (row:=none) (by simp);have hm2:=M0.kept (below_grown hb2 none) (by simp);have hbb:=(hb.trans (EC.mono hb.size)).trans (hb2.mono (by simp;omega));have ho2:=(aO adi EC);have ho3:=aO ho2 hb2;have hlts:ts.Pairwise (·<·):=by
     have hnd:ts.Nodup:=hperm.nodup_iff.2 hS.1;rw[List.pairwise_iff_getElem]at hle ⊢;intro i j hi hj hij;have h1:=hle i j hi hj hij;have h2:=List.pairwise_iff_getElem.1 hnd i j hi hj hij;omega
    have hmem:∀a,a∈ts ↔ (f a).isSome=true:=λa=>by
     rw[hperm.mem_iff,hS.2 a];constructor
     ·exact λh=>h.2
     ·intro h;obtain⟨y,hy⟩:=Option.isSome_iff_exists.1 h;exact⟨(hmb a y hy).1,h⟩
    have hcmp:iP f (some t) (dz (some t)++gM f ts):=⟨ts,hlts,hmem,rfl⟩;have TD:∀a∈ts,bB a:=λa ha=>((hS.2 a).1 (hperm.mem_iff.1 ha)).1;obtain⟨r_,c2',rfl,_⟩:=ak hrow;have TY:=(show Hid _ from hcmp);clear ZQ hm M0 ho2 hb hb2 EC hS hperm hle hlts hmem hcmp adi;go_wp2_with fail;go_loopw [8,47] (λv i wr2=>∃j:Nat,j<=ts.length∧i=.int .i64 j∧wr2.ownsRow (w.heap.size+2) 82 3 v ((dz (some t)).length+j) (RC (dz (some t)++gM f (ts.take j)))∧wr2.ownsRow (w8.heap.size+1) 34 1 (.slice r_ ts.length c2') ts.length (ts.map aX)∧MapU wr2 (w.heap.size+1) f sz∧Below w.heap.size w wr2∧w.heap.size+2<=wr2.heap.size) (λ_ i _=>ts.length - (intOf i).toNat)
    case atStart=>
     refine⟨0,dh _,rfl,?_,by simpa using hrow,hm2,hbb,?_⟩
     ·simpa[gM]using ho3
     ·have:=hm2.lt;omega
    case round=>
     obtain⟨j,hj,rfl,iO,hts,hmr,hbr,hsr⟩:=hrel;clear ho3 hrow hm2 hbb;by_cases hjl:j<ts.length
     ·have hji:(j:Int)<(ts.length:Int):=by omega
      obtain⟨g,cap,hv,_⟩:=bV hts (by omega);cases hv;have hta:(ts.map aX)[j]?=some (aX ts[j]):=by rw[ku,bZ hjl];rfl
      have d0:=(hts.cellAt j (by omega)).trans hta;have hau:=TD _ (List.getElem_mem hjl);have htk:Hid (ts.take (j+1)=ts.take j++ [ts[j]]):=List.take_succ_eq_append_getElem hjl;generalize ts[j]=a at d0 hau htk hta;have hlk:=hmr.look hau;have hap:=bX hts iO (by decide);have hla:=iO.lt;have hk1:Hid ((dz (some t)).length+j+1<=maxLen):=by show _<=_;simp[dz];unfold maxLen;omega
      have hk2:Hid (((dz (some t)).length+j+1)* 12<=140737488355328):=by show _<=_;simp[dz];omega
      clear hta;generalize dz (some t)=nY at *;go_wp2_with(at_builtin;refine wpList_append_own_at _ rfl _ _ 79 rfl (w.heap.size+2) 82 i0 (.agg #[.bool false,.int .u32 0,.int .u32 0]) 3 12 Tryz.underlying79 hi hz0 hz1 hz2 rfl (by decide) u8 (nY.length+j) (RC (nY++gM f (ts.take j))) rfl (iO.alloc _) ⟨wr.heap.size,0,none⟩ 1 1 (RC [(false,a,(f a).getD 0)]) rfl rfl (lu wr false a ((f a).getD 0)) (nP false a ((f a).getD 0)) hk1.out hk2.out ?c4 ?_)
      case c4=>simp;omega
      intro v9 w9 ho9 fO _ _;have aaM:=(hts.alloc (aZ false a ((f a).getD 0))).kept fO hap;have M0:=(hmr.kept (kz wr (aZ false a ((f a).getD 0)) none) (by simp)).kept fO (λe=>by have:=(hla _ e.symm).1;omega);have lU:=(hbr.alloc hbr.size (aZ false a ((f a).getD 0))).grown fO (by simp;omega) (λk e=>by have:=(hla k e).1;omega);have rf:w.heap.size+2<=w9.heap.size:=by have:=fO.size;simp at this;omega
      clear iO hts hmr hbr fO hap hlk d0;go_wp2;go_roundw
      case rel=>
       refine⟨j+1,by omega,by go_num,?_,aaM,M0,lU,rf⟩;rw[htk.out,CW,<-List.append_assoc,lH,<-Nat.add_assoc];exact ho9
      case measure=>simp[intOf];omega
     ·have hjn:j=ts.length:=by omega
      subst hjn;rw[List.take_length]at iO;clear hts hmr;go_wp2;go_ret;refine⟨_,dz (some t)++gM f ts,rfl,?_,?_,?_,hbr⟩
      ·rw[hf'.out,hc'.out];exact TY.out
      ·simp[dz,gM];omega
      ·have hol:(dz (some t)++gM f ts).length=(dz (some t)).length+ts.length:=by simp[gM]
       rw[hol];exact ownsRow_base_a iO (by omega)
open Go.Maps
variable{f:Int->Option Nat}{L:List (Rt×Value)}{A:List Rt}{M T:Nat}{W w:World}
theorem Oa(M:Nat)(w:World):
  Calls Tryz.prog 134 #[.map (some M)] w λe w'=>e=.returned (.func (.func 170) #[] #[.pointer (some ⟨w.heap.size,0,none⟩)])∧w'=w.alloc (.cells #[.map (some M)] 156):=by
 go_enter Tryz.func134,Tryz.ntmps134;go_wp2;go_ret;exact⟨rfl,rfl⟩
theorem fH.y_{s:Nat}(h:fH W M f s)(w:World)(Bm:Nat)(hBm:Bm<w.heap.size)(hm:w.cell? ⟨Bm,0,none⟩=some (.map (some M)))(hW:Below W.heap.size W w):
  SeqGives Fence.wide 1 Tryz.prog 170 #[.pointer (some ⟨Bm,0,none⟩)] aX (λss=>ss.Nodup∧∀x,x∈ss ↔ (bB x∧(f x).isSome=true)) s w:=by
 have hl:=h.lt;obtain⟨D,h1,h2,h3⟩:=h;have h1':w.ownsMap Tryz.prog 34 D9 M s D:=by
  obtain⟨es,clock,hb,Ft,hs,hD⟩:=h1;exact⟨es,clock,(hW.block M hl).trans hb,Ft,hs,hD⟩
 have hg:=Gg Fence.wide 1 trivial rfl (aD _) Bm M s D w hBm hm h1';rw[h2]at hg;intro l J W' hW' hJ hY h0;refine(hg l J W' hW' hJ hY h0).mono ?_;rintro e W2 ⟨hv,ss,hk,hj⟩;refine⟨hv,ss,⟨hk.1,λx=> ?_⟩,hj⟩;constructor
 ·intro hx;have hw:=bounds_u32 (hk.2.1 x hx);have hU:bB x:=⟨hw.1,by have:=hw.2;omega⟩;exact⟨hU,by rw[<-(h3 x hU).1];exact(hk.2.2 x).1 hx⟩
 ·rintro⟨hU,hs⟩;exact(hk.2.2 x).2 (by rw[(h3 x hU).1];exact hs)
theorem Du{me:Int}{g:Int->Value}(h:MT me T M f g A w):
  Calls Tryz.prog 95 #[.pointer (some ⟨T,0,none⟩)] w λe w'=>∃v,e=.returned v∧w'.ownsRow w.heap.size 34 1 v A.length ((A.map (·.dest)).map aX)∧Below w.heap.size w w':=by
 obtain⟨c0,c1⟩:=h.blk.cell;have lU:Below w.heap.size w (w.alloc (.cells #[.map (some M)] 156)):=bq;have hseq:=h.map.y_ (w.alloc (.cells #[.map (some M)] 156)) w.heap.size (by simp) (by simp) lU;have hso:=tO 170 #[.pointer (some ⟨w.heap.size,0,none⟩)] (enters_of Tryz.func170 (by kernel_rfl) rfl) _ A.length (by have:=h.len;omega) _ hseq;have ZQ:=(show Hid _ from hso);clear hso hseq;go_enter Tryz.func95,Tryz.ntmps95;go_wp2_with fail;refine(Oa _ _).mono ?_;rintro e w9 ⟨rfl,rfl⟩;go_wp2_with fail;refine aU ZQ.out ?_;rintro e W2 ⟨v,ts,ss,rfl,hS,hperm,hle,hlen,hrow,hb2⟩;have hlts:ts.Pairwise (·<·):=by
  have hnd:ts.Nodup:=hperm.nodup_iff.2 hS.1;rw[List.pairwise_iff_getElem]at hle ⊢;intro i j hi hj hij;have h1:=hle i j hi hj hij;have h2:=List.pairwise_iff_getElem.1 hnd i j hi hj hij;omega
 have hts:ts=A.map (·.dest):=by
  refine C9 hlts (by rw[List.pairwise_map];exact h.xD) λa=> ?_;rw[hperm.mem_iff,hS.2 a,di];constructor
  ·rintro⟨hU,hs⟩;obtain⟨B,hB⟩:=Option.isSome_iff_exists.1 hs;obtain⟨x,hx,hxd⟩:=h.dom a B hU hB;exact⟨x,hx,hxd⟩
  ·rintro⟨x,hx,rfl⟩;obtain⟨B,hB,_⟩:=h.ln x hx;exact⟨(h.ok x hx).dest,by rw[hB];rfl⟩
 subst hts;have hbb:=lU.trans (hb2.mono (by simp));rw[iL]at hrow;have hrow':=ownsRow_base_a (base':=w.heap.size) hrow (by simp);clear ZQ hS hperm hle hlen hrow hlts lU hb2;go_wp2;go_ret;exact⟨v,rfl,hrow',hbb⟩
def rtC(p:Rt×Value):List Value:=[.int .u32 p.1.dest,.int .u32 p.1.seq,.int .i64 p.1.hops,.int .u32 p.1.next,.bool p.1.valid,.int .u64 p.1.exp,p.2]
def QE(L:List (Rt×Value)):List Value:=L.flatMap rtC
theorem KT(a b:List (Rt×Value)):QE (a++b)=QE a++QE b:=by simp[QE]
theorem U5{k:Nat}{p:Rt×Value}(h:L[k]?=some p){i:Nat}(hi:i<7):(QE L)[k * 7+i]?=(rtC p)[i]?:=
 kN rtC 7 (by decide) (λ_=>rfl) L k i hi h
theorem XH:(Tryz.prog.info? 38).map (λi=>(i.zero,i.size,i.bytes))=some (some (.agg #[.int .u32 0,.int .u32 0,.int .i64 0,.int .u32 0,.bool false,.int .u64 0,.slice none 0 0]),7,56):=by kernel_rfl
theorem aat(x:Rt)(a:Option Addr)(n c:Nat):∀u∈QE [(x,.slice a n c)],u.oneCell'=true:=by
 intro u hu;simp only[QE,rtC,List.flatMap_cons,List.flatMap_nil,iE,fo,List.not_mem_nil,or_false]at hu;rcases hu with rfl|rfl|rfl|rfl|rfl|rfl|rfl<;>rfl
theorem UJ(W:World)(x:Rt)(v:Value):∀(j:Nat) (u:Value),(QE [(x,v)])[j]?=some u->(W.alloc (b_ x v)).cell? ((⟨W.heap.size,0,none⟩:Addr).add j)=some u:=by
 intro j u hj;obtain⟨q0,q1,q2,q3,q4,q5,q6⟩:=(dS.new x v W).cell;rw[Addr.add_lit,Nat.zero_add];simp only[QE,rtC,List.flatMap_cons,List.flatMap_nil,iE]at hj
 match j,hj with
 |0,hj=>exact q0.trans hj
 |1,hj=>exact q1.trans hj
 |2,hj=>exact q2.trans hj
 |3,hj=>exact q3.trans hj
 |4,hj=>exact q4.trans hj
 |5,hj=>exact q5.trans hj
 |6,hj=>exact q6.trans hj
 |j+7,hj=>simp at hj
structure oq(base:Nat)(v:Value)(L:List (Rt×Value))(W:World):Prop where
 row:W.ownsRow base 38 7 v L.length (QE L)
 bH:∀p∈L,W.ownsRow base 34 1 p.2 p.1.bH.length (p.1.bH.map aX)
theorem oq.later{base:Nat}{v:Value}{W':World}(h:oq base v L W)(hb:Below W.heap.size W W'):oq base v L W':=
 ⟨aO h.row hb,λp hp=>aO (h.bH p hp) hb⟩
theorem I_{me:Int}{g:Int->Value}(h:MT me T M f g A w):
  Calls Tryz.prog 60 #[.pointer (some ⟨T,0,none⟩)] w λe w'=>∃v L,e=.returned v∧L.map (·.1)=A∧oq w.heap.size v L w'∧Below w.heap.size w w':=by
 obtain⟨i0,hi,hz0,hz1,hz2⟩:=info_parts XH;have hlen:=h.len;have HD:=(show Hid _ from Du h);go_enter Tryz.func60,Tryz.ntmps60;go_wp2_with fail;refine aU HD.out ?_;rintro e w1 ⟨dv,rfl,hdr,hb1⟩;clear HD;obtain⟨ad,cd,rfl,_⟩:=ak hdr;go_wp2_with fail;go_loopw [3,9] (λlv i wr=>∃(k:Nat) (L:List (Rt×Value)),k<=A.length∧i=.int .i64 k∧L.map (·.1)=A.take k∧oq w.heap.size lv L wr∧wr.ownsRow w.heap.size 34 1 (.slice ad A.length cd) A.length ((A.map (·.dest)).map aX)∧Below w.heap.size w wr) (λ_ i _=>A.length - (intOf i).toNat)
 case atStart=>exact⟨0,[],dh _,rfl,rfl,⟨⟨rfl,.inl ⟨rfl,rfl⟩⟩,λp hp=>by simp at hp⟩,hdr,hb1⟩
 case round=>
  clear hdr hb1;obtain⟨k,L,hk,rfl,hL,hls,hdr,hb⟩:=hrel;have X8:L.length=k:=by
   have:=congrArg List.length hL;simp at this;omega
  by_cases hlt:k<A.length
  ·have hki:(k:Int)<(A.length:Int):=by omega
   obtain⟨x,hx⟩:∃x,A[k]?=some x:=⟨_,bZ hlt⟩;have Ka:=gH hx;obtain⟨gd,afZ,hv,_⟩:=bV hdr (by omega);cases hv;have d0:=(hdr.cellAt k (by omega)).trans (by rw[ku,ku,hx];rfl:((A.map (·.dest)).map aX)[k]?=some (aX x.dest));have hM:=h.later hb;obtain⟨B,hB,hLn⟩:=hM.ln x Ka;have hR:=hM.row x Ka;have hok:=h.ok x Ka;have hlk:=hM.map.look hok.dest;rw[hB]at hlk;simp only[gG]at hlk;obtain⟨t0,t1⟩:=hM.blk.cell;have hx':=(show Hid _ from hx);have hL':=(show Hid _ from hL);clear hM hx hL;go_wp2_with fail;refine(yc B x (g x.dest) hok.P7 _ hLn hR).mono ?_;rintro e w2 ⟨v',rfl,ho2,hb2⟩;obtain⟨r_,c2',rfl,_⟩:=ak ho2;have Au:=hls.later hb2;have EL:=aO hdr hb2;have hbb:=hb.trans (hb2.mono hb.size);have adj:=ownsRow_base_a ho2 hb.size;clear hls hdr hb2 ho2 hLn hR hlk t0 t1 d0;have hla:=Au.row.lt;have hap:∀p∈L++ [(x,Value.slice r_ x.bH.length c2')],w2.ownsRow w.heap.size 34 1 p.2 p.1.bH.length (p.1.bH.map aX):=by
    intro p hp;rcases d_.1 hp with hp|hp
    ·exact Au.bH p hp
    ·rw[fe]at hp;subst hp;exact adj
   have hk1:Hid (L.length+1<=maxLen):=by show _<=_;unfold maxLen;omega
   have hk2:Hid ((L.length+1)* 56<=140737488355328):=by show _<=_;omega
   have hr0:=Au.row;go_wp2_with(at_builtin;refine wpList_append_own_at _ rfl _ _ 31 rfl w.heap.size 38 i0 (.agg #[.int .u32 0,.int .u32 0,.int .i64 0,.int .u32 0,.bool false,.int .u64 0,.slice none 0 0]) 7 56 Tryz.underlying31 hi hz0 hz1 hz2 rfl (by decide) u3 L.length (QE L) rfl (hr0.alloc _) ⟨w2.heap.size,0,none⟩ 1 1 (QE [(x,.slice r_ x.bH.length c2')]) rfl rfl (UJ w2 x (.slice r_ x.bH.length c2')) (aat x r_ x.bH.length c2') hk1.out hk2.out ?c3 ?_)
   case c3=>have:=hbb.size;simp;omega
   intro v3 w3 ho3 hg3 _ _;have hb3:Below w2.heap.size w2 (w2.alloc (b_ x (.slice r_ x.bH.length c2'))):=bq;have afe:oq w.heap.size v3 (L++ [(x,.slice r_ x.bH.length c2')]) w3:=by
    refine⟨by rw[dw,KT,X8];exact ho3,λp hp=> ?_⟩;have h1:=aO (hap p hp) hb3;exact h1.kept hg3 (bX h1 (hr0.alloc _) (by decide))
   have abf:=(aO EL hb3).kept hg3 (bX (aO EL hb3) (hr0.alloc _) (by decide));have hb4:=(hbb.trans (hb3.mono hbb.size)).grown hg3 (by have:=hbb.size;simp;omega) (λk e=>(hla k e).1);clear Au EL hbb hap adj ho3 hg3 hb3 hr0 hla;go_wp2;go_roundw
   case rel=>
    refine⟨k+1,L++ [(x,.slice r_ x.bH.length c2')],by omega,by go_num,?_,afe,abf,hb4⟩;rw[List.map_append,hL'.out,List.take_add_one,hx'.out];rfl
   case measure=>simp[intOf];omega
  ·have hkn:A.length<=k:=by omega
   rw[kr hkn]at hL;clear hdr hkn;go_wp2;go_ret;exact⟨_,L,rfl,hL,hls,hb⟩
def kE(F:Rt->Rt)(j:Nat)(A:List Rt):List Rt:=(A.take j).map F++A.drop j
theorem zI(F:Rt->Rt)(A:List Rt):kE F 0 A=A:=by simp[kE]
theorem NT(F:Rt->Rt){A:List Rt}{j:Nat}(h:A.length<=j):kE F j A=A.map F:=by
 unfold kE;rw[kr h,List.drop_eq_nil_of_le h,iE]
theorem Cz(F:Rt->Rt){A:List Rt}{j i:Nat}(hi:j<=i):(kE F j A)[i]?=A[i]?:=by
 unfold kE;by_cases hj:j<=A.length
 ·rw[List.getElem?_append_right (by simp;omega),List.getElem?_drop]
  congr 1
  simp;omega
 ·rw[List.getElem?_eq_none (by simp;omega),List.getElem?_eq_none (by omega)]
theorem NR(F:Rt->Rt){A:List Rt}{j:Nat}{x:Rt}(hx:A[j]?=some x):(kE F j A).set j (F x)=kE F (j+1) A:=by
 obtain⟨hj,rfl⟩:=eD.1 hx;unfold kE;rw[List.set_append_right _ _ (by simp;omega),List.take_succ_eq_append_getElem hj,List.map_append,List.append_assoc]
 congr 1
 have h0:j - ((A.take j).map F).length=0:=by rw[iL,List.length_take,Nat.min_eq_left (Nat.le_of_lt hj),Nat.sub_self]
 rw[h0,List.drop_eq_getElem_cons hj];rfl
theorem NS(F:Rt->Rt){A:List Rt}{j:Nat}{x:Rt}(hs:Asc (kE F j A))(hx:A[j]?=some x):h_ (kE F j A) x.dest F=kE F (j+1) A:=by
 rw[Si hs (by rw[Cz F (aD _)];exact hx) rfl,NR F hx]
def Cj(eB:Int)(y:Rt):Option (Int×Int):=if (y.valid&&(y.next==eB))&&decide (0<y.bH.length)then some (y.dest,max (gr y.seq) 0)else none
def ol(eB:Int)(A:List Rt):List (Int×Int):=A.filterMap (Cj eB)
theorem PW(eB:Int){A:List Rt}{k:Nat}{x:Rt}(h:A[k]?=some x):ol eB (A.take (k+1))=ol eB (A.take k)++(Cj eB x).toList:=by
 unfold ol;rw[List.take_add_one,h,List.filterMap_append]
 congr 1
theorem rJ(eB:Int)(A:List Rt):(ol eB A).length<=A.length:=List.length_filterMap_le _ _
def Cq(L:List (Int×Int)):List Value:=L.flatMap λx=> [.int .u32 x.1,.int .u32 x.2]
theorem Bz(a b:List (Int×Int)):Cq (a++b)=Cq a++Cq b:=by simp[Cq]
theorem MQ:(Tryz.prog.info? 237).map (λi=>(i.zero,i.size,i.bytes))=some (some (.agg #[.int .u32 0,.int .u32 0]),2,8):=by kernel_rfl
theorem IL(W:World)(d s:Int):∀(j:Nat) (u:Value),(Cq [(d,s)])[j]?=some u->(W.alloc (.cells #[.int .u32 d,.int .u32 s] 237)).cell? ((⟨W.heap.size,0,none⟩:Addr).add j)=some u:=by
 intro j u hj;have h:=bS W (.cells #[.int .u32 d,.int .u32 s] 237);rw[Addr.add_lit,Nat.zero_add];simp only[Cq,List.flatMap_cons,List.flatMap_nil,iE]at hj
 match j,hj with
 |0,hj=>exact(aH _ _ 0 _ _ _ h).trans hj
 |1,hj=>exact(aH _ _ 1 _ _ _ h).trans hj
 |j+2,hj=>simp at hj
theorem RU(d s:Int):∀u∈Cq [(d,s)],u.oneCell'=true:=by
 intro u hu;simp only[Cq,List.flatMap_cons,List.flatMap_nil,iE,fo,List.not_mem_nil,or_false]at hu;rcases hu with rfl|rfl<;>rfl
theorem ER{S:Nat->Prop}{w W W':World}{e size n:Nat}{v:Value}{cs:List Value}(h:W.ownsRow w.heap.size e size v n cs)(hS:∀k,S k->k<w.heap.size){B:Nat}(hB:S B)(hg:W.grownBy W' (some B)):W'.ownsRow w.heap.size e size v n cs:=
 bK h λk hk=>hg.block k (h.lt k hk).2 (λe=>by
  have h1:=(h.lt k hk).1;have h2:=hS _ hB;have h3:B=k:=by injection e with e;exact e.symm
  omega)
theorem Lg{me:Int}{T M:Nat}{f:Int->Option Nat}{g:Int->Value}{A:List Rt}{S:Nat->Prop}(eB:Int){w:World}(h:MT me T M f g A w)(hS:∀k,nC T M f g A k->S k)(hSb:∀k,S k->k<w.heap.size):
  Calls Tryz.prog 138 #[.pointer (some ⟨T,0,none⟩),.int .u32 eB] w λe w'=>∃v g',e=.returned v∧w'.ownsRow w.heap.size 237 2 v (ol eB A).length (Cq (ol eB A))∧MT me T M f g' (A.map (bY eB 0)) w'∧(∀k,nC T M f g' (A.map (bY eB 0)) k->S k)∧Fx S w w':=by
 obtain⟨i0,hi,hz0,hz1,hz2⟩:=info_parts MQ;have hlen:=h.len;have HD:=(show Hid _ from Du h);have hok0:=h.ok;go_enter Tryz.func138,Tryz.ntmps138;go_wp2_with fail;refine aU HD.out ?_;rintro e w1 ⟨dv,rfl,hdr,hb1⟩;clear HD;obtain⟨ad,cd,rfl,_⟩:=ak hdr;have h1:=h.later hb1;go_wp2_with fail;go_loopw [5,13] (λlv i wr=>∃(k:Nat) (g':Int->Value),k<=A.length∧i=.int .i64 k∧MT me T M f g' (kE (bY eB 0) k A) wr∧(∀q,nC T M f g' (kE (bY eB 0) k A) q->S q)∧wr.ownsRow w.heap.size 237 2 lv (ol eB (A.take k)).length (Cq (ol eB (A.take k)))∧wr.ownsRow w.heap.size 34 1 (.slice ad A.length cd) A.length ((A.map (·.dest)).map aX)∧Fx S w wr) (λ_ i _=>A.length - (intOf i).toNat)
 case atStart=>
  refine⟨0,g,dh _,rfl,?_,?_,⟨rfl,.inl ⟨rfl,rfl⟩⟩,hdr,Fx.below hb1⟩
  ·rw[zI];exact h1
  ·rw[zI];exact hS
 case round=>
  clear hdr hb1 h1;obtain⟨k,g',hk,rfl,hM,AL,hls,hdr,hfx⟩:=hrel;by_cases hlt:k<A.length
  ·have hki:(k:Int)<(A.length:Int):=by omega
   obtain⟨x,hx⟩:∃x,A[k]?=some x:=⟨_,bZ hlt⟩;have Ka:=gH hx;obtain⟨gd,afZ,hv,_⟩:=bV hdr (by omega);cases hv;have d0:=(hdr.cellAt k (by omega)).trans (by rw[ku,ku,hx];rfl:((A.map (·.dest)).map aX)[k]?=some (aX x.dest));have hxs:(kE (bY eB 0) k A)[k]?=some x:=by rw[Cz _ (aD _)];exact hx
   have hxM:=gH hxs;have hok:=hok0 x Ka;have hl:=jU hM.xD hxM;obtain⟨B,hB,hLn⟩:=hM.ln x hxM;have hR:=hM.row x hxM;have hlk:=hM.map.look hok.dest;rw[hB]at hlk;simp only[gG]at hlk;obtain⟨t0,t1⟩:=hM.blk.cell;obtain⟨c0,c1,c2,c3,c4,c5,c6⟩:=hLn.cell;obtain⟨av,cv,hgv,_⟩:=ak hR;have hrB:=hM.acG hl hB;rw[hgv]at c6;have hsn:=PW eB hx;have hmod:=NS (bY eB 0) hM.xD hx;have Zy:S B:=AL B (hM.inB hl hB);have Jk:=(show Hid _ from hsn);have hMod:=(show Hid _ from hmod);clear hsn hmod hx hxs;by_cases VE:(x.valid&&(x.next==eB))=true
   ·have hxv:x.valid=true:=by revert VE;cases x.valid<;>simp
    have hxn:(x.next==eB)=true:=by revert VE;cases x.valid<;>simp
    have hF:bY eB 0 x=qD x 0:=by unfold bY;rw[aQ VE]
    rw[hxv]at c4;have hel:x.next=eB:=by simpa using hxn
    have hpre:Hid (∀w':World,dS B (qD x 0) (.slice none 0 0) w'->wr.grownBy w' (some B)->∃g2,MT me T M f g2 (kE (bY eB 0) (k+1) A) w'∧(∀q,nC T M f g2 (kE (bY eB 0) (k+1) A) q->S q)):=by
     intro w' hL' hg;have ht:=hM.turn (W':=w') hl hB (bY eB 0) (eH eB 0) (by rw[hF];exact vO hok (by simp[bB])) (.slice none 0 0) (by rw[hF];exact hL') (by rw[hF];exact⟨rfl,.inl ⟨rfl,rfl⟩⟩) (.inl rfl) (λq hq hqB _=>hg.block q (hM.lt hq) (λe=>hqB (by cases e;rfl)));rw[hMod.out]at ht;refine⟨_,ht.1,λq hq=> ?_⟩;rcases ht.2 q hq with h3|h3
     ·exact AL q h3
     ·cases h3
    have HE:=(show Hid _ from E5 B x (g' x.dest) 0 wr hLn);clear hM AL hR;by_cases hbf:0<x.bH.length
    ·have hbp:Cj eB x=some (x.dest,max (gr x.seq) 0):=by
      unfold Cj;rw[VE,gu hbf];rfl
     rw[hbp]at Jk;have hd1:decide (0<(x.bH.length:Int))=true:=gu (by omega);have hd2:decide (0<x.bH.length)=true:=gu hbf;go_wp2_with fail;refine aU HE.out ?_;rintro e w2 ⟨rfl,hL2,hg2⟩;obtain⟨g2,hM2,X6⟩:=hpre.out w2 hL2 hg2;have Au:=ER hls hSb Zy hg2;have EL:=ER hdr hSb Zy hg2;have Ce:=hfx.trans (Fx.grown (S:=S) hg2 (λq e=>by cases e;exact Zy)) (λ_ _ h=>h);clear HE hpre c0 c1 c2 c3 c4 c5 c6 hLn hls hdr hfx t0 t1 hlk d0 hg2;obtain⟨_,c1,_⟩:=hL2.cell;have hla:=Au.lt;have hk1:Hid ((ol eB (A.take k)).length+1<=maxLen):=by
      show _<=_;have:=rJ eB (A.take k);simp at this;unfold maxLen;omega
     have hk2:Hid (((ol eB (A.take k)).length+1)* 8<=140737488355328):=by
      show _<=_;have:=rJ eB (A.take k);simp at this;omega
     have hsz:=Ce.size;have c1':w2.cell? ⟨B,1,none⟩=some (.int .u32 (max (gr x.seq) 0)):=c1;generalize max (gr x.seq) 0=qs at Jk c1';clear c1 hL2;go_wp2_with(at_builtin;refine wpList_append_own_at _ rfl _ _ 71 rfl w.heap.size 237 i0 (.agg #[.int .u32 0,.int .u32 0]) 2 8 Tryz.underlying71 hi hz0 hz1 hz2 rfl (by decide) u5 (ol eB (A.take k)).length (Cq (ol eB (A.take k))) rfl (Au.alloc _) ⟨w2.heap.size,0,none⟩ 1 1 (Cq [(x.dest,qs)]) rfl rfl (IL w2 x.dest qs) (RU x.dest qs) hk1.out hk2.out ?c3 ?_)
     case c3=>simp;omega
     intro v3 w3 ho3 hg3 _ _;have hb3:Below w2.heap.size w2 (w2.alloc (.cells #[.int .u32 x.dest,.int .u32 qs] 237)):=bq;have abf:=(aO EL hb3).kept hg3 (bX (aO EL hb3) (Au.alloc _) (by decide));have hM3:=(hM2.later hb3).kept (W':=w3) (λq hq=>hg3.block q ((hM2.later hb3).lt hq) (λe=>by have:=(hla q e.symm).1;have:=hSb q (X6 q hq);omega));have aa9:Fx S w w3:=(Ce.trans (Fx.below (S:=S) hb3) (λ_ _ h=>h)).trans (Fx.grown (S:=λq=>w.heap.size<=q) hg3 (λq e=>(hla q e).1)) (λq hq hq'=>by omega);clear Au EL Ce hM2 hg3 hb3 hla;go_wp2;go_roundw
     case rel=>
      refine⟨k+1,g2,by omega,by go_num,hM3,X6,?_,abf,aa9⟩;rw[Jk.out,Option.toList_some,Bz,dw];exact ho3
     case measure=>simp[intOf];omega
    ·have hbp:Cj eB x=none:=by
      unfold Cj;rw[fB hbf,Bool.and_false];rfl
     rw[hbp,Option.toList_none,iE]at Jk;have hd1:decide (0<(x.bH.length:Int))=false:=fB (by omega);have hd2:decide (0<x.bH.length)=false:=fB hbf;go_wp2_with fail;refine aU HE.out ?_;rintro e w2 ⟨rfl,hL2,hg2⟩;obtain⟨g2,hM2,X6⟩:=hpre.out w2 hL2 hg2;have Au:=ER hls hSb Zy hg2;have EL:=ER hdr hSb Zy hg2;have Ce:=hfx.trans (Fx.grown (S:=S) hg2 (λq e=>by cases e;exact Zy)) (λ_ _ h=>h);clear HE hpre c0 c1 c2 c3 c4 c5 c6 hLn hls hdr hfx t0 t1 hlk d0 hg2;go_wp2;go_roundw
     case rel=>
      refine⟨k+1,g2,by omega,by go_num,hM2,X6,?_,EL,Ce⟩;rw[Jk.out];exact Au
     case measure=>simp[intOf];omega
   ·have hF:bY eB 0 x=x:=by unfold bY;rw[aM VE]
    have hbp:Cj eB x=none:=by
     unfold Cj;rw[Bool.not_eq_true _|>.mp VE,Bool.false_and];rfl
    rw[hbp,Option.toList_none,iE]at Jk;have hst:kE (bY eB 0) (k+1) A=kE (bY eB 0) k A:=by
     rw[<-hMod.out];exact pQ hM.xD λy hy=>by
      rw[hl]at hy;cases hy;exact hF
    have hSt:=(show Hid _ from hst);clear hst;cases hxv:x.valid
    ·rw[hxv]at c4;clear VE hxv;go_wp2;go_roundw
     case rel=>exact⟨k+1,g',by omega,by go_num,by rw[hSt.out];exact hM,by rw[hSt.out];exact AL,by rw[Jk.out];exact hls,hdr,hfx⟩
     case measure=>simp[intOf];omega
    ·rw[hxv]at c4;have hxn:(x.next==eB)=false:=by
      rw[hxv,Bool.true_and]at VE;simpa using VE
     clear VE hxv;go_wp2;go_roundw
     case rel=>exact⟨k+1,g',by omega,by go_num,by rw[hSt.out];exact hM,by rw[hSt.out];exact AL,by rw[Jk.out];exact hls,hdr,hfx⟩
     case measure=>simp[intOf];omega
  ·have hkn:A.length<=k:=by omega
   rw[kr hkn]at hls;rw[NT _ hkn]at hM AL;clear hdr hkn;go_wp2;go_ret;exact⟨_,g',rfl,hls,hM,AL,hfx⟩
variable{A:List Rt}{left:Lit->Bool}
def Kw(now:Int)(y:Rt):Bool:=y.valid&&decide (y.exp<=now)
def oQ(now:Int)(y:Rt):Rt:=if Kw now y then qD y 0 else y
theorem gY(now:Int)(y:Rt):(oQ now y).dest=y.dest:=by
 unfold oQ;split<;>rfl
def ja(A:List Rt)(now:Int):List Rt:=A.map (oQ now)
def wQ(left:Lit->Bool)(now:Int)(A:List Rt):List Rt:=A.map λy=>if left (.int .u32 y.dest)then y else oQ now y
theorem OP{x:Int}(h:left (.int .u32 x)=true)(now:Int)(A:List Rt):h_ (wQ left now A) x (oQ now)=wQ (λz=>left z&&!z.sameKey (.int .u32 x)) now A:=by
 unfold h_ wQ;rw[List.map_map];refine List.map_congr_left λy _=> ?_;by_cases e:y.dest=x
 ·subst e;simp[h,Lit.sameKey]
 ·by_cases hl:left (.int .u32 y.dest)=true
  ·simp[hl,e,Lit.sameKey]
  ·simp[hl,e,Lit.sameKey,gY]
theorem OQ{y:Rt}(hy:y∈A)(h:left (.int .u32 y.dest)=true)(now:Int):y∈wQ left now A:=
 di.2 ⟨y,hy,by simp[h]⟩
theorem JO{v:Value}{y:DataW Unit×List MemPlace}(h:D9 v=some y):∃c:Option Nat,v=gG c:=by
 unfold D9 at h;split at h
 ·exact⟨none,rfl⟩
 ·exact⟨some _,rfl⟩
 ·cases h
theorem K7{me:Int}{T M:Nat}{f:Int->Option Nat}{g:Int->Value}{S:Nat->Prop}(now:Int){w:World}(h:MT me T M f g A w)(hS:∀k,nC T M f g A k->S k)(hSb:∀k,S k->k<w.heap.size):
  Calls Tryz.prog 76 #[.pointer (some ⟨T,0,none⟩),.int .u64 now] w λe w'=>∃g',e=.returned (.tuple #[])∧MT me T M f g' (ja A now) w'∧(∀k,nC T M f g' (ja A now) k->S k)∧Fx S w w':=by
 obtain⟨D,h1,h2,h3⟩:=h.map;obtain⟨t0,t1⟩:=h.blk.cell;have hok0:=h.ok;have adB:=h.dom;have h3':=(show Hid _ from h3);have hhas:∀y∈A,has D (.int .u32 y.dest)=true:=λy hy=>by
  obtain⟨B,hB,_⟩:=h.ln y hy;rw[(h3 _ (hok0 y hy).dest).1,hB];rfl
 have hst:wQ (has D) now A=A:=by
  unfold wQ;conv=>rhs;rw[<-List.map_id A]
  exact List.map_congr_left λy hy=>by simp[hhas y hy]
 have hSt:=(show Hid _ from hst);clear h3 hst;go_enter Tryz.func76,Tryz.ntmps76;go_wp2_with(at_range;refine wpList_range_own _ rfl _ 156 rfl 34 161 gy Tryz.underlying156 _ M A.length _ rfl h1 ?_;intro w0 hrg0 hg0 hs0);go_frame;go_loopw [5] (λ_ wr=>∃(left:Lit->Bool) (cnt:Nat) (g':Int->Value),wr.ranges Tryz.prog 34 D9 M w.heap.size A.length D left cnt∧MT me T M f g' (wQ left now A) wr∧(∀q,nC T M f g' (wQ left now A) q->S q)∧Fx S w wr)
  (λ_ wr=>wr.rangeLeft M w.heap.size)
 case atStart=>
  have hb:Below w.heap.size w w0:=⟨hg0.os,hg0.tape,hg0.output,hg0.size,λk hk=>hg0.block k hk (by simp)⟩;refine⟨_,_,g,hrg0,?_,?_,Fx.below hb⟩
  ·rw[hSt.out];exact h.later hb
  ·rw[hSt.out];exact hS
 case round=>
  clear h h1 hg0 hs0 hrg0 t0 t1;obtain⟨left,cnt,g',hrg,hM,AL,hfx⟩:=hrel;go_wp2_with(at_next;refine wpList_next_ranges _ rfl _ rfl 34 gy D9 aX gG (λkey kl hk=>by obtain⟨x,hx,_⟩:=lm Tryz.underlying34 hk;exact⟨x,hx⟩) (λv y hv=>JO hv) M w.heap.size A.length _ _ _ rfl hrg ?_ ?_)
  ·intro hc0 hl0;have hall:wQ left now A=ja A now:=by
    unfold wQ ja;exact List.map_congr_left λy _=>by simp[hl0]
   rw[hall]at hM AL;clear hall;go_wp2
   go_end0
   exact⟨g',rfl,hM,AL,hfx⟩
  ·intro x c kl yd yp w2 cnt2 hkey hlk hv hat hrg2 hlt hg2 hs2 hen;obtain⟨x',ex,rfl,hwf⟩:=lm Tryz.underlying34 hkey;obtain rfl:x=x':=AU ex;clear ex hkey;have hb:=bounds_u32 hwf;have hxu:bB x:=⟨hb.1,by have:=hb.2;omega⟩;have h3x:=(h3'.out x hxu).2;rw[hat]at h3x;rw[pI]at hv;have hcl:lT c=lT (f x):=by
    have e1:=congrArg Prod.fst (Option.some.inj hv);rw[h3x]at e1;simpa using e1
   have hsome:=(h3'.out x hxu).1;rw[has_true_of_atKey hat]at hsome;obtain⟨B,hB⟩:=Option.isSome_iff_exists.1 hsome.symm;have hc:c=some B:=by
    rw[hB]at hcl;cases c with
    |none=>simp[lT]at hcl
    |some c=>
     simp only[lT]at hcl;exact congrArg some (by omega)
   subst hc;simp only[gG]at hen ⊢;obtain⟨y,Hy,rfl⟩:=adB x B hxu hB;have hyM:=OQ Hy hlk now;have hM2:MT me T M f g' (wQ left now A) w2:=hM.kept (λq hq=>hg2.block q (hM.lt hq) (λe=>by
    have h4:=hSb q (AL q hq);have h5:w.heap.size=q:=by injection e with e;exact e.symm
    omega))
   have Ce:Fx S w w2:=hfx.trans (Fx.grown (S:=λq=>w.heap.size<=q) hg2 (λq e=>by cases e;exact aD _)) (λq hq hq'=>by omega);have hl:=jU hM2.xD hyM;have hLn:dS B y (g' y.dest) w2:=by
    obtain⟨B',hB',hL⟩:=hM2.ln y hyM;rw[hB]at hB';cases hB';exact hL
   have Zy:S B:=AL B (hM.inB hl hB);have hmod:=OP hlk now A;have hMod:=(show Hid _ from hmod);have hlq:=hrg.left_eq;have hme:=(show Hid (cnt2<wr.rangeLeft M w.heap.size)from by show _<_;rw[hlq];exact hlt);obtain⟨c0,c1,c2,c3,c4,c5,c6⟩:=hLn.cell;clear hs2 hmod hat hv hcl h3x hsome hM hfx hrg hlq hlt hlk hb hwf;by_cases hex:Kw now y=true
   ·have hF:oQ now y=qD y 0:=aQ hex;have hyv:y.valid=true:=by unfold Kw at hex;revert hex;cases y.valid<;>simp
    have hye:decide (y.exp<=now)=true:=by unfold Kw at hex;revert hex;cases y.valid<;>simp
    rw[hyv]at c4;have HE:=(show Hid _ from E5 B y (g' y.dest) 0 w2 hLn);go_wp2_with fail;refine aU HE.out ?_;rintro e w3 ⟨rfl,hL3,hg3⟩;have ht:=hM2.turn (W':=w3) hl hB (oQ now) (gY now) (by rw[hF];exact vO (hok0 y Hy) (by simp[bB])) (.slice none 0 0) (by rw[hF];exact hL3) (by rw[hF];exact⟨rfl,.inl ⟨rfl,rfl⟩⟩) (.inl rfl) (λq hq hqB _=>hg3.block q (hM2.lt hq) (λe=>hqB (by cases e;rfl)));rw[hMod.out]at ht;have hrg3:=hrg2.of_walks (KeepsWalks.of_grownBy hg3 (λj o e ho=>by
     cases e;rw[show w2.heap[B]?=_ from hLn]at ho;cases ho;rfl))
    have aa9:Fx S w w3:=Ce.trans (Fx.grown (S:=S) hg3 (λq e=>by cases e;exact Zy)) (λ_ _ h=>h);have hmS:∀q,nC T M f _ _ q->S q:=λq hq=>by
     rcases ht.2 q hq with h4|h4
     ·exact AL q h4
     ·cases h4
    have hM3:=ht.1;clear HE c0 c1 c2 c3 c4 c5 c6 hLn hg3 hg2 hM2 hrg2 Ce ht hL3;go_wp2;go_roundw
    case rel=>exact⟨_,cnt2,_,hrg3,hM3,hmS,aa9⟩
    case measure=>rw[hrg3.left_eq];exact hme.out
   ·have hF:oQ now y=y:=aM hex;have hid:wQ left now A=wQ (λz=>left z&&!z.sameKey (.int .u32 y.dest)) now A:=by
     rw[<-hMod.out];exact(pQ hM2.xD λz hz=>by
      rw[hl]at hz;cases hz;exact hF).symm
    rw[hid]at hM2 AL;clear hid;cases hyv:y.valid
    ·rw[hyv]at c4;go_wp2;go_roundw
     case rel=>exact⟨_,cnt2,g',hrg2,hM2,AL,Ce⟩
     case measure=>rw[hrg2.left_eq];exact hme.out
    ·rw[hyv]at c4;have hye:decide (y.exp<=now)=false:=by
      unfold Kw at hex;rw[hyv,Bool.true_and]at hex;simpa using hex
     go_wp2;go_roundw
     case rel=>exact⟨_,cnt2,g',hrg2,hM2,AL,Ce⟩
     case measure=>rw[hrg2.left_eq];exact hme.out
variable{a:Act}{K:Act->World->Prop}{ops:Array Oper}{Q:Exit->Act->World->Prop}{o:Oper}{P:Program}{E:Prop}{w:World}
theorem yF
  (hg:o.guard=none) (s x:Operand) (t:TypeId) (hop:o.op=Op.call {callee:=Callee.builtin Builtin.append,args:=#[s,x],argTypes:=#[t,t]})
  (base:Nat) (e:TypeId) (i:TypeInfo) (z:Value) (size bytes:Nat) (h1:P.underlying t=some (.slice e)) (h2:P.info? e=some i) (h3:i.zero=some z) (h4:i.size=size) (h5:i.bytes=bytes) (h6:z.cells.size=size) (h7:0<size)
  (v:Value) (n:Nat) (xs:List Value) (hs:a.eval s=v) (hown:w.ownsRow base e size v n xs)
  (ad:Addr) (m c:Nat) (news:List Value) (hx:a.eval x=.slice (some ad) m c) (hn:news.length=m * size) (hc:∀j u,news[j]?=some u->w.cell? (ad.add j)=some u) (h1c:∀u∈news,u.oneCell'=true)
  (b1:n+m<=maxLen) (b2:(n+m)* bytes<=140737488355328) (hbase:base<=w.heap.size)
  (hK:∀v' w',w'.ownsRow base e size v' (n+m) (xs++news)->w.grownBy w' v.ownBlock->K (a.put o.dst v') w'):
  if Region.wanted o (yielded ops a.tmps)=true then Oper.wp P o a w K Q else E:=by
 have hw:Region.wanted o (yielded ops a.tmps)=true:=by simp[Region.wanted,hg]
 rw[aQ hw];obtain⟨v',w',hrun,r1,r2,_⟩:=run_append_own (P:=P) w base t o.type e i z size bytes h1 h2 h3 h4 h5 h6 h7 v n xs hown ad m c news hn hc h1c b1 b2 hbase;unfold Oper.wp;simp[execOp,hop,resolve,invoke,builtin,hs,hx,hrun,Result.andThen];exact hK v' w' r1 r2
theorem gV
  (hg:o.guard=none) (s x:Operand) (t:TypeId) (hop:o.op=Op.call {callee:=Callee.builtin Builtin.append,args:=#[s,x],argTypes:=#[t,t]})
  (base:Nat) (e:TypeId) (i:TypeInfo) (z:Value) (size bytes:Nat) (h1:P.underlying t=some (.slice e)) (h2:P.info? e=some i) (h3:i.zero=some z) (h4:i.size=size) (h5:i.bytes=bytes) (h6:z.cells.size=size) (h7:0<size)
  (v:Value) (n:Nat) (xs:List Value) (hs:a.eval s=v) (hown:w.ownsRow base e size v n xs)
  (ad:Addr) (m c:Nat) (news:List Value) (hx:a.eval x=.slice (some ad) m c) (hn:news.length=m * size) (hc:∀j u,news[j]?=some u->w.cell? (ad.add j)=some u) (h1c:∀u∈news,u.oneCell'=true)
  (b1:n+m<=maxLen) (b2:(n+m)* bytes<=140737488355328) (hbase:base<=w.heap.size)
  (hK:∀v' w',w'.ownsRow base e size v' (n+m) (xs++news)->w.grownBy w' v.ownBlock->(v'.ownBlock=v.ownBlock∨v'.ownBlock=some w.heap.size)->K (a.put o.dst v') w'):
  if Region.wanted o (yielded ops a.tmps)=true then Oper.wp P o a w K Q else E:=by
 have hw:Region.wanted o (yielded ops a.tmps)=true:=by simp[Region.wanted,hg]
 rw[aQ hw];obtain⟨v',w',hrun,r1,r2,_,r3⟩:=run_append_own_at (P:=P) w base t o.type e i z size bytes h1 h2 h3 h4 h5 h6 h7 v n xs hown ad m c news hn hc h1c b1 b2 hbase;unfold Oper.wp;simp[execOp,hop,resolve,invoke,builtin,hs,hx,hrun,Result.andThen];exact hK v' w' r1 r2 r3
end Go.Proofs.YtakaadcpaeiccabGreat
