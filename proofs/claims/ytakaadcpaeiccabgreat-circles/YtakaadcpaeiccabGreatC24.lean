import Derived.Test.YtakaadcpaeiccabGreatC23
set_option maxHeartbeats 4000000
set_option maxRecDepth 100000
namespace Go.Proofs.YtakaadcpaeiccabGreat
open Go.RowKit Go.Maps
theorem mD(W:World)(q:Nat):Below W.heap.size W (W.drewN q):=below_drewN (aV _ _) q
theorem ab5{W1:World}{M:Nat}{f:Int->Option Nat}{s:Nat}(hm:fG W1 M f s)(hs:s<=8){x:Bool×Int×Int}(hx:bB x.2.1)(hf:f x.2.1=none):
  ∀q:Nat×Nat,∃W6,(Instr.mapUpdate 156 (.map (some M)) (.int .u32 x.2.1) (.pointer (some ⟨W1.heap.size,0,none⟩))).run Tryz.prog (((W1.drewN q.1).alloc (bZ (yK x) (.slice none 0 0))).drewN q.2)=.ok () W6∧
   fG W6 M (fo f x.2.1 (some W1.heap.size)) (s+1)∧dS W1.heap.size (yK x) (.slice none 0 0) W6∧W1.grownBy W6 (some M):=by
 intro q;have hb:Below W1.heap.size W1 (((W1.drewN q.1).alloc (bZ (yK x) (.slice none 0 0))).drewN q.2):=below_drewN ((below_drewN (aV _ _) q.1).alloc (aD _) _) q.2;have hm1:=hm.block (hb.block M hm.lt);have hN:dS W1.heap.size (yK x) (.slice none 0 0) (((W1.drewN q.1).alloc (bZ (yK x) (.slice none 0 0))).drewN q.2):=dS.new (yK x) (.slice none 0 0) (W1.drewN q.1);have hMl:=hm.lt;obtain⟨W6,hr,ED,jq⟩:=hm1.put (by unfold maxLen;omega) hx W1.heap.size;rw[hf,aM (by simp)]at ED;exact⟨W6,hr,ED,hN.block (jq.block _ hN.lt (λe=>by cases e;omega)),⟨jq.os.trans hb.os,jq.tape.trans hb.tape,jq.output.trans hb.output,dH hb.size jq.size,λk hk hn=>(jq.block k (fZ hk hb.size) hn).trans (hb.block k hk)⟩⟩
theorem Cm(me:Int)(ao:Option Addr)(n c:Nat)(L:List (Bool×Int×Int))(hL:L.length=n)(hn:n<=50000)(hbd:qx L)(hfw:Y3 L)(w:World)(hA:gM w ao (RC L)):
  Calls Tryz.prog 44 #[.int .u32 me,.slice ao n c] w λe w'=>∃T out,e=.returned (.pointer (some ⟨T,0,none⟩))∧iO (mI L) (qF L) out∧Bh me T (λk=>w.heap.size<=k∧k<w'.heap.size) (uH me out) w'∧Below w.heap.size w w':=by
 have hmm:=@run_makeMap Tryz.prog;have hM0:fG ((w.alloc (.map #[] 0)).alloc (.cells #[.int .u32 me,.map (some w.heap.size)] 158)) w.heap.size (λ_=>none) 0:=(fG.made w).block (((aV _ (w.alloc (.map #[] 0))).alloc (aD _) _).block w.heap.size (by simp));have hT0:FQ (w.heap.size+1) me w.heap.size ((w.alloc (.map #[] 0)).alloc (.cells #[.int .u32 me,.map (some w.heap.size)] 158)):=by
  have:=bS (w.alloc (.map #[] 0)) (.cells #[.int .u32 me,.map (some w.heap.size)] 158);rw[World.size_alloc]at this;exact this
 have hb0:Below w.heap.size w ((w.alloc (.map #[] 0)).alloc (.cells #[.int .u32 me,.map (some w.heap.size)] 158)):=(bq).alloc (by simp) _;have hs0:((w.alloc (.map #[] 0)).alloc (.cells #[.int .u32 me,.map (some w.heap.size)] 158)).heap.size=w.heap.size+2:=by simp
 go_enter Tryz.func44,Tryz.ntmps44;go_wp2_with fail;clear hmm;generalize World.alloc _ _=W0 at hM0 hT0 hb0 hs0 ⊢;refine(vD ao n c L hL hn hbd hfw W0 (hA.below hb0)).mono ?_;rintro e w1 ⟨v,out,rfl,hcmp,hol,hrow,hb1⟩;rw[hs0]at hb1 hrow;have hbb:Below w.heap.size w w1:=hb0.trans (hb1.mono (by omega));have hm1:MT me (w.heap.size+1) w.heap.size (λ_=>none) (λ_=> .slice none 0 0) [] w1:=MT.empty (hT0.block (hb1.block _ (by omega))) (hM0.block (hb1.block _ (by omega)));have hs1:=hb1.size;rw[hs0]at hs1;have hris:=WU hcmp;obtain⟨av,cv,rfl,_⟩:=ak hrow;clear hM0 hT0 hb0 hb1 hs0 hA;go_wp2_with fail;go_loopw [15] (λi wr=>∃(k:Nat) (f:Int->Option Nat) (g:Int->Value),k<=out.length∧i=.int .i64 k∧MT me (w.heap.size+1) w.heap.size f g (uH me (out.take k)) wr∧(∀q,nu (w.heap.size+1) w.heap.size f g (uH me (out.take k)) q->w.heap.size<=q)∧wr.ownsRow (w.heap.size+2) 82 3 (.slice av out.length cv) out.length (RC out)∧Below w.heap.size w wr) (λi _=>out.length - (intOf i).toNat)
 case atStart=>
  refine⟨0,_,_,dh _,rfl,hm1,?_,hrow,hbb⟩;rintro q (rfl|rfl|⟨x,hx,_⟩)
  ·omega
  ·omega
  ·cases hx
 case round=>
  clear hrow hbb hm1 hs1;obtain⟨k,f,g,hk,rfl,hM,AJ,hrow,hb⟩:=hrel;by_cases hlt:k<out.length
  ·have hki:(k:Int)<(out.length:Int):=by omega
   obtain⟨x,hx⟩:∃x,out[k]?=some x:=⟨_,cZ (by omega)⟩;have hat:∀i z,i<3->([.bool x.1,.int .u32 x.2.1,.int .u32 x.2.2]:List Value)[i]?=some z->(RC out)[k * 3+i]?=some z:=λi z hi hz=>(kM (λx:Bool×Int×Int=>([Value.bool x.1,Value.int .u32 x.2.1,Value.int .u32 x.2.2]:List Value)) 3 (by decide) (λ_=>rfl) out k i hi hx).trans hz;obtain⟨av',cv',hv,hA'⟩:=ak hrow;obtain⟨rfl,rfl⟩:av'=av∧cv'=cv:=by cases hv;exact⟨rfl,rfl⟩
   clear hv;obtain⟨b1,o1,rfl,hj1⟩:=hA' (k * 3+0) _ (hat 0 _ (by decide) rfl);have d0:=hA'.one rfl (hat 0 _ (by decide) rfl);have d1:=hA'.one rfl (hat 1 _ (by decide) rfl);have d2:=hA'.one rfl (hat 2 _ (by decide) rfl);rw[Nat.add_zero]at d0;rw[<-Nat.add_assoc]at d1 d2;have hst:=(show Hid _ from Ad me hx);have hxo:=λh=>R4 hbd hcmp (gG hx) h;have hbl:=(show Hid _ from OA me hris hx);have hln:=(show Hid _ from Mh me out k);generalize hAe:uH me (out.take k)=A at hM AJ hst hbl hln;obtain⟨xo,xa,xs⟩:=x;dsimp only at d0 d1 d2 hxo;have hM1:=hM.later ((aV _ wr).alloc (aD _) (aZ xo xa xs));have xX:=hrow.alloc (aZ xo xa xs);have hb1:=hb.alloc hb.size (aZ xo xa xs);have hB1:qG wr.heap.size xo xa xs (wr.alloc (aZ xo xa xs)):=qG.new xo xa xs wr;have hs1:=hM.map.lt;have MR:(BK me (xo,xa,xs)&&decide (A.length<8))=false->Hid (uH me (out.take (k+1))=A):=λh=>by
    show _=_;rw[hst.out];exact aM (by rw[h];simp)
   have hadd:(BK me (xo,xa,xs)&&decide (A.length<8))=true->Hid (uH me (out.take (k+1))=A++ [yK (xo,xa,xs)]):=λh=>by
    show _=_;rw[hst.out];exact aQ h
   clear hj1 hat hA' hx hM hrow hb hAe hst;have hsz:(wr.alloc (aZ xo xa xs)).heap.size=wr.heap.size+1:=by simp
   dsimp only[aZ]at hM1 xX hb1 hB1 hsz;have hk1:k+1<=out.length:=by omega
   go_upto_region 5 with(fail);generalize World.alloc _ _=W1 at hM1 xX hb1 hB1 hsz ⊢;obtain⟨c0,c1,c2⟩:=hB1.cell;go_cut [32]from 19 to 32 (λp W6=>p=.bool (BK me (xo,xa,xs)&&decide (A.length<8))∧W1=W6)
   case first=>
    have hfull:=(show Hid _ from Il (w.heap.size+1) w.heap.size A.length me f _ hM1.blk hM1.map);have ado:Hid (decide (A.length<8)=!decide (8<=A.length)):=by
     show _=_;by_cases h8:8<=A.length
     ·simp[h8]
     ·simp[h8];omega
    clear MR hadd hxo hbl hM1 xX hb1;cases xo
    ·cases hxm:(xa !=me)
     ·have hv:Hid ((BK me (false,xa,xs)&&decide (A.length<8))=false):=by
       show _=_;simp only[BK,hxm];rfl
      clear hfull;go_wp2_with fail;go_meet;exact⟨(congrArg Value.bool hv.out).symm,rfl⟩
     ·have hv:Hid ((BK me (false,xa,xs)&&decide (A.length<8))=!decide (8<=A.length)):=by
       show _=_;rw[ado.out];simp only[BK,hxm];rfl
      clear ado;go_wp2_with fail;refine aU hfull.out ?_;rintro e w3 ⟨rfl,rfl⟩;clear hfull;go_wp2_with fail;go_meet;exact⟨(congrArg Value.bool hv.out).symm,rfl⟩
    ·have hv:Hid ((BK me (true,xa,xs)&&decide (A.length<8))=false):=by
      show _=_;simp[BK]
     clear hfull;go_wp2_with fail;go_meet;exact⟨(congrArg Value.bool hv.out).symm,rfl⟩
   case rest=>
    obtain⟨rfl,hW⟩:=hcut;subst hW;have hwk0:Hid (wrap64 ((k:Int)+1)=(k:Int)+1):=by
     show _=_;unfold wrap64;omega
    have hme:Hid (out.length - (intOf (.int .i64 ((k:Int)+1))).toNat<out.length - (intOf (.int .i64 (k:Int))).toNat):=by
     show _<_;simp[intOf];omega
    have Tk:Hid (uH me (out.take (k+1))=A)->Hid (∃(k':Nat) (f':Int->Option Nat) (g':Int->Value),k'<=out.length∧Value.int .i64 ((k:Int)+1)=.int .i64 k'∧MT me (w.heap.size+1) w.heap.size f' g' (uH me (out.take k')) W1∧(∀q,nu (w.heap.size+1) w.heap.size f' g' (uH me (out.take k')) q->w.heap.size<=q)∧(W1).ownsRow (w.heap.size+2) 82 3 (.slice (some ⟨b1,o1,none⟩) out.length cv') out.length (RC out)∧Below w.heap.size w W1):=λh=>by
     show ∃k' f' g',_;refine⟨k+1,f,g,hk1,by simp,?_⟩;rw[h.out];exact⟨hM1,AJ,xX,hb1⟩
    have hA8:=hln.out;cases hb:(BK me (xo,xa,xs)&&decide (A.length<8))
    ·have hsk:=Tk (MR hb);clear MR hadd Tk hb;go_wp2;exact⟨hsk.out,hme.out⟩
    ·have had:=hadd hb;have hp:BK me (xo,xa,xs)=true:=by revert hb;cases BK me (xo,xa,xs)<;>simp
     have hl8:A.length<8:=by
      rw[hp,Bool.true_and]at hb;simpa using hb
     obtain rfl:xo=false:=Ej hp;have hxu:=hxo rfl;have hbx:∀z∈A,z.dest<xa:=hbl.out hp;have hno:aJ A xa=none:=iw.2 λz hz=>by
      have:=hbx z hz;omega
     obtain⟨V,hV⟩:=Classical.skolem.1 (ab5 (x:=(false,xa,xs)) hM1.map (by omega) hxu.1 (hM1.off hxu.1 hno));have v00:=(hV (0,0)).1;have v01:=(hV (0,1)).1;have v0n:=λq=>(hV (0,q)).1;have v10:=(hV (1,0)).1;have v11:=(hV (1,1)).1;have v1n:=λq=>(hV (1,q)).1;have vn0:=λq=>(hV (q,0)).1;have vn1:=λq=>(hV (q,1)).1;have vnn:=λq q'=>(hV (q,q')).1;obtain⟨t0,t1⟩:=hM1.blk.cell;dsimp only[bZ,yK]at v00 v01 v0n v10 v11 v1n vn0 vn1 vnn;simp only[World.drewN_zero,<-World.drew_is_drewN]at v00 v01 v0n v10 v11 v1n vn0 vn1;have hre:∀(q:Nat) (B j:Nat) (u:Value),W1.cell? ⟨B,j,none⟩=some u->((W1.drewN q).alloc (.cells #[.int .u32 xa,.int .u32 (gr xs),.int .i64 0,.int .u32 0,.bool false,.int .u64 0,.slice none 0 0] 38)).cell? ⟨B,j,none⟩=some u:=λq B j u h=>Go.cell_later ((mD W1 q).alloc (aD _) _) h;have r1n:=λq=>hre q _ _ _ t1;have r2n:=λq=>hre q _ _ _ c1;have r3n:=λq=>hre q _ _ _ c2;have r10:=r1n 0;have r20:=r2n 0;have r30:=r3n 0;have r11:=r1n 1;have r21:=r2n 1;have r31:=r3n 1;simp only[World.drewN_zero,<-World.drew_is_drewN]at r10 r20 r30 r11 r21 r31;have hfin:Hid (∀q,∃(k':Nat) (f':Int->Option Nat) (g':Int->Value),k'<=out.length∧Value.int .i64 (wrap64 ((k:Int)+1))=.int .i64 k'∧MT me (w.heap.size+1) w.heap.size f' g' (uH me (out.take k')) (V q)∧(∀p,nu (w.heap.size+1) w.heap.size f' g' (uH me (out.take k')) p->w.heap.size<=p)∧((V q)).ownsRow (w.heap.size+2) 82 3 (.slice (some ⟨b1,o1,none⟩) out.length cv') out.length (RC out)∧Below w.heap.size w (V q)):=λq=>by
      refine⟨k+1,fo f xa (some W1.heap.size),λe=>if e=xa then .slice none 0 0 else g e,hk1,by rw[hwk0.out];simp,?_⟩;rw[had.out];obtain⟨_,ED,Qv,jq⟩:=hV q;have hf:=hM1.fresh (d:=xa) (y:=yK (false,xa,xs)) rfl (Mg hxu.1 hxu.2) rfl (N:=W1.heap.size) (aD _) (w':=V q) (A':=A++ [yK (false,xa,xs)]) Qv (by rw[dw];exact ED) (λp hp hpM=>jq.block p hp (λe=>hpM (by cases e;rfl))) (λz hz=>by
       rcases eu.1 hz with hz|hz
       ·exact .inr ⟨hz,by have:=hbx z hz;omega⟩
       ·exact .inl (by simpa using hz)) (by simp) (λz hz _=>List.mem_append_left _ hz) (UX hM1.xC hbx) (by rw[dw];simp;omega)
      refine⟨hf.1,λp hp=> ?_,?_,?_⟩
      ·rcases hf.2 p hp with h1|rfl
       ·exact AJ p h1
       ·omega
      ·exact bK xX λp hp=>jq.block p (xX.lt p hp).2 (λe=>by
        have h1:=(xX.lt p hp).1;cases e;omega)
      ·exact hb1.grown jq hb1.size (λp e=>by cases e;exact aD _)
     clear hV hno hp hl8 hxo hre hbl MR hadd had Tk hM1 xX hb1 AJ hcmp hris hbd hB1 hs1 hol hL hn hki hk hA8 hln hbx hsz;have ae9:Hid (out.length - (intOf (.int .i64 (wrap64 ((k:Int)+1)))).toNat<out.length - (intOf (.int .i64 (k:Int))).toNat):=by
      show _<_;rw[hwk0.out];exact hme.out
     clear hme hwk0;go_wp2_with fail;clear hb;go_region_law (go_simp;go_at_call 42;refine(oN _ _).mono ?_;rintro e w5 ⟨rfl,rfl⟩)
     all_goals
      clear r1n r2n r3n r10 r20 r30 r11 r21 r31 v00 v01 v0n v10 v11 v1n vn0 vn1 vnn c0 c1 c2 t0 t1;go_wp2;exact⟨hfin.out _,ae9.out⟩
  ·have hkn:out.length<=k:=by omega
   rw[ko hkn]at hM AJ;clear hrow hkn;go_wp2;go_ret;exact⟨_,out,rfl,hcmp,⟨_,f,g,hM,λq hq=>⟨AJ q hq,hM.lt hq⟩⟩,hb⟩
open Go.MuLone
variable{last:Int}{J:List (Bool×Int×Int)}{A:List Rt}{B M T b:Nat}{v:Value}{W W':World}
theorem YE(h:qx J):∀(f:Int->Option Int) (c:Option Int) (o:List (Bool×Int×Int)),iO f c o->iO (J.foldl stepM f) (J.foldl lK c) (J.foldl (λo r=>zW o (norm r)) o):=by
 induction J with
 |nil=>intro f c o h;exact h
 |cons y J ih=>
  intro f c o hc;simp only[gH];exact ih (λz hz=>h z (jR _ hz)) _ _ _ (hc.put y (LY h (iJ ..)).2.1)
theorem Nl(h:qx J):iO (mI J) (qF J) (cmpL J):=YE h _ _ _ iO.nil
theorem Gv(h:qx J):bB ((qF J).getD 0):=by
 have:∀(J:List (Bool×Int×Int)) (c:Option Int),qx J->OB c->OB (J.foldl lK c):=by
  intro J
  induction J with
  |nil=>intro c _ h;exact h
  |cons y J ih=>
   intro c hJ hc;rw[gH];exact ih _ (λz hz=>hJ z (jR _ hz)) (hc.step (LY hJ (iJ ..)).2)
 exact(this J none h RZ).getD
def St.raw(me:Int)(xs:List Int)(now:Int):St:=
 ⟨me,gr ((qF (jl xs)).getD 0),if xs=[]then 0 else now+2000,0,0,uH me (cmpL (jl xs)),[],0,λ_=>none,0,0,[],0,[],now,[],[],[],[],decide (xs≠ []),0⟩
theorem St.uh(me:Int)(xs:List Int)(now:Int):St.new me xs now=(St.raw me xs now).finish:=rfl
theorem QN:bB 0:=by unfold bB;omega
theorem LZ{me:Int}{xs:List Int}{now:Int}(hU:bB me)(hbd:qx (jl xs))(fK:0<=now∧now<=4611686018427387904):(St.raw me xs now).Mid 0 0:=
 ⟨hU,uw (Gv hbd),fK,λ_ h=>(by cases h),⟨λ_ _ h=>(by cases h),λ_ h=>(by cases h),QN⟩,by dsimp only[St.raw];omega,aD _,λ_ h=>(by cases h),aD _,aD _,aD _,by dsimp only[St.raw];omega,by dsimp only[St.raw];omega,dh _,List.Pairwise.nil,λ_ h=>(by cases h),λ_ h=>(by cases h)⟩
theorem TR.lower{base:Nat}{h:List Hp.Tm}(r:TR base T M last h v W)(hb:b<=base):TR b T M last h v W:=
 ⟨r.blk,ownsRow_base_a r.row hb,r.map,r.ok,dH hb r.bT,dH hb r.bM⟩
theorem MT.later'{me:Int}{f:Int->Option Nat}{g:Int->Value}(h:MT me T M f g A W)(hb:Below W.heap.size W W'):MT me T M f g A W':=h.kept λk hk=>hb.block k (h.lt hk)
theorem TR.later'{h:List Hp.Tm}(r:TR b T M last h v W)(hb:Below W.heap.size W W'):TR b T M last h v W':=
 r.at (hb.block _ r.blk.lt) (by obtain⟨f,p1,_⟩:=r.map;exact hb.block _ p1.lt) λk hk=>hb.block _ (r.row.lt k hk).2
theorem GL(w:World):
  Calls Tryz.prog 45 #[] w λe w'=>∃Ms,e=.returned (.agg #[.map (some Ms),.int .i64 0])∧Below w.heap.size w w'∧xI Ms 0 [] w'∧w.heap.size<=Ms:=by
 have hmm:=@run_makeMap Tryz.prog;have jO:Below w.heap.size w (w.alloc (.cells #[.map (some (w.heap.size+1)),.int .i64 0] 113)):=bq;have hb:Below w.heap.size w ((w.alloc (.cells #[.map (some (w.heap.size+1)),.int .i64 0] 113)).alloc (.map #[] 0)):=jO.alloc jO.size _;have hC:((w.alloc (.cells #[.map (some (w.heap.size+1)),.int .i64 0] 113)).alloc (.map #[] 0)).heap[w.heap.size]?=some (.cells #[.map (some (w.heap.size+1)),.int .i64 0] 113):=(((aV _ (w.alloc (.cells #[.map (some (w.heap.size+1)),.int .i64 0] 113))).alloc (aD _) _).block w.heap.size (by simp)).trans (bS _ _);have hM:=xI.made (w.alloc (.cells #[.map (some (w.heap.size+1)),.int .i64 0] 113));rw[World.size_alloc]at hM;go_enter Tryz.func45,Tryz.ntmps45;go_wp2;generalize World.alloc (World.alloc _ _) _=W at hb hC hM ⊢;have p0:W.cell? ⟨w.heap.size,0,none⟩=some (.map (some (w.heap.size+1))):=aH _ _ 0 _ _ _ hC;have p1:W.cell? ⟨w.heap.size,1,none⟩=some (.int .i64 0):=aH _ _ 1 _ _ _ hC;exact bodyPost_ret (v:=.agg #[.map (some (w.heap.size+1)),.int .i64 0]) (by simp[results,Tryz.results45,go_sem,p0,p1]) rfl ⟨_,rfl,hb,hM,Nat.le_succ _⟩
theorem Ep(w:World):
  Calls Tryz.prog 46 #[] w λe w'=>∃Mo,e=.returned (.agg #[.int .u32 0,.map (some Mo),.int .i64 0])∧Below w.heap.size w w'∧MapU w' Mo (λ_=>none) 0∧w.heap.size<=Mo:=by
 have hmm:=@run_makeMap Tryz.prog;have jO:Below w.heap.size w (w.alloc (.cells #[.int .u32 0,.map (some (w.heap.size+1)),.int .i64 0] 117)):=bq;have hb:Below w.heap.size w ((w.alloc (.cells #[.int .u32 0,.map (some (w.heap.size+1)),.int .i64 0] 117)).alloc (.map #[] 0)):=jO.alloc jO.size _;have hC:((w.alloc (.cells #[.int .u32 0,.map (some (w.heap.size+1)),.int .i64 0] 117)).alloc (.map #[] 0)).heap[w.heap.size]?=some (.cells #[.int .u32 0,.map (some (w.heap.size+1)),.int .i64 0] 117):=(((aV _ (w.alloc (.cells #[.int .u32 0,.map (some (w.heap.size+1)),.int .i64 0] 117))).alloc (aD _) _).block w.heap.size (by simp)).trans (bS _ _);have hM:=MapU.made (w.alloc (.cells #[.int .u32 0,.map (some (w.heap.size+1)),.int .i64 0] 117));rw[World.size_alloc]at hM;go_enter Tryz.func46,Tryz.ntmps46;go_wp2;generalize World.alloc (World.alloc _ _) _=W at hb hC hM ⊢;have p0:W.cell? ⟨w.heap.size,0,none⟩=some (.int .u32 0):=aH _ _ 0 _ _ _ hC;have p1:W.cell? ⟨w.heap.size,1,none⟩=some (.map (some (w.heap.size+1))):=aH _ _ 1 _ _ _ hC;have p2:W.cell? ⟨w.heap.size,2,none⟩=some (.int .i64 0):=aH _ _ 2 _ _ _ hC;exact bodyPost_ret (v:=.agg #[.int .u32 0,.map (some (w.heap.size+1)),.int .i64 0]) (by simp[results,Tryz.results46,go_sem,p0,p1,p2]) rfl ⟨_,rfl,hb,hM,Nat.le_succ _⟩
def af4(s:St)(w:World)(e:Ending)(w':World):Prop:=
 ∃N g aK bP bQ,e=.returned (.tuple #[.pointer (some ⟨N,0,none⟩),iY s.bn s.bC aK bP bQ,.int .i64 0])∧Nn N g s [] w'∧w'.ownsRow w.heap.size 77 2 aK s.aL.length (uE s.aL)∧w'.ownsRow w.heap.size 56 2 bP s.aY.length (uE s.aY)∧w'.ownsRow w.heap.size 195 1 bQ s.aT.length (Jr s.aT)∧Below w.heap.size w w'∧∀k,Ft N g s k->w.heap.size<=k
theorem Xo{me q:Int}{Ms Mo Mr:Nat}{ff:Int->Option Nat}{gg:Int->Value}{w9:World}(now:Int)(hMT:MT me T M ff gg A w9)(Jj:xI Ms 0 [] w9)(Pe:MapU w9 Mo (λ_=>none) 0)(X4:fG w9 Mr (λ_=>none) 0)(Qu:TR 0 (B+1) B 0 [] (.slice none 0 0) w9)(h1:M<Ms)(h2:Ms<Mo)(h3:Mo<Mr)(h4:Mr<B):
  Nd w9.heap.size (w9.heap.size+1) ⟨⟨0,me,q,0,T,Ms,0,0,Mo,0,0,0,Mr,B+1,.slice none 0 0⟩,FP now,M,ff,gg,0,λ_=>none,λ_=> .slice none 0 0,B,[],.slice none 0 0⟩ ⟨me,q,0,0,0,A,[],0,λ_=>none,0,0,[],0,[],now,[],[],[],[],false,0⟩ [] ((w9.alloc (oJ ⟨0,me,q,0,T,Ms,0,0,Mo,0,0,0,Mr,B+1,.slice none 0 0⟩)).alloc (oQ (FP now))):=by
 have hb1:Below w9.heap.size w9 (w9.alloc (oJ ⟨0,me,q,0,T,Ms,0,0,Mo,0,0,0,Mr,B+1,.slice none 0 0⟩)):=bq;have hn1:=bS w9 (oJ ⟨0,me,q,0,T,Ms,0,0,Mo,0,0,0,Mr,B+1,.slice none 0 0⟩);have hsz:(w9.alloc (oJ ⟨0,me,q,0,T,Ms,0,0,Mo,0,0,0,Mr,B+1,.slice none 0 0⟩)).heap.size=w9.heap.size+1:=by simp
 generalize w9.alloc (oJ ⟨0,me,q,0,T,Ms,0,0,Mo,0,0,0,Mr,B+1,.slice none 0 0⟩)=W1 at hb1 hn1 hsz ⊢;have nn1:Nn w9.heap.size ⟨⟨0,me,q,0,T,Ms,0,0,Mo,0,0,0,Mr,B+1,.slice none 0 0⟩,FP now,M,ff,gg,0,λ_=>none,λ_=> .slice none 0 0,B,[],.slice none 0 0⟩ ⟨me,q,0,0,0,A,[],0,λ_=>none,0,0,[],0,[],now,[],[],[],[],false,0⟩ [] W1:=
  ⟨⟨hn1,Pe.block (hb1.block _ Pe.lt),hMT.later' hb1,by dsimp only;omega⟩,⟨rfl,rfl,rfl,rfl,rfl,rfl,rfl,rfl,rfl⟩,
  ⟨Jj.block (hb1.block _ Jj.lt),⟨X4.block (hb1.block _ X4.lt),List.Pairwise.nil,λ_ h=>(by cases h),λ_ _ _ h=>(by cases h),λ_ h=>(by cases h),λ_ h=>(by cases h),λ_ h=>(by cases h),dh _⟩,Qu.later' hb1,(λ_ _ h=>absurd h (Nat.not_lt_zero _)),List.Perm.refl _,⟨rfl,.inl ⟨rfl,rfl⟩⟩⟩,
  by
   have e1:M≠Mo:=by omega
   have e2:M≠Ms:=by omega
   have e3:M≠Mr:=by omega
   have e4:M≠B:=by omega
   have e5:Mo≠Ms:=by omega
   have e6:Mo≠Mr:=by omega
   have e7:Mo≠B:=by omega
   have e8:Ms≠Mr:=by omega
   have e9:Ms≠B:=by omega
   have e10:Mr≠B:=by omega
   simp[e1,e2,e3,e4,e5,e6,e7,e8,e9,e10],by dsimp only;omega⟩
 have hb2:Below W1.heap.size W1 (W1.alloc (oQ (FP now))):=bq;have ha:=jJ.zero now W1;rw[hsz]at ha;exact⟨nn1.later hb2,ha,rfl,rfl⟩
theorem jJ.JB{base:Nat}{a:qy}{bA:List (Bool×Int×Int)}{aL aY:List (Int×ByteArray)}{aT:List Int}(h:jJ B base a bA aL aY aT W)(b:Bool):
  jJ B base {a with bC:=b} bA aL aY aT (W.setCell ⟨B,3,none⟩ (.bool b))∧W.grownBy (W.setCell ⟨B,3,none⟩ (.bool b)) (some B):=by
 have hg:=ah (aC W (some B)) 3 (.bool b);exact⟨⟨h.blk.Q8 b,h.nW.kept hg (.inr (aB h.nW h.blk (λc e=>(by cases e)))),h.aK.kept hg (.inr (aB h.aK h.blk (λc e=>(by cases e)))),h.bP.kept hg (.inr (aB h.bP h.blk (λc e=>(by cases e)))),h.bQ.kept hg (.inr (aB h.bQ h.blk (λc e=>(by cases e))))⟩,hg⟩
theorem Sc{N:Nat}{g:bI}{s:St}(n:Nd N B g s [] W)(v:Int):
  ∃g',Nd N B g' {s with cO:=v,bC:=true} [] ((W.setCell ⟨N,4,none⟩ (.int .u64 v)).setCell ⟨B,3,none⟩ (.bool true))∧Up B (Ft N g s) (Ft N g' {s with cO:=v,bC:=true}) W ((W.setCell ⟨N,4,none⟩ (.int .u64 v)).setCell ⟨B,3,none⟩ (.bool true)):=by
 have e:=n.nn.eq;obtain⟨n1,u1⟩:=n.cells (s':={s with cO:=v}) (n.nn.cr.nd.Q6 v) (Fx.grown (ah (aC W (some N)) 4 _) λk h=>by cases h;rfl) ⟨e.self,e.seq,rfl,e.dB,e.fq,e.tn,e.own,e.cnt,e.lk⟩ ⟨rfl,rfl,rfl,rfl,rfl,rfl⟩ ⟨rfl,rfl,rfl,rfl,rfl,rfl,rfl,rfl,rfl⟩ ⟨rfl,rfl,rfl,rfl,rfl⟩;obtain⟨a2,hg2⟩:=n1.ac.JB true;obtain⟨n2,u2⟩:=n1.act (s':={s with cO:=v,bC:=true}) a2 (Fx.grown hg2 λk h=>by cases h;exact .inl rfl) ⟨rfl,rfl,rfl,rfl,rfl,rfl,rfl,rfl,rfl,rfl,rfl,rfl,rfl,rfl,rfl⟩ n1.now rfl;exact⟨_,n2,u1.trans u2⟩
theorem Qg(me now:Int)(hU:bB me)(hself:me≠0)(v:Value)(xs:List Int)(w:World)(hv:fu w v xs)(hx1:xs.length<=100000)(hjb:qx (jl xs))(hfw:Y3 (jl xs))(hjl:(jl xs).length<=50000)(fK:0<=now∧now<=4611686018427387904):
  Calls Tryz.prog 19 #[.int .u32 me,v,.int .u64 now] w λe w'=>af4 (St.new me xs now) w e w':=by
 have hs0:(me==0)=false:=by simpa using hself
 have hmm:=@run_makeMap Tryz.prog;have hb0:Below w.heap.size w (w.alloc jm):=bq;have hC0:(w.alloc jm).heap[w.heap.size]?=some jm:=bS _ _;have hz0:w.heap.size+1<=(w.alloc jm).heap.size:=by simp
 obtain⟨av,cv,rfl⟩:∃a c,v=.slice a xs.length c:=by
  rcases hv.2 with⟨rfl,rfl⟩|⟨b,o,c,rfl,_⟩
  ·exact⟨_,_,rfl⟩
  ·exact⟨_,_,rfl⟩
 have HR:=(show Hid _ from λW hW=>yT (.slice av xs.length cv) xs (by omega) W (hv.kept hW));have hmid:=hide (LZ (xs:=xs) hU hjb fK);obtain⟨s9,qZ⟩:∃z,St.raw me xs now=z:=⟨_,rfl⟩;have acW:=hide qZ;rw[qZ]at hmid;have hnew:St.new me xs now=s9.finish:=by rw[<-qZ];rfl
 rw[hnew];obtain⟨s',hs'⟩:∃z,s9.finish=z:=⟨_,rfl⟩;rw[hs'];replace hs':=hide hs';clear hnew qZ;have TV:=hide (Nl hjb);dsimp only[jm]at hb0 hC0 hz0;clear hv;go_enter Tryz.func19,Tryz.ntmps19;go_upto_region 1 with(fail);generalize World.alloc _ _=W1 at hb0 hC0 hz0 ⊢;go_wp2_with fail;refine aU (HR.out W1 hb0) ?_;rintro e w2 ⟨u,rfl,hb2,hu⟩;obtain⟨au,cu,rfl,hH⟩:=ak hu;generalize hJ:(jl xs)=J at hjb hfw hjl hH hu TV;have hJ':=hide hJ;clear hJ HR;have abh:=hb0.trans (hb2.mono hb0.size);have hC2:=(hb2.block _ (by omega:w.heap.size<W1.heap.size)).trans hC0;have hz2:=hb2.size;go_wp2_with fail;refine aU (yO au J.length cu J rfl (by omega) hjb w2 hH) ?_;rintro e w3 ⟨rfl,hb3⟩;generalize hgo:(qF J).getD 0=g0;have hgo':=hide hgo;clear hgo;go_wp2_with fail;refine aU (oN g0 w3) ?_;rintro e w4 ⟨rfl,rfl⟩;have hH3:=hH.below hb3;have abg:=abh.trans (hb3.mono abh.size);have qB:=(hb3.block _ (by omega:w.heap.size<w2.heap.size)).trans hC2;have hz3:=hb3.size;generalize hq:gr g0=q;have hq':=hide hq;clear hq hC0 hC2 hH hu abh hb0 hb2 hb3;go_wp2_with fail;refine aU (Cm me au J.length cu J rfl hjl hjb hfw w4 hH3) ?_;rintro e w5 ⟨T,out,rfl,hcmp,⟨M,ff,gg,hMT,hTS⟩,hb5⟩;obtain rfl:out=cmpL J:=hcmp.unique TV.out;go_wp2_with fail;refine aU (GL w5) ?_;rintro e w6 ⟨Ms,rfl,hb6,Jj,hMs⟩;go_wp2_with fail;refine aU (Ep w6) ?_;rintro e w7 ⟨Mo,rfl,Ig,hmo,Pe⟩;have og:=hMT.map.lt;have hM8:=fG.made w7;have l7:Below w7.heap.size w7 (w7.alloc (.map #[] 0)):=bq;have hz8:(w7.alloc (.map #[] 0)).heap.size=w7.heap.size+1:=by simp
 go_wp2_with fail;generalize World.alloc _ _=W8 at hM8 l7 hz8 ⊢;refine aU (Ck W8) ?_;rintro e w9 ⟨rfl,lT,hT9⟩;have hz5:=hb5.size;have hz6:=hb6.size;have hz7:=Ig.size;have hz9:=lT.size;have abj:=l7.trans (lT.mono l7.size);have abk:=Ig.trans (abj.mono Ig.size);have abl:=hb6.trans (abk.mono hb6.size);have abo:=hb5.trans (abl.mono hb5.size);have afC:=hmo.lt;have abw:=Jj.lt;have hn:=Xo (q:=q) now (hMT.later' abl) (Jj.block (abk.block _ Jj.lt)) (hmo.block (abj.block _ hmo.lt)) (hM8.block (lT.block _ (by omega))) (hT9.lower (dh _)) (by omega) (by omega) (by omega) (by omega);have hbN:Below w9.heap.size w9 (w9.alloc (oJ ⟨0,me,q,0,T,Ms,0,0,Mo,0,0,0,w7.heap.size,W8.heap.size+1,.slice none 0 0⟩)):=bq;have adE:Below w9.heap.size w9 ((w9.alloc (oJ ⟨0,me,q,0,T,Ms,0,0,Mo,0,0,0,w7.heap.size,W8.heap.size+1,.slice none 0 0⟩)).alloc (oQ (FP now))):=hbN.alloc hbN.size _;have aaF:((w9.alloc (oJ ⟨0,me,q,0,T,Ms,0,0,Mo,0,0,0,w7.heap.size,W8.heap.size+1,.slice none 0 0⟩)).alloc (oQ (FP now))).heap.size=w9.heap.size+2:=by simp
 have abn:=abo.trans (adE.mono abo.size);have Pk:=(abn.block _ (by omega:w.heap.size<w4.heap.size)).trans qB;have sO:=abg.trans (abn.mono abg.size);have hlow:∀k,Ft w9.heap.size ⟨⟨0,me,q,0,T,Ms,0,0,Mo,0,0,0,w7.heap.size,W8.heap.size+1,.slice none 0 0⟩,FP now,M,ff,gg,0,λ_=>none,λ_=> .slice none 0 0,W8.heap.size,[],.slice none 0 0⟩ ⟨me,q,0,0,0,uH me (cmpL J),[],0,λ_=>none,0,0,[],0,[],now,[],[],[],[],false,0⟩ k->w.heap.size<k:=by
  rintro k ((rfl|rfl|hk)|(rfl|(rfl|⟨z,hz,_⟩)|rfl|rfl|hk|hk))
  ·omega
  ·omega
  ·have:=(hTS k hk).1;omega
  ·omega
  ·show _<w7.heap.size;omega
  ·cases hz
  ·show _<W8.heap.size+1;omega
  ·show _<W8.heap.size;omega
  ·cases hk
  ·cases hk
 have BO:w.heap.size<w9.heap.size:=by omega
 clear abj abk abl abo hbN adE abn hM8 l7 lT hT9 hb5 hb6 Ig qB abg hMT hTS Jj hmo hH3 hcmp TV;dsimp only[oJ,oQ,FP]at hn aaF Pk sO hlow;clear hz8 hz9;go_upto_region 6 with(fail);generalize World.alloc (World.alloc _ _) _=W10 at hn aaF Pk sO ⊢;generalize w9.heap.size=N at hn aaF hlow BO ⊢;obtain⟨g,hg⟩:∃z,(⟨⟨0,me,q,0,T,Ms,0,0,Mo,0,0,0,w7.heap.size,W8.heap.size+1,.slice none 0 0⟩,⟨now,.slice none 0 0,⟨#[]⟩,false,.slice none 0 0,.slice none 0 0,.slice none 0 0⟩,M,ff,gg,0,λ_=>none,λ_=> .slice none 0 0,W8.heap.size,[],.slice none 0 0⟩:bI)=z:=⟨_,rfl⟩;rw[hg]at hn hlow;clear hg hz0 hz2 hz3 hz5 hz6 hz7 afC abw og Pe hMs;generalize w7.heap.size=n7;have hend:Hid (∀(g:bI) (W:World),Nd N (N+1) g s9 [] W->Below w.heap.size w W->W.heap[w.heap.size]?=some (.cells #[.string ⟨#[]⟩,.bool false,.slice none 0 0,.slice none 0 0,.slice none 0 0] 52)->(∀k,Ft N g s9 k->w.heap.size<k)->
   Calls Tryz.prog 48 #[.pointer (some ⟨N,0,none⟩),.pointer (some ⟨N+1,0,none⟩)] W λe w6=>∃af kf ac kc ad kd,e=.returned (.agg #[.string s9.finish.bn,.bool s9.finish.bC,.slice af s9.finish.aL.length kf,.slice ac s9.finish.aY.length kc,.slice ad s9.finish.aT.length kd])∧w6.heap[w.heap.size]?=some (.cells #[.string ⟨#[]⟩,.bool false,.slice none 0 0,.slice none 0 0,.slice none 0 0] 52)∧
    ∀W7,w6.grownBy W7 (some w.heap.size)->∃g,Nn N g s9.finish [] W7∧W7.ownsRow w.heap.size 77 2 (.slice af s9.finish.aL.length kf) s9.finish.aL.length (uE s9.finish.aL)∧W7.ownsRow w.heap.size 56 2 (.slice ac s9.finish.aY.length kc) s9.finish.aY.length (uE s9.finish.aY)∧W7.ownsRow w.heap.size 195 1 (.slice ad s9.finish.aT.length kd) s9.finish.aT.length (Jr s9.finish.aT)∧Below w.heap.size w W7∧∀k,Ft N g s9.finish k->w.heap.size<=k):=by
  intro g W n hb hC hl;have hm:=hmid.out;refine(oV n hm.dom (by have:=hm.cnt;omega) (by have:=hm.bA;omega) hm.bd hm.seq).mono ?_;rintro e w6 ⟨g6,rfl,n6,u6,_⟩;obtain⟨af,kf,hf,_⟩:=ak n6.ac.aK;obtain⟨ac,kc,hc,_⟩:=ak n6.ac.bP;obtain⟨ad,kd,hd,_⟩:=ak n6.ac.bQ;have hlw:w.heap.size<W.heap.size:=aG hC;have gD:=(u6.block w.heap.size _ hC (λh=>by have:=hl _ h;omega) (.inr (by omega)));have hl6:∀k,Ft N g6 s9.finish k->w.heap.size<k:=λk hk=>by
   rcases u6.sub k hk with h|h
   ·exact hl k h
   ·omega
  have r1:=ownsRow_base_a n6.ac.aK (show w.heap.size<=N+1+1 by omega);have r2:=ownsRow_base_a n6.ac.bP (show w.heap.size<=N+1+1 by omega);have r3:=ownsRow_base_a n6.ac.bQ (show w.heap.size<=N+1+1 by omega);rw[hf]at r1;rw[hc]at r2;rw[hd]at r3;refine⟨af,kf,ac,kc,ad,kd,by rw[hf,hc,hd];rfl,gD,λW7 hg=>⟨g6,n6.nn.kept λk hk=>hg.block k (n6.nn.lt hk) (λe=>by cases e;have:=hl6 _ hk;omega),r1.kept hg (.inr (aB r1 gD (λc e=>(by cases e)))),r2.kept hg (.inr (aB r2 gD (λc e=>(by cases e)))),r3.kept hg (.inr (aB r3 gD (λc e=>(by cases e)))),?_,λk hk=>by have:=hl6 k hk;omega⟩⟩;have Cf:Below w.heap.size w w6:=⟨u6.os.trans hb.os,u6.tape.trans hb.tape,u6.output.trans hb.output,dH hb.size u6.size,λk hk=>by
   obtain⟨o,ho⟩:∃o,W.heap[k]?=some o:=⟨_,Array.getElem?_eq_getElem (by have:=hb.size;omega)⟩;rw[u6.block k o ho (λh=>by have:=hl _ h;omega) (.inr (by omega)),<-ho];exact hb.block k hk⟩
  exact Cf.grown hg Cf.size (λk e=>by cases e;exact aD _)
 by_cases hx:xs=[]
 ·have hs:(⟨me,q,0,0,0,uH me (cmpL J),[],0,λ_=>none,0,0,[],0,[],now,[],[],[],[],false,0⟩:St)=s9:=by
   rw[<-acW.out,<-hq'.out,<-hgo'.out,<-hJ'.out];unfold St.raw;rw[aQ hx,fA (λh=>h hx)]
  rw[hs]at hn hlow;have hlen:xs.length=0:=by rw[hx];rfl
  have HF:=hide (hend.out g W10 hn sO Pk hlow);clear hend hn hlow sO Pk hs;rw[hlen];go_wp2_with fail;refine aU HF.out ?_;rintro e w6 ⟨af,kf,ac,kc,ad,kd,rfl,gD,HE⟩;rw[hs'.out]at HE ⊢;replace HE:=hide HE;clear hs' HF;obtain⟨z0,z1,z2,z3,z4⟩:=cells5 gD;obtain⟨y0,y1,y2,y3,y4⟩:=yj gD;generalize hjj:s'.bn=jj;replace hjj:=hide hjj;have gV:=ah (ah (ah (ah (ah (aC w6 (some w.heap.size)) 0 (.string jj)) 1 (.bool s'.bC)) 2 (.slice af s'.aL.length kf)) 3 (.slice ac s'.aY.length kc)) 4 (.slice ad s'.aT.length kd);have gJ:(((((w6.setCell ⟨w.heap.size,0,none⟩ (.string jj)).setCell ⟨w.heap.size,1,none⟩ (.bool s'.bC)).setCell ⟨w.heap.size,2,none⟩ (.slice af s'.aL.length kf)).setCell ⟨w.heap.size,3,none⟩ (.slice ac s'.aY.length kc)).setCell ⟨w.heap.size,4,none⟩ (.slice ad s'.aT.length kd)).heap[w.heap.size]?=some (.cells #[.string jj,.bool s'.bC,.slice af s'.aL.length kf,.slice ac s'.aY.length kc,.slice ad s'.aT.length kd] 52):=by
   simp[World.setCell,Array.getElem?_modify,gD]
  have HE7:=hide (HE.out _ gV);clear gV HE;go_wp2;generalize World.setCell _ _ _=W7 at gJ HE7 ⊢;obtain⟨p0,p1,p2,p3,p4⟩:=cells5 gJ;obtain⟨gE,e1,e2,e3,e4,e5,e6⟩:=HE7.out;exact bodyPost_ret (v:=.tuple #[.pointer (some ⟨N,0,none⟩),.agg #[.string jj,.bool s'.bC,.slice af s'.aL.length kf,.slice ac s'.aY.length kc,.slice ad s'.aT.length kd],.int .i64 0]) (by simp[results,Tryz.results19,go_sem,p0,p1,p2,p3,p4]) rfl ⟨N,gE,.slice af s'.aL.length kf,.slice ac s'.aY.length kc,.slice ad s'.aT.length kd,by rw[<-hjj.out];rfl,e1,e2,e3,e4,e5,e6⟩
 ·have hs:({(⟨me,q,0,0,0,uH me (cmpL J),[],0,λ_=>none,0,0,[],0,[],now,[],[],[],[],false,0⟩:St)with cO:=now+2000,bC:=true}:St)=s9:=by
   rw[<-acW.out,<-hq'.out,<-hgo'.out,<-hJ'.out];unfold St.raw;rw[aM hx,gm hx]
  have hlen:(0:Int)<(xs.length:Int):=by
   cases xs with
   |nil=>exact absurd rfl hx
   |cons a l=>simp only[dU];omega
  obtain⟨g2,n2,u2⟩:=Sc hn (now+2000);rw[hs]at n2 u2;have c4:=hn.nn.cr.nd.cell.2.2.2.1;have f4:=hn.nn.cr.nd.free 4;have c5:=hn.ac.blk.cell.2.2.2.1;have f5:=hn.ac.blk.free 3;have hC2:=u2.block w.heap.size _ Pk (λh=>by have:=hlow _ h;omega) (.inr (by omega));have hB2:Below w.heap.size w ((W10.setCell ⟨N,4,none⟩ (.int .u64 (now+2000))).setCell ⟨N+1,3,none⟩ (.bool true)):=⟨u2.os.trans sO.os,u2.tape.trans sO.tape,u2.output.trans sO.output,dH sO.size u2.size,λk hk=>by
   obtain⟨o,ho⟩:∃o,W10.heap[k]?=some o:=⟨_,Array.getElem?_eq_getElem (by omega)⟩;rw[u2.block k o ho (λh=>by have:=hlow _ h;omega) (.inr (by omega)),<-ho];exact sO.block k hk⟩
  have HF:=hide (hend.out g2 _ n2 hB2 hC2 (λk hk=>(u2.sub k hk).elim (hlow k) (by omega)));clear hend hn hlow sO Pk hs n2 u2 hC2 hB2;go_wp2_with fail;refine aU HF.out ?_;rintro e w6 ⟨af,kf,ac,kc,ad,kd,rfl,gD,HE⟩;rw[hs'.out]at HE ⊢;replace HE:=hide HE;clear hs' HF;obtain⟨z0,z1,z2,z3,z4⟩:=cells5 gD;obtain⟨y0,y1,y2,y3,y4⟩:=yj gD;generalize hjj:s'.bn=jj;replace hjj:=hide hjj;have gV:=ah (ah (ah (ah (ah (aC w6 (some w.heap.size)) 0 (.string jj)) 1 (.bool s'.bC)) 2 (.slice af s'.aL.length kf)) 3 (.slice ac s'.aY.length kc)) 4 (.slice ad s'.aT.length kd);have gJ:(((((w6.setCell ⟨w.heap.size,0,none⟩ (.string jj)).setCell ⟨w.heap.size,1,none⟩ (.bool s'.bC)).setCell ⟨w.heap.size,2,none⟩ (.slice af s'.aL.length kf)).setCell ⟨w.heap.size,3,none⟩ (.slice ac s'.aY.length kc)).setCell ⟨w.heap.size,4,none⟩ (.slice ad s'.aT.length kd)).heap[w.heap.size]?=some (.cells #[.string jj,.bool s'.bC,.slice af s'.aL.length kf,.slice ac s'.aY.length kc,.slice ad s'.aT.length kd] 52):=by
   simp[World.setCell,Array.getElem?_modify,gD]
  have HE7:=hide (HE.out _ gV);clear gV HE;go_wp2;generalize World.setCell _ _ _=W7 at gJ HE7 ⊢;obtain⟨p0,p1,p2,p3,p4⟩:=cells5 gJ;obtain⟨gE,e1,e2,e3,e4,e5,e6⟩:=HE7.out;exact bodyPost_ret (v:=.tuple #[.pointer (some ⟨N,0,none⟩),.agg #[.string jj,.bool s'.bC,.slice af s'.aL.length kf,.slice ac s'.aY.length kc,.slice ad s'.aT.length kd],.int .i64 0]) (by simp[results,Tryz.results19,go_sem,p0,p1,p2,p3,p4]) rfl ⟨N,gE,.slice af s'.aL.length kf,.slice ac s'.aY.length kc,.slice ad s'.aT.length kd,by rw[<-hjj.out];rfl,e1,e2,e3,e4,e5,e6⟩
theorem Xd{x0 x1 x2 x4:Int}{r:List Int}(hb:∀x∈r,0<=x∧x<=255)(h0:0<=x0∧x0<=255)(h1:0<=x1∧x1<=255)(h4:0<=x4∧x4<=255):(iX x0 x1 x2 x4 r).Wf:=by
 have hn:=λi=>Mj hb i;have q0:=hn 0;have q1:=hn 1;have q2:=hn 2;have q3:=hn 3;have q4:=hn 4;have hz:(⟨#[]⟩:ByteArray).size=0:=rfl;unfold iX;split
 ·constructor<;>(dsimp only;omega)
 split
 ·constructor<;>(dsimp only;omega)
 split
 ·constructor<;>(dsimp only;omega)
 split
 ·have:(strOfNums ((r.drop 12).take x4.toNat)).size<=255:=by
   rw[strOfNums_size,List.length_take];omega
  constructor<;>(dsimp only;omega)
 ·constructor<;>(dsimp only;omega)
variable{s:St}
def St.Pos(s:St):Prop:=∀q∈s.Q,0<q.id
theorem vg{q:Sr}(h:∀z∈s.Q,z.dest≠q.dest->0<z.id)(ht:0<=s.tl):(s.ask q).Pos∧0<=(s.ask q).tl:=by
 obtain⟨o,h1,h2⟩:=IL s q;refine⟨λz hz=> ?_,by omega⟩;rw[h1]at hz;rcases fI hz with rfl|⟨k1,k2⟩
 ·dsimp only;omega
 ·exact h z k1 k2
theorem CO(s:St)(d:Int):(∀z∈(s.sendAll d).Q,z∈s.Q)∧(s.sendAll d).tl=s.tl:=by
 have ht:∀(l:List ByteArray) (s:St),(l.foldl (λs t=>s.bg d t) s).tl=s.tl:=by
  intro l
  induction l with
  |nil=>intro s;rfl
  |cons a l ih=>
   intro s;rw[gH,ih];unfold St.bg;split<;>rfl
 unfold St.sendAll;split
 ·exact⟨λ_ h=>h,rfl⟩
 ·split
  ·exact⟨λz hz=>(List.mem_filter.1 hz).1,ht _ _⟩
  ·exact⟨λ_ h=>h,rfl⟩
theorem Rx(h:s.Pos)(ht:0<=s.tl)(q:Sr):(s.step q).Pos∧0<=(s.step q).tl:=by
 unfold St.step;split
 ·obtain⟨h1,h2⟩:=CO s q.dest;exact⟨λz hz=>h z (h1 z hz),by omega⟩
 ·split
  ·unfold St.widen;split
   ·exact vg (λz hz _=>h z hz) ht
   ·split
    ·exact vg (λz hz _=>h z hz) ht
    ·split
     ·exact vg (λz hz _=>h z hz) ht
     ·exact⟨λz hz=>h z (List.mem_filter.1 hz).1,ht⟩
  ·exact vg (λz hz _=>h z hz) ht
theorem Xa(h:s.Pos)(ht:0<=s.tl)(now:Int):(s.kU now).Pos:=by
 have key:∀(D:List Sr) (z:St),z.Pos->0<=z.tl->(D.foldl St.step z).Pos:=by
  intro D
  induction D with
  |nil=>intro z h _;exact h
  |cons q D ih=>
   intro z hz htz;rw[gH];obtain⟨h1,h2⟩:=Rx hz htz q;exact ih _ h1 h2
 have h1:=key (St.kS s.Q now) (s.locked.begin now) h ht;intro q hq;refine h1 q ?_;have e:=(aP ((St.kS s.Q now).foldl St.step (s.locked.begin now))).Q;rw[<-e];exact hq
theorem Xb(h:s.Pos)(ht:0<=s.tl)(now d:Int)(t:ByteArray):(s.snd now d t).Pos:=by
 have e:=(aP (if (bN (s.locked.begin now).A d (s.locked.begin now).now).2 then(s.locked.begin now).bg d t else(s.locked.begin now).await d t)).Q;intro q hq;have hq':q∈(if (bN (s.locked.begin now).A d (s.locked.begin now).now).2 then(s.locked.begin now).bg d t else(s.locked.begin now).await d t).Q:=by
  rw[<-e];exact hq
 split at hq'
 ·rw[(gK _ _ _).1]at hq';exact h q hq'
 ·unfold St.await at hq';split at hq'
  ·rename_i q0 hs;have hm:=(jh hs).1;have:∀q':Sr,q'.id=q0.id->∀z∈St.dm s.Q q',0<z.id:=λq' e z hz=>by
    rcases fI hz with rfl|⟨k1,_⟩
    ·rw[e];exact h q0 hm
    ·exact h z k1
   unfold St.hold at hq';split at hq'
   ·exact this {q0 with txt:=q0.txt.tail++ [t]} rfl q hq'
   ·exact this {q0 with txt:=q0.txt++ [t]} rfl q hq'
  ·refine(vg (s:={s.locked.begin now with Q:=(s.locked.begin now).Q++ [St.iQ d t]}) (q:=St.iQ d t) (λz hz hne=> ?_) ht).1 q hq';rcases eu.1 hz with k|k
   ·exact h z k
   ·rw[eZ]at k;rw[k]at hne;exact absurd rfl hne
end Go.Proofs.YtakaadcpaeiccabGreat
