import Derived.Test.YtakaadcpaeiccabGreatC23
set_option maxHeartbeats 4000000
set_option maxRecDepth 100000
namespace Go.Proofs.YtakaadcpaeiccabGreat
open Go.RowKit Go.Maps
theorem mh(W:World)(q:Nat):Below W.heap.size W (W.drewN q):=below_drewN (aU _ _) q
theorem acu{W1:World}{M:Nat}{f:Int->Option Nat}{s:Nat}(hm:fH W1 M f s)(hs:s<=8){x:Bool×Int×Int}(hx:a_ x.2.1)(hf:f x.2.1=none):
  ∀q:Nat×Nat,∃W6,(Instr.mapUpdate 156 (.map (some M)) (.int .u32 x.2.1) (.pointer (some ⟨W1.heap.size,0,none⟩))).run Tryz.prog (((W1.drewN q.1).alloc (bZ (zy x) (.slice none 0 0))).drewN q.2)=.ok () W6∧
   fH W6 M (fA f x.2.1 (some W1.heap.size)) (s+1)∧eu W1.heap.size (zy x) (.slice none 0 0) W6∧W1.grownBy W6 (some M):=by
 intro q;have hb:Below W1.heap.size W1 (((W1.drewN q.1).alloc (bZ (zy x) (.slice none 0 0))).drewN q.2):=below_drewN ((below_drewN (aU _ _) q.1).alloc (aB _) _) q.2;have hm1:=hm.block (hb.block M hm.lt);have hN:eu W1.heap.size (zy x) (.slice none 0 0) (((W1.drewN q.1).alloc (bZ (zy x) (.slice none 0 0))).drewN q.2):=eu.new (zy x) (.slice none 0 0) (W1.drewN q.1);have hMl:=hm.lt;obtain⟨W6,hr,PG,jk⟩:=hm1.put (by unfold maxLen;omega) hx W1.heap.size;rw[hf,aH (by simp)]at PG;exact⟨W6,hr,PG,hN.block (jk.block _ hN.lt (λe=>by cases e;omega)),⟨jk.os.trans hb.os,jk.tape.trans hb.tape,jk.output.trans hb.output,dH hb.size jk.size,λk hk hn=>(jk.block k (fO hk hb.size) hn).trans (hb.block k hk)⟩⟩
theorem Db(me:Int)(ao:Option Addr)(n c:Nat)(L:List (Bool×Int×Int))(hL:L.length=n)(hn:n<=50000)(hbd:qx L)(hfw:Zq L)(w:World)(hA:gN w ao (RC L)):
  Calls Tryz.prog 44 #[.int .u32 me,.slice ao n c] w λe w'=>∃T out,e=.returned (.pointer (some ⟨T,0,none⟩))∧iT (mG L) (qI L) out∧B_ me T (λk=>w.heap.size<=k∧k<w'.heap.size) (um me out) w'∧Below w.heap.size w w':=by
 have hmm:=@run_makeMap Tryz.prog;have hM0:fH ((w.alloc (.map #[] 0)).alloc (.cells #[.int .u32 me,.map (some w.heap.size)] 158)) w.heap.size (λ_=>none) 0:=(fH.made w).block (((aU _ (w.alloc (.map #[] 0))).alloc (aB _) _).block w.heap.size (by simp));have hT0:Gu (w.heap.size+1) me w.heap.size ((w.alloc (.map #[] 0)).alloc (.cells #[.int .u32 me,.map (some w.heap.size)] 158)):=by
  have:=bS (w.alloc (.map #[] 0)) (.cells #[.int .u32 me,.map (some w.heap.size)] 158);rw[World.size_alloc]at this;exact this
 have hb0:Below w.heap.size w ((w.alloc (.map #[] 0)).alloc (.cells #[.int .u32 me,.map (some w.heap.size)] 158)):=(bC).alloc (by simp) _;have hs0:((w.alloc (.map #[] 0)).alloc (.cells #[.int .u32 me,.map (some w.heap.size)] 158)).heap.size=w.heap.size+2:=by simp
 go_enter Tryz.func44,Tryz.ntmps44;go_wp2_with fail;clear hmm;generalize World.alloc _ _=W0 at hM0 hT0 hb0 hs0 ⊢;refine(vO ao n c L hL hn hbd hfw W0 (hA.below hb0)).mono ?_;rintro e w1 ⟨v,out,rfl,hcmp,hol,hrow,hb1⟩;rw[hs0]at hb1 hrow;have hbb:Below w.heap.size w w1:=hb0.trans (hb1.mono (by omega));have hm1:MT me (w.heap.size+1) w.heap.size (λ_=>none) (λ_=> .slice none 0 0) [] w1:=MT.empty (hT0.block (hb1.block _ (by omega))) (hM0.block (hb1.block _ (by omega)));have hs1:=hb1.size;rw[hs0]at hs1;have hris:=Xn hcmp;obtain⟨av,cv,rfl,_⟩:=ay hrow;clear hM0 hT0 hb0 hb1 hs0 hA;go_wp2_with fail;go_loopw [15] (λi wr=>∃(k:Nat) (f:Int->Option Nat) (g:Int->Value),k<=out.length∧i=.int .i64 k∧MT me (w.heap.size+1) w.heap.size f g (um me (out.take k)) wr∧(∀q,mY (w.heap.size+1) w.heap.size f g (um me (out.take k)) q->w.heap.size<=q)∧wr.ownsRow (w.heap.size+2) 82 3 (.slice av out.length cv) out.length (RC out)∧Below w.heap.size w wr) (λi _=>out.length - (intOf i).toNat)
 case atStart=>
  refine⟨0,_,_,b_ _,rfl,hm1,?_,hrow,hbb⟩;rintro q (rfl|rfl|⟨x,hx,_⟩)
  ·omega
  ·omega
  ·cases hx
 case round=>
  clear hrow hbb hm1 hs1;obtain⟨k,f,g,hk,rfl,hM,Bv,hrow,hb⟩:=hrel;by_cases hlt:k<out.length
  ·have hki:(k:Int)<(out.length:Int):=by omega
   obtain⟨x,hx⟩:∃x,out[k]?=some x:=⟨_,cK (by omega)⟩;have hat:∀i z,i<3->([.bool x.1,.int .u32 x.2.1,.int .u32 x.2.2]:List Value)[i]?=some z->(RC out)[k * 3+i]?=some z:=λi z hi hz=>(jh (λx:Bool×Int×Int=>([Value.bool x.1,Value.int .u32 x.2.1,Value.int .u32 x.2.2]:List Value)) 3 (by decide) (λ_=>rfl) out k i hi hx).trans hz;obtain⟨av',cv',hv,hA'⟩:=ay hrow;obtain⟨rfl,rfl⟩:av'=av∧cv'=cv:=by cases hv;exact⟨rfl,rfl⟩
   clear hv;obtain⟨b1,o1,rfl,hj1⟩:=hA' (k * 3+0) _ (hat 0 _ (by decide) rfl);have d0:=hA'.one rfl (hat 0 _ (by decide) rfl);have d1:=hA'.one rfl (hat 1 _ (by decide) rfl);have d2:=hA'.one rfl (hat 2 _ (by decide) rfl);rw[Nat.add_zero]at d0;rw[<-Nat.add_assoc]at d1 d2;have hst:=(show Hid _ from AZ me hx);have hxo:=λh=>SL hbd hcmp (gI hx) h;have hbl:=(show Hid _ from Pd me hris hx);have hln:=(show Hid _ from M4 me out k);generalize hAe:um me (out.take k)=A at hM Bv hst hbl hln;obtain⟨xo,xa,xs⟩:=x;dsimp only at d0 d1 d2 hxo;have hM1:=hM.later ((aU _ wr).alloc (aB _) (aY xo xa xs));have yL:=hrow.alloc (aY xo xa xs);have hb1:=hb.alloc hb.size (aY xo xa xs);have hB1:qJ wr.heap.size xo xa xs (wr.alloc (aY xo xa xs)):=qJ.new xo xa xs wr;have hs1:=hM.map.lt;have Ns:(Cw me (xo,xa,xs)&&decide (A.length<8))=false->Hid (um me (out.take (k+1))=A):=λh=>by
    show _=_;rw[hst.out];exact aH (by rw[h];simp)
   have hadd:(Cw me (xo,xa,xs)&&decide (A.length<8))=true->Hid (um me (out.take (k+1))=A++ [zy (xo,xa,xs)]):=λh=>by
    show _=_;rw[hst.out];exact aM h
   clear hj1 hat hA' hx hM hrow hb hAe hst;have hsz:(wr.alloc (aY xo xa xs)).heap.size=wr.heap.size+1:=by simp
   dsimp only[aY]at hM1 yL hb1 hB1 hsz;have hk1:k+1<=out.length:=by omega
   go_upto_region 5 with(fail);generalize World.alloc _ _=W1 at hM1 yL hb1 hB1 hsz ⊢;obtain⟨c0,c1,c2⟩:=hB1.cell;go_cut [32]from 19 to 32 (λp W6=>p=.bool (Cw me (xo,xa,xs)&&decide (A.length<8))∧W1=W6)
   case first=>
    have hfull:=(show Hid _ from Jc (w.heap.size+1) w.heap.size A.length me f _ hM1.blk hM1.map);have adD:Hid (decide (A.length<8)=!decide (8<=A.length)):=by
     show _=_;by_cases h8:8<=A.length
     ·simp[h8]
     ·simp[h8];omega
    clear Ns hadd hxo hbl hM1 yL hb1;cases xo
    ·cases hxm:(xa !=me)
     ·have hv:Hid ((Cw me (false,xa,xs)&&decide (A.length<8))=false):=by
       show _=_;simp only[Cw,hxm];rfl
      clear hfull;go_wp2_with fail;go_meet;exact⟨(congrArg Value.bool hv.out).symm,rfl⟩
     ·have hv:Hid ((Cw me (false,xa,xs)&&decide (A.length<8))=!decide (8<=A.length)):=by
       show _=_;rw[adD.out];simp only[Cw,hxm];rfl
      clear adD;go_wp2_with fail;refine aT hfull.out ?_;rintro e w3 ⟨rfl,rfl⟩;clear hfull;go_wp2_with fail;go_meet;exact⟨(congrArg Value.bool hv.out).symm,rfl⟩
    ·have hv:Hid ((Cw me (true,xa,xs)&&decide (A.length<8))=false):=by
      show _=_;simp[Cw]
     clear hfull;go_wp2_with fail;go_meet;exact⟨(congrArg Value.bool hv.out).symm,rfl⟩
   case rest=>
    obtain⟨rfl,hW⟩:=hcut;subst hW;have hwk0:Hid (wrap64 ((k:Int)+1)=(k:Int)+1):=by
     show _=_;unfold wrap64;omega
    have hme:Hid (out.length - (intOf (.int .i64 ((k:Int)+1))).toNat<out.length - (intOf (.int .i64 (k:Int))).toNat):=by
     show _<_;simp[intOf];omega
    have TU:Hid (um me (out.take (k+1))=A)->Hid (∃(k':Nat) (f':Int->Option Nat) (g':Int->Value),k'<=out.length∧Value.int .i64 ((k:Int)+1)=.int .i64 k'∧MT me (w.heap.size+1) w.heap.size f' g' (um me (out.take k')) W1∧(∀q,mY (w.heap.size+1) w.heap.size f' g' (um me (out.take k')) q->w.heap.size<=q)∧(W1).ownsRow (w.heap.size+2) 82 3 (.slice (some ⟨b1,o1,none⟩) out.length cv') out.length (RC out)∧Below w.heap.size w W1):=λh=>by
     show ∃k' f' g',_;refine⟨k+1,f,g,hk1,by simp,?_⟩;rw[h.out];exact⟨hM1,Bv,yL,hb1⟩
    have hA8:=hln.out;cases hb:(Cw me (xo,xa,xs)&&decide (A.length<8))
    ·have hsk:=TU (Ns hb);clear Ns hadd TU hb;go_wp2;exact⟨hsk.out,hme.out⟩
    ·have had:=hadd hb;have hp:Cw me (xo,xa,xs)=true:=by revert hb;cases Cw me (xo,xa,xs)<;>simp
     have hl8:A.length<8:=by
      rw[hp,Bool.true_and]at hb;simpa using hb
     obtain rfl:xo=false:=EW hp;have hxu:=hxo rfl;have hbx:∀z∈A,z.dest<xa:=hbl.out hp;have hno:aK A xa=none:=jZ.2 λz hz=>by
      have:=hbx z hz;omega
     obtain⟨V,hV⟩:=Classical.skolem.1 (acu (x:=(false,xa,xs)) hM1.map (by omega) hxu.1 (hM1.off hxu.1 hno));have v00:=(hV (0,0)).1;have v01:=(hV (0,1)).1;have v0n:=λq=>(hV (0,q)).1;have v10:=(hV (1,0)).1;have v11:=(hV (1,1)).1;have v1n:=λq=>(hV (1,q)).1;have vn0:=λq=>(hV (q,0)).1;have vn1:=λq=>(hV (q,1)).1;have vnn:=λq q'=>(hV (q,q')).1;obtain⟨t0,t1⟩:=hM1.blk.cell;dsimp only[bZ,zy]at v00 v01 v0n v10 v11 v1n vn0 vn1 vnn;simp only[World.drewN_zero,<-World.drew_is_drewN]at v00 v01 v0n v10 v11 v1n vn0 vn1;have hre:∀(q:Nat) (B j:Nat) (u:Value),W1.cell? ⟨B,j,none⟩=some u->((W1.drewN q).alloc (.cells #[.int .u32 xa,.int .u32 (gr xs),.int .i64 0,.int .u32 0,.bool false,.int .u64 0,.slice none 0 0] 38)).cell? ⟨B,j,none⟩=some u:=λq B j u h=>Go.cell_later ((mh W1 q).alloc (aB _) _) h;have r1n:=λq=>hre q _ _ _ t1;have r2n:=λq=>hre q _ _ _ c1;have r3n:=λq=>hre q _ _ _ c2;have r10:=r1n 0;have r20:=r2n 0;have r30:=r3n 0;have r11:=r1n 1;have r21:=r2n 1;have r31:=r3n 1;simp only[World.drewN_zero,<-World.drew_is_drewN]at r10 r20 r30 r11 r21 r31;have hfin:Hid (∀q,∃(k':Nat) (f':Int->Option Nat) (g':Int->Value),k'<=out.length∧Value.int .i64 (wrap64 ((k:Int)+1))=.int .i64 k'∧MT me (w.heap.size+1) w.heap.size f' g' (um me (out.take k')) (V q)∧(∀p,mY (w.heap.size+1) w.heap.size f' g' (um me (out.take k')) p->w.heap.size<=p)∧((V q)).ownsRow (w.heap.size+2) 82 3 (.slice (some ⟨b1,o1,none⟩) out.length cv') out.length (RC out)∧Below w.heap.size w (V q)):=λq=>by
      refine⟨k+1,fA f xa (some W1.heap.size),λe=>if e=xa then .slice none 0 0 else g e,hk1,by rw[hwk0.out];simp,?_⟩;rw[had.out];obtain⟨_,PG,Q_,jk⟩:=hV q;have hf:=hM1.fresh (d:=xa) (y:=zy (false,xa,xs)) rfl (M0 hxu.1 hxu.2) rfl (N:=W1.heap.size) (aB _) (w':=V q) (A':=A++ [zy (false,xa,xs)]) Q_ (by rw[dx];exact PG) (λp hp hpM=>jk.block p hp (λe=>hpM (by cases e;rfl))) (λz hz=>by
       rcases dG.1 hz with hz|hz
       ·exact .inr ⟨hz,by have:=hbx z hz;omega⟩
       ·exact .inl (by simpa using hz)) (by simp) (λz hz _=>List.mem_append_left _ hz) (Vi hM1.y_ hbx) (by rw[dx];simp;omega)
      refine⟨hf.1,λp hp=> ?_,?_,?_⟩
      ·rcases hf.2 p hp with h1|rfl
       ·exact Bv p h1
       ·omega
      ·exact bP yL λp hp=>jk.block p (yL.lt p hp).2 (λe=>by
        have h1:=(yL.lt p hp).1;cases e;omega)
      ·exact hb1.grown jk hb1.size (λp e=>by cases e;exact aB _)
     clear hV hno hp hl8 hxo hre hbl Ns hadd had TU hM1 yL hb1 Bv hcmp hris hbd hB1 hs1 hol hL hn hki hk hA8 hln hbx hsz;have aff:Hid (out.length - (intOf (.int .i64 (wrap64 ((k:Int)+1)))).toNat<out.length - (intOf (.int .i64 (k:Int))).toNat):=by
      show _<_;rw[hwk0.out];exact hme.out
     clear hme hwk0;go_wp2_with fail;clear hb;go_region_law (go_simp;go_at_call 42;refine(oL _ _).mono ?_;rintro e w5 ⟨rfl,rfl⟩)
     all_goals
      clear r1n r2n r3n r10 r20 r30 r11 r21 r31 v00 v01 v0n v10 v11 v1n vn0 vn1 vnn c0 c1 c2 t0 t1;go_wp2;exact⟨hfin.out _,aff.out⟩
  ·have hkn:out.length<=k:=by omega
   rw[jD hkn]at hM Bv;clear hrow hkn;go_wp2;go_ret;exact⟨_,out,rfl,hcmp,⟨_,f,g,hM,λq hq=>⟨Bv q hq,hM.lt hq⟩⟩,hb⟩
open Go.MuLone
variable{last:Int}{J:List (Bool×Int×Int)}{A:List Rt}{B M T b:Nat}{v:Value}{W W':World}
theorem Y2(h:qx J):∀(f:Int->Option Int) (c:Option Int) (o:List (Bool×Int×Int)),iT f c o->iT (J.foldl stepM f) (J.foldl lH c) (J.foldl (λo r=>AJ o (norm r)) o):=by
 induction J with
 |nil=>intro f c o h;exact h
 |cons y J ih=>
  intro f c o hc;simp only[fP];exact ih (λz hz=>h z (iJ _ hz)) _ _ _ (hc.put y (MK h (gm ..)).2.1)
theorem NV(h:qx J):iT (mG J) (qI J) (cmpL J):=Y2 h _ _ _ iT.nil
theorem Hy(h:qx J):a_ ((qI J).getD 0):=by
 have:∀(J:List (Bool×Int×Int)) (c:Option Int),qx J->OB c->OB (J.foldl lH c):=by
  intro J
  induction J with
  |nil=>intro c _ h;exact h
  |cons y J ih=>
   intro c hJ hc;rw[fP];exact ih _ (λz hz=>hJ z (iJ _ hz)) (hc.step (MK hJ (gm ..)).2)
 exact(this J none h SI).getD
def St.raw(me:Int)(xs:List Int)(now:Int):St:=
 ⟨me,gr ((qI (jl xs)).getD 0),if xs=[]then 0 else now+2000,0,0,um me (cmpL (jl xs)),[],0,λ_=>none,0,0,[],0,[],now,[],[],[],[],decide (xs≠ []),0⟩
theorem St.uq(me:Int)(xs:List Int)(now:Int):St.new me xs now=(St.raw me xs now).finish:=rfl
theorem Ro:a_ 0:=by unfold a_;omega
theorem ML{me:Int}{xs:List Int}{now:Int}(hU:a_ me)(hbd:qx (jl xs))(fK:0<=now∧now<=4611686018427387904):(St.raw me xs now).Mid 0 0:=
 ⟨hU,uG (Hy hbd),fK,λ_ h=>(by cases h),⟨λ_ _ h=>(by cases h),λ_ h=>(by cases h),Ro⟩,by dsimp only[St.raw];omega,aB _,λ_ h=>(by cases h),aB _,aB _,aB _,by dsimp only[St.raw];omega,by dsimp only[St.raw];omega,b_ _,List.Pairwise.nil,λ_ h=>(by cases h),λ_ h=>(by cases h)⟩
theorem TR.lower{base:Nat}{h:List Hp.Tm}(r:TR base T M last h v W)(hb:b<=base):TR b T M last h v W:=
 ⟨r.blk,ownsRow_base_a r.row hb,r.map,r.ok,dH hb r.bT,dH hb r.bM⟩
theorem MT.later'{me:Int}{f:Int->Option Nat}{g:Int->Value}(h:MT me T M f g A W)(hb:Below W.heap.size W W'):MT me T M f g A W':=h.kept λk hk=>hb.block k (h.lt hk)
theorem TR.later'{h:List Hp.Tm}(r:TR b T M last h v W)(hb:Below W.heap.size W W'):TR b T M last h v W':=
 r.at (hb.block _ r.blk.lt) (by obtain⟨f,p1,_⟩:=r.map;exact hb.block _ p1.lt) λk hk=>hb.block _ (r.row.lt k hk).2
theorem Ij(w:World):
  Calls Tryz.prog 45 #[] w λe w'=>∃Ms,e=.returned (.agg #[.map (some Ms),.int .i64 0])∧Below w.heap.size w w'∧yo Ms 0 [] w'∧w.heap.size<=Ms:=by
 have hmm:=@run_makeMap Tryz.prog;have jM:Below w.heap.size w (w.alloc (.cells #[.map (some (w.heap.size+1)),.int .i64 0] 113)):=bC;have hb:Below w.heap.size w ((w.alloc (.cells #[.map (some (w.heap.size+1)),.int .i64 0] 113)).alloc (.map #[] 0)):=jM.alloc jM.size _;have hC:((w.alloc (.cells #[.map (some (w.heap.size+1)),.int .i64 0] 113)).alloc (.map #[] 0)).heap[w.heap.size]?=some (.cells #[.map (some (w.heap.size+1)),.int .i64 0] 113):=(((aU _ (w.alloc (.cells #[.map (some (w.heap.size+1)),.int .i64 0] 113))).alloc (aB _) _).block w.heap.size (by simp)).trans (bS _ _);have hM:=yo.made (w.alloc (.cells #[.map (some (w.heap.size+1)),.int .i64 0] 113));rw[World.size_alloc]at hM;go_enter Tryz.func45,Tryz.ntmps45;go_wp2;generalize World.alloc (World.alloc _ _) _=W at hb hC hM ⊢;have p0:W.cell? ⟨w.heap.size,0,none⟩=some (.map (some (w.heap.size+1))):=aG _ _ 0 _ _ _ hC;have p1:W.cell? ⟨w.heap.size,1,none⟩=some (.int .i64 0):=aG _ _ 1 _ _ _ hC;exact bodyPost_ret (v:=.agg #[.map (some (w.heap.size+1)),.int .i64 0]) (by simp[results,Tryz.results45,go_sem,p0,p1]) rfl ⟨_,rfl,hb,hM,Nat.le_succ _⟩
theorem E8(w:World):
  Calls Tryz.prog 46 #[] w λe w'=>∃Mo,e=.returned (.agg #[.int .u32 0,.map (some Mo),.int .i64 0])∧Below w.heap.size w w'∧MapU w' Mo (λ_=>none) 0∧w.heap.size<=Mo:=by
 have hmm:=@run_makeMap Tryz.prog;have jM:Below w.heap.size w (w.alloc (.cells #[.int .u32 0,.map (some (w.heap.size+1)),.int .i64 0] 117)):=bC;have hb:Below w.heap.size w ((w.alloc (.cells #[.int .u32 0,.map (some (w.heap.size+1)),.int .i64 0] 117)).alloc (.map #[] 0)):=jM.alloc jM.size _;have hC:((w.alloc (.cells #[.int .u32 0,.map (some (w.heap.size+1)),.int .i64 0] 117)).alloc (.map #[] 0)).heap[w.heap.size]?=some (.cells #[.int .u32 0,.map (some (w.heap.size+1)),.int .i64 0] 117):=(((aU _ (w.alloc (.cells #[.int .u32 0,.map (some (w.heap.size+1)),.int .i64 0] 117))).alloc (aB _) _).block w.heap.size (by simp)).trans (bS _ _);have hM:=MapU.made (w.alloc (.cells #[.int .u32 0,.map (some (w.heap.size+1)),.int .i64 0] 117));rw[World.size_alloc]at hM;go_enter Tryz.func46,Tryz.ntmps46;go_wp2;generalize World.alloc (World.alloc _ _) _=W at hb hC hM ⊢;have p0:W.cell? ⟨w.heap.size,0,none⟩=some (.int .u32 0):=aG _ _ 0 _ _ _ hC;have p1:W.cell? ⟨w.heap.size,1,none⟩=some (.map (some (w.heap.size+1))):=aG _ _ 1 _ _ _ hC;have p2:W.cell? ⟨w.heap.size,2,none⟩=some (.int .i64 0):=aG _ _ 2 _ _ _ hC;exact bodyPost_ret (v:=.agg #[.int .u32 0,.map (some (w.heap.size+1)),.int .i64 0]) (by simp[results,Tryz.results46,go_sem,p0,p1,p2]) rfl ⟨_,rfl,hb,hM,Nat.le_succ _⟩
def agc(s:St)(w:World)(e:Ending)(w':World):Prop:=
 ∃N g aJ bL bO,e=.returned (.tuple #[.pointer (some ⟨N,0,none⟩),iZ s.aZ s.bn aJ bL bO,.int .i64 0])∧Nn N g s [] w'∧w'.ownsRow w.heap.size 77 2 aJ s.aI.length (uL s.aI)∧w'.ownsRow w.heap.size 56 2 bL s.aR.length (uL s.aR)∧w'.ownsRow w.heap.size 195 1 bO s.aQ.length (J6 s.aQ)∧Below w.heap.size w w'∧∀k,Ft N g s k->w.heap.size<=k
theorem XJ{me q:Int}{Ms Mo Mr:Nat}{ff:Int->Option Nat}{gg:Int->Value}{w9:World}(now:Int)(hMT:MT me T M ff gg A w9)(JW:yo Ms 0 [] w9)(P9:MapU w9 Mo (λ_=>none) 0)(Yp:fH w9 Mr (λ_=>none) 0)(Q9:TR 0 (B+1) B 0 [] (.slice none 0 0) w9)(h1:M<Ms)(h2:Ms<Mo)(h3:Mo<Mr)(h4:Mr<B):
  Nd w9.heap.size (w9.heap.size+1) ⟨⟨0,me,q,0,T,Ms,0,0,Mo,0,0,0,Mr,B+1,.slice none 0 0⟩,Gt now,M,ff,gg,0,λ_=>none,λ_=> .slice none 0 0,B,[],.slice none 0 0⟩ ⟨me,q,0,0,0,A,[],0,λ_=>none,0,0,[],0,[],now,[],[],[],[],false,0⟩ [] ((w9.alloc (oG ⟨0,me,q,0,T,Ms,0,0,Mo,0,0,0,Mr,B+1,.slice none 0 0⟩)).alloc (oP (Gt now))):=by
 have hb1:Below w9.heap.size w9 (w9.alloc (oG ⟨0,me,q,0,T,Ms,0,0,Mo,0,0,0,Mr,B+1,.slice none 0 0⟩)):=bC;have hn1:=bS w9 (oG ⟨0,me,q,0,T,Ms,0,0,Mo,0,0,0,Mr,B+1,.slice none 0 0⟩);have hsz:(w9.alloc (oG ⟨0,me,q,0,T,Ms,0,0,Mo,0,0,0,Mr,B+1,.slice none 0 0⟩)).heap.size=w9.heap.size+1:=by simp
 generalize w9.alloc (oG ⟨0,me,q,0,T,Ms,0,0,Mo,0,0,0,Mr,B+1,.slice none 0 0⟩)=W1 at hb1 hn1 hsz ⊢;have nn1:Nn w9.heap.size ⟨⟨0,me,q,0,T,Ms,0,0,Mo,0,0,0,Mr,B+1,.slice none 0 0⟩,Gt now,M,ff,gg,0,λ_=>none,λ_=> .slice none 0 0,B,[],.slice none 0 0⟩ ⟨me,q,0,0,0,A,[],0,λ_=>none,0,0,[],0,[],now,[],[],[],[],false,0⟩ [] W1:=
  ⟨⟨hn1,P9.block (hb1.block _ P9.lt),hMT.later' hb1,by dsimp only;omega⟩,⟨rfl,rfl,rfl,rfl,rfl,rfl,rfl,rfl,rfl⟩,
  ⟨JW.block (hb1.block _ JW.lt),⟨Yp.block (hb1.block _ Yp.lt),List.Pairwise.nil,λ_ h=>(by cases h),λ_ _ _ h=>(by cases h),λ_ h=>(by cases h),λ_ h=>(by cases h),λ_ h=>(by cases h),b_ _⟩,Q9.later' hb1,(λ_ _ h=>absurd h (Nat.not_lt_zero _)),List.Perm.refl _,⟨rfl,.inl ⟨rfl,rfl⟩⟩⟩,
  by
   have e1:M≠Mo:=by omega
   have e2:M≠Ms:=by omega
   have e3:M≠Mr:=by omega
   have e4:M≠B:=by omega
   have e5:Mo≠Ms:=by omega
   have e6:Mo≠Mr:=by omega
   have e7:Mo≠B:=by omega
   have e8:Ms≠Mr:=by omega
   have e9:Ms≠B:=by omega
   have e10:Mr≠B:=by omega
   simp[e1,e2,e3,e4,e5,e6,e7,e8,e9,e10],by dsimp only;omega⟩
 have hb2:Below W1.heap.size W1 (W1.alloc (oP (Gt now))):=bC;have ha:=jI.zero now W1;rw[hsz]at ha;exact⟨nn1.later hb2,ha,rfl,rfl⟩
theorem jI.Ki{base:Nat}{a:qy}{bg:List (Bool×Int×Int)}{aI aR:List (Int×ByteArray)}{aQ:List Int}(h:jI B base a bg aI aR aQ W)(b:Bool):
  jI B base {a with bn:=b} bg aI aR aQ (W.setCell ⟨B,3,none⟩ (.bool b))∧W.grownBy (W.setCell ⟨B,3,none⟩ (.bool b)) (some B):=by
 have hg:=ah (aC W (some B)) 3 (.bool b);exact⟨⟨h.blk.RH b,h.nT.kept hg (.inr (aA h.nT h.blk (λc e=>(by cases e)))),h.aJ.kept hg (.inr (aA h.aJ h.blk (λc e=>(by cases e)))),h.bL.kept hg (.inr (aA h.bL h.blk (λc e=>(by cases e)))),h.bO.kept hg (.inr (aA h.bO h.blk (λc e=>(by cases e))))⟩,hg⟩
theorem S9{N:Nat}{g:bI}{s:St}(n:Nd N B g s [] W)(v:Int):
  ∃g',Nd N B g' {s with cZ:=v,bn:=true} [] ((W.setCell ⟨N,4,none⟩ (.int .u64 v)).setCell ⟨B,3,none⟩ (.bool true))∧Up B (Ft N g s) (Ft N g' {s with cZ:=v,bn:=true}) W ((W.setCell ⟨N,4,none⟩ (.int .u64 v)).setCell ⟨B,3,none⟩ (.bool true)):=by
 have e:=n.nn.eq;obtain⟨n1,u1⟩:=n.cells (s':={s with cZ:=v}) (n.nn.cr.nd.RF v) (Fx.grown (ah (aC W (some N)) 4 _) λk h=>by cases h;rfl) ⟨e.self,e.seq,rfl,e.dm,e.eG,e.tn,e.own,e.cnt,e.lk⟩ ⟨rfl,rfl,rfl,rfl,rfl,rfl⟩ ⟨rfl,rfl,rfl,rfl,rfl,rfl,rfl,rfl,rfl⟩ ⟨rfl,rfl,rfl,rfl,rfl⟩;obtain⟨a2,hg2⟩:=n1.ac.Ki true;obtain⟨n2,u2⟩:=n1.act (s':={s with cZ:=v,bn:=true}) a2 (Fx.grown hg2 λk h=>by cases h;exact .inl rfl) ⟨rfl,rfl,rfl,rfl,rfl,rfl,rfl,rfl,rfl,rfl,rfl,rfl,rfl,rfl,rfl⟩ n1.now rfl;exact⟨_,n2,u1.trans u2⟩
theorem QS(me now:Int)(hU:a_ me)(hself:me≠0)(v:Value)(xs:List Int)(w:World)(hv:fe w v xs)(hx1:xs.length<=100000)(hjb:qx (jl xs))(hfw:Zq (jl xs))(hjl:(jl xs).length<=50000)(fK:0<=now∧now<=4611686018427387904):
  Calls Tryz.prog 19 #[.int .u32 me,v,.int .u64 now] w λe w'=>agc (St.new me xs now) w e w':=by
 have hs0:(me==0)=false:=by simpa using hself
 have hmm:=@run_makeMap Tryz.prog;have hb0:Below w.heap.size w (w.alloc je):=bC;have hC0:(w.alloc je).heap[w.heap.size]?=some je:=bS _ _;have hz0:w.heap.size+1<=(w.alloc je).heap.size:=by simp
 obtain⟨av,cv,rfl⟩:∃a c,v=.slice a xs.length c:=by
  rcases hv.2 with⟨rfl,rfl⟩|⟨b,o,c,rfl,_⟩
  ·exact⟨_,_,rfl⟩
  ·exact⟨_,_,rfl⟩
 have HR:=(show Hid _ from λW hW=>zJ (.slice av xs.length cv) xs (by omega) W (hv.kept hW));have hmid:=hide (ML (xs:=xs) hU hjb fK);obtain⟨s9,rz⟩:∃z,St.raw me xs now=z:=⟨_,rfl⟩;have adk:=hide rz;rw[rz]at hmid;have hnew:St.new me xs now=s9.finish:=by rw[<-rz];rfl
 rw[hnew];obtain⟨s',hs'⟩:∃z,s9.finish=z:=⟨_,rfl⟩;rw[hs'];replace hs':=hide hs';clear hnew rz;have Uq:=hide (NV hjb);dsimp only[je]at hb0 hC0 hz0;clear hv;go_enter Tryz.func19,Tryz.ntmps19;go_upto_region 1 with(fail);generalize World.alloc _ _=W1 at hb0 hC0 hz0 ⊢;go_wp2_with fail;refine aT (HR.out W1 hb0) ?_;rintro e w2 ⟨u,rfl,hb2,hu⟩;obtain⟨au,cu,rfl,hH⟩:=ay hu;generalize hJ:(jl xs)=J at hjb hfw hjl hH hu Uq;have hJ':=hide hJ;clear hJ HR;have abC:=hb0.trans (hb2.mono hb0.size);have hC2:=(hb2.block _ (by omega:w.heap.size<W1.heap.size)).trans hC0;have hz2:=hb2.size;go_wp2_with fail;refine aT (zD au J.length cu J rfl (by omega) hjb w2 hH) ?_;rintro e w3 ⟨rfl,hb3⟩;generalize hgo:(qI J).getD 0=g0;have hgo':=hide hgo;clear hgo;go_wp2_with fail;refine aT (oL g0 w3) ?_;rintro e w4 ⟨rfl,rfl⟩;have hH3:=hH.below hb3;have abB:=abC.trans (hb3.mono abC.size);have qC:=(hb3.block _ (by omega:w.heap.size<w2.heap.size)).trans hC2;have hz3:=hb3.size;generalize hq:gr g0=q;have hq':=hide hq;clear hq hC0 hC2 hH hu abC hb0 hb2 hb3;go_wp2_with fail;refine aT (Db me au J.length cu J rfl hjl hjb hfw w4 hH3) ?_;rintro e w5 ⟨T,out,rfl,hcmp,⟨M,ff,gg,hMT,hTS⟩,hb5⟩;obtain rfl:out=cmpL J:=hcmp.unique Uq.out;go_wp2_with fail;refine aT (Ij w5) ?_;rintro e w6 ⟨Ms,rfl,hb6,JW,hMs⟩;go_wp2_with fail;refine aT (E8 w6) ?_;rintro e w7 ⟨Mo,rfl,JV,hmo,P9⟩;have nZ:=hMT.map.lt;have hM8:=fH.made w7;have r_:Below w7.heap.size w7 (w7.alloc (.map #[] 0)):=bC;have hz8:(w7.alloc (.map #[] 0)).heap.size=w7.heap.size+1:=by simp
 go_wp2_with fail;generalize World.alloc _ _=W8 at hM8 r_ hz8 ⊢;refine aT (Da W8) ?_;rintro e w9 ⟨rfl,nY,hT9⟩;have hz5:=hb5.size;have hz6:=hb6.size;have hz7:=JV.size;have hz9:=nY.size;have abD:=r_.trans (nY.mono r_.size);have abE:=JV.trans (abD.mono JV.size);have abF:=hb6.trans (abE.mono hb6.size);have abI:=hb5.trans (abF.mono hb5.size);have afK:=hmo.lt;have abN:=JW.lt;have hn:=XJ (q:=q) now (hMT.later' abF) (JW.block (abE.block _ JW.lt)) (hmo.block (abD.block _ hmo.lt)) (hM8.block (nY.block _ (by omega))) (hT9.lower (b_ _)) (by omega) (by omega) (by omega) (by omega);have hbN:Below w9.heap.size w9 (w9.alloc (oG ⟨0,me,q,0,T,Ms,0,0,Mo,0,0,0,w7.heap.size,W8.heap.size+1,.slice none 0 0⟩)):=bC;have adU:Below w9.heap.size w9 ((w9.alloc (oG ⟨0,me,q,0,T,Ms,0,0,Mo,0,0,0,w7.heap.size,W8.heap.size+1,.slice none 0 0⟩)).alloc (oP (Gt now))):=hbN.alloc hbN.size _;have aaZ:((w9.alloc (oG ⟨0,me,q,0,T,Ms,0,0,Mo,0,0,0,w7.heap.size,W8.heap.size+1,.slice none 0 0⟩)).alloc (oP (Gt now))).heap.size=w9.heap.size+2:=by simp
 have abH:=abI.trans (adU.mono abI.size);have Qd:=(abH.block _ (by omega:w.heap.size<w4.heap.size)).trans qC;have sZ:=abB.trans (abH.mono abB.size);have hlow:∀k,Ft w9.heap.size ⟨⟨0,me,q,0,T,Ms,0,0,Mo,0,0,0,w7.heap.size,W8.heap.size+1,.slice none 0 0⟩,Gt now,M,ff,gg,0,λ_=>none,λ_=> .slice none 0 0,W8.heap.size,[],.slice none 0 0⟩ ⟨me,q,0,0,0,um me (cmpL J),[],0,λ_=>none,0,0,[],0,[],now,[],[],[],[],false,0⟩ k->w.heap.size<k:=by
  rintro k ((rfl|rfl|hk)|(rfl|(rfl|⟨z,hz,_⟩)|rfl|rfl|hk|hk))
  ·omega
  ·omega
  ·have:=(hTS k hk).1;omega
  ·omega
  ·show _<w7.heap.size;omega
  ·cases hz
  ·show _<W8.heap.size+1;omega
  ·show _<W8.heap.size;omega
  ·cases hk
  ·cases hk
 have Cz:w.heap.size<w9.heap.size:=by omega
 clear abD abE abF abI hbN adU abH hM8 r_ nY hT9 hb5 hb6 JV qC abB hMT hTS JW hmo hH3 hcmp Uq;dsimp only[oG,oP,Gt]at hn aaZ Qd sZ hlow;clear hz8 hz9;go_upto_region 6 with(fail);generalize World.alloc (World.alloc _ _) _=W10 at hn aaZ Qd sZ ⊢;generalize w9.heap.size=N at hn aaZ hlow Cz ⊢;obtain⟨g,hg⟩:∃z,(⟨⟨0,me,q,0,T,Ms,0,0,Mo,0,0,0,w7.heap.size,W8.heap.size+1,.slice none 0 0⟩,⟨now,.slice none 0 0,⟨#[]⟩,false,.slice none 0 0,.slice none 0 0,.slice none 0 0⟩,M,ff,gg,0,λ_=>none,λ_=> .slice none 0 0,W8.heap.size,[],.slice none 0 0⟩:bI)=z:=⟨_,rfl⟩;rw[hg]at hn hlow;clear hg hz0 hz2 hz3 hz5 hz6 hz7 afK abN nZ P9 hMs;generalize w7.heap.size=n7;have hend:Hid (∀(g:bI) (W:World),Nd N (N+1) g s9 [] W->Below w.heap.size w W->W.heap[w.heap.size]?=some (.cells #[.string ⟨#[]⟩,.bool false,.slice none 0 0,.slice none 0 0,.slice none 0 0] 52)->(∀k,Ft N g s9 k->w.heap.size<k)->
   Calls Tryz.prog 48 #[.pointer (some ⟨N,0,none⟩),.pointer (some ⟨N+1,0,none⟩)] W λe w6=>∃af kf ac kc ad kd,e=.returned (.agg #[.string s9.finish.aZ,.bool s9.finish.bn,.slice af s9.finish.aI.length kf,.slice ac s9.finish.aR.length kc,.slice ad s9.finish.aQ.length kd])∧w6.heap[w.heap.size]?=some (.cells #[.string ⟨#[]⟩,.bool false,.slice none 0 0,.slice none 0 0,.slice none 0 0] 52)∧
    ∀W7,w6.grownBy W7 (some w.heap.size)->∃g,Nn N g s9.finish [] W7∧W7.ownsRow w.heap.size 77 2 (.slice af s9.finish.aI.length kf) s9.finish.aI.length (uL s9.finish.aI)∧W7.ownsRow w.heap.size 56 2 (.slice ac s9.finish.aR.length kc) s9.finish.aR.length (uL s9.finish.aR)∧W7.ownsRow w.heap.size 195 1 (.slice ad s9.finish.aQ.length kd) s9.finish.aQ.length (J6 s9.finish.aQ)∧Below w.heap.size w W7∧∀k,Ft N g s9.finish k->w.heap.size<=k):=by
  intro g W n hb hC hl;have hm:=hmid.out;refine(oU n hm.dom (by have:=hm.cnt;omega) (by have:=hm.bg;omega) hm.bd hm.seq).mono ?_;rintro e w6 ⟨g6,rfl,n6,u6,_⟩;obtain⟨af,kf,hf,_⟩:=ay n6.ac.aJ;obtain⟨ac,kc,hc,_⟩:=ay n6.ac.bL;obtain⟨ad,kd,hd,_⟩:=ay n6.ac.bO;have hlw:w.heap.size<W.heap.size:=aF hC;have gG:=(u6.block w.heap.size _ hC (λh=>by have:=hl _ h;omega) (.inr (by omega)));have hl6:∀k,Ft N g6 s9.finish k->w.heap.size<k:=λk hk=>by
   rcases u6.sub k hk with h|h
   ·exact hl k h
   ·omega
  have r1:=ownsRow_base_a n6.ac.aJ (show w.heap.size<=N+1+1 by omega);have r2:=ownsRow_base_a n6.ac.bL (show w.heap.size<=N+1+1 by omega);have r3:=ownsRow_base_a n6.ac.bO (show w.heap.size<=N+1+1 by omega);rw[hf]at r1;rw[hc]at r2;rw[hd]at r3;refine⟨af,kf,ac,kc,ad,kd,by rw[hf,hc,hd];rfl,gG,λW7 hg=>⟨g6,n6.nn.kept λk hk=>hg.block k (n6.nn.lt hk) (λe=>by cases e;have:=hl6 _ hk;omega),r1.kept hg (.inr (aA r1 gG (λc e=>(by cases e)))),r2.kept hg (.inr (aA r2 gG (λc e=>(by cases e)))),r3.kept hg (.inr (aA r3 gG (λc e=>(by cases e)))),?_,λk hk=>by have:=hl6 k hk;omega⟩⟩;have CX:Below w.heap.size w w6:=⟨u6.os.trans hb.os,u6.tape.trans hb.tape,u6.output.trans hb.output,dH hb.size u6.size,λk hk=>by
   obtain⟨o,ho⟩:∃o,W.heap[k]?=some o:=⟨_,Array.getElem?_eq_getElem (by have:=hb.size;omega)⟩;rw[u6.block k o ho (λh=>by have:=hl _ h;omega) (.inr (by omega)),<-ho];exact hb.block k hk⟩
  exact CX.grown hg CX.size (λk e=>by cases e;exact aB _)
 by_cases hx:xs=[]
 ·have hs:(⟨me,q,0,0,0,um me (cmpL J),[],0,λ_=>none,0,0,[],0,[],now,[],[],[],[],false,0⟩:St)=s9:=by
   rw[<-adk.out,<-hq'.out,<-hgo'.out,<-hJ'.out];unfold St.raw;rw[aM hx,fD (λh=>h hx)]
  rw[hs]at hn hlow;have hlen:xs.length=0:=by rw[hx];rfl
  have HF:=hide (hend.out g W10 hn sZ Qd hlow);clear hend hn hlow sZ Qd hs;rw[hlen];go_wp2_with fail;refine aT HF.out ?_;rintro e w6 ⟨af,kf,ac,kc,ad,kd,rfl,gG,HE⟩;rw[hs'.out]at HE ⊢;replace HE:=hide HE;clear hs' HF;obtain⟨z0,z1,z2,z3,z4⟩:=cells5 gG;obtain⟨y0,y1,y2,y3,y4⟩:=yS gG;generalize hjj:s'.aZ=jj;replace hjj:=hide hjj;have g_:=ah (ah (ah (ah (ah (aC w6 (some w.heap.size)) 0 (.string jj)) 1 (.bool s'.bn)) 2 (.slice af s'.aI.length kf)) 3 (.slice ac s'.aR.length kc)) 4 (.slice ad s'.aQ.length kd);have gL:(((((w6.setCell ⟨w.heap.size,0,none⟩ (.string jj)).setCell ⟨w.heap.size,1,none⟩ (.bool s'.bn)).setCell ⟨w.heap.size,2,none⟩ (.slice af s'.aI.length kf)).setCell ⟨w.heap.size,3,none⟩ (.slice ac s'.aR.length kc)).setCell ⟨w.heap.size,4,none⟩ (.slice ad s'.aQ.length kd)).heap[w.heap.size]?=some (.cells #[.string jj,.bool s'.bn,.slice af s'.aI.length kf,.slice ac s'.aR.length kc,.slice ad s'.aQ.length kd] 52):=by
   simp[World.setCell,Array.getElem?_modify,gG]
  have HE7:=hide (HE.out _ g_);clear g_ HE;go_wp2;generalize World.setCell _ _ _=W7 at gL HE7 ⊢;obtain⟨p0,p1,p2,p3,p4⟩:=cells5 gL;obtain⟨gE,e1,e2,e3,e4,e5,e6⟩:=HE7.out;exact bodyPost_ret (v:=.tuple #[.pointer (some ⟨N,0,none⟩),.agg #[.string jj,.bool s'.bn,.slice af s'.aI.length kf,.slice ac s'.aR.length kc,.slice ad s'.aQ.length kd],.int .i64 0]) (by simp[results,Tryz.results19,go_sem,p0,p1,p2,p3,p4]) rfl ⟨N,gE,.slice af s'.aI.length kf,.slice ac s'.aR.length kc,.slice ad s'.aQ.length kd,by rw[<-hjj.out];rfl,e1,e2,e3,e4,e5,e6⟩
 ·have hs:({(⟨me,q,0,0,0,um me (cmpL J),[],0,λ_=>none,0,0,[],0,[],now,[],[],[],[],false,0⟩:St)with cZ:=now+2000,bn:=true}:St)=s9:=by
   rw[<-adk.out,<-hq'.out,<-hgo'.out,<-hJ'.out];unfold St.raw;rw[aH hx,gu hx]
  have hlen:(0:Int)<(xs.length:Int):=by
   cases xs with
   |nil=>exact absurd rfl hx
   |cons a l=>simp only[dY];omega
  obtain⟨g2,n2,u2⟩:=S9 hn (now+2000);rw[hs]at n2 u2;have c4:=hn.nn.cr.nd.cell.2.2.2.1;have f4:=hn.nn.cr.nd.free 4;have c5:=hn.ac.blk.cell.2.2.2.1;have f5:=hn.ac.blk.free 3;have hC2:=u2.block w.heap.size _ Qd (λh=>by have:=hlow _ h;omega) (.inr (by omega));have hB2:Below w.heap.size w ((W10.setCell ⟨N,4,none⟩ (.int .u64 (now+2000))).setCell ⟨N+1,3,none⟩ (.bool true)):=⟨u2.os.trans sZ.os,u2.tape.trans sZ.tape,u2.output.trans sZ.output,dH sZ.size u2.size,λk hk=>by
   obtain⟨o,ho⟩:∃o,W10.heap[k]?=some o:=⟨_,Array.getElem?_eq_getElem (by omega)⟩;rw[u2.block k o ho (λh=>by have:=hlow _ h;omega) (.inr (by omega)),<-ho];exact sZ.block k hk⟩
  have HF:=hide (hend.out g2 _ n2 hB2 hC2 (λk hk=>(u2.sub k hk).elim (hlow k) (by omega)));clear hend hn hlow sZ Qd hs n2 u2 hC2 hB2;go_wp2_with fail;refine aT HF.out ?_;rintro e w6 ⟨af,kf,ac,kc,ad,kd,rfl,gG,HE⟩;rw[hs'.out]at HE ⊢;replace HE:=hide HE;clear hs' HF;obtain⟨z0,z1,z2,z3,z4⟩:=cells5 gG;obtain⟨y0,y1,y2,y3,y4⟩:=yS gG;generalize hjj:s'.aZ=jj;replace hjj:=hide hjj;have g_:=ah (ah (ah (ah (ah (aC w6 (some w.heap.size)) 0 (.string jj)) 1 (.bool s'.bn)) 2 (.slice af s'.aI.length kf)) 3 (.slice ac s'.aR.length kc)) 4 (.slice ad s'.aQ.length kd);have gL:(((((w6.setCell ⟨w.heap.size,0,none⟩ (.string jj)).setCell ⟨w.heap.size,1,none⟩ (.bool s'.bn)).setCell ⟨w.heap.size,2,none⟩ (.slice af s'.aI.length kf)).setCell ⟨w.heap.size,3,none⟩ (.slice ac s'.aR.length kc)).setCell ⟨w.heap.size,4,none⟩ (.slice ad s'.aQ.length kd)).heap[w.heap.size]?=some (.cells #[.string jj,.bool s'.bn,.slice af s'.aI.length kf,.slice ac s'.aR.length kc,.slice ad s'.aQ.length kd] 52):=by
   simp[World.setCell,Array.getElem?_modify,gG]
  have HE7:=hide (HE.out _ g_);clear g_ HE;go_wp2;generalize World.setCell _ _ _=W7 at gL HE7 ⊢;obtain⟨p0,p1,p2,p3,p4⟩:=cells5 gL;obtain⟨gE,e1,e2,e3,e4,e5,e6⟩:=HE7.out;exact bodyPost_ret (v:=.tuple #[.pointer (some ⟨N,0,none⟩),.agg #[.string jj,.bool s'.bn,.slice af s'.aI.length kf,.slice ac s'.aR.length kc,.slice ad s'.aQ.length kd],.int .i64 0]) (by simp[results,Tryz.results19,go_sem,p0,p1,p2,p3,p4]) rfl ⟨N,gE,.slice af s'.aI.length kf,.slice ac s'.aR.length kc,.slice ad s'.aQ.length kd,by rw[<-hjj.out];rfl,e1,e2,e3,e4,e5,e6⟩
theorem Xx{x0 x1 x2 x4:Int}{r:List Int}(hb:∀x∈r,0<=x∧x<=255)(h0:0<=x0∧x0<=255)(h1:0<=x1∧x1<=255)(h4:0<=x4∧x4<=255):(iY x0 x1 x2 x4 r).Wf:=by
 have hn:=λi=>M6 hb i;have q0:=hn 0;have q1:=hn 1;have q2:=hn 2;have q3:=hn 3;have q4:=hn 4;have hz:(⟨#[]⟩:ByteArray).size=0:=rfl;unfold iY;split
 ·constructor<;>(dsimp only;omega)
 split
 ·constructor<;>(dsimp only;omega)
 split
 ·constructor<;>(dsimp only;omega)
 split
 ·have:(strOfNums ((r.drop 12).take x4.toNat)).size<=255:=by
   rw[strOfNums_size,List.length_take];omega
  constructor<;>(dsimp only;omega)
 ·constructor<;>(dsimp only;omega)
variable{s:St}
def St.Pos(s:St):Prop:=∀q∈s.Q,0<q.id
theorem vG{q:Sr}(h:∀z∈s.Q,z.dest≠q.dest->0<z.id)(ht:0<=s.tl):(s.ask q).Pos∧0<=(s.ask q).tl:=by
 obtain⟨o,h1,h2⟩:=Ef s q;refine⟨λz hz=> ?_,by omega⟩;rw[h1]at hz;rcases fB hz with rfl|⟨k1,k2⟩
 ·dsimp only;omega
 ·exact h z k1 k2
theorem xw(s:St)(d:Int):(∀z∈(s.sendAll d).Q,z∈s.Q)∧(s.sendAll d).tl=s.tl:=by
 have ht:∀(l:List ByteArray) (s:St),(l.foldl (λs t=>s.aN d t) s).tl=s.tl:=by
  intro l
  induction l with
  |nil=>intro s;rfl
  |cons a l ih=>
   intro s;rw[fP,ih];unfold St.aN;split<;>rfl
 unfold St.sendAll;split
 ·exact⟨λ_ h=>h,rfl⟩
 ·split
  ·exact⟨λz hz=>(List.mem_filter.1 hz).1,ht _ _⟩
  ·exact⟨λ_ h=>h,rfl⟩
theorem R_(h:s.Pos)(ht:0<=s.tl)(q:Sr):(s.step q).Pos∧0<=(s.step q).tl:=by
 unfold St.step;split
 ·obtain⟨h1,h2⟩:=xw s q.dest;exact⟨λz hz=>h z (h1 z hz),by omega⟩
 ·split
  ·unfold St.widen;split
   ·exact vG (λz hz _=>h z hz) ht
   ·split
    ·exact vG (λz hz _=>h z hz) ht
    ·split
     ·exact vG (λz hz _=>h z hz) ht
     ·exact⟨λz hz=>h z (List.mem_filter.1 hz).1,ht⟩
  ·exact vG (λz hz _=>h z hz) ht
theorem Xv(h:s.Pos)(ht:0<=s.tl)(now:Int):(s.jY now).Pos:=by
 have key:∀(D:List Sr) (z:St),z.Pos->0<=z.tl->(D.foldl St.step z).Pos:=by
  intro D
  induction D with
  |nil=>intro z h _;exact h
  |cons q D ih=>
   intro z hz htz;rw[fP];obtain⟨h1,h2⟩:=R_ hz htz q;exact ih _ h1 h2
 have h1:=key (St.j_ s.Q now) (s.locked.begin now) h ht;intro q hq;refine h1 q ?_;have e:=(aO ((St.j_ s.Q now).foldl St.step (s.locked.begin now))).Q;rw[<-e];exact hq
theorem Xw(h:s.Pos)(ht:0<=s.tl)(now d:Int)(t:ByteArray):(s.snd now d t).Pos:=by
 have e:=(aO (if (bH (s.locked.begin now).A d (s.locked.begin now).now).2 then(s.locked.begin now).aN d t else(s.locked.begin now).await d t)).Q;intro q hq;have hq':q∈(if (bH (s.locked.begin now).A d (s.locked.begin now).now).2 then(s.locked.begin now).aN d t else(s.locked.begin now).await d t).Q:=by
  rw[<-e];exact hq
 split at hq'
 ·rw[(fq _ _ _).1]at hq';exact h q hq'
 ·unfold St.await at hq';split at hq'
  ·rename_i q0 hs;have hm:=(gZ hs).1;have:∀q':Sr,q'.id=q0.id->∀z∈St.bR s.Q q',0<z.id:=λq' e z hz=>by
    rcases fB hz with rfl|⟨k1,_⟩
    ·rw[e];exact h q0 hm
    ·exact h z k1
   unfold St.hold at hq';split at hq'
   ·exact this {q0 with txt:=q0.txt.tail++ [t]} rfl q hq'
   ·exact this {q0 with txt:=q0.txt++ [t]} rfl q hq'
  ·refine(vG (s:={s.locked.begin now with Q:=(s.locked.begin now).Q++ [St.ic d t]}) (q:=St.ic d t) (λz hz hne=> ?_) ht).1 q hq';rcases dG.1 hz with k|k
   ·exact h z k
   ·rw[dO]at k;rw[k]at hne;exact absurd rfl hne
end Go.Proofs.YtakaadcpaeiccabGreat
