import Derived.Test.YtakaadcpaeiccabGreatB10
set_option maxHeartbeats 8000000
set_option maxRecDepth 100000
namespace Go.Proofs.YtakaadcpaeiccabGreat
open Go.RowKit
theorem EM(U:Bool)(R:Nat)(x0:Int)(m:Nat)(r:List Int)(W:World)(hr:Rd R (x0::9::fl U::0::(m:Int)::r) W):
  Calls Tryz.prog 56 #[.pointer (some ⟨R,0,none⟩)] W λe w'=>jm R (x0::9::fl U::0::(m:Int)::r) W e w':=by
 have hu:oL U:=trivial;cases U<;>dsimp only[fl]at hr ⊢
 all_goals
  have hby:=hr.bytes;have hR:=hr.lt;go_enter Tryz.func56,Tryz.ntmps56;go_wp2_with fail;have hC0:=PB.new aC.zero W;have h1:=hr.alloc aC.zero.box;have hg0:=jM W aC.zero.box (some R);dsimp only[aC.box,aC.zero]at hC0 h1 hg0;refine(bE R _ _ _ h1).mono ?_;rintro e w1 ⟨rfl,hr1,hg1⟩;have qb:PB aC.zero W.heap.size w1:=PB.grown hC0 hg1 (by omega);have hW1:=ax hg0 hg1;clear hr h1 hg0 hg1 hC0;go_wp2_with fail;refine(bE R _ _ _ hr1).mono ?_;rintro e w2 ⟨rfl,hr2,hg2⟩;have hC2:=qb.grown hg2 (by omega);have hW2:=ax hW1 hg2;clear hr1 hg2 qb hW1;go_wp2_with fail;have hB:=PB.new ⟨x0,9,0,false,0,0,0,0,0,0,none,0,0,⟨#[]⟩⟩ w2;have N7:W.heap.size<w2.heap.size:=hC2.lt;have oZ:=hC2.alloc (aC.box ⟨x0,9,0,false,0,0,0,0,0,0,none,0,0,⟨#[]⟩⟩);have hr3:=hr2.alloc (aC.box ⟨x0,9,0,false,0,0,0,0,0,0,none,0,0,⟨#[]⟩⟩);have hW3:=ax hW2 (jM w2 (aC.box ⟨x0,9,0,false,0,0,0,0,0,0,none,0,0,⟨#[]⟩⟩) (some R));have Iz:=hr2.lt;generalize IC:w2.heap.size=B at hB N7 Iz ⊢;clear IC;dsimp only[aC.box]at hB oZ hr3 hW3;clear hr2 hC2 hW2;refine(bE R _ _ _ hr3).mono ?_;rintro e w4 ⟨rfl,hr4,hg4⟩;have hB4:=hB.grown hg4 (by omega);have wK:=oZ.grown hg4 (by omega);have Di:=ax hW3 hg4;clear hr3 hg4 hB oZ hW3;go_wp2_with(go_at_call 85;refine(require_ok _).mono ?_;rintro e w4 ⟨rfl,rfl⟩;obtain⟨_,_,_,c3,_,_,_,_,_,_,_,_⟩:=hB4.cell;have f3:=hB4.free 3);have sO:=hB4.set ⟨x0,9,0,iA hu,0,0,0,0,0,0,none,0,0,⟨#[]⟩⟩ 3 (.bool (iA hu)) rfl;have mQ:=hr4.setCell (B:=B) (by omega) (i:=3) (.bool false) (.bool (iA hu)) (by simp) c3;have qA:=wK.other (a:=⟨B,3,none⟩) (by simp;omega) (.bool (iA hu));have qR:=a_ Di (a:=⟨B,3,none⟩) (by simp;omega) (.bool (iA hu));dsimp only[iA]at sO mQ qA qR;clear c3 f3 hr4 hB4 wK Di;generalize w4.setCell _ _=w5 at sO mQ qA qR ⊢;refine(bE R _ _ _ mQ).mono ?_;rintro e w6 ⟨rfl,rY,iN⟩;have AJ:=sO.grown iN (by omega);have gy:=qA.grown iN (by omega);have Eb:=ax qR iN;clear mQ iN sO qA qR;go_wp2_with(go_at_call 85;refine(require_ok _).mono ?_;rintro e w6 ⟨rfl,rfl⟩);refine(bE R _ _ _ rY).mono ?_;rintro e w7 ⟨rfl,yX,fP⟩;have iG:=AJ.grown fP (by omega);have fQ:=gy.grown fP (by omega);have Kt:=ax Eb fP;clear rY fP AJ gy Eb;go_wp2_with fail;obtain⟨_,c1,_,_,_,_,_,_,_,_,_,_⟩:=iG.cell;refine(vz B w7 c1).mono ?_;rintro e w8 ⟨rfl,hw8⟩;have gI:w8.heap[w7.heap.size]?=some (.cells #[.pointer (some ⟨B,4,none⟩),.pointer (some ⟨B,5,none⟩),.pointer (some ⟨B,7,none⟩)] 189 (0,0)):=by rw[hw8];exact bO w7 _
  have jk:PB ⟨x0,9,0,iA hu,0,0,0,0,0,0,none,0,0,⟨#[]⟩⟩ B w8:=by rw[hw8];exact iG.alloc _
  have gF:PB aC.zero W.heap.size w8:=by rw[hw8];exact fQ.alloc _
  have h_:Rd R r w8:=by rw[hw8];exact(yX.alloc _).drew
  have iR:W.grownBy w8 (some R):=by rw[hw8];exact su (ax Kt (jM w7 _ _))
  have hBN:B<w7.heap.size:=iG.lt;generalize w7.heap.size=N at gI hBN ⊢;clear hw8 yX iG fQ Kt c1;go_wp2_with fail;refine wp_loop_rounds 4 ?_;rw[rounds_succ];have VW:=aF w8 N 0 _ _ _ gI;simp only[List.getElem?_toArray,List.getElem?_cons_zero]at VW;go_wp2_with fail;clear VW;refine(di R _ _ h_).mono ?_;rintro e w9 (⟨a0,b0,e0,d0,r0,rfl,rfl,mD,fe,_⟩|⟨hshort,rfl,rfl⟩)
  case inr=>exact⟨rfl,iR,.inr ⟨fq (by rw[show eG 9 (m:Int)=12+m from rfl];first|omega|(simp only[dR];omega)),rfl⟩⟩
  have p_:=(fe.block N (gN.1 gI).1 (by simp;omega)).trans gI;have iT:=jk.grown fe (by omega);have oI:=gF.grown fe (by omega);have oG:=ax iR fe;clear h_ fe jk gF iR gI;obtain⟨_,_,_,_,c4,c5,c6,c7,c8,c9,_,_⟩:=iT.cell;dsimp only at c4 c5 c6 c7 c8 c9;have ff:=iT.free 4;have hpre:=c4;clear c5 c6 c7 c8 c9;go_wp2_with fail;have jk:=iT.set ⟨x0,9,0,iA hu,(n4 a0 b0 e0 d0),0,0,0,0,0,none,0,0,⟨#[]⟩⟩ 4 (.int .u32 (n4 a0 b0 e0 d0)) rfl;have h_:=mD.setCell (B:=B) (by omega) (i:=4) (.int .u32 0) (.int .u32 (n4 a0 b0 e0 d0)) (by simp) hpre;have gF:=oI.other (a:=⟨B,4,none⟩) (by simp;omega) (.int .u32 (n4 a0 b0 e0 d0));have iR:=a_ oG (a:=⟨B,4,none⟩) (by simp;omega) (.int .u32 (n4 a0 b0 e0 d0));have gI:=(kV w9 ⟨B,4,none⟩ (.int .u32 (n4 a0 b0 e0 d0)) N (by simp;omega)).trans p_;clear mD iT oI oG p_ ff hpre c4;generalize w9.setCell _ _=w8 at jk h_ gF iR gI ⊢;rw[rounds_succ];have pc1:=aF w8 N 1 _ _ _ gI;simp only[List.getElem?_toArray,List.getElem?_cons_succ,List.getElem?_cons_zero]at pc1;go_wp2_with fail;clear pc1;refine(di R _ _ h_).mono ?_;rintro e w9 (⟨a1,b1,e1,d1,r1,rfl,rfl,mD,fe,_⟩|⟨hshort,rfl,rfl⟩)
  case inr=>exact⟨rfl,iR,.inr ⟨fq (by rw[show eG 9 (m:Int)=12+m from rfl];first|omega|(simp only[dR];omega)),rfl⟩⟩
  have p_:=(fe.block N (gN.1 gI).1 (by simp;omega)).trans gI;have iT:=jk.grown fe (by omega);have oI:=gF.grown fe (by omega);have oG:=ax iR fe;clear h_ fe jk gF iR gI;obtain⟨_,_,_,_,c4,c5,c6,c7,c8,c9,_,_⟩:=iT.cell;dsimp only at c4 c5 c6 c7 c8 c9;have ff:=iT.free 5;have hpre:=c5;clear c4 c6 c7 c8 c9;go_wp2_with fail;have jk:=iT.set ⟨x0,9,0,iA hu,(n4 a0 b0 e0 d0),(n4 a1 b1 e1 d1),0,0,0,0,none,0,0,⟨#[]⟩⟩ 5 (.int .u32 (n4 a1 b1 e1 d1)) rfl;have h_:=mD.setCell (B:=B) (by omega) (i:=5) (.int .u32 0) (.int .u32 (n4 a1 b1 e1 d1)) (by simp) hpre;have gF:=oI.other (a:=⟨B,5,none⟩) (by simp;omega) (.int .u32 (n4 a1 b1 e1 d1));have iR:=a_ oG (a:=⟨B,5,none⟩) (by simp;omega) (.int .u32 (n4 a1 b1 e1 d1));have gI:=(kV w9 ⟨B,5,none⟩ (.int .u32 (n4 a1 b1 e1 d1)) N (by simp;omega)).trans p_;clear mD iT oI oG p_ ff hpre c5;generalize w9.setCell _ _=w8 at jk h_ gF iR gI ⊢;rw[rounds_succ];have pc2:=aF w8 N 2 _ _ _ gI;simp only[List.getElem?_toArray,List.getElem?_cons_succ,List.getElem?_cons_zero]at pc2;go_wp2_with fail;clear pc2;refine(di R _ _ h_).mono ?_;rintro e w9 (⟨a2,b2,e2,d2,r2,rfl,rfl,mD,fe,_⟩|⟨hshort,rfl,rfl⟩)
  case inr=>exact⟨rfl,iR,.inr ⟨fq (by rw[show eG 9 (m:Int)=12+m from rfl];first|omega|(simp only[dR];omega)),rfl⟩⟩
  have p_:=(fe.block N (gN.1 gI).1 (by simp;omega)).trans gI;have iT:=jk.grown fe (by omega);have oI:=gF.grown fe (by omega);have oG:=ax iR fe;clear h_ fe jk gF iR gI;obtain⟨_,_,_,_,c4,c5,c6,c7,c8,c9,_,_⟩:=iT.cell;dsimp only at c4 c5 c6 c7 c8 c9;have ff:=iT.free 7;have hpre:=c7;clear c4 c5 c6 c8 c9;go_wp2_with fail;have jk:=iT.set ⟨x0,9,0,iA hu,(n4 a0 b0 e0 d0),(n4 a1 b1 e1 d1),0,(n4 a2 b2 e2 d2),0,0,none,0,0,⟨#[]⟩⟩ 7 (.int .u32 (n4 a2 b2 e2 d2)) rfl;have h_:=mD.setCell (B:=B) (by omega) (i:=7) (.int .u32 0) (.int .u32 (n4 a2 b2 e2 d2)) (by simp) hpre;have gF:=oI.other (a:=⟨B,7,none⟩) (by simp;omega) (.int .u32 (n4 a2 b2 e2 d2));have iR:=a_ oG (a:=⟨B,7,none⟩) (by simp;omega) (.int .u32 (n4 a2 b2 e2 d2));have gI:=(kV w9 ⟨B,7,none⟩ (.int .u32 (n4 a2 b2 e2 d2)) N (by simp;omega)).trans p_;clear mD iT oI oG p_ ff hpre c7;generalize w9.setCell _ _=w8 at jk h_ gF iR gI ⊢;rw[rounds_succ];clear gI;obtain⟨_,c1,_,_,_,_,_,_,_,_,_,_⟩:=jk.cell;dsimp only at c1;go_wp2_with fail;clear c1;refine(xX R m _ _ h_).mono ?_;rintro e w9 (⟨hn,⟨tv,rfl,ZF⟩,mD,fe,_⟩|⟨hs,rfl,rfl⟩)
  case inr=>exact⟨rfl,iR,.inr ⟨fq (by rw[show eG 9 (m:Int)=12+m from rfl];simp only[dR];omega),rfl⟩⟩
  obtain⟨tk,rr,rfl,htl⟩:∃tk rr,r2=tk++rr∧tk.length=m:=⟨r2.take m,r2.drop m,(List.take_append_drop m r2).symm,by rw[List.length_take];omega⟩;rw[List.take_left' htl]at ZF;rw[List.drop_left' htl]at mD;have hcv:=qB ZF;have iT:=jk.grown fe (by omega);have oI:=gF.grown fe (by omega);have oG:=ax iR fe;clear h_ fe jk gF iR ZF;obtain⟨v,hv,hvf,hvb,hvs⟩:=mD;have hsh:∃a c,v=.slice a rr.length c:=by
   rcases hvs with⟨rfl,h⟩|⟨_,_,_,rfl,_⟩
   ·exact⟨none,0,by rw[h];rfl⟩
   ·exact⟨_,_,rfl⟩
  obtain⟨sa,sc,rfl⟩:=hsh;clear hvs hvb hvf;obtain⟨c0,c1,c2,c3,c4,c5,c6,c7,c8,c9,c10,c11⟩:=iT.cell;dsimp only at c0 c1 c2 c3 c4 c5 c6 c7 c8 c9 c10 c11;have f11:=iT.free 11;have hBx:=iT.set ⟨x0,9,0,iA hu,(n4 a0 b0 e0 d0),(n4 a1 b1 e1 d1),0,(n4 a2 b2 e2 d2),0,0,none,0,0,strOfNums tk⟩ 11 (.string (strOfNums tk)) rfl;have U4:=oI.other (a:=⟨B,11,none⟩) (by simp;omega) (.string (strOfNums tk));have Df:=a_ oG (a:=⟨B,11,none⟩) (by simp;omega) (.string (strOfNums tk));by_cases hrest:rr=[]
  case neg=>
   have hl0:((rr.length:Int)==0)=false:=by
    rw[beq_eq_false_iff_ne];intro h;exact hrest (qZ (by omega))
   go_wp2_with(go_at_call 85;refine(dV _).mono ?_;rintro e w9 ⟨rfl,yV⟩;rw[yV]);have hl1:0<rr.length:=List.length_pos_iff.2 hrest;refine⟨rfl,Df,.inr ⟨?_,rfl⟩⟩;exact fq (by rw[show eG 9 (m:Int)=12+m from rfl];simp only[dR,bZ];omega)
  subst hrest;have q0:=hby x0 (by simp);have q4:=hby (m:Int) (by simp);have m0:=rV (hby a0 (by simp)) (hby b0 (by simp)) (hby e0 (by simp)) (hby d0 (by simp));have m1:=rV (hby a1 (by simp)) (hby b1 (by simp)) (hby e1 (by simp)) (hby d1 (by simp));have m2:=rV (hby a2 (by simp)) (hby b2 (by simp)) (hby e2 (by simp)) (hby d2 (by simp));have hwf:aC.Wf hBx.pk:=by dsimp only[PB.pk];constructor<;>first|(dsimp only;omega)|(dsimp only;rw[strOfNums_size];omega)
  have hpk:iZ x0 9 (Dn hu) (m:Int) (a0::b0::e0::d0::a1::b1::e1::d1::a2::b2::e2::d2::(tk++ []))=hBx.pk:=congrArg (λz=>(⟨x0,9,0,iA hu,(n4 a0 b0 e0 d0),(n4 a1 b1 e1 d1),0,(n4 a2 b2 e2 d2),0,0,none,0,0,strOfNums z⟩:aC)) (show(tk++([]:List Int)).take m=tk by simp[<-htl]);have oC:=yT (x0:=x0) (x1:=9) (x2:=Dn hu) (x4:=(m:Int)) (r:=(a0::b0::e0::d0::a1::b1::e1::d1::a2::b2::e2::d2::(tk++ []))) (zu hu) (by rw[show eG 9 (m:Int)=12+m from rfl];simp only[dR,bZ,List.length_nil];omega);rw[hpk]at oC;clear hby q0 q4 m0 m1 m2;cases hg:aC.gJ hBx.pk
  ·go_wp2_with(first|(go_at_call 90;refine(dB hBx.pk hwf _).mono ?_;rintro e w9 ⟨rfl,mZ⟩)|(go_at_call 85;refine(dV _).mono ?_;rintro e WL ⟨rfl,yV⟩;rw[yV]));exact⟨rfl,fw Df mZ,.inr ⟨oC.trans hg,rfl⟩⟩
  ·go_wp2_with(first|(go_at_call 90;refine(dB hBx.pk hwf _).mono ?_;rintro e w9 ⟨rfl,mZ⟩;have Kz:=hBx.below mZ;have xM:=U4.below mZ;obtain⟨y0,y1,y2,y3,y4,y5,y6,y7,y8,y9,sS,sQ⟩:=Kz.cell;obtain⟨k0,k1,k2,k3,k4,k5,k6,k7,k8,k9,k10,k11⟩:=xM.cell;have kf:=xM.free;dsimp only at y0 y1 y2 y3 y4 y5 y6 y7 y8 y9 sS sQ;dsimp only[aC.zero]at k0 k1 k2 k3 k4 k5 k6 k7 k8 k9 k10 k11)|(go_at_call 85;refine(require_ok _).mono ?_;rintro e w9 ⟨rfl,rfl⟩));have oH:=xM.storeAll hBx.pk;have Dh:=kP (fw Df mZ) (C:=W.heap.size) (aA _) hBx.pk;clear y0 y1 y2 y3 y4 y5 y6 y7 y8 y9 sS sQ k0 k1 k2 k3 k4 k5 k6 k7 k8 k9 k10 k11 kf Kz xM;dsimp only[cZ,PB.pk]at oH Dh;generalize World.setCell _ _ _=wF at oH Dh ⊢;obtain⟨y0,y1,y2,y3,y4,y5,y6,y7,y8,y9,sS,sQ⟩:=oH.cell;dsimp only at y0 y1 y2 y3 y4 y5 y6 y7 y8 y9 sS sQ;refine bodyPost_ret (v:=aC.val hBx.pk) (by simp[results,Tryz.results56,go_sem,y0,y1,y2,y3,y4,y5,y6,y7,y8,y9,sS,sQ]) rfl ?_;exact⟨Dh,.inl ⟨oC.trans hg,_,rfl,_,_,_,_,_,_,none,0,rfl,by(have hpk':=hpk;dsimp only[Dn,fl]at hpk';rw[hpk']),rfl,λj hj=>absurd hj (by simp[pO]),λb hb=>by cases hb⟩⟩
theorem EN(U:Bool)(R:Nat)(x0:Int)(m:Nat)(r:List Int)(W:World)(hr:Rd R (x0::3::fl U::0::(m:Int)::r) W):
  Calls Tryz.prog 56 #[.pointer (some ⟨R,0,none⟩)] W λe w'=>jm R (x0::3::fl U::0::(m:Int)::r) W e w':=by
 have hu:oL U:=trivial;cases U<;>dsimp only[fl]at hr ⊢
 all_goals
  have hby:=hr.bytes;have hR:=hr.lt;go_enter Tryz.func56,Tryz.ntmps56;go_wp2_with fail;have hC0:=PB.new aC.zero W;have h1:=hr.alloc aC.zero.box;have hg0:=jM W aC.zero.box (some R);dsimp only[aC.box,aC.zero]at hC0 h1 hg0;refine(bE R _ _ _ h1).mono ?_;rintro e w1 ⟨rfl,hr1,hg1⟩;have qb:PB aC.zero W.heap.size w1:=PB.grown hC0 hg1 (by omega);have hW1:=ax hg0 hg1;clear hr h1 hg0 hg1 hC0;go_wp2_with fail;refine(bE R _ _ _ hr1).mono ?_;rintro e w2 ⟨rfl,hr2,hg2⟩;have hC2:=qb.grown hg2 (by omega);have hW2:=ax hW1 hg2;clear hr1 hg2 qb hW1;go_wp2_with fail;have hB:=PB.new ⟨x0,3,0,false,0,0,0,0,0,0,none,0,0,⟨#[]⟩⟩ w2;have N7:W.heap.size<w2.heap.size:=hC2.lt;have oZ:=hC2.alloc (aC.box ⟨x0,3,0,false,0,0,0,0,0,0,none,0,0,⟨#[]⟩⟩);have hr3:=hr2.alloc (aC.box ⟨x0,3,0,false,0,0,0,0,0,0,none,0,0,⟨#[]⟩⟩);have hW3:=ax hW2 (jM w2 (aC.box ⟨x0,3,0,false,0,0,0,0,0,0,none,0,0,⟨#[]⟩⟩) (some R));have Iz:=hr2.lt;generalize IC:w2.heap.size=B at hB N7 Iz ⊢;clear IC;dsimp only[aC.box]at hB oZ hr3 hW3;clear hr2 hC2 hW2;refine(bE R _ _ _ hr3).mono ?_;rintro e w4 ⟨rfl,hr4,hg4⟩;have hB4:=hB.grown hg4 (by omega);have wK:=oZ.grown hg4 (by omega);have Di:=ax hW3 hg4;clear hr3 hg4 hB oZ hW3;go_wp2_with(go_at_call 85;refine(require_ok _).mono ?_;rintro e w4 ⟨rfl,rfl⟩;obtain⟨_,_,_,c3,_,_,_,_,_,_,_,_⟩:=hB4.cell;have f3:=hB4.free 3);have sO:=hB4.set ⟨x0,3,0,iA hu,0,0,0,0,0,0,none,0,0,⟨#[]⟩⟩ 3 (.bool (iA hu)) rfl;have mQ:=hr4.setCell (B:=B) (by omega) (i:=3) (.bool false) (.bool (iA hu)) (by simp) c3;have qA:=wK.other (a:=⟨B,3,none⟩) (by simp;omega) (.bool (iA hu));have qR:=a_ Di (a:=⟨B,3,none⟩) (by simp;omega) (.bool (iA hu));dsimp only[iA]at sO mQ qA qR;clear c3 f3 hr4 hB4 wK Di;generalize w4.setCell _ _=w5 at sO mQ qA qR ⊢;refine(bE R _ _ _ mQ).mono ?_;rintro e w6 ⟨rfl,rY,iN⟩;have AJ:=sO.grown iN (by omega);have gy:=qA.grown iN (by omega);have Eb:=ax qR iN;clear mQ iN sO qA qR;go_wp2_with(go_at_call 85;refine(require_ok _).mono ?_;rintro e w6 ⟨rfl,rfl⟩);refine(bE R _ _ _ rY).mono ?_;rintro e w7 ⟨rfl,yX,fP⟩;have iG:=AJ.grown fP (by omega);have fQ:=gy.grown fP (by omega);have Kt:=ax Eb fP;clear rY fP AJ gy Eb;go_wp2_with fail;obtain⟨_,c1,_,_,_,_,_,_,_,_,_,_⟩:=iG.cell;refine(nK B 3 rfl rfl rfl w7 c1).mono ?_;rintro e w7 ⟨rfl,rfl⟩;clear c1;go_wp2_with fail;refine wp_loop_rounds 1 ?_;rw[rounds_succ];have hm:m<=255:=by
   have:=hby (m:Int) (by simp);omega
  obtain⟨_,c1,_,_,_,_,_,_,_,_,_,_⟩:=iG.cell;dsimp only at c1;go_wp2_with fail;clear c1;refine(PK R m hm _ _ yX).mono ?_;rintro e w9 ⟨fe,⟨hn,⟨g,hgn,rfl,hLg⟩,mD⟩|⟨hs,rfl⟩⟩
  case inr=>exact⟨rfl,ax Kt fe,.inr ⟨fq (by rw[show eG 3 (m:Int)=8 * m from rfl];omega),rfl⟩⟩
  obtain⟨rr,hrr⟩:∃rr,r.drop (8 * m)=rr:=⟨_,rfl⟩;rw[hrr]at mD;have hrl:rr.length=r.length - 8 * m:=by rw[<-hrr,List.length_drop]
  have aax:=(show Hid _ from hrl);clear hrl hrr;have iT:=iG.grown fe (by omega);have oI:=fQ.grown fe (by omega);have oG:=ax Kt fe;have hgB:B<g:=fB iG.lt hgn;clear yX fe iG fQ Kt;obtain⟨v,hv,hvf,hvb,hvs⟩:=mD;have hsh:∃a c,v=.slice a rr.length c:=by
   rcases hvs with⟨rfl,h⟩|⟨_,_,_,rfl,_⟩
   ·exact⟨none,0,by rw[h];rfl⟩
   ·exact⟨_,_,rfl⟩
  obtain⟨sa,sc,rfl⟩:=hsh;clear hvs hvb hvf;obtain⟨c0,c1,c2,c3,c4,c5,c6,c7,c8,c9,c10,c11⟩:=iT.cell;dsimp only at c0 c1 c2 c3 c4 c5 c6 c7 c8 c9 c10 c11;have f10:=iT.free 10;have hBx:=iT.set ⟨x0,3,0,iA hu,0,0,0,0,0,0,some ⟨g,0,none⟩,m,m,⟨#[]⟩⟩ 10 (.slice (some ⟨g,0,none⟩) m m) rfl;have U4:=oI.other (a:=⟨B,10,none⟩) (by simp;omega) (.slice (some ⟨g,0,none⟩) m m);have Df:=a_ oG (a:=⟨B,10,none⟩) (by simp;omega) (.slice (some ⟨g,0,none⟩) m m);have hLx:bB (w9.setCell ⟨B,10,none⟩ (.slice (some ⟨g,0,none⟩) m m)) (some ⟨g,0,none⟩) (tY m r):=hLg.far (a:=⟨B,10,none⟩) (by simp;omega) _;clear hLg;by_cases hrest:rr=[]
  case neg=>
   have hl0:((rr.length:Int)==0)=false:=by
    rw[beq_eq_false_iff_ne];intro h;exact hrest (qZ (by omega))
   go_wp2_with(go_at_call 85;refine(dV _).mono ?_;rintro e w9 ⟨rfl,yV⟩;rw[yV]);have hl1:0<rr.length:=List.length_pos_iff.2 hrest;refine⟨rfl,Df,.inr ⟨?_,rfl⟩⟩;exact fq (by rw[show eG 3 (m:Int)=8 * m from rfl];have:=aax.out;omega)
  subst hrest;have q0:=hby x0 (by simp);have q4:=hby (m:Int) (by simp);have hwf:aC.Wf ⟨x0,3,0,iA hu,0,0,0,0,0,0,some ⟨g,0,none⟩,m,m,⟨#[]⟩⟩:=by constructor<;>first|(dsimp only;omega)|simp[ByteArray.size]|(dsimp only;rw[strOfNums_size];omega)
  have hpk:iZ x0 3 (Dn hu) (m:Int) r=⟨x0,3,0,iA hu,0,0,0,0,0,0,none,m,0,⟨#[]⟩⟩:=rfl;have oC:=yT (x0:=x0) (x1:=3) (x2:=Dn hu) (x4:=(m:Int)) (r:=r) (zu hu) (by rw[show eG 3 (m:Int)=8 * m from rfl];have:=aax.out;simp only[List.length_nil]at this;omega);rw[hpk,<-FV ⟨x0,3,0,iA hu,0,0,0,0,0,0,none,m,0,⟨#[]⟩⟩ (some ⟨g,0,none⟩) m]at oC;clear hby q0 q4;cases hg:aC.gJ ⟨x0,3,0,iA hu,0,0,0,0,0,0,some ⟨g,0,none⟩,m,m,⟨#[]⟩⟩
  ·go_wp2_with(first|(go_at_call 90;refine(dB ⟨x0,3,0,iA hu,0,0,0,0,0,0,some ⟨g,0,none⟩,m,m,⟨#[]⟩⟩ hwf _).mono ?_;rintro e w9 ⟨rfl,mZ⟩)|(go_at_call 85;refine(dV _).mono ?_;rintro e WL ⟨rfl,yV⟩;rw[yV]));exact⟨rfl,fw Df mZ,.inr ⟨oC.trans hg,rfl⟩⟩
  ·go_wp2_with(first|(go_at_call 90;refine(dB ⟨x0,3,0,iA hu,0,0,0,0,0,0,some ⟨g,0,none⟩,m,m,⟨#[]⟩⟩ hwf _).mono ?_;rintro e w9 ⟨rfl,mZ⟩;have Kz:=hBx.below mZ;have xM:=U4.below mZ;obtain⟨y0,y1,y2,y3,y4,y5,y6,y7,y8,y9,sS,sQ⟩:=Kz.cell;obtain⟨k0,k1,k2,k3,k4,k5,k6,k7,k8,k9,k10,k11⟩:=xM.cell;have kf:=xM.free;dsimp only at y0 y1 y2 y3 y4 y5 y6 y7 y8 y9 sS sQ;dsimp only[aC.zero]at k0 k1 k2 k3 k4 k5 k6 k7 k8 k9 k10 k11)|(go_at_call 85;refine(require_ok _).mono ?_;rintro e w9 ⟨rfl,rfl⟩));have oH:=xM.storeAll ⟨x0,3,0,iA hu,0,0,0,0,0,0,some ⟨g,0,none⟩,m,m,⟨#[]⟩⟩;have Dh:=kP (fw Df mZ) (C:=W.heap.size) (aA _) ⟨x0,3,0,iA hu,0,0,0,0,0,0,some ⟨g,0,none⟩,m,m,⟨#[]⟩⟩;have hLy:=hLx.below mZ;have hLz:=hLy.cZ (C:=W.heap.size) (by omega) ⟨x0,3,0,iA hu,0,0,0,0,0,0,some ⟨g,0,none⟩,m,m,⟨#[]⟩⟩;clear y0 y1 y2 y3 y4 y5 y6 y7 y8 y9 sS sQ k0 k1 k2 k3 k4 k5 k6 k7 k8 k9 k10 k11 kf Kz xM;dsimp only[cZ]at oH Dh hLz;generalize World.setCell _ _ _=wF at oH Dh hLz ⊢;obtain⟨y0,y1,y2,y3,y4,y5,y6,y7,y8,y9,sS,sQ⟩:=oH.cell;dsimp only at y0 y1 y2 y3 y4 y5 y6 y7 y8 y9 sS sQ;refine bodyPost_ret (v:=aC.val ⟨x0,3,0,iA hu,0,0,0,0,0,0,some ⟨g,0,none⟩,m,m,⟨#[]⟩⟩) (by simp[results,Tryz.results56,go_sem,y0,y1,y2,y3,y4,y5,y6,y7,y8,y9,sS,sQ]) rfl ?_;exact⟨Dh,.inl ⟨oC.trans hg,_,rfl,_,_,_,_,_,_,some ⟨g,0,none⟩,m,rfl,by(have hpk':=hpk;dsimp only[Dn,fl]at hpk';rw[hpk']),by simp[pO,gH,iZ],hLz,λb hb=>by obtain rfl:=Option.some.inj hb;dsimp only;omega⟩⟩
theorem EQ(U:Bool)(R:Nat)(x0 x4:Int)(r:List Int)(W:World)(k:Int)(k1:(k==1)=false)(k2:(k==2)=false)(k3:(k==3)=false)(k9:(k==9)=false)(hr:Rd R (x0::k::fl U::0::x4::r) W):
  Calls Tryz.prog 56 #[.pointer (some ⟨R,0,none⟩)] W λe w'=>jm R (x0::k::fl U::0::x4::r) W e w':=by
 have hu:oL U:=trivial;cases U<;>dsimp only[fl]at hr ⊢
 all_goals
  have hby:=hr.bytes;have hR:=hr.lt;go_enter Tryz.func56,Tryz.ntmps56;go_wp2_with fail;have hC0:=PB.new aC.zero W;have h1:=hr.alloc aC.zero.box;have hg0:=jM W aC.zero.box (some R);dsimp only[aC.box,aC.zero]at hC0 h1 hg0;refine(bE R _ _ _ h1).mono ?_;rintro e w1 ⟨rfl,hr1,hg1⟩;have qb:PB aC.zero W.heap.size w1:=PB.grown hC0 hg1 (by omega);have hW1:=ax hg0 hg1;clear hr h1 hg0 hg1 hC0;go_wp2_with fail;refine(bE R _ _ _ hr1).mono ?_;rintro e w2 ⟨rfl,hr2,hg2⟩;have hC2:=qb.grown hg2 (by omega);have hW2:=ax hW1 hg2;clear hr1 hg2 qb hW1;go_wp2_with fail;have hB:=PB.new ⟨x0,k,0,false,0,0,0,0,0,0,none,0,0,⟨#[]⟩⟩ w2;have N7:W.heap.size<w2.heap.size:=hC2.lt;have oZ:=hC2.alloc (aC.box ⟨x0,k,0,false,0,0,0,0,0,0,none,0,0,⟨#[]⟩⟩);have hr3:=hr2.alloc (aC.box ⟨x0,k,0,false,0,0,0,0,0,0,none,0,0,⟨#[]⟩⟩);have hW3:=ax hW2 (jM w2 (aC.box ⟨x0,k,0,false,0,0,0,0,0,0,none,0,0,⟨#[]⟩⟩) (some R));have Iz:=hr2.lt;generalize IC:w2.heap.size=B at hB N7 Iz ⊢;clear IC;dsimp only[aC.box]at hB oZ hr3 hW3;clear hr2 hC2 hW2;refine(bE R _ _ _ hr3).mono ?_;rintro e w4 ⟨rfl,hr4,hg4⟩;have hB4:=hB.grown hg4 (by omega);have wK:=oZ.grown hg4 (by omega);have Di:=ax hW3 hg4;clear hr3 hg4 hB oZ hW3;go_wp2_with(go_at_call 85;refine(require_ok _).mono ?_;rintro e w4 ⟨rfl,rfl⟩;obtain⟨_,_,_,c3,_,_,_,_,_,_,_,_⟩:=hB4.cell;have f3:=hB4.free 3);have sO:=hB4.set ⟨x0,k,0,iA hu,0,0,0,0,0,0,none,0,0,⟨#[]⟩⟩ 3 (.bool (iA hu)) rfl;have mQ:=hr4.setCell (B:=B) (by omega) (i:=3) (.bool false) (.bool (iA hu)) (by simp) c3;have qA:=wK.other (a:=⟨B,3,none⟩) (by simp;omega) (.bool (iA hu));have qR:=a_ Di (a:=⟨B,3,none⟩) (by simp;omega) (.bool (iA hu));dsimp only[iA]at sO mQ qA qR;clear c3 f3 hr4 hB4 wK Di;generalize w4.setCell _ _=w5 at sO mQ qA qR ⊢;refine(bE R _ _ _ mQ).mono ?_;rintro e w6 ⟨rfl,rY,iN⟩;have AJ:=sO.grown iN (by omega);have gy:=qA.grown iN (by omega);have Eb:=ax qR iN;clear mQ iN sO qA qR;go_wp2_with(go_at_call 85;refine(require_ok _).mono ?_;rintro e w6 ⟨rfl,rfl⟩);refine(bE R _ _ _ rY).mono ?_;rintro e w7 ⟨rfl,yX,fP⟩;have iG:=AJ.grown fP (by omega);have fQ:=gy.grown fP (by omega);have Kt:=ax Eb fP;clear rY fP AJ gy Eb;go_wp2_with fail;obtain⟨_,c1,_,_,_,_,_,_,_,_,_,_⟩:=iG.cell;refine(nK B k k1 k2 k9 w7 c1).mono ?_;rintro e w7 ⟨rfl,rfl⟩;clear c1;go_wp2_with fail;refine wp_loop_rounds 1 ?_;rw[rounds_succ];have q1:=hby k (by simp);have hne:k≠1∧k≠2∧k≠3∧k≠9:=⟨by simpa using k1,by simpa using k2,by simpa using k3,by simpa using k9⟩;have V9:eG k x4=0:=by simp[eG,hne.1,hne.2.1,hne.2.2.1,hne.2.2.2]
  have aaB:iZ x0 k (Dn hu) x4 []=⟨x0,k,0,iA hu,0,0,0,0,0,0,none,0,0,⟨#[]⟩⟩:=by simp[iZ,Dn,fl,hne.1,hne.2.1,hne.2.2.1,hne.2.2.2]
  have Qr:=(show Hid _ from V9);have aaA:=(show Hid _ from aaB);have hne':=(show Hid _ from hne);clear V9 aaB hne;obtain⟨v,hv,hvf,hvb,hvs⟩:=yX;have hsh:∃a c,v=.slice a r.length c:=by
   rcases hvs with⟨rfl,h⟩|⟨_,_,_,rfl,_⟩
   ·exact⟨none,0,by rw[h];rfl⟩
   ·exact⟨_,_,rfl⟩
  obtain⟨sa,sc,rfl⟩:=hsh;clear hvs hvb hvf;have hBx:=iG;have U4:=fQ;have Df:=Kt;obtain⟨c0,c1,c2,c3,c4,c5,c6,c7,c8,c9,c10,c11⟩:=iG.cell;dsimp only at c0 c1 c2 c3 c4 c5 c6 c7 c8 c9 c10 c11;by_cases hrest:r=[]
  case neg=>
   have hl0:((r.length:Int)==0)=false:=by
    rw[beq_eq_false_iff_ne];intro h;exact hrest (qZ (by omega))
   go_wp2_with(go_at_call 85;refine(dV _).mono ?_;rintro e w9 ⟨rfl,yV⟩;rw[yV]);have hl1:0<r.length:=List.length_pos_iff.2 hrest;refine⟨rfl,Df,.inr ⟨?_,rfl⟩⟩;exact fq (by rw[Qr.out];omega)
  subst hrest;have q0:=hby x0 (by simp);have q4:=hby x4 (by simp);have hwf:aC.Wf ⟨x0,k,0,iA hu,0,0,0,0,0,0,none,0,0,⟨#[]⟩⟩:=by constructor<;>first|(dsimp only;omega)|simp[ByteArray.size]|(dsimp only;rw[strOfNums_size];omega)
  have hpk:iZ x0 k (Dn hu) x4 []=⟨x0,k,0,iA hu,0,0,0,0,0,0,none,0,0,⟨#[]⟩⟩:=aaA.out;have oC:=yT (x0:=x0) (x1:=k) (x2:=Dn hu) (x4:=x4) (r:=[]) (zu hu) (Qr.out.symm);rw[hpk]at oC;clear hby q0 q4 q1;cases hg:aC.gJ ⟨x0,k,0,iA hu,0,0,0,0,0,0,none,0,0,⟨#[]⟩⟩
  ·go_wp2_with(first|(go_at_call 90;refine(dB ⟨x0,k,0,iA hu,0,0,0,0,0,0,none,0,0,⟨#[]⟩⟩ hwf _).mono ?_;rintro e w9 ⟨rfl,mZ⟩)|(go_at_call 85;refine(dV _).mono ?_;rintro e WL ⟨rfl,yV⟩;rw[yV]));exact⟨rfl,fw Df mZ,.inr ⟨oC.trans hg,rfl⟩⟩
  ·go_wp2_with(first|(go_at_call 90;refine(dB ⟨x0,k,0,iA hu,0,0,0,0,0,0,none,0,0,⟨#[]⟩⟩ hwf _).mono ?_;rintro e w9 ⟨rfl,mZ⟩;have Kz:=hBx.below mZ;have xM:=U4.below mZ;obtain⟨y0,y1,y2,y3,y4,y5,y6,y7,y8,y9,sS,sQ⟩:=Kz.cell;obtain⟨k0,k1,k2,k3,k4,k5,k6,k7,k8,k9,k10,k11⟩:=xM.cell;have kf:=xM.free;dsimp only at y0 y1 y2 y3 y4 y5 y6 y7 y8 y9 sS sQ;dsimp only[aC.zero]at k0 k1 k2 k3 k4 k5 k6 k7 k8 k9 k10 k11)|(go_at_call 85;refine(require_ok _).mono ?_;rintro e w9 ⟨rfl,rfl⟩));have oH:=xM.storeAll ⟨x0,k,0,iA hu,0,0,0,0,0,0,none,0,0,⟨#[]⟩⟩;have Dh:=kP (fw Df mZ) (C:=W.heap.size) (aA _) ⟨x0,k,0,iA hu,0,0,0,0,0,0,none,0,0,⟨#[]⟩⟩;clear y0 y1 y2 y3 y4 y5 y6 y7 y8 y9 sS sQ k0 k1 k2 k3 k4 k5 k6 k7 k8 k9 k10 k11 kf Kz xM;dsimp only[cZ]at oH Dh;generalize World.setCell _ _ _=wF at oH Dh ⊢;obtain⟨y0,y1,y2,y3,y4,y5,y6,y7,y8,y9,sS,sQ⟩:=oH.cell;dsimp only at y0 y1 y2 y3 y4 y5 y6 y7 y8 y9 sS sQ;refine bodyPost_ret (v:=aC.val ⟨x0,k,0,iA hu,0,0,0,0,0,0,none,0,0,⟨#[]⟩⟩) (by simp[results,Tryz.results56,go_sem,y0,y1,y2,y3,y4,y5,y6,y7,y8,y9,sS,sQ]) rfl ?_;exact⟨Dh,.inl ⟨oC.trans hg,_,rfl,_,_,_,_,_,_,none,0,rfl,by(have hpk':=hpk;dsimp only[Dn,fl]at hpk';rw[hpk']),by(have hpk':=hpk;dsimp only[Dn,fl]at hpk';rw[hpk']);simp[pO,hne'.out.2.2.1],λj hj=>absurd hj (by simp[pO,hne'.out.2.2.1]),λb hb=>by cases hb⟩⟩
variable{a b c:Int}{r:List Int}
theorem Qa(h0:(c==0)=false)(h8:(c==8)=false):D_ (a::b::c::r)=false:=by
 match r with
 | []=>rfl
 | [_]=>rfl
 |z::n::r=>simp_all [D_]
theorem P_{z:Int}(h0:(z==0)=false):D_ (a::b::c::z::r)=false:=by
 match r with
 | []=>rfl
 |n::r=>simp_all [D_]
theorem LW(R:Nat)(W:World)(hr:Rd R [] W):
  Calls Tryz.prog 56 #[.pointer (some ⟨R,0,none⟩)] W λe w'=>jm R [] W e w':=by
 have hR:=hr.lt;go_enter Tryz.func56,Tryz.ntmps56;go_wp2_with fail;have h1:=hr.alloc aC.zero.box;have hW0:=jM W aC.zero.box (some R);dsimp only[aC.box,aC.zero]at h1 hW0;clear hr;refine(tZ R _ h1).mono ?_;rintro e w9 ⟨rfl,rfl⟩;exact⟨rfl,hW0,.inr ⟨rfl,rfl⟩⟩
theorem LV(R:Nat)(a:Int)(W:World)(hr:Rd R [a] W):
  Calls Tryz.prog 56 #[.pointer (some ⟨R,0,none⟩)] W λe w'=>jm R [a] W e w':=by
 have hR:=hr.lt;go_enter Tryz.func56,Tryz.ntmps56;go_wp2_with fail;have h1:=hr.alloc aC.zero.box;have hW0:=jM W aC.zero.box (some R);dsimp only[aC.box,aC.zero]at h1 hW0;clear hr;refine(bE R _ _ _ h1).mono ?_;rintro e w1 ⟨rfl,hr1,hg1⟩;have hW1:=ax hW0 hg1;clear h1 hg1 hW0;go_wp2_with fail;refine(tZ R _ hr1).mono ?_;rintro e w9 ⟨rfl,rfl⟩;exact⟨rfl,hW1,.inr ⟨rfl,rfl⟩⟩
theorem LU(R:Nat)(a b:Int)(W:World)(hr:Rd R [a,b] W):
  Calls Tryz.prog 56 #[.pointer (some ⟨R,0,none⟩)] W λe w'=>jm R [a,b] W e w':=by
 have hR:=hr.lt;go_enter Tryz.func56,Tryz.ntmps56;go_wp2_with fail;have h1:=hr.alloc aC.zero.box;have hW0:=jM W aC.zero.box (some R);dsimp only[aC.box,aC.zero]at h1 hW0;clear hr;refine(bE R _ _ _ h1).mono ?_;rintro e w1 ⟨rfl,hr1,hg1⟩;have hW1:=ax hW0 hg1;clear h1 hg1 hW0;go_wp2_with fail;refine(bE R _ _ _ hr1).mono ?_;rintro e w2 ⟨rfl,hr2,hg2⟩;have hW2:=ax hW1 hg2;clear hr1 hg2 hW1;go_wp2_with fail;have hB:=PB.new ⟨a,b,0,false,0,0,0,0,0,0,none,0,0,⟨#[]⟩⟩ w2;have hr3:=hr2.alloc (aC.box ⟨a,b,0,false,0,0,0,0,0,0,none,0,0,⟨#[]⟩⟩);have hW3:=ax hW2 (jM w2 (aC.box ⟨a,b,0,false,0,0,0,0,0,0,none,0,0,⟨#[]⟩⟩) (some R));have Iz:=hr2.lt;have hWs:=hW2.size;generalize IC:w2.heap.size=B at hB Iz hWs ⊢;clear IC;dsimp only[aC.box]at hB hr3 hW3;clear hr2 hW2;refine(tZ R _ hr3).mono ?_;rintro e w9 ⟨rfl,rfl⟩;exact⟨rfl,hW3,.inr ⟨rfl,rfl⟩⟩
theorem LQ(R:Nat)(a b c:Int)(r:List Int)(hc0:(c==0)=false)(hc8:(c==8)=false)(W:World)(hr:Rd R (a::b::c::r) W):
  Calls Tryz.prog 56 #[.pointer (some ⟨R,0,none⟩)] W λe w'=>jm R (a::b::c::r) W e w':=by
 have hR:=hr.lt;go_enter Tryz.func56,Tryz.ntmps56;go_wp2_with fail;have h1:=hr.alloc aC.zero.box;have hW0:=jM W aC.zero.box (some R);dsimp only[aC.box,aC.zero]at h1 hW0;clear hr;refine(bE R _ _ _ h1).mono ?_;rintro e w1 ⟨rfl,hr1,hg1⟩;have hW1:=ax hW0 hg1;clear h1 hg1 hW0;go_wp2_with fail;refine(bE R _ _ _ hr1).mono ?_;rintro e w2 ⟨rfl,hr2,hg2⟩;have hW2:=ax hW1 hg2;clear hr1 hg2 hW1;go_wp2_with fail;have hB:=PB.new ⟨a,b,0,false,0,0,0,0,0,0,none,0,0,⟨#[]⟩⟩ w2;have hr3:=hr2.alloc (aC.box ⟨a,b,0,false,0,0,0,0,0,0,none,0,0,⟨#[]⟩⟩);have hW3:=ax hW2 (jM w2 (aC.box ⟨a,b,0,false,0,0,0,0,0,0,none,0,0,⟨#[]⟩⟩) (some R));have Iz:=hr2.lt;have hWs:=hW2.size;generalize IC:w2.heap.size=B at hB Iz hWs ⊢;clear IC;dsimp only[aC.box]at hB hr3 hW3;clear hr2 hW2;refine(bE R _ _ _ hr3).mono ?_;rintro e w4 ⟨rfl,hr4,hg4⟩;have hB4:=hB.grown hg4 (by omega);have Di:=ax hW3 hg4;clear hr3 hg4 hB hW3;go_wp2_with(go_at_call 85;refine(dV _).mono ?_;rintro e w9 ⟨rfl,yV⟩;rw[yV]);exact⟨rfl,Di,.inr ⟨Qa hc0 hc8,rfl⟩⟩
theorem lJ(U:Bool)(R:Nat)(a b:Int)(ys:List Int)(hys:ys=[]∨(∃z r,ys=z::r∧(z==0)=false)∨ys=[0])(W:World)(hr:Rd R (a::b::fl U::ys) W):
  Calls Tryz.prog 56 #[.pointer (some ⟨R,0,none⟩)] W λe w'=>jm R (a::b::fl U::ys) W e w':=by
 have hu:oL U:=trivial;cases U<;>dsimp only[fl]at hr ⊢
 all_goals
  have hR:=hr.lt;go_enter Tryz.func56,Tryz.ntmps56;go_wp2_with fail;have h1:=hr.alloc aC.zero.box;have hW0:=jM W aC.zero.box (some R);dsimp only[aC.box,aC.zero]at h1 hW0;clear hr;refine(bE R _ _ _ h1).mono ?_;rintro e w1 ⟨rfl,hr1,hg1⟩;have hW1:=ax hW0 hg1;clear h1 hg1 hW0;go_wp2_with fail;refine(bE R _ _ _ hr1).mono ?_;rintro e w2 ⟨rfl,hr2,hg2⟩;have hW2:=ax hW1 hg2;clear hr1 hg2 hW1;go_wp2_with fail;have hB:=PB.new ⟨a,b,0,false,0,0,0,0,0,0,none,0,0,⟨#[]⟩⟩ w2;have hr3:=hr2.alloc (aC.box ⟨a,b,0,false,0,0,0,0,0,0,none,0,0,⟨#[]⟩⟩);have hW3:=ax hW2 (jM w2 (aC.box ⟨a,b,0,false,0,0,0,0,0,0,none,0,0,⟨#[]⟩⟩) (some R));have Iz:=hr2.lt;have hWs:=hW2.size;generalize IC:w2.heap.size=B at hB Iz hWs ⊢;clear IC;dsimp only[aC.box]at hB hr3 hW3;clear hr2 hW2;refine(bE R _ _ _ hr3).mono ?_;rintro e w4 ⟨rfl,hr4,hg4⟩;have hB4:=hB.grown hg4 (by omega);have Di:=ax hW3 hg4;clear hr3 hg4 hB hW3;go_wp2_with(go_at_call 85;refine(require_ok _).mono ?_;rintro e w4 ⟨rfl,rfl⟩;obtain⟨_,_,_,c3,_,_,_,_,_,_,_,_⟩:=hB4.cell;have f3:=hB4.free 3);have mQ:=hr4.setCell (B:=B) (by omega) (i:=3) (.bool false) (.bool (iA hu)) (by simp) c3;have qR:=a_ Di (a:=⟨B,3,none⟩) (by simp;omega) (.bool (iA hu));dsimp only[iA]at mQ qR;clear c3 f3 hr4 hB4 Di;generalize w4.setCell _ _=w5 at mQ qR ⊢;rcases hys with rfl|⟨z,r,rfl,hz⟩|rfl
  ·refine(tZ R _ mQ).mono ?_;rintro e w9 ⟨rfl,rfl⟩;exact⟨rfl,qR,.inr ⟨rfl,rfl⟩⟩
  ·refine(bE R _ _ _ mQ).mono ?_;rintro e w6 ⟨rfl,rY,iN⟩;have Eb:=ax qR iN;clear mQ iN qR;go_wp2_with(go_at_call 85;refine(dV _).mono ?_;rintro e w9 ⟨rfl,yV⟩;rw[yV]);exact⟨rfl,Eb,.inr ⟨P_ hz,rfl⟩⟩
  ·refine(bE R _ _ _ mQ).mono ?_;rintro e w6 ⟨rfl,rY,iN⟩;have Eb:=ax qR iN;clear mQ iN qR;go_wp2_with(go_at_call 85;refine(require_ok _).mono ?_;rintro e w6 ⟨rfl,rfl⟩);refine(tZ R _ rY).mono ?_;rintro e w9 ⟨rfl,rfl⟩;exact⟨rfl,Eb,.inr ⟨rfl,rfl⟩⟩
theorem H_(R:Nat)(xs:List Int)(W:World)(hr:Rd R xs W):
  Calls Tryz.prog 56 #[.pointer (some ⟨R,0,none⟩)] W λe w'=>jm R xs W e w':=by
 match xs,hr with
 | [],hr=>exact LW R W hr
 | [a],hr=>exact LV R a W hr
 | [a,b],hr=>exact LU R a b W hr
 |a::b::c::r,hr=>
  by_cases h0:c=0
  ·subst h0
   match r,hr with
   | [],hr=>exact lJ false R a b [] (.inl rfl) W hr
   |z::r,hr=>
    by_cases hz:z=0
    ·subst hz
     match r,hr with
     | [],hr=>exact lJ false R a b [0] (.inr (.inr rfl)) W hr
     |n::r,hr=>
      have hn:=hr.bytes n (by simp);obtain⟨m,rfl⟩:=Int.eq_ofNat_of_zero_le hn.1;by_cases h1:b=1
      ·subst h1;exact EP false R a m r W hr
      by_cases h2:b=2
      ·subst h2;exact EO false R a m r W hr
      by_cases h3:b=3
      ·subst h3;exact EN false R a m r W hr
      by_cases h9:b=9
      ·subst h9;exact EM false R a m r W hr
      exact EQ false R a m r W b (by simpa using h1) (by simpa using h2) (by simpa using h3) (by simpa using h9) hr
    ·exact lJ false R a b (z::r) (.inr (.inl ⟨z,r,rfl,by simpa using hz⟩)) W hr
  by_cases h8:c=8
  ·subst h8
   match r,hr with
   | [],hr=>exact lJ true R a b [] (.inl rfl) W hr
   |z::r,hr=>
    by_cases hz:z=0
    ·subst hz
     match r,hr with
     | [],hr=>exact lJ true R a b [0] (.inr (.inr rfl)) W hr
     |n::r,hr=>
      have hn:=hr.bytes n (by simp);obtain⟨m,rfl⟩:=Int.eq_ofNat_of_zero_le hn.1;by_cases h1:b=1
      ·subst h1;exact EP true R a m r W hr
      by_cases h2:b=2
      ·subst h2;exact EO true R a m r W hr
      by_cases h3:b=3
      ·subst h3;exact EN true R a m r W hr
      by_cases h9:b=9
      ·subst h9;exact EM true R a m r W hr
      exact EQ true R a m r W b (by simpa using h1) (by simpa using h2) (by simpa using h3) (by simpa using h9) hr
    ·exact lJ true R a b (z::r) (.inr (.inl ⟨z,r,rfl,by simpa using hz⟩)) W hr
  ·exact LQ R a b c r (by simpa using h0) (by simpa using h8) W hr
theorem Jr(v:Value)(xs:List Int)(W:World)(hv:d_ W v xs):
  Calls Tryz.prog 22 #[v] W λe w'=>xS xs W e w':=NR H_ v xs W hv
open Go.Maps
theorem je.ge{B:Nat}{a:oW}{aY:List (Bool×Int×Int)}{aI aT:List (Int×ByteArray)}{aM:List Int}{W:World}(h:je B (B+1) a aY aI aT aM W){k:Nat}(hk:iX B a k):B<=k:=by
 rcases hk with rfl|hk|hk|hk|hk
 ·exact aA _
 ·exact Nat.le_of_succ_le (h.mW.lt k hk).1
 ·exact Nat.le_of_succ_le (h.aG.lt k hk).1
 ·exact Nat.le_of_succ_le (h.bL.lt k hk).1
 ·exact Nat.le_of_succ_le (h.bN.lt k hk).1
theorem Cs(p:aC):nJ p.box:=⟨λc e=>(by cases e),λc e=>(by cases e),λc e=>(by cases e),λc e=>(by cases e),λc e=>(by cases e)⟩
variable{f h:Int->Option Nat}{u:Int->Value}{aY:List (Bool×Int×Int)}{aT aI:List (Int×ByteArray)}{aM:List Int}{B M Mt N T:Nat}{F F':Nat->Prop}{x:l8}{s s':St}{tv:Value}{W W' a b:World}
theorem j3.block{s:Nat}(h:j3 W M f s)(he:W'.heap[M]?=W.heap[M]?):j3 W' M f s:=by
 obtain⟨D,⟨es,clock,hb,Ft,hs,hD⟩,h2,h3⟩:=h;exact⟨D,⟨es,clock,he.trans hb,Ft,hs,hD⟩,h2,h3⟩
theorem j3.obj{s:Nat}(h:j3 W M f s):∃es cl,W.heap[M]?=some (.map es cl):=by
 obtain⟨D,⟨es,cl,hm,_⟩,_⟩:=h;exact⟨es,cl,hm⟩
theorem TR.at{base:Nat}{last:Int}{h:List Hp.Tm}{v:Value}(r:TR base T M last h v W)(h1:W'.heap[T]?=W.heap[T]?)(h2:W'.heap[M]?=W.heap[M]?)(h3:∀k,v.ownBlock=some k->W'.heap[k]?=W.heap[k]?):TR base T M last h v W':=by
 obtain⟨f,p1,p2⟩:=r.map;exact⟨h1.trans r.blk,bK r.row h3,⟨f,p1.block h2,p2⟩,r.ok,r.bT,r.bM⟩
def j6(q:Sr):Hp.Tm:=(q.due,q.id,q.dest)
structure VH(x:l8)(h:Int->Option Nat)(u:Int->Value)(Mt:Nat)(hp:List Hp.Tm)(tv:Value)(s:St)(TL:List Hp.Tm)(W:World):Prop where
 sn:vU x.Ms s.tn s.mem W
 sr:vS x.o8 h u s.Q W
 tm:TR 0 x.Tm Mt s.tl hp tv W
 hpo:Hp.Heap hp
 pm:hp.Perm TL
 pc:W.ownsRow 0 35 1 x.pc s.pc.length (s.pc.map (Value.int .u64))
def jL(x:l8)(h:Int->Option Nat)(u:Int->Value)(Mt:Nat)(tv:Value)(s:St)(k:Nat):Prop:=
 k=x.Ms∨Gm x.o8 h u s.Q k∨k=x.Tm∨k=Mt∨tv.ownBlock=some k∨x.pc.ownBlock=some k
theorem VH.kept{hp:List Hp.Tm}{TL:List Hp.Tm}(r:VH x h u Mt hp tv s TL W)(he:∀k,jL x h u Mt tv s k->W'.heap[k]?=W.heap[k]?):VH x h u Mt hp tv s TL W':=
 ⟨r.sn.block (he _ (.inl rfl)),r.sr.kept λk hk=>he k (.inr (.inl hk)),r.tm.at (he _ (.inr (.inr (.inl rfl)))) (he _ (.inr (.inr (.inr (.inl rfl))))) λk hk=>he k (.inr (.inr (.inr (.inr (.inl hk))))),r.hpo,r.pm,bK r.pc λk hk=>he k (.inr (.inr (.inr (.inr (.inr hk)))))⟩
theorem VH.lt{hp:List Hp.Tm}{TL:List Hp.Tm}(r:VH x h u Mt hp tv s TL W){k:Nat}(hk:jL x h u Mt tv s k):k<W.heap.size:=by
 rcases hk with rfl|hk|rfl|rfl|hk|hk
 ·exact r.sn.lt
 ·exact r.sr.lt hk
 ·exact r.tm.blk.lt
 ·obtain⟨f,p1,_⟩:=r.tm.map;exact p1.lt
 ·exact(r.tm.row.lt k hk).2
 ·exact(r.pc.lt k hk).2
def Pg(o:Obj):Prop:=(∀c,o≠ .cells c 177 (0,0))∧(∀c,o≠ .cells c 9 (0,0))∧(∀c,o≠ .cells c 165 (0,0))∧(∀c,o≠ .cells c 254 (0,0))∧∀c,o≠ .cells c 35 (0,0)
theorem VH.kind{hp:List Hp.Tm}{TL:List Hp.Tm}(r:VH x h u Mt hp tv s TL W){k:Nat}(hk:jL x h u Mt tv s k):
  ∃o,W.heap[k]?=some o∧(((k=x.Ms∨k=x.o8∨k=Mt)∧∃es cl,o=.map es cl)∨(¬Pg o∧Go.Proofs.YtakaadcpaeiccabGreat.wZ o∧nJ o∧(∀c,o≠ .cells c 131 (0,0))∧∀es cl,o≠ .map es cl)):=by
 have hT:∀ {t:TypeId} (c:Array Value),(t=177∨t=9∨t=165∨t=254∨t=35)->¬Pg (.cells c t (0,0))∧Go.Proofs.YtakaadcpaeiccabGreat.wZ (.cells c t (0,0))∧nJ (.cells c t (0,0))∧(∀d,(Obj.cells c t (0,0))≠ .cells d 131 (0,0))∧∀es cl,(Obj.cells c t (0,0))≠ .map es cl:=by
  rintro t c (rfl|rfl|rfl|rfl|rfl)<;>
  exact⟨by simp[Pg],⟨λc e=>(by cases e),λc e=>(by cases e),λc e=>(by cases e)⟩,⟨λc e=>(by cases e),λc e=>(by cases e),λc e=>(by cases e),λc e=>(by cases e),λc e=>(by cases e)⟩,λc e=>(by cases e),λc d e=>(by cases e)⟩
 rcases hk with rfl|hk|rfl|rfl|hk|hk
 ·obtain⟨es,cl,hm⟩:=r.sn.obj;exact⟨_,hm,.inl ⟨.inl rfl,_,_,rfl⟩⟩
 ·obtain⟨o,ho,⟨rfl,es,cl,rfl⟩|⟨c,rfl⟩|⟨c,rfl⟩⟩:=r.sr.kind hk
  ·exact⟨_,ho,.inl ⟨.inr (.inl rfl),_,_,rfl⟩⟩
  ·exact⟨_,ho,.inr (hT c (.inl rfl))⟩
  ·exact⟨_,ho,.inr (hT c (.inr (.inl rfl)))⟩
 ·exact⟨_,r.tm.blk,.inr (hT _ (.inr (.inr (.inl rfl))))⟩
 ·obtain⟨f,p1,_⟩:=r.tm.map;obtain⟨es,cl,hm⟩:=p1.obj;exact⟨_,hm,.inl ⟨.inr (.inr rfl),_,_,rfl⟩⟩
 ·obtain⟨c,hc⟩:=aL r.tm.row hk;exact⟨_,hc,.inr (hT c (.inr (.inr (.inr (.inl rfl)))))⟩
 ·obtain⟨c,hc⟩:=aL r.pc hk;exact⟨_,hc,.inr (hT c (.inr (.inr (.inr (.inr rfl)))))⟩
structure bF where
 x:l8
 a:oW
 M:Nat
 ff:Int->Option Nat
 gg:Int->Value
 sz:Nat
 h:Int->Option Nat
 u:Int->Value
 Mt:Nat
 hp:List Hp.Tm
 tv:Value
structure NdE(x:l8)(s:St):Prop where
 self:x.self=s.me
 seq:x.seq=s.seq
 bR:x.bR=s.bR
 b_:x.b_=s.b_
 dZ:x.dZ=s.dZ
 tn:x.tn=s.tn
 own:x.own=s.own
 cnt:x.cnt=s.cnt
 lk:x.lk=s.lk
structure Nn(N:Nat)(g:bF)(s:St)(TL:List Hp.Tm)(W:World):Prop where
 cr:DT N g.x g.M g.ff g.gg s.A s.f g.sz W
 eq:NdE g.x s
 rs:VH g.x g.h g.u g.Mt g.hp g.tv s TL W
 pK: [g.M,g.x.Mo,g.x.Ms,g.x.o8,g.Mt].Nodup
 GJ:g.sz<=1000000
def Ft(N:Nat)(g:bF)(s:St)(k:Nat):Prop:=xG N g.x g.M g.ff g.gg s.A k∨jL g.x g.h g.u g.Mt g.tv s k
structure Nd(N B:Nat)(g:bF)(s:St)(TL:List Hp.Tm)(W:World):Prop where
 nn:Nn N g s TL W
 ac:je B (B+1) g.a s.aY s.aI s.aT s.aM W
 now:g.a.now=s.now
 bq:g.a.bq=s.bq
structure Up(B:Nat)(F F':Nat->Prop)(w w':World):Prop where
 sub:∀k,F' k->F k∨(w.heap.size<=k∧k<w'.heap.size)
 os:w'.os=w.os
 tape:w'.tape=w.tape
 output:w'.output=w.output
 size:w.heap.size<=w'.heap.size
 block:∀k o,w.heap[k]?=some o->¬F k->(nJ o∨k<B)->w'.heap[k]?=some o
theorem aB{k:Nat}{o:Obj}(h:W.heap[k]?=some o):k<W.heap.size:=(gN.1 h).1
theorem Up.trans{F'':Nat->Prop}{c:World}(p:Up B F F' a b)(q:Up B F' F'' b c):Up B F F'' a c:=by
 have h1:=p.size;have h2:=q.size;refine⟨λk hk=> ?_,q.os.trans p.os,q.tape.trans p.tape,q.output.trans p.output,dF h1 h2,λk o ho hn hA=> ?_⟩
 ·rcases q.sub k hk with h|h
  ·rcases p.sub k h with h|h
   ·exact .inl h
   ·exact .inr (by omega)
  ·exact .inr (by omega)
 ·refine q.block k o (p.block k o ho hn hA) (λh=> ?_) hA;rcases p.sub k h with h|h
  ·exact hn h
  ·have:=aB ho;omega
theorem Up.below(h:Below a.heap.size a b):Up B F F a b:=
 ⟨λ_ h=> .inl h,h.os,h.tape,h.output,h.size,λk _ ho _ _=>(h.block k (aB ho)).trans ho⟩
theorem Up.refl(B:Nat)(F:Nat->Prop)(a:World):Up B F F a a:=.below (aR _ _)
theorem Up.of{S:Nat->Prop}(h:Fx S a b)(hs:∀k o,S k->a.heap[k]?=some o->F k∨(¬nJ o∧B<=k))(sub:∀k,F' k->F k∨(a.heap.size<=k∧k<b.heap.size)):Up B F F' a b:=
 ⟨sub,h.os,h.tape,h.output,h.size,λk o ho hn hA=>(h.block k (aB ho) λhk=>by
  rcases hs k o hk ho with h|⟨h1,h2⟩
  ·exact hn h
  ·rcases hA with h|h
   ·exact h1 h
   ·omega).trans ho⟩
theorem Up.Oe(h:Up B F F' a b)(hB:a.heap.size<=B):Fx F a b:=
 ⟨h.os,h.tape,h.output,h.size,λk hk hn=>by
  obtain⟨o,ho⟩:∃o,a.heap[k]?=some o:=⟨_,Array.getElem?_eq_getElem hk⟩;rw[ho];exact h.block k o ho hn (.inr (by omega))⟩
theorem Up.keep(p:Up B F F' a b){k:Nat}{o:Obj}(ho:a.heap[k]?=some o)(hn:¬F k)(hA:nJ o):b.heap[k]?=some o∧¬F' k:=
 ⟨p.block k o ho hn (.inl hA),λh=>(p.sub k h).elim hn (by have:=aB ho;omega)⟩
theorem MT.kind{me:Int}{g:Int->Value}{A:List Rt}(h:MT me T M f g A W){k:Nat}(hk:l9 T M f g A k):
  ∃o,W.heap[k]?=some o∧((k=M∧∃es cl,o=.map es cl)∨(nJ o∧Pg o∧(∀c,o≠ .cells c 131 (0,0))∧∀es cl,o≠ .map es cl)):=by
 have hT:∀ {t:TypeId} (c:Array Value),(t=158∨t=38∨t=34)->nJ (.cells c t (0,0))∧Pg (.cells c t (0,0))∧(∀d,(Obj.cells c t (0,0))≠ .cells d 131 (0,0))∧∀es cl,(Obj.cells c t (0,0))≠ .map es cl:=by
  rintro t c (rfl|rfl|rfl)<;>
  exact⟨⟨λc e=>(by cases e),λc e=>(by cases e),λc e=>(by cases e),λc e=>(by cases e),λc e=>(by cases e)⟩,⟨λc e=>(by cases e),λc e=>(by cases e),λc e=>(by cases e),λc e=>(by cases e),λc e=>(by cases e)⟩,λc e=>(by cases e),λc d e=>(by cases e)⟩
 rcases hk with rfl|rfl|⟨y,hy,hk|hk⟩
 ·exact⟨_,h.blk,.inr (hT _ (.inl rfl))⟩
 ·obtain⟨es,cl,hm⟩:=h.map.obj;exact⟨_,hm,.inl ⟨rfl,_,_,rfl⟩⟩
 ·obtain⟨B,p1,p2⟩:=h.ln y hy;rw[p1]at hk;cases hk;exact⟨_,p2,.inr (hT _ (.inr (.inl rfl)))⟩
 ·obtain⟨c,hc⟩:=aL (h.row y hy) hk;exact⟨_,hc,.inr (hT c (.inr (.inr rfl)))⟩
theorem Nn.lt{g:bF}{TL:List Hp.Tm}(n:Nn N g s TL W){k:Nat}(hk:Ft N g s k):k<W.heap.size:=by
 rcases hk with(rfl|rfl|hk)|hk
 ·exact n.cr.nd.lt
 ·exact n.cr.mo.lt
 ·exact n.cr.tb.lt hk
 ·exact n.rs.lt hk
theorem Nn.nJ{g:bF}{TL:List Hp.Tm}(n:Nn N g s TL W){k:Nat}(hk:Ft N g s k):∃o,W.heap[k]?=some o∧Go.Proofs.YtakaadcpaeiccabGreat.nJ o:=by
 rcases hk with(rfl|rfl|hk)|hk
 ·exact⟨_,n.cr.nd,J5 _⟩
 ·obtain⟨es,cl,hm⟩:=n.cr.mo.obj;exact⟨_,hm,uj es cl⟩
 ·obtain⟨o,ho,⟨_,es,cl,rfl⟩|⟨h,_⟩⟩:=n.cr.tb.kind hk
  ·exact⟨_,ho,uj es cl⟩
  ·exact⟨o,ho,h⟩
 ·obtain⟨o,ho,⟨_,es,cl,rfl⟩|⟨_,_,h,_⟩⟩:=n.rs.kind hk
  ·exact⟨_,ho,uj es cl⟩
  ·exact⟨o,ho,h⟩
theorem Nn.maps{g:bF}{TL:List Hp.Tm}(n:Nn N g s TL W){k:Nat}(hk:k=g.x.Ms∨k=g.x.o8∨k=g.Mt):k≠g.M∧k≠g.x.Mo:=by
 have h:=n.pK;simp only[List.nodup_cons,eF,List.not_mem_nil,or_false,not_or]at h;obtain⟨⟨_,h1,h2,h3⟩,⟨h4,h5,h6⟩,_⟩:=h;rcases hk with rfl|rfl|rfl
 ·exact⟨Ne.symm h1,Ne.symm h4⟩
 ·exact⟨Ne.symm h2,Ne.symm h5⟩
 ·exact⟨Ne.symm h3,Ne.symm h6⟩
theorem Nn.apart{g:bF}{TL:List Hp.Tm}(n:Nn N g s TL W){k:Nat}(hk:jL g.x g.h g.u g.Mt g.tv s k):¬xG N g.x g.M g.ff g.gg s.A k:=by
 obtain⟨o,ho,⟨h,es,cl,rfl⟩|⟨h1,h2,h3,h4,h5⟩⟩:=n.rs.kind hk
 ·obtain⟨q1,q2⟩:=n.maps h;rintro(rfl|rfl|hc)
  ·rw[show W.heap[k]?=_ from n.cr.nd]at ho;cases ho
  ·exact q2 rfl
  ·exact n.cr.tb.not q1 ho (uh es cl) hc
 ·rintro(rfl|rfl|hc)
  ·rw[show W.heap[k]?=_ from n.cr.nd]at ho;exact h4 _ (Option.some.inj ho).symm
  ·obtain⟨es,cl,hm⟩:=n.cr.mo.obj;rw[hm]at ho;exact h5 _ _ (Option.some.inj ho).symm
  ·refine n.cr.tb.not (λe=> ?_) ho h2 hc;subst e;obtain⟨es,cl,hm⟩:=n.cr.tb.map.obj;rw[hm]at ho;exact h5 _ _ (Option.some.inj ho).symm
theorem Nn.kept{g:bF}{TL:List Hp.Tm}(n:Nn N g s TL W)(he:∀k,Ft N g s k->W'.heap[k]?=W.heap[k]?):Nn N g s TL W':=
 ⟨⟨n.cr.nd.block (he _ (.inl (.inl rfl))),n.cr.mo.block (he _ (.inl (.inr (.inl rfl)))),n.cr.tb.kept λk hk=>he k (.inl (.inr (.inr hk))),n.cr.ne⟩,n.eq,n.rs.kept λk hk=>he k (.inr hk),n.pK,n.GJ⟩
theorem Nn.later{g:bF}{TL:List Hp.Tm}(n:Nn N g s TL W)(hb:Below W.heap.size W W'):Nn N g s TL W':=n.kept λk hk=>hb.block k (n.lt hk)
theorem Nd.later{g:bF}{TL:List Hp.Tm}(n:Nd N B g s TL W)(hb:Below W.heap.size W W'):Nd N B g s TL W':=⟨n.nn.later hb,n.ac.later hb,n.now,n.bq⟩
def zS(s s':St):Prop:=s'.me=s.me∧s'.seq=s.seq∧s'.bR=s.bR∧s'.b_=s.b_∧s'.dZ=s.dZ∧s'.A=s.A∧s'.mem=s.mem∧s'.tn=s.tn∧s'.f=s.f∧s'.own=s.own∧s'.cnt=s.cnt∧s'.Q=s.Q∧s'.tl=s.tl∧s'.pc=s.pc∧s'.lk=s.lk
theorem Nn.same{g:bF}{TL:List Hp.Tm}(n:Nn N g s TL W)(h:zS s s')(a:oW):Nn N {g with a:=a} s' TL W:=by
 obtain⟨h1,h2,h3,h4,h5,h6,h7,h8,h9,h10,h11,h12,Sq,h14,h15⟩:=h;obtain⟨c,e,r,d,z⟩:=n;obtain⟨e1,e2,e3,e4,e5,e6,e7,e8,e9⟩:=e;obtain⟨r1,r2,r3,r4,r5,r6⟩:=r;exact⟨by rw[h6,h9];exact c,⟨by rw[h1];exact e1,by rw[h2];exact e2,by rw[h3];exact e3,by rw[h4];exact e4,by rw[h5];exact e5,by rw[h8];exact e6,by rw[h10];exact e7,by rw[h11];exact e8,by rw[h15];exact e9⟩,⟨by rw[h7,h8];exact r1,by rw[h12];exact r2,by rw[Sq];exact r3,r4,r5,by rw[h14];exact r6⟩,d,z⟩
theorem Ft.same{g:bF}(h:zS s s')(a:oW)(k:Nat):Ft N {g with a:=a} s' k ↔ Ft N g s k:=by
 obtain⟨h1,h2,h3,h4,h5,h6,h7,h8,h9,h10,h11,h12,Sq,h14,h15⟩:=h;unfold Ft jL;rw[h6,h12]
theorem je.Ib{g:bF}{TL:List Hp.Tm}{base:Nat}{a:oW}(h:je B base a aY aI aT aM W)(n:Nn N g s TL W){k:Nat}(hk:Ft N g s k):¬iX B a k:=by
 obtain⟨o,ho,hA⟩:=n.nJ hk;exact h.not ho hA
theorem je.kinds{base:Nat}{a:oW}(h:je B base a aY aI aT aM W){k:Nat}(hk:iX B a k){o:Obj}(ho:W.heap[k]?=some o):¬nJ o:=λhA=>h.not ho hA hk
theorem Nd.act{g:bF}{TL:List Hp.Tm}(n:Nd N B g s TL W){a':oW}(h:je B (B+1) a' s'.aY s'.aI s'.aT s'.aM W')(hf:Fx (iX B g.a) W W')(he:zS s s')(h1:a'.now=s'.now)(h2:a'.bq=s'.bq):
  Nd N B {g with a:=a'} s' TL W'∧Up B (Ft N g s) (Ft N {g with a:=a'} s') W W':=by
 refine⟨⟨(n.nn.kept λk hk=>hf.block k (n.nn.lt hk) (n.ac.Ib n.nn hk)).same he a',h,h1,h2⟩,.of hf (λk o hk ho=> .inr ⟨n.ac.kinds hk ho,n.ac.ge hk⟩) λk hk=> .inl ((Ft.same he a' k).1 hk)⟩
theorem Nd.table{g:bF}{TL:List Hp.Tm}(n:Nd N B g s TL W){A':List Rt}(h:zQ s.me g.x.T (ext (l9 g.x.T g.M g.ff g.gg s.A) W.heap.size W'.heap.size) A' W')(hf:Fx (l9 g.x.T g.M g.ff g.gg s.A) W W'):
  ∃M' QW vL,Nd N B {g with M:=M',ff:=QW,gg:=vL} {s with A:=A'} TL W'∧Up B (Ft N g s) (Ft N {g with M:=M',ff:=QW,gg:=vL} {s with A:=A'}) W W':=by
 obtain⟨M',QW,vL,hM,hS⟩:=h;have hrs:∀k,jL g.x g.h g.u g.Mt g.tv s k->¬l9 g.x.T g.M g.ff g.gg s.A k:=λk hk hc=>n.nn.apart hk (.inr (.inr hc));have hM':∀k,k<W.heap.size->¬l9 g.x.T g.M g.ff g.gg s.A k->M'≠k:=by
  rintro k hk hn rfl;rcases hS M' (.inr (.inl rfl))with h|h
  ·exact hn h
  ·omega
 have MQ:¬l9 g.x.T g.M g.ff g.gg s.A g.x.Mo:=by
  obtain⟨es,cl,hm⟩:=n.nn.cr.mo.obj;exact n.nn.cr.tb.not (Ne.symm n.nn.cr.ne) hm (uh es cl)
 have hN:¬l9 g.x.T g.M g.ff g.gg s.A N:=n.nn.cr.tb.not (λe=>by
  obtain⟨es,cl,hm⟩:=n.nn.cr.tb.map.obj;rw[<-e,show W.heap[N]?=_ from n.nn.cr.nd]at hm;cases hm) n.nn.cr.nd (qx _)
 have hnd:=n.nn.pK;simp only[List.nodup_cons,eF,List.not_mem_nil,or_false,not_or]at hnd;obtain⟨_,hnd⟩:=hnd;have hac:∀k,iX B g.a k->¬l9 g.x.T g.M g.ff g.gg s.A k:=λk hk hc=>n.ac.Ib n.nn (.inl (.inr (.inr hc))) hk;refine⟨M',QW,vL,⟨⟨⟨n.nn.cr.nd.block (hf.block _ n.nn.cr.nd.lt hN),n.nn.cr.mo.block (hf.block _ n.nn.cr.mo.lt MQ),by rw[n.nn.eq.self];exact hM,hM' _ n.nn.cr.mo.lt MQ⟩,⟨n.nn.eq.self,n.nn.eq.seq,n.nn.eq.bR,n.nn.eq.b_,n.nn.eq.dZ,n.nn.eq.tn,n.nn.eq.own,n.nn.eq.cnt,n.nn.eq.lk⟩,?_,?_,n.nn.GJ⟩,n.ac.kept λk hk=>hf.block k (n.ac.lt hk) (hac k hk),n.now,n.bq⟩,.of hf (λk o hk _=> .inl (.inl (.inr (.inr hk)))) λk hk=> ?_⟩
 ·have:=n.nn.rs.kept (W':=W') λk hk=>hf.block k (n.nn.rs.lt hk) (hrs k hk);exact⟨this.sn,this.sr,this.tm,this.hpo,this.pm,this.pc⟩
 ·have q1:=hM' _ n.nn.cr.mo.lt MQ;have q2:=hM' _ (n.nn.rs.lt (.inl rfl)) (hrs _ (.inl rfl));have q3:=hM' _ (n.nn.rs.lt (.inr (.inl (.inl rfl)))) (hrs _ (.inr (.inl (.inl rfl))));have q4:=hM' _ (n.nn.rs.lt (.inr (.inr (.inr (.inl rfl))))) (hrs _ (.inr (.inr (.inr (.inl rfl)))));simp only[List.nodup_cons,eF,List.not_mem_nil,or_false,not_or];exact⟨⟨q1,q2,q3,q4⟩,hnd⟩
 ·rcases hk with(rfl|rfl|hk)|hk
  ·exact .inl (.inl (.inl rfl))
  ·exact .inl (.inl (.inr (.inl rfl)))
  ·rcases hS k hk with h|h
   ·exact .inl (.inl (.inr (.inr h)))
   ·exact .inr h
  ·exact .inl (.inr hk)
theorem Nd.rest{g:bF}{TL dG:List Hp.Tm}(n:Nd N B g s TL W){x':l8}{h':Int->Option Nat}{u':Int->Value}{DW:Nat}{hp':List Hp.Tm}{tv':Value}
  (hx:gW N x' W') (hT:x'.T=g.x.T) (MQ:x'.Mo=g.x.Mo) (he:NdE x' s') (hr:VH x' h' u' DW hp' tv' s' dG W') (hf:Fx (λk=>k=N∨jL g.x g.h g.u g.Mt g.tv s k) W W')
  (sub:∀k,jL x' h' u' DW tv' s' k->jL g.x g.h g.u g.Mt g.tv s k∨(W.heap.size<=k∧k<W'.heap.size)) (hm:x'.Ms=g.x.Ms∧x'.o8=g.x.o8∧DW=g.Mt)
  (hs:s'.me=s.me∧s'.A=s.A∧s'.f=s.f∧s'.aY=s.aY∧s'.aI=s.aI∧s'.aT=s.aT∧s'.aM=s.aM∧s'.now=s.now∧s'.bq=s.bq):
  Nd N B {g with x:=x',h:=h',u:=u',Mt:=DW,hp:=hp',tv:=tv'} s' dG W'∧Up B (Ft N g s) (Ft N {g with x:=x',h:=h',u:=u',Mt:=DW,hp:=hp',tv:=tv'} s') W W':=by
 obtain⟨s1,s2,s3,s4,s5,s6,s7,s8,s9⟩:=hs;obtain⟨m1,m2,m3⟩:=hm;have hcr:∀k,xG N g.x g.M g.ff g.gg s.A k->k≠N->¬(k=N∨jL g.x g.h g.u g.Mt g.tv s k):=λk hk hne h=>h.elim hne λh=>n.nn.apart h hk;have hTN:∀k,l9 g.x.T g.M g.ff g.gg s.A k->k≠N:=by
  rintro k hk rfl;exact n.nn.cr.tb.not (λe=>by
   obtain⟨es,cl,hm⟩:=n.nn.cr.tb.map.obj;rw[<-e,show W.heap[k]?=_ from n.nn.cr.nd]at hm;cases hm) n.nn.cr.nd (qx _) hk
 have acV:g.x.Mo≠N:=Ne.symm (J6 n.nn.cr.nd n.nn.cr.mo);refine⟨⟨⟨⟨hx,?_,?_,?_⟩,he,hr,?_,n.nn.GJ⟩,?_,by rw[s8];exact n.now,by rw[s9];exact n.bq⟩,.of hf (λk o hk _=> .inl (hk.elim (λh=> .inl (.inl h)) .inr)) λk hk=> ?_⟩
 ·rw[s3,show({g with x:=x',h:=h',u:=u',Mt:=DW,hp:=hp',tv:=tv'}:bF).x.Mo=g.x.Mo from MQ];exact n.nn.cr.mo.block (hf.block _ n.nn.cr.mo.lt (hcr _ (.inr (.inl rfl)) acV))
 ·rw[s2,show({g with x:=x',h:=h',u:=u',Mt:=DW,hp:=hp',tv:=tv'}:bF).x.T=g.x.T from hT,show({g with x:=x',h:=h',u:=u',Mt:=DW,hp:=hp',tv:=tv'}:bF).x.self=g.x.self from by rw[n.nn.eq.self,<-s1];exact he.self];exact n.nn.cr.tb.kept λk hk=>hf.block k (n.nn.cr.tb.lt hk) (hcr _ (.inr (.inr hk)) (hTN k hk))
 ·rw[show({g with x:=x',h:=h',u:=u',Mt:=DW,hp:=hp',tv:=tv'}:bF).x.Mo=g.x.Mo from MQ];exact n.nn.cr.ne
 ·have:=n.nn.pK;dsimp only;rw[MQ,m1,m2,m3];exact this
 ·rw[s4,s5,s6,s7];exact n.ac.kept λk hk=>hf.block k (n.ac.lt hk) λh=>n.ac.Ib n.nn (h.elim (λh=> .inl (.inl h)) .inr) hk
 ·rcases hk with(rfl|rfl|hk)|hk
  ·exact .inl (.inl (.inl rfl))
  ·exact .inl (.inl (.inr (.inl MQ)))
  ·rw[s2]at hk;dsimp only at hk;rw[hT]at hk;exact .inl (.inl (.inr (.inr hk)))
  ·exact(sub k hk).imp_left .inr
theorem Nd.cells{g:bF}{TL:List Hp.Tm}(n:Nd N B g s TL W){x':l8}(hx:gW N x' W')(hf:Fx (λk=>k=N) W W')(he:NdE x' s')(hm:x'.T=g.x.T∧x'.Mo=g.x.Mo∧x'.Ms=g.x.Ms∧x'.o8=g.x.o8∧x'.Tm=g.x.Tm∧x'.pc=g.x.pc)
  (hs:s'.me=s.me∧s'.A=s.A∧s'.f=s.f∧s'.aY=s.aY∧s'.aI=s.aI∧s'.aT=s.aT∧s'.aM=s.aM∧s'.now=s.now∧s'.bq=s.bq) (hs2:s'.mem=s.mem∧s'.tn=s.tn∧s'.Q=s.Q∧s'.tl=s.tl∧s'.pc=s.pc):
  Nd N B {g with x:=x'} s' TL W'∧Up B (Ft N g s) (Ft N {g with x:=x'} s') W W':=by
 obtain⟨m1,m2,m3,m4,m5,m6⟩:=hm;obtain⟨t1,t2,t3,t4,t5⟩:=hs2;have hin:∀k,jL x' g.h g.u g.Mt g.tv s' k->jL g.x g.h g.u g.Mt g.tv s k:=by
  intro k hk;unfold jL at hk ⊢;rw[m3,m4,m5,m6,t3]at hk;exact hk
 have hr:=n.nn.rs.kept (W':=W') λk hk=>hf.block k (n.nn.rs.lt hk) λe=>n.nn.apart hk (.inl e);refine n.rest hx m1 m2 he ⟨?_,?_,?_,hr.hpo,hr.pm,?_⟩ (hf.mono λk h=> .inl h) (λk hk=> .inl (hin k hk)) ⟨m3,m4,rfl⟩ hs
 ·rw[m3,t1,t2];exact hr.sn
 ·rw[m4,t3];exact hr.sr
 ·rw[m5,t4];exact hr.tm
 ·rw[m6,t5];exact hr.pc
variable{B N b t:Nat}{s:St}{v0 v1 v2 v3 v4:Value}{W w:World}
def kT(N B:Nat)(g:bF)(s s':St)(dG:List Hp.Tm)(w w':World):Prop:=∃g',Nd N B g' s' dG w'∧Up B (Ft N g s) (Ft N g' s') w w'∧Hid (g'.x.T=g.x.T)
theorem hide{P:Prop}(h:P):Hid P:=h
theorem cells5(h:W.heap[b]?=some (.cells #[v0,v1,v2,v3,v4] t (0,0))):W.cell? ⟨b,0,none⟩=some v0∧W.cell? ⟨b,1,none⟩=some v1∧W.cell? ⟨b,2,none⟩=some v2∧W.cell? ⟨b,3,none⟩=some v3∧W.cell? ⟨b,4,none⟩=some v4:=
 have k:=λi=>aF W b i _ _ _ h
 ⟨k 0,k 1,k 2,k 3,k 4⟩
theorem wM(h:W.heap[b]?=some (.cells #[v0,v1,v2,v3,v4] t (0,0))):W.frozen? ⟨b,0,none⟩=false∧W.frozen? ⟨b,1,none⟩=false∧W.frozen? ⟨b,2,none⟩=false∧W.frozen? ⟨b,3,none⟩=false∧W.frozen? ⟨b,4,none⟩=false:=
 have k:=λi=>mg W b i _ _ h
 ⟨k 0,k 1,k 2,k 3,k 4⟩
theorem kT.pre{g:bF}{s':St}{dG:List Hp.Tm}{a b c:World}(hb:Below a.heap.size a b)(p:kT N B g s s' dG b c):kT N B g s s' dG a c:=by
 obtain⟨g1,n1,u1,t1⟩:=p;exact⟨g1,n1,(Up.below hb).trans u1,t1⟩
theorem Nd.base{g:bF}{TL:List Hp.Tm}(n:Nd N B g s TL W):B+1<=W.heap.size:=n.ac.blk.lt
theorem Nd.cell{g:bF}{TL:List Hp.Tm}(n:Nd N B g s TL W):
  W.cell? ⟨N,2,none⟩=some (.int .u32 s.me)∧W.cell? ⟨N,3,none⟩=some (.int .u32 s.seq)∧W.cell? ⟨N,4,none⟩=some (.int .u64 s.bR)∧W.cell? ⟨N,7,none⟩=some (.pointer (some ⟨g.x.T,0,none⟩))∧W.cell? ⟨B,0,none⟩=some (.int .u64 s.now):=by
 obtain⟨_,n2,n3,n4,n5,_⟩:=n.nn.cr.nd.cell;obtain⟨e1,e2,e3,_⟩:=n.nn.eq;obtain⟨c0,_⟩:=n.ac.blk.cell;rw[<-e1,<-e2,<-e3,<-n.now];exact⟨n2,n3,n4,n5,c0⟩
theorem rJ(s:St)(r:Int):zS s (s.drop r):=⟨rfl,rfl,rfl,rfl,rfl,rfl,rfl,rfl,rfl,rfl,rfl,rfl,rfl,rfl,rfl⟩
theorem rH(s:St)(t:Int)(p:aC)(L:List (Int×Int)):zS s (s.send t p L):=⟨rfl,rfl,rfl,rfl,rfl,rfl,rfl,rfl,rfl,rfl,rfl,rfl,rfl,rfl,rfl⟩
theorem yu(s:St)(t:Int)(L:List (Int×Int)):zS s (s.lose t L):=⟨rfl,rfl,rfl,rfl,rfl,rfl,rfl,rfl,rfl,rfl,rfl,rfl,rfl,rfl,rfl⟩
theorem iV{g:bF}{TL:List Hp.Tm}(n:Nd N B g s TL w)(r:Int)(hd:s.aM.length<=1000000):
  Calls Tryz.prog 92 #[.pointer (some ⟨B,0,none⟩),.int .i64 r] w λe w'=>e=.returned (.tuple #[])∧kT N B g s (s.drop r) TL w w':=by
 refine(F8 B (B+1) g.a s.aY s.aI s.aT s.aM r w n.ac n.base hd).mono ?_;rintro e w' ⟨v7,rfl,h1,h2⟩;obtain⟨p,q⟩:=n.act (s':=s.drop r) h1 h2 (rJ s r) n.now n.bq;exact⟨rfl,_,p,q,rfl⟩
theorem zZ{g:bF}{TL:List Hp.Tm}(n:Nd N B g s TL w)(t:Int)(p:aC)(hp:p.Wf)(L:List (Int×Int))(hL:eT w p L)(hd:s.aI.length<=1000000):
  Calls Tryz.prog 80 #[.pointer (some ⟨B,0,none⟩),.int .u32 t,p.val] w λe w'=>e=.returned (.tuple #[])∧kT N B g s (s.send t p L) TL w w':=by
 refine(yo B (B+1) g.a s.aY s.aI s.aT s.aM t p hp L w n.ac n.base hd hL).mono ?_;rintro e w' ⟨v7,rfl,h1,h2⟩;obtain⟨p,q⟩:=n.act (s':=s.send t p L) h1 h2 (rH s t p L) n.now n.bq;exact⟨rfl,_,p,q,rfl⟩
theorem RG{g:bF}{TL:List Hp.Tm}(n:Nd N B g s TL w)(t:Int)(ao:Option Addr)(c:Nat)(L:List (Int×Int))(hn:L.length<=65536)(hL:bB w ao L)(hd:s.aI.length<=1000000):
  Calls Tryz.prog 137 #[.pointer (some ⟨B,0,none⟩),.int .u32 t,.slice ao L.length c] w λe w'=>e=.returned (.tuple #[])∧kT N B g s (s.lose t L) TL w w':=by
 refine(Fh B (B+1) g.a s.aY s.aI s.aT s.aM t ao c L w n.ac n.base hd hn hL).mono ?_;rintro e w' ⟨v7,rfl,h1,h2⟩;obtain⟨p,q⟩:=n.act (s':=s.lose t L) h1 h2 (yu s t L) n.now n.bq;exact⟨rfl,_,p,q,rfl⟩
theorem Nd.tab{g:bF}{TL:List Hp.Tm}(n:Nd N B g s TL W):zQ s.me g.x.T (l9 g.x.T g.M g.ff g.gg s.A) s.A W:=
 ⟨g.M,g.ff,g.gg,by rw[<-n.nn.eq.self];exact n.nn.cr.tb,λ_ h=>h⟩
theorem Nd.uX{g:bF}{TL:List Hp.Tm}{W':World}(n:Nd N B g s TL W){A':List Rt}(h:zQ s.me g.x.T (ext (l9 g.x.T g.M g.ff g.gg s.A) W.heap.size W'.heap.size) A' W')(hf:Fx (l9 g.x.T g.M g.ff g.gg s.A) W W'):kT N B g s {s with A:=A'} TL W W':=by
 obtain⟨M',QW,vL,p,q⟩:=n.table h hf;exact⟨_,p,q,rfl⟩
theorem zQ.ext{me:Int}{T:Nat}{S:Nat->Prop}{A:List Rt}(h:zQ me T S A W)(a b:Nat):zQ me T (Go.Proofs.YtakaadcpaeiccabGreat.ext S a b) A W:=by
 obtain⟨M,f,g,h1,h2⟩:=h;exact⟨M,f,g,h1,λk hk=> .inl (h2 k hk)⟩
theorem Gr{g:bF}{TL:List Hp.Tm}(n:Nd N B g s TL w)(d q h nx e:Int)(hd:bg d)(hs:bg q)(hh:nX h)(hn:bg nx)(he:zP e):
  Calls Tryz.prog 161 #[.pointer (some ⟨g.x.T,0,none⟩),.int .u32 d,.int .u32 q,.int .i64 h,.int .u32 nx,.int .u64 e] w λr w'=>r=.returned (.int .i64 (ig s.me s.A d q h nx e).2)∧kT N B g s {s with A:=(ig s.me s.A d q h nx e).1} TL w w':=by
 refine(I9 s.me g.x.T _ s.A d q h nx e hd hs hh hn he w n.tab).mono ?_;rintro r w' ⟨rfl,h1,h2⟩;exact⟨rfl,n.uX h1 h2⟩
theorem KQ{g:bF}{TL:List Hp.Tm}(n:Nd N B g s TL w)(d e:Int)(hd:bg d)(he:zP e):
  Calls Tryz.prog 81 #[.pointer (some ⟨g.x.T,0,none⟩),.int .u32 d,.int .u64 e] w λr w'=>r=.returned (.tuple #[])∧kT N B g s {s with A:=ic s.A d e} TL w w':=by
 refine(KN s.me g.x.T _ s.A d e hd he w n.tab).mono ?_;rintro r w' ⟨rfl,h1,h2⟩;exact⟨rfl,n.uX (h1.ext _ _) h2⟩
theorem qi{g:bF}{TL:List Hp.Tm}(n:Nd N B g s TL w)(d nb:Int)(hd:bg d)(hn:bg nb):
  Calls Tryz.prog 182 #[.pointer (some ⟨g.x.T,0,none⟩),.int .u32 d,.int .u32 nb] w λr w'=>r=.returned (.tuple #[])∧kT N B g s {s with A:=kQ s.A d nb} TL w w':=by
 refine(Jw s.me g.x.T _ s.A d nb hd hn w n.tab).mono ?_;rintro r w' ⟨rfl,h1,h2⟩;exact⟨rfl,n.uX h1 h2⟩
theorem Zl{g:bF}{TL:List Hp.Tm}(n:Nd N B g s TL w)(d now:Int)(hd:bg d):
  Calls Tryz.prog 79 #[.pointer (some ⟨g.x.T,0,none⟩),.int .u32 d,.int .u64 now] w λe w'=>∃ao c,e=.returned (.tuple #[GK (bJ s.A d now).1 (.slice ao (bJ s.A d now).1.bG.length c),.bool (bJ s.A d now).2])∧Below w.heap.size w w':=by
 refine(R7 s.me g.x.T _ s.A d now hd w n.tab).mono ?_;rintro e w' ⟨v',rfl,h1,h2⟩;obtain⟨ao,c,rfl,_⟩:=ak h1;exact⟨ao,c,rfl,h2⟩
theorem WE{g:bF}{TL:List Hp.Tm}(n:Nd N B g s TL w)(d:Int)(hd:bg d):
  Calls Tryz.prog 157 #[.pointer (some ⟨g.x.T,0,none⟩),.int .u32 d] w λe w'=>e=.returned (.tuple #[.int .u32 (eB s.A d),.bool (aK s.A d).isSome])∧w'=w:=Em n.nn.cr.tb d hd
theorem BR{g:bF}{TL:List Hp.Tm}(n:Nd N B g s TL w)(t d:Int)(hd:bg d)(hl:s.aI.length<=1000000):
  Calls Tryz.prog 129 #[.pointer (some ⟨N,0,none⟩),.pointer (some ⟨B,0,none⟩),.int .u32 t,.int .u32 d] w λe w'=>e=.returned (.tuple #[])∧kT N B g s (s.kF t d) TL w w':=by
 refine(Fj N B (B+1) g.x g.a s.aY s.aI s.aT s.aM t d hd w n.nn.cr n.ac n.base hl).mono ?_;rintro e w' ⟨v7,rfl,h1,h2⟩;obtain⟨p,q⟩:=n.act (s':=s.kF t d) h1 h2 (yu s t _) n.now n.bq;exact⟨rfl,_,p,q,rfl⟩
theorem Ny{g:bF}{TL:List Hp.Tm}(n:Nd N B g s TL w)(q:Int×Int)(hq:uT q)(now:Int)(hn:0<=now):
  Calls Tryz.prog 160 #[.pointer (some ⟨N,8,none⟩),jC q,.int .u64 now] w λe w'=>e=.returned (.bool (ol s.mem q now))∧Below w.heap.size w w':=by
 have h:=n.nn.rs.sn;rw[<-n.nn.eq.tn]at h;exact Ox N g.x s.mem q hq now hn w n.nn.cr.nd h
theorem Nz{g:bF}{TL:List Hp.Tm}(n:Nd N B g s TL w)(q:Int×Int)(hq:uT q)(dw:Int)(h0:0<=dw)(hm:∀e∈s.mem,e.dw<=dw)(htn:s.tn<=4611686018427387904):
  Calls Tryz.prog 156 #[.pointer (some ⟨N,8,none⟩),jC q,.int .u64 dw] w λe w'=>e=.returned (.tuple #[])∧kT N B g s {s with mem:=dK s.mem q dw s.tn,tn:=s.tn+1} TL w w':=by
 have h:=n.nn.rs.sn;rw[<-n.nn.eq.tn]at h htn;refine(Eu N g.x s.mem q hq dw h0 hm htn w n.nn.cr.nd h).mono ?_;rintro e w' ⟨rfl,h1,h2,h3⟩;rw[n.nn.eq.tn]at h1 h2;obtain⟨e1,e2,e3,e4,e5,e6,e7,e8,e9⟩:=n.nn.eq;have hr:=n.nn.rs;have hne:∀k,jL g.x g.h g.u g.Mt g.tv s k->k≠g.x.Ms->¬(k=N∨k=g.x.Ms):=λk hk h1 h2=>h2.elim (λe=>n.nn.apart hk (.inl e)) h1;have hnd:=n.nn.pK;simp only[List.nodup_cons,eF,List.not_mem_nil,or_false,not_or]at hnd;obtain⟨_,_,⟨d1,d2⟩,_⟩:=hnd;have zn:∀ {k:Nat} {o:Obj},w.heap[k]?=some o->(∀es cl,o≠ .map es cl)->k≠g.x.Ms:=by
  rintro k o ho hn rfl;obtain⟨es,cl,hm⟩:=hr.sn.obj;rw[hm]at ho;exact hn _ _ (Option.some.inj ho).symm
 have hkeep:∀ {k:Nat},jL g.x g.h g.u g.Mt g.tv s k->k≠g.x.Ms->w'.heap[k]?=w.heap[k]?:=λhk h=>h3.block _ (hr.lt hk) (hne _ hk h);have hSr:∀k,Gm g.x.o8 g.h g.u s.Q k->k≠g.x.Ms:=by
  intro k hk;obtain⟨o,ho,⟨rfl,_⟩|⟨c,rfl⟩|⟨c,rfl⟩⟩:=hr.sr.kind hk
  ·exact Ne.symm d1
  ·exact zn ho (λ_ _ h=>by cases h)
  ·exact zn ho (λ_ _ h=>by cases h)
 obtain⟨p,q⟩:=n.rest (s':={s with mem:=dK s.mem q dw s.tn,tn:=s.tn+1}) (dG:=TL) h1 rfl rfl ⟨e1,e2,e3,e4,e5,rfl,e7,e8,e9⟩
  ⟨h2,hr.sr.kept λk hk=>hkeep (.inr (.inl hk)) (hSr k hk),hr.tm.at (hkeep (.inr (.inr (.inl rfl))) (zn hr.tm.blk (λ_ _ h=>by cases h))) (hkeep (.inr (.inr (.inr (.inl rfl)))) (Ne.symm d2)) (λk hk=>hkeep (.inr (.inr (.inr (.inr (.inl hk))))) (by
   obtain⟨c,hc⟩:=aL hr.tm.row hk;exact zn hc (λ_ _ h=>by cases h))),hr.hpo,hr.pm,bK hr.pc λk hk=>hkeep (.inr (.inr (.inr (.inr (.inr hk))))) (by
   obtain⟨c,hc⟩:=aL hr.pc hk;exact zn hc (λ_ _ h=>by cases h))⟩
  (h3.mono λk h=>h.elim .inl λh=> .inr (.inl h)) (λk hk=> .inl hk) ⟨rfl,rfl,rfl⟩ ⟨rfl,rfl,rfl,rfl,rfl,rfl,rfl,rfl,rfl⟩
 exact⟨rfl,_,p,q,rfl⟩
end Go.Proofs.YtakaadcpaeiccabGreat
