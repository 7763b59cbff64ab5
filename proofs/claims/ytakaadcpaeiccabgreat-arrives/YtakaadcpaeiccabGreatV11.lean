import Derived.Test.YtakaadcpaeiccabGreatV10
set_option maxHeartbeats 8000000
set_option maxRecDepth 100000
namespace Go.Proofs.YtakaadcpaeiccabGreat
open Go.RowKit
theorem Gq(U:Bool)(R:Nat)(x0:Int)(m:Nat)(r:List Int)(W:World)(hr:Rd R (x0::9::fl U::0::(m:Int)::r) W):
  Calls Tryz.prog 56 #[.pointer (some ⟨R,0,none⟩)] W λe w'=>jS R (x0::9::fl U::0::(m:Int)::r) W e w':=by
 have hu:pV U:=trivial;cases U<;>dsimp only[fl]at hr ⊢
 all_goals
  have hby:=hr.bytes;have hR:=hr.lt;go_enter Tryz.func56,Tryz.ntmps56;go_wp2_with fail;have hC0:=PB.new aD.zero W;have h1:=hr.alloc aD.zero.box;have hg0:=ku W aD.zero.box (some R);dsimp only[aD.box,aD.zero]at hC0 h1 hg0;refine(bG R _ _ _ h1).mono ?_;rintro e w1 ⟨rfl,hr1,hg1⟩;have rf:PB aD.zero W.heap.size w1:=PB.grown hC0 hg1 (by omega);have hW1:=ak hg0 hg1;clear hr h1 hg0 hg1 hC0;go_wp2_with fail;refine(bG R _ _ _ hr1).mono ?_;rintro e w2 ⟨rfl,hr2,hg2⟩;have hC2:=rf.grown hg2 (by omega);have hW2:=ak hW1 hg2;clear hr1 hg2 rf hW1;go_wp2_with fail;have hB:=PB.new ⟨x0,9,0,false,0,0,0,0,0,0,none,0,0,⟨#[]⟩⟩ w2;have Qb:W.heap.size<w2.heap.size:=hC2.lt;have qj:=hC2.alloc (aD.box ⟨x0,9,0,false,0,0,0,0,0,0,none,0,0,⟨#[]⟩⟩);have hr3:=hr2.alloc (aD.box ⟨x0,9,0,false,0,0,0,0,0,0,none,0,0,⟨#[]⟩⟩);have hW3:=ak hW2 (ku w2 (aD.box ⟨x0,9,0,false,0,0,0,0,0,0,none,0,0,⟨#[]⟩⟩) (some R));have J5:=hr2.lt;generalize J8:w2.heap.size=B at hB Qb J5 ⊢;clear J8;dsimp only[aD.box]at hB qj hr3 hW3;clear hr2 hC2 hW2;refine(bG R _ _ _ hr3).mono ?_;rintro e w4 ⟨rfl,hr4,hg4⟩;have hB4:=hB.grown hg4 (by omega);have yt:=qj.grown hg4 (by omega);have EO:=ak hW3 hg4;clear hr3 hg4 hB qj hW3;go_wp2_with(go_at_call 85;refine(require_ok _).mono ?_;rintro e w4 ⟨rfl,rfl⟩;obtain⟨_,_,_,c3,_,_,_,_,_,_,_,_⟩:=hB4.cell;have f3:=hB4.free 3);have uL:=hB4.set ⟨x0,9,0,jc hu,0,0,0,0,0,0,none,0,0,⟨#[]⟩⟩ 3 (.bool (jc hu)) rfl;have nD:=hr4.setCell (B:=B) (by omega) (i:=3) (.bool false) (.bool (jc hu)) (by simp) c3;have rY:=yt.other (a:=⟨B,3,none⟩) (by simp;omega) (.bool (jc hu));have sS:=bq EO (a:=⟨B,3,none⟩) (by simp;omega) (.bool (jc hu));dsimp only[jc]at uL nD rY sS;clear c3 f3 hr4 hB4 yt EO;generalize w4.setCell _ _=w5 at uL nD rY sS ⊢;refine(bG R _ _ _ nD).mono ?_;rintro e w6 ⟨rfl,uo,jB⟩;have Cf:=uL.grown jB (by omega);have gX:=rY.grown jB (by omega);have FM:=ak sS jB;clear nD jB uL rY sS;go_wp2_with(go_at_call 85;refine(require_ok _).mono ?_;rintro e w6 ⟨rfl,rfl⟩);refine(bG R _ _ _ uo).mono ?_;rintro e w7 ⟨rfl,zk,gQ⟩;have jq:=Cf.grown gQ (by omega);have gM:=gX.grown gQ (by omega);have Mx:=ak FM gQ;clear uo gQ Cf gX FM;go_wp2_with fail;obtain⟨_,c1,_,_,_,_,_,_,_,_,_,_⟩:=jq.cell;refine(wT B w7 c1).mono ?_;rintro e w8 ⟨rfl,hw8⟩;have iq:w8.heap[w7.heap.size]?=some (.cells #[.pointer (some ⟨B,4,none⟩),.pointer (some ⟨B,5,none⟩),.pointer (some ⟨B,7,none⟩)] 189 (0,0)):=by rw[hw8];exact bV w7 _
  have jQ:PB ⟨x0,9,0,jc hu,0,0,0,0,0,0,none,0,0,⟨#[]⟩⟩ B w8:=by rw[hw8];exact jq.alloc _
  have g_:PB aD.zero W.heap.size w8:=by rw[hw8];exact gM.alloc _
  have iO:Rd R r w8:=by rw[hw8];exact(zk.alloc _).drew
  have jF:W.grownBy w8 (some R):=by rw[hw8];exact uy (ak Mx (ku w7 _ _))
  have hBN:B<w7.heap.size:=jq.lt;generalize w7.heap.size=N at iq hBN ⊢;clear hw8 zk jq gM Mx c1;go_wp2_with fail;refine wp_loop_rounds 4 ?_;rw[rounds_succ];have Yr:=aJ w8 N 0 _ _ _ iq;simp only[List.getElem?_toArray,List.getElem?_cons_zero]at Yr;go_wp2_with fail;clear Yr;refine(dJ R _ _ iO).mono ?_;rintro e w9 (⟨a0,b0,e0,d0,r0,rfl,rfl,mY,fK,_⟩|⟨hshort,rfl,rfl⟩)
  case inr=>exact⟨rfl,jF,.inr ⟨fQ (by rw[show eZ 9 (m:Int)=12+m from rfl];first|omega|(simp only[dZ];omega)),rfl⟩⟩
  have qY:=(fK.block N (iA.1 iq).1 (by simp;omega)).trans iq;have jG:=jQ.grown fK (by omega);have pO:=g_.grown fK (by omega);have pK:=ak jF fK;clear iO fK jQ g_ jF iq;obtain⟨_,_,_,_,c4,c5,c6,c7,c8,c9,_,_⟩:=jG.cell;dsimp only at c4 c5 c6 c7 c8 c9;have ff:=jG.free 4;have hpre:=c4;clear c5 c6 c7 c8 c9;go_wp2_with fail;have jQ:=jG.set ⟨x0,9,0,jc hu,(n4 a0 b0 e0 d0),0,0,0,0,0,none,0,0,⟨#[]⟩⟩ 4 (.int .u32 (n4 a0 b0 e0 d0)) rfl;have iO:=mY.setCell (B:=B) (by omega) (i:=4) (.int .u32 0) (.int .u32 (n4 a0 b0 e0 d0)) (by simp) hpre;have g_:=pO.other (a:=⟨B,4,none⟩) (by simp;omega) (.int .u32 (n4 a0 b0 e0 d0));have jF:=bq pK (a:=⟨B,4,none⟩) (by simp;omega) (.int .u32 (n4 a0 b0 e0 d0));have iq:=(lV w9 ⟨B,4,none⟩ (.int .u32 (n4 a0 b0 e0 d0)) N (by simp;omega)).trans qY;clear mY jG pO pK qY ff hpre c4;generalize w9.setCell _ _=w8 at jQ iO g_ jF iq ⊢;rw[rounds_succ];have pc1:=aJ w8 N 1 _ _ _ iq;simp only[List.getElem?_toArray,List.getElem?_cons_succ,List.getElem?_cons_zero]at pc1;go_wp2_with fail;clear pc1;refine(dJ R _ _ iO).mono ?_;rintro e w9 (⟨a1,b1,e1,d1,r1,rfl,rfl,mY,fK,_⟩|⟨hshort,rfl,rfl⟩)
  case inr=>exact⟨rfl,jF,.inr ⟨fQ (by rw[show eZ 9 (m:Int)=12+m from rfl];first|omega|(simp only[dZ];omega)),rfl⟩⟩
  have qY:=(fK.block N (iA.1 iq).1 (by simp;omega)).trans iq;have jG:=jQ.grown fK (by omega);have pO:=g_.grown fK (by omega);have pK:=ak jF fK;clear iO fK jQ g_ jF iq;obtain⟨_,_,_,_,c4,c5,c6,c7,c8,c9,_,_⟩:=jG.cell;dsimp only at c4 c5 c6 c7 c8 c9;have ff:=jG.free 5;have hpre:=c5;clear c4 c6 c7 c8 c9;go_wp2_with fail;have jQ:=jG.set ⟨x0,9,0,jc hu,(n4 a0 b0 e0 d0),(n4 a1 b1 e1 d1),0,0,0,0,none,0,0,⟨#[]⟩⟩ 5 (.int .u32 (n4 a1 b1 e1 d1)) rfl;have iO:=mY.setCell (B:=B) (by omega) (i:=5) (.int .u32 0) (.int .u32 (n4 a1 b1 e1 d1)) (by simp) hpre;have g_:=pO.other (a:=⟨B,5,none⟩) (by simp;omega) (.int .u32 (n4 a1 b1 e1 d1));have jF:=bq pK (a:=⟨B,5,none⟩) (by simp;omega) (.int .u32 (n4 a1 b1 e1 d1));have iq:=(lV w9 ⟨B,5,none⟩ (.int .u32 (n4 a1 b1 e1 d1)) N (by simp;omega)).trans qY;clear mY jG pO pK qY ff hpre c5;generalize w9.setCell _ _=w8 at jQ iO g_ jF iq ⊢;rw[rounds_succ];have pc2:=aJ w8 N 2 _ _ _ iq;simp only[List.getElem?_toArray,List.getElem?_cons_succ,List.getElem?_cons_zero]at pc2;go_wp2_with fail;clear pc2;refine(dJ R _ _ iO).mono ?_;rintro e w9 (⟨a2,b2,e2,d2,r2,rfl,rfl,mY,fK,_⟩|⟨hshort,rfl,rfl⟩)
  case inr=>exact⟨rfl,jF,.inr ⟨fQ (by rw[show eZ 9 (m:Int)=12+m from rfl];first|omega|(simp only[dZ];omega)),rfl⟩⟩
  have qY:=(fK.block N (iA.1 iq).1 (by simp;omega)).trans iq;have jG:=jQ.grown fK (by omega);have pO:=g_.grown fK (by omega);have pK:=ak jF fK;clear iO fK jQ g_ jF iq;obtain⟨_,_,_,_,c4,c5,c6,c7,c8,c9,_,_⟩:=jG.cell;dsimp only at c4 c5 c6 c7 c8 c9;have ff:=jG.free 7;have hpre:=c7;clear c4 c5 c6 c8 c9;go_wp2_with fail;have jQ:=jG.set ⟨x0,9,0,jc hu,(n4 a0 b0 e0 d0),(n4 a1 b1 e1 d1),0,(n4 a2 b2 e2 d2),0,0,none,0,0,⟨#[]⟩⟩ 7 (.int .u32 (n4 a2 b2 e2 d2)) rfl;have iO:=mY.setCell (B:=B) (by omega) (i:=7) (.int .u32 0) (.int .u32 (n4 a2 b2 e2 d2)) (by simp) hpre;have g_:=pO.other (a:=⟨B,7,none⟩) (by simp;omega) (.int .u32 (n4 a2 b2 e2 d2));have jF:=bq pK (a:=⟨B,7,none⟩) (by simp;omega) (.int .u32 (n4 a2 b2 e2 d2));have iq:=(lV w9 ⟨B,7,none⟩ (.int .u32 (n4 a2 b2 e2 d2)) N (by simp;omega)).trans qY;clear mY jG pO pK qY ff hpre c7;generalize w9.setCell _ _=w8 at jQ iO g_ jF iq ⊢;rw[rounds_succ];clear iq;obtain⟨_,c1,_,_,_,_,_,_,_,_,_,_⟩:=jQ.cell;dsimp only at c1;go_wp2_with fail;clear c1;refine(zH R m _ _ iO).mono ?_;rintro e w9 (⟨hn,⟨tv,rfl,htv⟩,mY,fK,_⟩|⟨hs,rfl,rfl⟩)
  case inr=>exact⟨rfl,jF,.inr ⟨fQ (by rw[show eZ 9 (m:Int)=12+m from rfl];simp only[dZ];omega),rfl⟩⟩
  obtain⟨tk,rr,rfl,htl⟩:∃tk rr,r2=tk++rr∧tk.length=m:=⟨r2.take m,r2.drop m,(List.take_append_drop m r2).symm,by rw[List.length_take];omega⟩;rw[List.take_left' htl]at htv;rw[List.drop_left' htl]at mY;have hcv:=rZ htv;have jG:=jQ.grown fK (by omega);have pO:=g_.grown fK (by omega);have pK:=ak jF fK;clear iO fK jQ g_ jF htv;obtain⟨v,hv,hvf,hvb,hvs⟩:=mY;have hsh:∃a c,v=.slice a rr.length c:=by
   rcases hvs with⟨rfl,h⟩|⟨_,_,_,rfl,_⟩
   ·exact⟨none,0,by rw[h];rfl⟩
   ·exact⟨_,_,rfl⟩
  obtain⟨sa,sc,rfl⟩:=hsh;clear hvs hvb hvf;obtain⟨c0,c1,c2,c3,c4,c5,c6,c7,c8,c9,c10,c11⟩:=jG.cell;dsimp only at c0 c1 c2 c3 c4 c5 c6 c7 c8 c9 c10 c11;have f11:=jG.free 11;have hBx:=jG.set ⟨x0,9,0,jc hu,(n4 a0 b0 e0 d0),(n4 a1 b1 e1 d1),0,(n4 a2 b2 e2 d2),0,0,none,0,0,strOfNums tk⟩ 11 (.string (strOfNums tk)) rfl;have Xx:=pO.other (a:=⟨B,11,none⟩) (by simp;omega) (.string (strOfNums tk));have EM:=bq pK (a:=⟨B,11,none⟩) (by simp;omega) (.string (strOfNums tk));by_cases hrest:rr=[]
  case neg=>
   have hl0:((rr.length:Int)==0)=false:=by
    rw[beq_eq_false_iff_ne];intro h;exact hrest (nU (by omega))
   go_wp2_with(go_at_call 85;refine(eH _).mono ?_;rintro e w9 ⟨rfl,Ao⟩;rw[Ao]);have hl1:0<rr.length:=List.length_pos_iff.2 hrest;refine⟨rfl,EM,.inr ⟨?_,rfl⟩⟩;exact fQ (by rw[show eZ 9 (m:Int)=12+m from rfl];simp only[dZ,bU];omega)
  subst hrest;have q0:=hby x0 (by simp);have q4:=hby (m:Int) (by simp);have m0:=uh (hby a0 (by simp)) (hby b0 (by simp)) (hby e0 (by simp)) (hby d0 (by simp));have m1:=uh (hby a1 (by simp)) (hby b1 (by simp)) (hby e1 (by simp)) (hby d1 (by simp));have m2:=uh (hby a2 (by simp)) (hby b2 (by simp)) (hby e2 (by simp)) (hby d2 (by simp));have hwf:aD.Wf hBx.pk:=by dsimp only[PB.pk];constructor<;>first|(dsimp only;omega)|(dsimp only;rw[strOfNums_size];omega)
  have hpk:jd x0 9 (ET hu) (m:Int) (a0::b0::e0::d0::a1::b1::e1::d1::a2::b2::e2::d2::(tk++ []))=hBx.pk:=congrArg (λz=>(⟨x0,9,0,jc hu,(n4 a0 b0 e0 d0),(n4 a1 b1 e1 d1),0,(n4 a2 b2 e2 d2),0,0,none,0,0,strOfNums z⟩:aD)) (show(tk++([]:List Int)).take m=tk by simp[<-htl]);have pG:=wZ (x0:=x0) (x1:=9) (x2:=ET hu) (x4:=(m:Int)) (r:=(a0::b0::e0::d0::a1::b1::e1::d1::a2::b2::e2::d2::(tk++ []))) (AL hu) (by rw[show eZ 9 (m:Int)=12+m from rfl];simp only[dZ,bU,List.length_nil];omega);rw[hpk]at pG;clear hby q0 q4 m0 m1 m2;cases hg:aD.eG hBx.pk
  ·go_wp2_with(first|(go_at_call 90;refine(dP hBx.pk hwf _).mono ?_;rintro e w9 ⟨rfl,nY⟩)|(go_at_call 85;refine(eH _).mono ?_;rintro e Y5 ⟨rfl,Ao⟩;rw[Ao]));exact⟨rfl,fV EM nY,.inr ⟨pG.trans hg,rfl⟩⟩
  ·go_wp2_with(first|(go_at_call 90;refine(dP hBx.pk hwf _).mono ?_;rintro e w9 ⟨rfl,nY⟩;have MI:=hBx.below nY;have zn:=Xx.below nY;obtain⟨y0,y1,y2,y3,y4,y5,y6,y7,y8,y9,uO,uN⟩:=MI.cell;obtain⟨k0,k1,k2,k3,k4,k5,k6,k7,k8,k9,k10,k11⟩:=zn.cell;have kf:=zn.free;dsimp only at y0 y1 y2 y3 y4 y5 y6 y7 y8 y9 uO uN;dsimp only[aD.zero]at k0 k1 k2 k3 k4 k5 k6 k7 k8 k9 k10 k11)|(go_at_call 85;refine(require_ok _).mono ?_;rintro e w9 ⟨rfl,rfl⟩));have pM:=zn.storeAll hBx.pk;have EN:=lM (fV EM nY) (C:=W.heap.size) (aB _) hBx.pk;clear y0 y1 y2 y3 y4 y5 y6 y7 y8 y9 uO uN k0 k1 k2 k3 k4 k5 k6 k7 k8 k9 k10 k11 kf MI zn;dsimp only[dG,PB.pk]at pM EN;generalize World.setCell _ _ _=wF at pM EN ⊢;obtain⟨y0,y1,y2,y3,y4,y5,y6,y7,y8,y9,uO,uN⟩:=pM.cell;dsimp only at y0 y1 y2 y3 y4 y5 y6 y7 y8 y9 uO uN;refine bodyPost_ret (v:=aD.val hBx.pk) (by simp[results,Tryz.results56,go_sem,y0,y1,y2,y3,y4,y5,y6,y7,y8,y9,uO,uN]) rfl ?_;exact⟨EN,.inl ⟨pG.trans hg,_,rfl,_,_,_,_,_,_,none,0,rfl,by(have hpk':=hpk;dsimp only[ET,fl]at hpk';rw[hpk']),rfl,λj hj=>absurd hj (by simp[pF]),λb hb=>by cases hb⟩⟩
theorem Gr(U:Bool)(R:Nat)(x0:Int)(m:Nat)(r:List Int)(W:World)(hr:Rd R (x0::3::fl U::0::(m:Int)::r) W):
  Calls Tryz.prog 56 #[.pointer (some ⟨R,0,none⟩)] W λe w'=>jS R (x0::3::fl U::0::(m:Int)::r) W e w':=by
 have hu:pV U:=trivial;cases U<;>dsimp only[fl]at hr ⊢
 all_goals
  have hby:=hr.bytes;have hR:=hr.lt;go_enter Tryz.func56,Tryz.ntmps56;go_wp2_with fail;have hC0:=PB.new aD.zero W;have h1:=hr.alloc aD.zero.box;have hg0:=ku W aD.zero.box (some R);dsimp only[aD.box,aD.zero]at hC0 h1 hg0;refine(bG R _ _ _ h1).mono ?_;rintro e w1 ⟨rfl,hr1,hg1⟩;have rf:PB aD.zero W.heap.size w1:=PB.grown hC0 hg1 (by omega);have hW1:=ak hg0 hg1;clear hr h1 hg0 hg1 hC0;go_wp2_with fail;refine(bG R _ _ _ hr1).mono ?_;rintro e w2 ⟨rfl,hr2,hg2⟩;have hC2:=rf.grown hg2 (by omega);have hW2:=ak hW1 hg2;clear hr1 hg2 rf hW1;go_wp2_with fail;have hB:=PB.new ⟨x0,3,0,false,0,0,0,0,0,0,none,0,0,⟨#[]⟩⟩ w2;have Qb:W.heap.size<w2.heap.size:=hC2.lt;have qj:=hC2.alloc (aD.box ⟨x0,3,0,false,0,0,0,0,0,0,none,0,0,⟨#[]⟩⟩);have hr3:=hr2.alloc (aD.box ⟨x0,3,0,false,0,0,0,0,0,0,none,0,0,⟨#[]⟩⟩);have hW3:=ak hW2 (ku w2 (aD.box ⟨x0,3,0,false,0,0,0,0,0,0,none,0,0,⟨#[]⟩⟩) (some R));have J5:=hr2.lt;generalize J8:w2.heap.size=B at hB Qb J5 ⊢;clear J8;dsimp only[aD.box]at hB qj hr3 hW3;clear hr2 hC2 hW2;refine(bG R _ _ _ hr3).mono ?_;rintro e w4 ⟨rfl,hr4,hg4⟩;have hB4:=hB.grown hg4 (by omega);have yt:=qj.grown hg4 (by omega);have EO:=ak hW3 hg4;clear hr3 hg4 hB qj hW3;go_wp2_with(go_at_call 85;refine(require_ok _).mono ?_;rintro e w4 ⟨rfl,rfl⟩;obtain⟨_,_,_,c3,_,_,_,_,_,_,_,_⟩:=hB4.cell;have f3:=hB4.free 3);have uL:=hB4.set ⟨x0,3,0,jc hu,0,0,0,0,0,0,none,0,0,⟨#[]⟩⟩ 3 (.bool (jc hu)) rfl;have nD:=hr4.setCell (B:=B) (by omega) (i:=3) (.bool false) (.bool (jc hu)) (by simp) c3;have rY:=yt.other (a:=⟨B,3,none⟩) (by simp;omega) (.bool (jc hu));have sS:=bq EO (a:=⟨B,3,none⟩) (by simp;omega) (.bool (jc hu));dsimp only[jc]at uL nD rY sS;clear c3 f3 hr4 hB4 yt EO;generalize w4.setCell _ _=w5 at uL nD rY sS ⊢;refine(bG R _ _ _ nD).mono ?_;rintro e w6 ⟨rfl,uo,jB⟩;have Cf:=uL.grown jB (by omega);have gX:=rY.grown jB (by omega);have FM:=ak sS jB;clear nD jB uL rY sS;go_wp2_with(go_at_call 85;refine(require_ok _).mono ?_;rintro e w6 ⟨rfl,rfl⟩);refine(bG R _ _ _ uo).mono ?_;rintro e w7 ⟨rfl,zk,gQ⟩;have jq:=Cf.grown gQ (by omega);have gM:=gX.grown gQ (by omega);have Mx:=ak FM gQ;clear uo gQ Cf gX FM;go_wp2_with fail;obtain⟨_,c1,_,_,_,_,_,_,_,_,_,_⟩:=jq.cell;refine(oD B 3 rfl rfl rfl w7 c1).mono ?_;rintro e w7 ⟨rfl,rfl⟩;clear c1;go_wp2_with fail;refine wp_loop_rounds 1 ?_;rw[rounds_succ];have hm:m<=255:=by
   have:=hby (m:Int) (by simp);omega
  obtain⟨_,c1,_,_,_,_,_,_,_,_,_,_⟩:=jq.cell;dsimp only at c1;go_wp2_with fail;clear c1;refine(RJ R m hm _ _ zk).mono ?_;rintro e w9 ⟨fK,⟨hn,⟨g,hgn,rfl,hLg⟩,mY⟩|⟨hs,rfl⟩⟩
  case inr=>exact⟨rfl,ak Mx fK,.inr ⟨fQ (by rw[show eZ 3 (m:Int)=8 * m from rfl];omega),rfl⟩⟩
  obtain⟨rr,hrr⟩:∃rr,r.drop (8 * m)=rr:=⟨_,rfl⟩;rw[hrr]at mY;have hrl:rr.length=r.length - 8 * m:=by rw[<-hrr,List.length_drop]
  have ab6:=(show Hid _ from hrl);clear hrl hrr;have jG:=jq.grown fK (by omega);have pO:=gM.grown fK (by omega);have pK:=ak Mx fK;have hgB:B<g:=fZ jq.lt hgn;clear zk fK jq gM Mx;obtain⟨v,hv,hvf,hvb,hvs⟩:=mY;have hsh:∃a c,v=.slice a rr.length c:=by
   rcases hvs with⟨rfl,h⟩|⟨_,_,_,rfl,_⟩
   ·exact⟨none,0,by rw[h];rfl⟩
   ·exact⟨_,_,rfl⟩
  obtain⟨sa,sc,rfl⟩:=hsh;clear hvs hvb hvf;obtain⟨c0,c1,c2,c3,c4,c5,c6,c7,c8,c9,c10,c11⟩:=jG.cell;dsimp only at c0 c1 c2 c3 c4 c5 c6 c7 c8 c9 c10 c11;have f10:=jG.free 10;have hBx:=jG.set ⟨x0,3,0,jc hu,0,0,0,0,0,0,some ⟨g,0,none⟩,m,m,⟨#[]⟩⟩ 10 (.slice (some ⟨g,0,none⟩) m m) rfl;have Xx:=pO.other (a:=⟨B,10,none⟩) (by simp;omega) (.slice (some ⟨g,0,none⟩) m m);have EM:=bq pK (a:=⟨B,10,none⟩) (by simp;omega) (.slice (some ⟨g,0,none⟩) m m);have hLx:bF (w9.setCell ⟨B,10,none⟩ (.slice (some ⟨g,0,none⟩) m m)) (some ⟨g,0,none⟩) (qJ m r):=hLg.far (a:=⟨B,10,none⟩) (by simp;omega) _;clear hLg;by_cases hrest:rr=[]
  case neg=>
   have hl0:((rr.length:Int)==0)=false:=by
    rw[beq_eq_false_iff_ne];intro h;exact hrest (nU (by omega))
   go_wp2_with(go_at_call 85;refine(eH _).mono ?_;rintro e w9 ⟨rfl,Ao⟩;rw[Ao]);have hl1:0<rr.length:=List.length_pos_iff.2 hrest;refine⟨rfl,EM,.inr ⟨?_,rfl⟩⟩;exact fQ (by rw[show eZ 3 (m:Int)=8 * m from rfl];have:=ab6.out;omega)
  subst hrest;have q0:=hby x0 (by simp);have q4:=hby (m:Int) (by simp);have hwf:aD.Wf ⟨x0,3,0,jc hu,0,0,0,0,0,0,some ⟨g,0,none⟩,m,m,⟨#[]⟩⟩:=by constructor<;>first|(dsimp only;omega)|simp[ByteArray.size]
  have hpk:jd x0 3 (ET hu) (m:Int) r=⟨x0,3,0,jc hu,0,0,0,0,0,0,none,m,0,⟨#[]⟩⟩:=rfl;have pG:=wZ (x0:=x0) (x1:=3) (x2:=ET hu) (x4:=(m:Int)) (r:=r) (AL hu) (by rw[show eZ 3 (m:Int)=8 * m from rfl];have:=ab6.out;simp only[List.length_nil]at this;omega);rw[hpk,<-Ib ⟨x0,3,0,jc hu,0,0,0,0,0,0,none,m,0,⟨#[]⟩⟩ (some ⟨g,0,none⟩) m]at pG;clear hby q0 q4;cases hg:aD.eG ⟨x0,3,0,jc hu,0,0,0,0,0,0,some ⟨g,0,none⟩,m,m,⟨#[]⟩⟩
  ·go_wp2_with(first|(go_at_call 90;refine(dP ⟨x0,3,0,jc hu,0,0,0,0,0,0,some ⟨g,0,none⟩,m,m,⟨#[]⟩⟩ hwf _).mono ?_;rintro e w9 ⟨rfl,nY⟩)|(go_at_call 85;refine(eH _).mono ?_;rintro e Y5 ⟨rfl,Ao⟩;rw[Ao]));exact⟨rfl,fV EM nY,.inr ⟨pG.trans hg,rfl⟩⟩
  ·go_wp2_with(first|(go_at_call 90;refine(dP ⟨x0,3,0,jc hu,0,0,0,0,0,0,some ⟨g,0,none⟩,m,m,⟨#[]⟩⟩ hwf _).mono ?_;rintro e w9 ⟨rfl,nY⟩;have MI:=hBx.below nY;have zn:=Xx.below nY;obtain⟨y0,y1,y2,y3,y4,y5,y6,y7,y8,y9,uO,uN⟩:=MI.cell;obtain⟨k0,k1,k2,k3,k4,k5,k6,k7,k8,k9,k10,k11⟩:=zn.cell;have kf:=zn.free;dsimp only at y0 y1 y2 y3 y4 y5 y6 y7 y8 y9 uO uN;dsimp only[aD.zero]at k0 k1 k2 k3 k4 k5 k6 k7 k8 k9 k10 k11)|(go_at_call 85;refine(require_ok _).mono ?_;rintro e w9 ⟨rfl,rfl⟩));have pM:=zn.storeAll ⟨x0,3,0,jc hu,0,0,0,0,0,0,some ⟨g,0,none⟩,m,m,⟨#[]⟩⟩;have EN:=lM (fV EM nY) (C:=W.heap.size) (aB _) ⟨x0,3,0,jc hu,0,0,0,0,0,0,some ⟨g,0,none⟩,m,m,⟨#[]⟩⟩;have hLy:=hLx.below nY;have hLz:=hLy.dG (C:=W.heap.size) (by omega) ⟨x0,3,0,jc hu,0,0,0,0,0,0,some ⟨g,0,none⟩,m,m,⟨#[]⟩⟩;clear y0 y1 y2 y3 y4 y5 y6 y7 y8 y9 uO uN k0 k1 k2 k3 k4 k5 k6 k7 k8 k9 k10 k11 kf MI zn;dsimp only[dG]at pM EN hLz;generalize World.setCell _ _ _=wF at pM EN hLz ⊢;obtain⟨y0,y1,y2,y3,y4,y5,y6,y7,y8,y9,uO,uN⟩:=pM.cell;dsimp only at y0 y1 y2 y3 y4 y5 y6 y7 y8 y9 uO uN;refine bodyPost_ret (v:=aD.val ⟨x0,3,0,jc hu,0,0,0,0,0,0,some ⟨g,0,none⟩,m,m,⟨#[]⟩⟩) (by simp[results,Tryz.results56,go_sem,y0,y1,y2,y3,y4,y5,y6,y7,y8,y9,uO,uN]) rfl ?_;exact⟨EN,.inl ⟨pG.trans hg,_,rfl,_,_,_,_,_,_,some ⟨g,0,none⟩,m,rfl,by(have hpk':=hpk;dsimp only[ET,fl]at hpk';rw[hpk']),by simp[pF,h_,jd],hLz,λb hb=>by obtain rfl:=Option.some.inj hb;dsimp only;omega⟩⟩
theorem Gu(U:Bool)(R:Nat)(x0 x4:Int)(r:List Int)(W:World)(k:Int)(k1:(k==1)=false)(k2:(k==2)=false)(k3:(k==3)=false)(k9:(k==9)=false)(hr:Rd R (x0::k::fl U::0::x4::r) W):
  Calls Tryz.prog 56 #[.pointer (some ⟨R,0,none⟩)] W λe w'=>jS R (x0::k::fl U::0::x4::r) W e w':=by
 have hu:pV U:=trivial;cases U<;>dsimp only[fl]at hr ⊢
 all_goals
  have hby:=hr.bytes;have hR:=hr.lt;go_enter Tryz.func56,Tryz.ntmps56;go_wp2_with fail;have hC0:=PB.new aD.zero W;have h1:=hr.alloc aD.zero.box;have hg0:=ku W aD.zero.box (some R);dsimp only[aD.box,aD.zero]at hC0 h1 hg0;refine(bG R _ _ _ h1).mono ?_;rintro e w1 ⟨rfl,hr1,hg1⟩;have rf:PB aD.zero W.heap.size w1:=PB.grown hC0 hg1 (by omega);have hW1:=ak hg0 hg1;clear hr h1 hg0 hg1 hC0;go_wp2_with fail;refine(bG R _ _ _ hr1).mono ?_;rintro e w2 ⟨rfl,hr2,hg2⟩;have hC2:=rf.grown hg2 (by omega);have hW2:=ak hW1 hg2;clear hr1 hg2 rf hW1;go_wp2_with fail;have hB:=PB.new ⟨x0,k,0,false,0,0,0,0,0,0,none,0,0,⟨#[]⟩⟩ w2;have Qb:W.heap.size<w2.heap.size:=hC2.lt;have qj:=hC2.alloc (aD.box ⟨x0,k,0,false,0,0,0,0,0,0,none,0,0,⟨#[]⟩⟩);have hr3:=hr2.alloc (aD.box ⟨x0,k,0,false,0,0,0,0,0,0,none,0,0,⟨#[]⟩⟩);have hW3:=ak hW2 (ku w2 (aD.box ⟨x0,k,0,false,0,0,0,0,0,0,none,0,0,⟨#[]⟩⟩) (some R));have J5:=hr2.lt;generalize J8:w2.heap.size=B at hB Qb J5 ⊢;clear J8;dsimp only[aD.box]at hB qj hr3 hW3;clear hr2 hC2 hW2;refine(bG R _ _ _ hr3).mono ?_;rintro e w4 ⟨rfl,hr4,hg4⟩;have hB4:=hB.grown hg4 (by omega);have yt:=qj.grown hg4 (by omega);have EO:=ak hW3 hg4;clear hr3 hg4 hB qj hW3;go_wp2_with(go_at_call 85;refine(require_ok _).mono ?_;rintro e w4 ⟨rfl,rfl⟩;obtain⟨_,_,_,c3,_,_,_,_,_,_,_,_⟩:=hB4.cell;have f3:=hB4.free 3);have uL:=hB4.set ⟨x0,k,0,jc hu,0,0,0,0,0,0,none,0,0,⟨#[]⟩⟩ 3 (.bool (jc hu)) rfl;have nD:=hr4.setCell (B:=B) (by omega) (i:=3) (.bool false) (.bool (jc hu)) (by simp) c3;have rY:=yt.other (a:=⟨B,3,none⟩) (by simp;omega) (.bool (jc hu));have sS:=bq EO (a:=⟨B,3,none⟩) (by simp;omega) (.bool (jc hu));dsimp only[jc]at uL nD rY sS;clear c3 f3 hr4 hB4 yt EO;generalize w4.setCell _ _=w5 at uL nD rY sS ⊢;refine(bG R _ _ _ nD).mono ?_;rintro e w6 ⟨rfl,uo,jB⟩;have Cf:=uL.grown jB (by omega);have gX:=rY.grown jB (by omega);have FM:=ak sS jB;clear nD jB uL rY sS;go_wp2_with(go_at_call 85;refine(require_ok _).mono ?_;rintro e w6 ⟨rfl,rfl⟩);refine(bG R _ _ _ uo).mono ?_;rintro e w7 ⟨rfl,zk,gQ⟩;have jq:=Cf.grown gQ (by omega);have gM:=gX.grown gQ (by omega);have Mx:=ak FM gQ;clear uo gQ Cf gX FM;go_wp2_with fail;obtain⟨_,c1,_,_,_,_,_,_,_,_,_,_⟩:=jq.cell;refine(oD B k k1 k2 k9 w7 c1).mono ?_;rintro e w7 ⟨rfl,rfl⟩;clear c1;go_wp2_with fail;refine wp_loop_rounds 1 ?_;rw[rounds_succ];have q1:=hby k (by simp);have hne:k≠1∧k≠2∧k≠3∧k≠9:=⟨by simpa using k1,by simpa using k2,by simpa using k3,by simpa using k9⟩;have YD:eZ k x4=0:=by simp[eZ,hne.1,hne.2.1,hne.2.2.1,hne.2.2.2]
  have acg:jd x0 k (ET hu) x4 []=⟨x0,k,0,jc hu,0,0,0,0,0,0,none,0,0,⟨#[]⟩⟩:=by simp[jd,ET,fl,hne.1,hne.2.1,hne.2.2.1,hne.2.2.2]
  have SF:=(show Hid _ from YD);have acf:=(show Hid _ from acg);have hne':=(show Hid _ from hne);clear YD acg hne;obtain⟨v,hv,hvf,hvb,hvs⟩:=zk;have hsh:∃a c,v=.slice a r.length c:=by
   rcases hvs with⟨rfl,h⟩|⟨_,_,_,rfl,_⟩
   ·exact⟨none,0,by rw[h];rfl⟩
   ·exact⟨_,_,rfl⟩
  obtain⟨sa,sc,rfl⟩:=hsh;clear hvs hvb hvf;have hBx:=jq;have Xx:=gM;have EM:=Mx;obtain⟨c0,c1,c2,c3,c4,c5,c6,c7,c8,c9,c10,c11⟩:=jq.cell;dsimp only at c0 c1 c2 c3 c4 c5 c6 c7 c8 c9 c10 c11;by_cases hrest:r=[]
  case neg=>
   have hl0:((r.length:Int)==0)=false:=by
    rw[beq_eq_false_iff_ne];intro h;exact hrest (nU (by omega))
   go_wp2_with(go_at_call 85;refine(eH _).mono ?_;rintro e w9 ⟨rfl,Ao⟩;rw[Ao]);have hl1:0<r.length:=List.length_pos_iff.2 hrest;refine⟨rfl,EM,.inr ⟨?_,rfl⟩⟩;exact fQ (by rw[SF.out];omega)
  subst hrest;have q0:=hby x0 (by simp);have q4:=hby x4 (by simp);have hwf:aD.Wf ⟨x0,k,0,jc hu,0,0,0,0,0,0,none,0,0,⟨#[]⟩⟩:=by constructor<;>first|(dsimp only;omega)|simp[ByteArray.size]
  have hpk:jd x0 k (ET hu) x4 []=⟨x0,k,0,jc hu,0,0,0,0,0,0,none,0,0,⟨#[]⟩⟩:=acf.out;have pG:=wZ (x0:=x0) (x1:=k) (x2:=ET hu) (x4:=x4) (r:=[]) (AL hu) (SF.out.symm);rw[hpk]at pG;clear hby q0 q4 q1;cases hg:aD.eG ⟨x0,k,0,jc hu,0,0,0,0,0,0,none,0,0,⟨#[]⟩⟩
  ·go_wp2_with(first|(go_at_call 90;refine(dP ⟨x0,k,0,jc hu,0,0,0,0,0,0,none,0,0,⟨#[]⟩⟩ hwf _).mono ?_;rintro e w9 ⟨rfl,nY⟩)|(go_at_call 85;refine(eH _).mono ?_;rintro e Y5 ⟨rfl,Ao⟩;rw[Ao]));exact⟨rfl,fV EM nY,.inr ⟨pG.trans hg,rfl⟩⟩
  ·go_wp2_with(first|(go_at_call 90;refine(dP ⟨x0,k,0,jc hu,0,0,0,0,0,0,none,0,0,⟨#[]⟩⟩ hwf _).mono ?_;rintro e w9 ⟨rfl,nY⟩;have MI:=hBx.below nY;have zn:=Xx.below nY;obtain⟨y0,y1,y2,y3,y4,y5,y6,y7,y8,y9,uO,uN⟩:=MI.cell;obtain⟨k0,k1,k2,k3,k4,k5,k6,k7,k8,k9,k10,k11⟩:=zn.cell;have kf:=zn.free;dsimp only at y0 y1 y2 y3 y4 y5 y6 y7 y8 y9 uO uN;dsimp only[aD.zero]at k0 k1 k2 k3 k4 k5 k6 k7 k8 k9 k10 k11)|(go_at_call 85;refine(require_ok _).mono ?_;rintro e w9 ⟨rfl,rfl⟩));have pM:=zn.storeAll ⟨x0,k,0,jc hu,0,0,0,0,0,0,none,0,0,⟨#[]⟩⟩;have EN:=lM (fV EM nY) (C:=W.heap.size) (aB _) ⟨x0,k,0,jc hu,0,0,0,0,0,0,none,0,0,⟨#[]⟩⟩;clear y0 y1 y2 y3 y4 y5 y6 y7 y8 y9 uO uN k0 k1 k2 k3 k4 k5 k6 k7 k8 k9 k10 k11 kf MI zn;dsimp only[dG]at pM EN;generalize World.setCell _ _ _=wF at pM EN ⊢;obtain⟨y0,y1,y2,y3,y4,y5,y6,y7,y8,y9,uO,uN⟩:=pM.cell;dsimp only at y0 y1 y2 y3 y4 y5 y6 y7 y8 y9 uO uN;refine bodyPost_ret (v:=aD.val ⟨x0,k,0,jc hu,0,0,0,0,0,0,none,0,0,⟨#[]⟩⟩) (by simp[results,Tryz.results56,go_sem,y0,y1,y2,y3,y4,y5,y6,y7,y8,y9,uO,uN]) rfl ?_;exact⟨EN,.inl ⟨pG.trans hg,_,rfl,_,_,_,_,_,_,none,0,rfl,by(have hpk':=hpk;dsimp only[ET,fl]at hpk';rw[hpk']),by(have hpk':=hpk;dsimp only[ET,fl]at hpk';rw[hpk']);simp[pF,hne'.out.2.2.1],λj hj=>absurd hj (by simp[pF,hne'.out.2.2.1]),λb hb=>by cases hb⟩⟩
variable{a b c:Int}{r:List Int}
theorem R8(h0:(c==0)=false)(h8:(c==8)=false):Ey (a::b::c::r)=false:=by
 match r with
 | []=>rfl
 | [_]=>rfl
 |z::n::r=>simp_all [Ey]
theorem R7{z:Int}(h0:(z==0)=false):Ey (a::b::c::z::r)=false:=by
 match r with
 | []=>rfl
 |n::r=>simp_all [Ey]
theorem NZ(R:Nat)(W:World)(hr:Rd R [] W):
  Calls Tryz.prog 56 #[.pointer (some ⟨R,0,none⟩)] W λe w'=>jS R [] W e w':=by
 have hR:=hr.lt;go_enter Tryz.func56,Tryz.ntmps56;go_wp2_with fail;have h1:=hr.alloc aD.zero.box;have hW0:=ku W aD.zero.box (some R);dsimp only[aD.box,aD.zero]at h1 hW0;clear hr;refine(vz R _ h1).mono ?_;rintro e w9 ⟨rfl,rfl⟩;exact⟨rfl,hW0,.inr ⟨rfl,rfl⟩⟩
theorem NY(R:Nat)(a:Int)(W:World)(hr:Rd R [a] W):
  Calls Tryz.prog 56 #[.pointer (some ⟨R,0,none⟩)] W λe w'=>jS R [a] W e w':=by
 have hR:=hr.lt;go_enter Tryz.func56,Tryz.ntmps56;go_wp2_with fail;have h1:=hr.alloc aD.zero.box;have hW0:=ku W aD.zero.box (some R);dsimp only[aD.box,aD.zero]at h1 hW0;clear hr;refine(bG R _ _ _ h1).mono ?_;rintro e w1 ⟨rfl,hr1,hg1⟩;have hW1:=ak hW0 hg1;clear h1 hg1 hW0;go_wp2_with fail;refine(vz R _ hr1).mono ?_;rintro e w9 ⟨rfl,rfl⟩;exact⟨rfl,hW1,.inr ⟨rfl,rfl⟩⟩
theorem NW(R:Nat)(a b:Int)(W:World)(hr:Rd R [a,b] W):
  Calls Tryz.prog 56 #[.pointer (some ⟨R,0,none⟩)] W λe w'=>jS R [a,b] W e w':=by
 have hR:=hr.lt;go_enter Tryz.func56,Tryz.ntmps56;go_wp2_with fail;have h1:=hr.alloc aD.zero.box;have hW0:=ku W aD.zero.box (some R);dsimp only[aD.box,aD.zero]at h1 hW0;clear hr;refine(bG R _ _ _ h1).mono ?_;rintro e w1 ⟨rfl,hr1,hg1⟩;have hW1:=ak hW0 hg1;clear h1 hg1 hW0;go_wp2_with fail;refine(bG R _ _ _ hr1).mono ?_;rintro e w2 ⟨rfl,hr2,hg2⟩;have hW2:=ak hW1 hg2;clear hr1 hg2 hW1;go_wp2_with fail;have hB:=PB.new ⟨a,b,0,false,0,0,0,0,0,0,none,0,0,⟨#[]⟩⟩ w2;have hr3:=hr2.alloc (aD.box ⟨a,b,0,false,0,0,0,0,0,0,none,0,0,⟨#[]⟩⟩);have hW3:=ak hW2 (ku w2 (aD.box ⟨a,b,0,false,0,0,0,0,0,0,none,0,0,⟨#[]⟩⟩) (some R));have J5:=hr2.lt;have hWs:=hW2.size;generalize J8:w2.heap.size=B at hB J5 hWs ⊢;clear J8;dsimp only[aD.box]at hB hr3 hW3;clear hr2 hW2;refine(vz R _ hr3).mono ?_;rintro e w9 ⟨rfl,rfl⟩;exact⟨rfl,hW3,.inr ⟨rfl,rfl⟩⟩
theorem NV(R:Nat)(a b c:Int)(r:List Int)(hc0:(c==0)=false)(hc8:(c==8)=false)(W:World)(hr:Rd R (a::b::c::r) W):
  Calls Tryz.prog 56 #[.pointer (some ⟨R,0,none⟩)] W λe w'=>jS R (a::b::c::r) W e w':=by
 have hR:=hr.lt;go_enter Tryz.func56,Tryz.ntmps56;go_wp2_with fail;have h1:=hr.alloc aD.zero.box;have hW0:=ku W aD.zero.box (some R);dsimp only[aD.box,aD.zero]at h1 hW0;clear hr;refine(bG R _ _ _ h1).mono ?_;rintro e w1 ⟨rfl,hr1,hg1⟩;have hW1:=ak hW0 hg1;clear h1 hg1 hW0;go_wp2_with fail;refine(bG R _ _ _ hr1).mono ?_;rintro e w2 ⟨rfl,hr2,hg2⟩;have hW2:=ak hW1 hg2;clear hr1 hg2 hW1;go_wp2_with fail;have hB:=PB.new ⟨a,b,0,false,0,0,0,0,0,0,none,0,0,⟨#[]⟩⟩ w2;have hr3:=hr2.alloc (aD.box ⟨a,b,0,false,0,0,0,0,0,0,none,0,0,⟨#[]⟩⟩);have hW3:=ak hW2 (ku w2 (aD.box ⟨a,b,0,false,0,0,0,0,0,0,none,0,0,⟨#[]⟩⟩) (some R));have J5:=hr2.lt;have hWs:=hW2.size;generalize J8:w2.heap.size=B at hB J5 hWs ⊢;clear J8;dsimp only[aD.box]at hB hr3 hW3;clear hr2 hW2;refine(bG R _ _ _ hr3).mono ?_;rintro e w4 ⟨rfl,hr4,hg4⟩;have hB4:=hB.grown hg4 (by omega);have EO:=ak hW3 hg4;clear hr3 hg4 hB hW3;go_wp2_with(go_at_call 85;refine(eH _).mono ?_;rintro e w9 ⟨rfl,Ao⟩;rw[Ao]);exact⟨rfl,EO,.inr ⟨R8 hc0 hc8,rfl⟩⟩
theorem mD(U:Bool)(R:Nat)(a b:Int)(ys:List Int)(hys:ys=[]∨(∃z r,ys=z::r∧(z==0)=false)∨ys=[0])(W:World)(hr:Rd R (a::b::fl U::ys) W):
  Calls Tryz.prog 56 #[.pointer (some ⟨R,0,none⟩)] W λe w'=>jS R (a::b::fl U::ys) W e w':=by
 have hu:pV U:=trivial;cases U<;>dsimp only[fl]at hr ⊢
 all_goals
  have hR:=hr.lt;go_enter Tryz.func56,Tryz.ntmps56;go_wp2_with fail;have h1:=hr.alloc aD.zero.box;have hW0:=ku W aD.zero.box (some R);dsimp only[aD.box,aD.zero]at h1 hW0;clear hr;refine(bG R _ _ _ h1).mono ?_;rintro e w1 ⟨rfl,hr1,hg1⟩;have hW1:=ak hW0 hg1;clear h1 hg1 hW0;go_wp2_with fail;refine(bG R _ _ _ hr1).mono ?_;rintro e w2 ⟨rfl,hr2,hg2⟩;have hW2:=ak hW1 hg2;clear hr1 hg2 hW1;go_wp2_with fail;have hB:=PB.new ⟨a,b,0,false,0,0,0,0,0,0,none,0,0,⟨#[]⟩⟩ w2;have hr3:=hr2.alloc (aD.box ⟨a,b,0,false,0,0,0,0,0,0,none,0,0,⟨#[]⟩⟩);have hW3:=ak hW2 (ku w2 (aD.box ⟨a,b,0,false,0,0,0,0,0,0,none,0,0,⟨#[]⟩⟩) (some R));have J5:=hr2.lt;have hWs:=hW2.size;generalize J8:w2.heap.size=B at hB J5 hWs ⊢;clear J8;dsimp only[aD.box]at hB hr3 hW3;clear hr2 hW2;refine(bG R _ _ _ hr3).mono ?_;rintro e w4 ⟨rfl,hr4,hg4⟩;have hB4:=hB.grown hg4 (by omega);have EO:=ak hW3 hg4;clear hr3 hg4 hB hW3;go_wp2_with(go_at_call 85;refine(require_ok _).mono ?_;rintro e w4 ⟨rfl,rfl⟩;obtain⟨_,_,_,c3,_,_,_,_,_,_,_,_⟩:=hB4.cell;have f3:=hB4.free 3);have nD:=hr4.setCell (B:=B) (by omega) (i:=3) (.bool false) (.bool (jc hu)) (by simp) c3;have sS:=bq EO (a:=⟨B,3,none⟩) (by simp;omega) (.bool (jc hu));dsimp only[jc]at nD sS;clear c3 f3 hr4 hB4 EO;generalize w4.setCell _ _=w5 at nD sS ⊢;rcases hys with rfl|⟨z,r,rfl,hz⟩|rfl
  ·refine(vz R _ nD).mono ?_;rintro e w9 ⟨rfl,rfl⟩;exact⟨rfl,sS,.inr ⟨rfl,rfl⟩⟩
  ·refine(bG R _ _ _ nD).mono ?_;rintro e w6 ⟨rfl,uo,jB⟩;have FM:=ak sS jB;clear nD jB sS;go_wp2_with(go_at_call 85;refine(eH _).mono ?_;rintro e w9 ⟨rfl,Ao⟩;rw[Ao]);exact⟨rfl,FM,.inr ⟨R7 hz,rfl⟩⟩
  ·refine(bG R _ _ _ nD).mono ?_;rintro e w6 ⟨rfl,uo,jB⟩;have FM:=ak sS jB;clear nD jB sS;go_wp2_with(go_at_call 85;refine(require_ok _).mono ?_;rintro e w6 ⟨rfl,rfl⟩);refine(vz R _ uo).mono ?_;rintro e w9 ⟨rfl,rfl⟩;exact⟨rfl,FM,.inr ⟨rfl,rfl⟩⟩
theorem JK(R:Nat)(xs:List Int)(W:World)(hr:Rd R xs W):
  Calls Tryz.prog 56 #[.pointer (some ⟨R,0,none⟩)] W λe w'=>jS R xs W e w':=by
 match xs,hr with
 | [],hr=>exact NZ R W hr
 | [a],hr=>exact NY R a W hr
 | [a,b],hr=>exact NW R a b W hr
 |a::b::c::r,hr=>
  by_cases h0:c=0
  ·subst h0
   match r,hr with
   | [],hr=>exact mD false R a b [] (.inl rfl) W hr
   |z::r,hr=>
    by_cases hz:z=0
    ·subst hz
     match r,hr with
     | [],hr=>exact mD false R a b [0] (.inr (.inr rfl)) W hr
     |n::r,hr=>
      have hn:=hr.bytes n (by simp);obtain⟨m,rfl⟩:=Int.eq_ofNat_of_zero_le hn.1;by_cases h1:b=1
      ·subst h1;exact Gt false R a m r W hr
      by_cases h2:b=2
      ·subst h2;exact Gs false R a m r W hr
      by_cases h3:b=3
      ·subst h3;exact Gr false R a m r W hr
      by_cases h9:b=9
      ·subst h9;exact Gq false R a m r W hr
      exact Gu false R a m r W b (by simpa using h1) (by simpa using h2) (by simpa using h3) (by simpa using h9) hr
    ·exact mD false R a b (z::r) (.inr (.inl ⟨z,r,rfl,by simpa using hz⟩)) W hr
  by_cases h8:c=8
  ·subst h8
   match r,hr with
   | [],hr=>exact mD true R a b [] (.inl rfl) W hr
   |z::r,hr=>
    by_cases hz:z=0
    ·subst hz
     match r,hr with
     | [],hr=>exact mD true R a b [0] (.inr (.inr rfl)) W hr
     |n::r,hr=>
      have hn:=hr.bytes n (by simp);obtain⟨m,rfl⟩:=Int.eq_ofNat_of_zero_le hn.1;by_cases h1:b=1
      ·subst h1;exact Gt true R a m r W hr
      by_cases h2:b=2
      ·subst h2;exact Gs true R a m r W hr
      by_cases h3:b=3
      ·subst h3;exact Gr true R a m r W hr
      by_cases h9:b=9
      ·subst h9;exact Gq true R a m r W hr
      exact Gu true R a m r W b (by simpa using h1) (by simpa using h2) (by simpa using h3) (by simpa using h9) hr
    ·exact mD true R a b (z::r) (.inr (.inl ⟨z,r,rfl,by simpa using hz⟩)) W hr
  ·exact NV R a b c r (by simpa using h0) (by simpa using h8) W hr
theorem ade{a b c d:Int}(hb:0<=b∧b<=255)(hc:0<=c∧c<=255)(hd:0<=d∧d<=255):b4 (n4 a b c d)=[a,b,c,d]:=by
 unfold b4 n4;simp only[List.cons.injEq,and_true];omega
theorem Yv{n:Int}:n4 (n / 16777216) (n / 65536%256) (n / 256%256) (n%256)=n:=by
 unfold n4;omega
theorem CX(x y:Int)(r:List Int)(k:Nat):num (b4 x++(b4 y++r)) (k+2)=num r k:=by
 unfold num;rw[show 4 * (k+2)=4 * k+8 by omega];rfl
theorem fC(x:Int)(r:List Int):num (b4 x++r) 0=x:=by
 show n4 (x / 16777216) (x / 65536%256) (x / 256%256) (x%256)=x;exact Yv
theorem dS(x:Int)(r:List Int)(k:Nat):num (b4 x++r) (k+1)=num r k:=by
 unfold num;rw[show 4 * (k+1)=4 * k+4 by omega];rfl
theorem NR(L:List (Int×Int)):qJ L.length (L.flatMap λx=>b4 x.1++b4 x.2)=L:=by
 induction L with
 |nil=>rfl
 |cons a L ih=>
  unfold qJ at ih ⊢;rw[dZ,List.range_succ_eq_map,List.map_cons,List.map_map];simp only[List.flatMap_cons,List.append_assoc,Nat.mul_zero,Nat.zero_add];rw[fC,dS _ _ 0,fC];conv=>rhs;rw[<-ih]
  refine congrArg _ (List.map_congr_left λi _=> ?_);simp only[Function.comp_apply];rw[show 2 * Nat.succ i=2 * i+2 by omega,show 2 * i+2+1=2 * i+1+2 by omega,CX,CX]
theorem XG(u:Bool):((if u then(8:Int)else 0)==8)=u:=by cases u<;>rfl
def qD(p:aD)(L:List (Int×Int)):List Int:=p.lJ p.nums.length++ic L L.length++aA p.pay
theorem O9(p:aD)(L:List (Int×Int)):yR p L=p.ttl::p.kind::lN p::0::p.cnt::qD p L:=by
 simp only[yR,qD,aD.head,List.append_assoc,List.cons_append,List.nil_append]
theorem XR(p:aD)(hg:p.eG=true)(L:List (Int×Int))(hl:L.length=p.ln):
  (qD p L).length=eZ p.kind p.cnt∧jd p.ttl p.kind (lN p) p.cnt (qD p L)={p with la:=none,lc:=0}∧pF p.kind p.cnt (qD p L)=L:=by
 obtain⟨hlk,_,_,_,_,_,hk⟩:=jm hg;simp only[aD.Da,Ff,jr,qi]at hlk;obtain⟨hln,_,_,h3,h4,h5,h6,h7,h8,h9,h10,h11⟩:=hlk;obtain⟨ttl,kind,hops,unk,id,dest,bA,aH,dQ,life,la,ln,lc,pay⟩:=p;dsimp only at hk h3 h4 h5 h6 h7 h8 h9 h10 h11 hln hl ⊢;rcases hk with rfl|rfl|rfl|⟨rfl,hn0,hn1⟩
 ·simp only[aD.dO,if_true]at h3 h4 h5 h6 h7 h8 h9 h10 h11 hln;subst h10 h11 hln;obtain rfl:=nU hl;refine⟨rfl,?_,rfl⟩;have ht:qD ⟨ttl,1,hops,unk,id,dest,bA,aH,dQ,0,la,0,lc,⟨#[]⟩⟩ []=b4 id++(b4 dest++(b4 bA++(b4 aH++(b4 dQ++ [])))):=rfl;rw[ht];show(⟨ttl,1,hops,lN _==8,num _ 0,num _ 1,num _ 2,num _ 3,num _ 4,0,none,0,0,⟨#[]⟩⟩:aD)=_;rw[fC,dS _ _ 0,fC,dS _ _ 1,dS _ _ 0,fC,dS _ _ 2,dS _ _ 1,dS _ _ 0,fC,dS _ _ 3,dS _ _ 2,dS _ _ 1,dS _ _ 0,fC];unfold lN;rw[XG]
 ·simp only[aD.dO,show ¬((2:Int)=1)by omega,if_false,if_true]at h3 h4 h5 h6 h7 h8 h9 h10 h11 hln;subst h4 h5 h9 h11 hln;obtain rfl:=nU hl;refine⟨rfl,?_,rfl⟩;have ht:qD ⟨ttl,2,hops,false,0,dest,bA,aH,0,life,la,0,lc,⟨#[]⟩⟩ []=b4 dest++(b4 bA++(b4 aH++(b4 life++ []))):=rfl;rw[ht];show(⟨ttl,2,hops,lN _==8,0,num _ 0,num _ 1,num _ 2,0,num _ 3,none,0,0,⟨#[]⟩⟩:aD)=_;rw[fC,dS _ _ 0,fC,dS _ _ 1,dS _ _ 0,fC,dS _ _ 2,dS _ _ 1,dS _ _ 0,fC];rfl
 ·simp only[aD.dO,show ¬((9:Int)=1)by omega,show ¬((9:Int)=2)by omega,show ¬((9:Int)=3)by omega,if_false,if_true]at h3 h4 h5 h6 h7 h8 h9 h10 h11 hln;subst h3 h4 h7 h9 h10 hln;obtain rfl:=nU hl;have ht:qD ⟨ttl,9,0,false,id,dest,0,aH,0,0,la,0,lc,pay⟩ []=b4 id++(b4 dest++(b4 aH++aA pay)):=rfl;have hc:aD.cnt ⟨ttl,9,0,false,id,dest,0,aH,0,0,la,0,lc,pay⟩=(pay.size:Int):=rfl;rw[ht,hc];refine⟨?_,?_,rfl⟩
  ·show _=12+((pay.size:Nat):Int).toNat;simp only[bU,kZ,dz];omega
  ·show(⟨ttl,9,0,lN _==8,num _ 0,num _ 1,0,num _ 2,0,0,none,0,0,strOfNums ((aA pay).take ((pay.size:Nat):Int).toNat)⟩:aD)=_;rw[fC,dS _ _ 0,fC,dS _ _ 1,dS _ _ 0,fC,kN (by rw[dz];omega),uV];rfl
 ·simp only[aD.dO,show ¬((3:Int)=1)by omega,show ¬((3:Int)=2)by omega,if_false,if_true]at h3 h4 h5 h6 h7 h8 h9 h10 h11;subst h3 h4 h5 h6 h7 h8 h9 h10 h11;have ht:qD ⟨ttl,3,0,false,0,0,0,0,0,0,la,ln,lc,⟨#[]⟩⟩ L=(L.flatMap λx=>b4 x.1++b4 x.2):=by
   show []++ic L L.length++ []=_;unfold ic;rw[kN (aB _),fw,List.nil_append]
  have hc:aD.cnt ⟨ttl,3,0,false,0,0,0,0,0,0,la,ln,lc,⟨#[]⟩⟩=(ln:Int):=rfl;rw[ht,hc];refine⟨?_,?_,?_⟩
  ·show _=8 * ((ln:Nat):Int).toNat;rw[xC,hl];omega
  ·show(⟨ttl,3,0,lN _==8,0,0,0,0,0,0,none,((ln:Nat):Int).toNat,0,⟨#[]⟩⟩:aD)=_;rw[show((ln:Nat):Int).toNat=ln by omega];rfl
  ·show qJ ((ln:Nat):Int).toNat _=L;rw[show((ln:Nat):Int).toNat=L.length by omega];exact NR L
theorem KR(v:Value)(xs:List Int)(W:World)(hv:fo W v xs):
  Calls Tryz.prog 22 #[v] W λe w'=>zB xs W e w':=PX JK v xs W hv
open Go.Maps
theorem jP.ge{B:Nat}{a:qh}{bg:List (Bool×Int×Int)}{aF aO:List (Int×ByteArray)}{aP:List Int}{W:World}(h:jP B (B+1) a bg aF aO aP W){k:Nat}(hk:jL B a k):B<=k:=by
 rcases hk with rfl|hk|hk|hk|hk
 ·exact aB _
 ·exact Nat.le_of_succ_le (h.nV.lt k hk).1
 ·exact Nat.le_of_succ_le (h.aH.lt k hk).1
 ·exact Nat.le_of_succ_le (h.bO.lt k hk).1
 ·exact Nat.le_of_succ_le (h.bP.lt k hk).1
theorem D_(p:aD):oC p.box:=⟨λc e=>(by cases e),λc e=>(by cases e),λc e=>(by cases e),λc e=>(by cases e),λc e=>(by cases e)⟩
variable{f h:Int->Option Nat}{u:Int->Value}{bg:List (Bool×Int×Int)}{aO aF:List (Int×ByteArray)}{aP:List Int}{B M Mt N T:Nat}{F F':Nat->Prop}{x:mX}{s s':St}{tv:Value}{W W' a b:World}
theorem kQ.block{s:Nat}(h:kQ W M f s)(he:W'.heap[M]?=W.heap[M]?):kQ W' M f s:=by
 obtain⟨D,⟨es,clock,hb,Ft,hs,hD⟩,h2,h3⟩:=h;exact⟨D,⟨es,clock,he.trans hb,Ft,hs,hD⟩,h2,h3⟩
theorem kQ.obj{s:Nat}(h:kQ W M f s):∃es cl,W.heap[M]?=some (.map es cl):=by
 obtain⟨D,⟨es,cl,hm,_⟩,_⟩:=h;exact⟨es,cl,hm⟩
theorem TR.at{base:Nat}{last:Int}{h:List Hp.Tm}{v:Value}(r:TR base T M last h v W)(h1:W'.heap[T]?=W.heap[T]?)(h2:W'.heap[M]?=W.heap[M]?)(h3:∀k,v.ownBlock=some k->W'.heap[k]?=W.heap[k]?):TR base T M last h v W':=by
 obtain⟨f,p1,p2⟩:=r.map;exact⟨h1.trans r.blk,bQ r.row h3,⟨f,p1.block h2,p2⟩,r.ok,r.bT,r.bM⟩
def kR(q:Sr):Hp.Tm:=(q.due,q.id,q.dest)
structure Yb(x:mX)(h:Int->Option Nat)(u:Int->Value)(Mt:Nat)(hp:List Hp.Tm)(tv:Value)(s:St)(TL:List Hp.Tm)(W:World):Prop where
 sn:xN x.Ms s.tn s.mem W
 sr:xL x.qy h u s.Q W
 tm:TR 0 x.Tm Mt s.tl hp tv W
 hpo:Hp.Heap hp
 pm:hp.Perm TL
 pc:W.ownsRow 0 35 1 x.pc s.pc.length (s.pc.map (Value.int .u64))
def kr(x:mX)(h:Int->Option Nat)(u:Int->Value)(Mt:Nat)(tv:Value)(s:St)(k:Nat):Prop:=
 k=x.Ms∨II x.qy h u s.Q k∨k=x.Tm∨k=Mt∨tv.ownBlock=some k∨x.pc.ownBlock=some k
theorem Yb.kept{hp:List Hp.Tm}{TL:List Hp.Tm}(r:Yb x h u Mt hp tv s TL W)(he:∀k,kr x h u Mt tv s k->W'.heap[k]?=W.heap[k]?):Yb x h u Mt hp tv s TL W':=
 ⟨r.sn.block (he _ (.inl rfl)),r.sr.kept λk hk=>he k (.inr (.inl hk)),r.tm.at (he _ (.inr (.inr (.inl rfl)))) (he _ (.inr (.inr (.inr (.inl rfl))))) λk hk=>he k (.inr (.inr (.inr (.inr (.inl hk))))),r.hpo,r.pm,bQ r.pc λk hk=>he k (.inr (.inr (.inr (.inr (.inr hk)))))⟩
theorem Yb.lt{hp:List Hp.Tm}{TL:List Hp.Tm}(r:Yb x h u Mt hp tv s TL W){k:Nat}(hk:kr x h u Mt tv s k):k<W.heap.size:=by
 rcases hk with rfl|hk|rfl|rfl|hk|hk
 ·exact r.sn.lt
 ·exact r.sr.lt hk
 ·exact r.tm.blk.lt
 ·obtain⟨f,p1,_⟩:=r.tm.map;exact p1.lt
 ·exact(r.tm.row.lt k hk).2
 ·exact(r.pc.lt k hk).2
def Rh(o:Obj):Prop:=(∀c,o≠ .cells c 177 (0,0))∧(∀c,o≠ .cells c 9 (0,0))∧(∀c,o≠ .cells c 165 (0,0))∧(∀c,o≠ .cells c 254 (0,0))∧∀c,o≠ .cells c 35 (0,0)
theorem Yb.kind{hp:List Hp.Tm}{TL:List Hp.Tm}(r:Yb x h u Mt hp tv s TL W){k:Nat}(hk:kr x h u Mt tv s k):
  ∃o,W.heap[k]?=some o∧(((k=x.Ms∨k=x.qy∨k=Mt)∧∃es cl,o=.map es cl)∨(¬Rh o∧Go.Proofs.YtakaadcpaeiccabGreat.yM o∧oC o∧(∀c,o≠ .cells c 131 (0,0))∧∀es cl,o≠ .map es cl)):=by
 have hT:∀ {t:TypeId} (c:Array Value),(t=177∨t=9∨t=165∨t=254∨t=35)->¬Rh (.cells c t (0,0))∧Go.Proofs.YtakaadcpaeiccabGreat.yM (.cells c t (0,0))∧oC (.cells c t (0,0))∧(∀d,(Obj.cells c t (0,0))≠ .cells d 131 (0,0))∧∀es cl,(Obj.cells c t (0,0))≠ .map es cl:=by
  rintro t c (rfl|rfl|rfl|rfl|rfl)<;>
  exact⟨by simp[Rh],⟨λc e=>(by cases e),λc e=>(by cases e),λc e=>(by cases e)⟩,⟨λc e=>(by cases e),λc e=>(by cases e),λc e=>(by cases e),λc e=>(by cases e),λc e=>(by cases e)⟩,λc e=>(by cases e),λc d e=>(by cases e)⟩
 rcases hk with rfl|hk|rfl|rfl|hk|hk
 ·obtain⟨es,cl,hm⟩:=r.sn.obj;exact⟨_,hm,.inl ⟨.inl rfl,_,_,rfl⟩⟩
 ·obtain⟨o,ho,⟨rfl,es,cl,rfl⟩|⟨c,rfl⟩|⟨c,rfl⟩⟩:=r.sr.kind hk
  ·exact⟨_,ho,.inl ⟨.inr (.inl rfl),_,_,rfl⟩⟩
  ·exact⟨_,ho,.inr (hT c (.inl rfl))⟩
  ·exact⟨_,ho,.inr (hT c (.inr (.inl rfl)))⟩
 ·exact⟨_,r.tm.blk,.inr (hT _ (.inr (.inr (.inl rfl))))⟩
 ·obtain⟨f,p1,_⟩:=r.tm.map;obtain⟨es,cl,hm⟩:=p1.obj;exact⟨_,hm,.inl ⟨.inr (.inr rfl),_,_,rfl⟩⟩
 ·obtain⟨c,hc⟩:=aS r.tm.row hk;exact⟨_,hc,.inr (hT c (.inr (.inr (.inr (.inl rfl)))))⟩
 ·obtain⟨c,hc⟩:=aS r.pc hk;exact⟨_,hc,.inr (hT c (.inr (.inr (.inr (.inr rfl)))))⟩
structure bI where
 x:mX
 a:qh
 M:Nat
 ff:Int->Option Nat
 gg:Int->Value
 sz:Nat
 h:Int->Option Nat
 u:Int->Value
 Mt:Nat
 hp:List Hp.Tm
 tv:Value
structure NdE(x:mX)(s:St):Prop where
 self:x.self=s.me
 seq:x.seq=s.seq
 bN:x.bN=s.bN
 b_:x.b_=s.b_
 eu:x.eu=s.eu
 tn:x.tn=s.tn
 own:x.own=s.own
 cnt:x.cnt=s.cnt
 lk:x.lk=s.lk
structure Nn(N:Nat)(g:bI)(s:St)(TL:List Hp.Tm)(W:World):Prop where
 cr:Fu N g.x g.M g.ff g.gg s.A s.f g.sz W
 eq:NdE g.x s
 rs:Yb g.x g.h g.u g.Mt g.hp g.tv s TL W
 qM: [g.M,g.x.Mo,g.x.Ms,g.x.qy,g.Mt].Nodup
 I_:g.sz<=1000000
def Ft(N:Nat)(g:bI)(s:St)(k:Nat):Prop:=yY N g.x g.M g.ff g.gg s.A k∨kr g.x g.h g.u g.Mt g.tv s k
structure Nd(N B:Nat)(g:bI)(s:St)(TL:List Hp.Tm)(W:World):Prop where
 nn:Nn N g s TL W
 ac:jP B (B+1) g.a s.bg s.aF s.aO s.aP W
 now:g.a.now=s.now
 bB:g.a.bB=s.bB
structure Up(B:Nat)(F F':Nat->Prop)(w w':World):Prop where
 sub:∀k,F' k->F k∨(w.heap.size<=k∧k<w'.heap.size)
 os:w'.os=w.os
 tape:w'.tape=w.tape
 output:w'.output=w.output
 size:w.heap.size<=w'.heap.size
 block:∀k o,w.heap[k]?=some o->¬F k->(oC o∨k<B)->w'.heap[k]?=some o
theorem aG{k:Nat}{o:Obj}(h:W.heap[k]?=some o):k<W.heap.size:=(iA.1 h).1
theorem Up.trans{F'':Nat->Prop}{c:World}(p:Up B F F' a b)(q:Up B F' F'' b c):Up B F F'' a c:=by
 have h1:=p.size;have h2:=q.size;refine⟨λk hk=> ?_,q.os.trans p.os,q.tape.trans p.tape,q.output.trans p.output,dN h1 h2,λk o ho hn hA=> ?_⟩
 ·rcases q.sub k hk with h|h
  ·rcases p.sub k h with h|h
   ·exact .inl h
   ·exact .inr (by omega)
  ·exact .inr (by omega)
 ·refine q.block k o (p.block k o ho hn hA) (λh=> ?_) hA;rcases p.sub k h with h|h
  ·exact hn h
  ·have:=aG ho;omega
theorem Up.below(h:Below a.heap.size a b):Up B F F a b:=
 ⟨λ_ h=> .inl h,h.os,h.tape,h.output,h.size,λk _ ho _ _=>(h.block k (aG ho)).trans ho⟩
theorem Up.refl(B:Nat)(F:Nat->Prop)(a:World):Up B F F a a:=.below (aV _ _)
theorem Up.of{S:Nat->Prop}(h:Fx S a b)(hs:∀k o,S k->a.heap[k]?=some o->F k∨(¬oC o∧B<=k))(sub:∀k,F' k->F k∨(a.heap.size<=k∧k<b.heap.size)):Up B F F' a b:=
 ⟨sub,h.os,h.tape,h.output,h.size,λk o ho hn hA=>(h.block k (aG ho) λhk=>by
  rcases hs k o hk ho with h|⟨h1,h2⟩
  ·exact hn h
  ·rcases hA with h|h
   ·exact h1 h
   ·omega).trans ho⟩
theorem Up.toFx(h:Up B F F' a b)(hB:a.heap.size<=B):Fx F a b:=
 ⟨h.os,h.tape,h.output,h.size,λk hk hn=>by
  obtain⟨o,ho⟩:∃o,a.heap[k]?=some o:=⟨_,Array.getElem?_eq_getElem hk⟩;rw[ho];exact h.block k o ho hn (.inr (by omega))⟩
theorem Up.keep(p:Up B F F' a b){k:Nat}{o:Obj}(ho:a.heap[k]?=some o)(hn:¬F k)(hA:oC o):b.heap[k]?=some o∧¬F' k:=
 ⟨p.block k o ho hn (.inl hA),λh=>(p.sub k h).elim hn (by have:=aG ho;omega)⟩
theorem MT.kind{me:Int}{g:Int->Value}{A:List Rt}(h:MT me T M f g A W){k:Nat}(hk:mZ T M f g A k):
  ∃o,W.heap[k]?=some o∧((k=M∧∃es cl,o=.map es cl)∨(oC o∧Rh o∧(∀c,o≠ .cells c 131 (0,0))∧∀es cl,o≠ .map es cl)):=by
 have hT:∀ {t:TypeId} (c:Array Value),(t=158∨t=38∨t=34)->oC (.cells c t (0,0))∧Rh (.cells c t (0,0))∧(∀d,(Obj.cells c t (0,0))≠ .cells d 131 (0,0))∧∀es cl,(Obj.cells c t (0,0))≠ .map es cl:=by
  rintro t c (rfl|rfl|rfl)<;>
  exact⟨⟨λc e=>(by cases e),λc e=>(by cases e),λc e=>(by cases e),λc e=>(by cases e),λc e=>(by cases e)⟩,⟨λc e=>(by cases e),λc e=>(by cases e),λc e=>(by cases e),λc e=>(by cases e),λc e=>(by cases e)⟩,λc e=>(by cases e),λc d e=>(by cases e)⟩
 rcases hk with rfl|rfl|⟨y,hy,hk|hk⟩
 ·exact⟨_,h.blk,.inr (hT _ (.inl rfl))⟩
 ·obtain⟨es,cl,hm⟩:=h.map.obj;exact⟨_,hm,.inl ⟨rfl,_,_,rfl⟩⟩
 ·obtain⟨B,p1,p2⟩:=h.ln y hy;rw[p1]at hk;cases hk;exact⟨_,p2,.inr (hT _ (.inr (.inl rfl)))⟩
 ·obtain⟨c,hc⟩:=aS (h.row y hy) hk;exact⟨_,hc,.inr (hT c (.inr (.inr rfl)))⟩
theorem Nn.lt{g:bI}{TL:List Hp.Tm}(n:Nn N g s TL W){k:Nat}(hk:Ft N g s k):k<W.heap.size:=by
 rcases hk with(rfl|rfl|hk)|hk
 ·exact n.cr.nd.lt
 ·exact n.cr.mo.lt
 ·exact n.cr.tb.lt hk
 ·exact n.rs.lt hk
theorem Nn.oC{g:bI}{TL:List Hp.Tm}(n:Nn N g s TL W){k:Nat}(hk:Ft N g s k):∃o,W.heap[k]?=some o∧Go.Proofs.YtakaadcpaeiccabGreat.oC o:=by
 rcases hk with(rfl|rfl|hk)|hk
 ·exact⟨_,n.cr.nd,LU _⟩
 ·obtain⟨es,cl,hm⟩:=n.cr.mo.obj;exact⟨_,hm,vH es cl⟩
 ·obtain⟨o,ho,⟨_,es,cl,rfl⟩|⟨h,_⟩⟩:=n.cr.tb.kind hk
  ·exact⟨_,ho,vH es cl⟩
  ·exact⟨o,ho,h⟩
 ·obtain⟨o,ho,⟨_,es,cl,rfl⟩|⟨_,_,h,_⟩⟩:=n.rs.kind hk
  ·exact⟨_,ho,vH es cl⟩
  ·exact⟨o,ho,h⟩
theorem Nn.maps{g:bI}{TL:List Hp.Tm}(n:Nn N g s TL W){k:Nat}(hk:k=g.x.Ms∨k=g.x.qy∨k=g.Mt):k≠g.M∧k≠g.x.Mo:=by
 have h:=n.qM;simp only[List.nodup_cons,fE,List.not_mem_nil,or_false,not_or]at h;obtain⟨⟨_,h1,h2,h3⟩,⟨h4,h5,h6⟩,_⟩:=h;rcases hk with rfl|rfl|rfl
 ·exact⟨Ne.symm h1,Ne.symm h4⟩
 ·exact⟨Ne.symm h2,Ne.symm h5⟩
 ·exact⟨Ne.symm h3,Ne.symm h6⟩
theorem Nn.apart{g:bI}{TL:List Hp.Tm}(n:Nn N g s TL W){k:Nat}(hk:kr g.x g.h g.u g.Mt g.tv s k):¬yY N g.x g.M g.ff g.gg s.A k:=by
 obtain⟨o,ho,⟨h,es,cl,rfl⟩|⟨h1,h2,h3,h4,h5⟩⟩:=n.rs.kind hk
 ·obtain⟨q1,q2⟩:=n.maps h;rintro(rfl|rfl|hc)
  ·rw[show W.heap[k]?=_ from n.cr.nd]at ho;cases ho
  ·exact q2 rfl
  ·exact n.cr.tb.not q1 ho (vG es cl) hc
 ·rintro(rfl|rfl|hc)
  ·rw[show W.heap[k]?=_ from n.cr.nd]at ho;exact h4 _ (Option.some.inj ho).symm
  ·obtain⟨es,cl,hm⟩:=n.cr.mo.obj;rw[hm]at ho;exact h5 _ _ (Option.some.inj ho).symm
  ·refine n.cr.tb.not (λe=> ?_) ho h2 hc;subst e;obtain⟨es,cl,hm⟩:=n.cr.tb.map.obj;rw[hm]at ho;exact h5 _ _ (Option.some.inj ho).symm
theorem Nn.kept{g:bI}{TL:List Hp.Tm}(n:Nn N g s TL W)(he:∀k,Ft N g s k->W'.heap[k]?=W.heap[k]?):Nn N g s TL W':=
 ⟨⟨n.cr.nd.block (he _ (.inl (.inl rfl))),n.cr.mo.block (he _ (.inl (.inr (.inl rfl)))),n.cr.tb.kept λk hk=>he k (.inl (.inr (.inr hk))),n.cr.ne⟩,n.eq,n.rs.kept λk hk=>he k (.inr hk),n.qM,n.I_⟩
theorem Nn.later{g:bI}{TL:List Hp.Tm}(n:Nn N g s TL W)(hb:Below W.heap.size W W'):Nn N g s TL W':=n.kept λk hk=>hb.block k (n.lt hk)
theorem Nd.later{g:bI}{TL:List Hp.Tm}(n:Nd N B g s TL W)(hb:Below W.heap.size W W'):Nd N B g s TL W':=⟨n.nn.later hb,n.ac.later hb,n.now,n.bB⟩
def Bh(s s':St):Prop:=s'.me=s.me∧s'.seq=s.seq∧s'.bN=s.bN∧s'.b_=s.b_∧s'.eu=s.eu∧s'.A=s.A∧s'.mem=s.mem∧s'.tn=s.tn∧s'.f=s.f∧s'.own=s.own∧s'.cnt=s.cnt∧s'.Q=s.Q∧s'.tl=s.tl∧s'.pc=s.pc∧s'.lk=s.lk
theorem Nn.same{g:bI}{TL:List Hp.Tm}(n:Nn N g s TL W)(h:Bh s s')(a:qh):Nn N {g with a:=a} s' TL W:=by
 obtain⟨h1,h2,h3,h4,h5,h6,h7,h8,h9,h10,h11,h12,U_,h14,h15⟩:=h;obtain⟨c,e,r,d,z⟩:=n;obtain⟨e1,e2,e3,e4,e5,e6,e7,e8,e9⟩:=e;obtain⟨r1,r2,r3,r4,r5,r6⟩:=r;exact⟨by rw[h6,h9];exact c,⟨by rw[h1];exact e1,by rw[h2];exact e2,by rw[h3];exact e3,by rw[h4];exact e4,by rw[h5];exact e5,by rw[h8];exact e6,by rw[h10];exact e7,by rw[h11];exact e8,by rw[h15];exact e9⟩,⟨by rw[h7,h8];exact r1,by rw[h12];exact r2,by rw[U_];exact r3,r4,r5,by rw[h14];exact r6⟩,d,z⟩
theorem Ft.same{g:bI}(h:Bh s s')(a:qh)(k:Nat):Ft N {g with a:=a} s' k ↔ Ft N g s k:=by
 obtain⟨h1,h2,h3,h4,h5,h6,h7,h8,h9,h10,h11,h12,U_,h14,h15⟩:=h;unfold Ft kr;rw[h6,h12]
theorem jP.JM{g:bI}{TL:List Hp.Tm}{base:Nat}{a:qh}(h:jP B base a bg aF aO aP W)(n:Nn N g s TL W){k:Nat}(hk:Ft N g s k):¬jL B a k:=by
 obtain⟨o,ho,hA⟩:=n.oC hk;exact h.not ho hA
theorem jP.kinds{base:Nat}{a:qh}(h:jP B base a bg aF aO aP W){k:Nat}(hk:jL B a k){o:Obj}(ho:W.heap[k]?=some o):¬oC o:=λhA=>h.not ho hA hk
theorem Nd.act{g:bI}{TL:List Hp.Tm}(n:Nd N B g s TL W){a':qh}(h:jP B (B+1) a' s'.bg s'.aF s'.aO s'.aP W')(hf:Fx (jL B g.a) W W')(he:Bh s s')(h1:a'.now=s'.now)(h2:a'.bB=s'.bB):
  Nd N B {g with a:=a'} s' TL W'∧Up B (Ft N g s) (Ft N {g with a:=a'} s') W W':=by
 refine⟨⟨(n.nn.kept λk hk=>hf.block k (n.nn.lt hk) (n.ac.JM n.nn hk)).same he a',h,h1,h2⟩,.of hf (λk o hk ho=> .inr ⟨n.ac.kinds hk ho,n.ac.ge hk⟩) λk hk=> .inl ((Ft.same he a' k).1 hk)⟩
theorem Nd.table{g:bI}{TL:List Hp.Tm}(n:Nd N B g s TL W){A':List Rt}(h:Bf s.me g.x.T (ext (mZ g.x.T g.M g.ff g.gg s.A) W.heap.size W'.heap.size) A' W')(hf:Fx (mZ g.x.T g.M g.ff g.gg s.A) W W'):
  ∃M' TB xB,Nd N B {g with M:=M',ff:=TB,gg:=xB} {s with A:=A'} TL W'∧Up B (Ft N g s) (Ft N {g with M:=M',ff:=TB,gg:=xB} {s with A:=A'}) W W':=by
 obtain⟨M',TB,xB,hM,hS⟩:=h;have hrs:∀k,kr g.x g.h g.u g.Mt g.tv s k->¬mZ g.x.T g.M g.ff g.gg s.A k:=λk hk hc=>n.nn.apart hk (.inr (.inr hc));have hM':∀k,k<W.heap.size->¬mZ g.x.T g.M g.ff g.gg s.A k->M'≠k:=by
  rintro k hk hn rfl;rcases hS M' (.inr (.inl rfl))with h|h
  ·exact hn h
  ·omega
 have OP:¬mZ g.x.T g.M g.ff g.gg s.A g.x.Mo:=by
  obtain⟨es,cl,hm⟩:=n.nn.cr.mo.obj;exact n.nn.cr.tb.not (Ne.symm n.nn.cr.ne) hm (vG es cl)
 have hN:¬mZ g.x.T g.M g.ff g.gg s.A N:=n.nn.cr.tb.not (λe=>by
  obtain⟨es,cl,hm⟩:=n.nn.cr.tb.map.obj;rw[<-e,show W.heap[N]?=_ from n.nn.cr.nd]at hm;cases hm) n.nn.cr.nd (rT _)
 have hnd:=n.nn.qM;simp only[List.nodup_cons,fE,List.not_mem_nil,or_false,not_or]at hnd;obtain⟨_,hnd⟩:=hnd;have hac:∀k,jL B g.a k->¬mZ g.x.T g.M g.ff g.gg s.A k:=λk hk hc=>n.ac.JM n.nn (.inl (.inr (.inr hc))) hk;refine⟨M',TB,xB,⟨⟨⟨n.nn.cr.nd.block (hf.block _ n.nn.cr.nd.lt hN),n.nn.cr.mo.block (hf.block _ n.nn.cr.mo.lt OP),by rw[n.nn.eq.self];exact hM,hM' _ n.nn.cr.mo.lt OP⟩,⟨n.nn.eq.self,n.nn.eq.seq,n.nn.eq.bN,n.nn.eq.b_,n.nn.eq.eu,n.nn.eq.tn,n.nn.eq.own,n.nn.eq.cnt,n.nn.eq.lk⟩,?_,?_,n.nn.I_⟩,n.ac.kept λk hk=>hf.block k (n.ac.lt hk) (hac k hk),n.now,n.bB⟩,.of hf (λk o hk _=> .inl (.inl (.inr (.inr hk)))) λk hk=> ?_⟩
 ·have:=n.nn.rs.kept (W':=W') λk hk=>hf.block k (n.nn.rs.lt hk) (hrs k hk);exact⟨this.sn,this.sr,this.tm,this.hpo,this.pm,this.pc⟩
 ·have q1:=hM' _ n.nn.cr.mo.lt OP;have q2:=hM' _ (n.nn.rs.lt (.inl rfl)) (hrs _ (.inl rfl));have q3:=hM' _ (n.nn.rs.lt (.inr (.inl (.inl rfl)))) (hrs _ (.inr (.inl (.inl rfl))));have q4:=hM' _ (n.nn.rs.lt (.inr (.inr (.inr (.inl rfl))))) (hrs _ (.inr (.inr (.inr (.inl rfl)))));simp only[List.nodup_cons,fE,List.not_mem_nil,or_false,not_or];exact⟨⟨q1,q2,q3,q4⟩,hnd⟩
 ·rcases hk with(rfl|rfl|hk)|hk
  ·exact .inl (.inl (.inl rfl))
  ·exact .inl (.inl (.inr (.inl rfl)))
  ·rcases hS k hk with h|h
   ·exact .inl (.inl (.inr (.inr h)))
   ·exact .inr h
  ·exact .inl (.inr hk)
theorem Nd.rest{g:bI}{TL dX:List Hp.Tm}(n:Nd N B g s TL W){x':mX}{h':Int->Option Nat}{u':Int->Value}{Fy:Nat}{hp':List Hp.Tm}{tv':Value}
  (hx:iI N x' W') (hT:x'.T=g.x.T) (OP:x'.Mo=g.x.Mo) (he:NdE x' s') (hr:Yb x' h' u' Fy hp' tv' s' dX W') (hf:Fx (λk=>k=N∨kr g.x g.h g.u g.Mt g.tv s k) W W')
  (sub:∀k,kr x' h' u' Fy tv' s' k->kr g.x g.h g.u g.Mt g.tv s k∨(W.heap.size<=k∧k<W'.heap.size)) (hm:x'.Ms=g.x.Ms∧x'.qy=g.x.qy∧Fy=g.Mt)
  (hs:s'.me=s.me∧s'.A=s.A∧s'.f=s.f∧s'.bg=s.bg∧s'.aF=s.aF∧s'.aO=s.aO∧s'.aP=s.aP∧s'.now=s.now∧s'.bB=s.bB):
  Nd N B {g with x:=x',h:=h',u:=u',Mt:=Fy,hp:=hp',tv:=tv'} s' dX W'∧Up B (Ft N g s) (Ft N {g with x:=x',h:=h',u:=u',Mt:=Fy,hp:=hp',tv:=tv'} s') W W':=by
 obtain⟨s1,s2,s3,s4,s5,s6,s7,s8,s9⟩:=hs;obtain⟨m1,m2,m3⟩:=hm;have hcr:∀k,yY N g.x g.M g.ff g.gg s.A k->k≠N->¬(k=N∨kr g.x g.h g.u g.Mt g.tv s k):=λk hk hne h=>h.elim hne λh=>n.nn.apart h hk;have hTN:∀k,mZ g.x.T g.M g.ff g.gg s.A k->k≠N:=by
  rintro k hk rfl;exact n.nn.cr.tb.not (λe=>by
   obtain⟨es,cl,hm⟩:=n.nn.cr.tb.map.obj;rw[<-e,show W.heap[k]?=_ from n.nn.cr.nd]at hm;cases hm) n.nn.cr.nd (rT _) hk
 have aeA:g.x.Mo≠N:=Ne.symm (LV n.nn.cr.nd n.nn.cr.mo);refine⟨⟨⟨⟨hx,?_,?_,?_⟩,he,hr,?_,n.nn.I_⟩,?_,by rw[s8];exact n.now,by rw[s9];exact n.bB⟩,.of hf (λk o hk _=> .inl (hk.elim (λh=> .inl (.inl h)) .inr)) λk hk=> ?_⟩
 ·rw[s3,show({g with x:=x',h:=h',u:=u',Mt:=Fy,hp:=hp',tv:=tv'}:bI).x.Mo=g.x.Mo from OP];exact n.nn.cr.mo.block (hf.block _ n.nn.cr.mo.lt (hcr _ (.inr (.inl rfl)) aeA))
 ·rw[s2,show({g with x:=x',h:=h',u:=u',Mt:=Fy,hp:=hp',tv:=tv'}:bI).x.T=g.x.T from hT,show({g with x:=x',h:=h',u:=u',Mt:=Fy,hp:=hp',tv:=tv'}:bI).x.self=g.x.self from by rw[n.nn.eq.self,<-s1];exact he.self];exact n.nn.cr.tb.kept λk hk=>hf.block k (n.nn.cr.tb.lt hk) (hcr _ (.inr (.inr hk)) (hTN k hk))
 ·rw[show({g with x:=x',h:=h',u:=u',Mt:=Fy,hp:=hp',tv:=tv'}:bI).x.Mo=g.x.Mo from OP];exact n.nn.cr.ne
 ·have:=n.nn.qM;dsimp only;rw[OP,m1,m2,m3];exact this
 ·rw[s4,s5,s6,s7];exact n.ac.kept λk hk=>hf.block k (n.ac.lt hk) λh=>n.ac.JM n.nn (h.elim (λh=> .inl (.inl h)) .inr) hk
 ·rcases hk with(rfl|rfl|hk)|hk
  ·exact .inl (.inl (.inl rfl))
  ·exact .inl (.inl (.inr (.inl OP)))
  ·rw[s2]at hk;dsimp only at hk;rw[hT]at hk;exact .inl (.inl (.inr (.inr hk)))
  ·exact(sub k hk).imp_left .inr
theorem Nd.cells{g:bI}{TL:List Hp.Tm}(n:Nd N B g s TL W){x':mX}(hx:iI N x' W')(hf:Fx (λk=>k=N) W W')(he:NdE x' s')(hm:x'.T=g.x.T∧x'.Mo=g.x.Mo∧x'.Ms=g.x.Ms∧x'.qy=g.x.qy∧x'.Tm=g.x.Tm∧x'.pc=g.x.pc)
  (hs:s'.me=s.me∧s'.A=s.A∧s'.f=s.f∧s'.bg=s.bg∧s'.aF=s.aF∧s'.aO=s.aO∧s'.aP=s.aP∧s'.now=s.now∧s'.bB=s.bB) (hs2:s'.mem=s.mem∧s'.tn=s.tn∧s'.Q=s.Q∧s'.tl=s.tl∧s'.pc=s.pc):
  Nd N B {g with x:=x'} s' TL W'∧Up B (Ft N g s) (Ft N {g with x:=x'} s') W W':=by
 obtain⟨m1,m2,m3,m4,m5,m6⟩:=hm;obtain⟨t1,t2,t3,t4,t5⟩:=hs2;have hin:∀k,kr x' g.h g.u g.Mt g.tv s' k->kr g.x g.h g.u g.Mt g.tv s k:=by
  intro k hk;unfold kr at hk ⊢;rw[m3,m4,m5,m6,t3]at hk;exact hk
 have hr:=n.nn.rs.kept (W':=W') λk hk=>hf.block k (n.nn.rs.lt hk) λe=>n.nn.apart hk (.inl e);refine n.rest hx m1 m2 he ⟨?_,?_,?_,hr.hpo,hr.pm,?_⟩ (hf.mono λk h=> .inl h) (λk hk=> .inl (hin k hk)) ⟨m3,m4,rfl⟩ hs
 ·rw[m3,t1,t2];exact hr.sn
 ·rw[m4,t3];exact hr.sr
 ·rw[m5,t4];exact hr.tm
 ·rw[m6,t5];exact hr.pc
variable{B N b t:Nat}{s:St}{v0 v1 v2 v3 v4:Value}{W w:World}
def lT(N B:Nat)(g:bI)(s s':St)(dX:List Hp.Tm)(w w':World):Prop:=∃g',Nd N B g' s' dX w'∧Up B (Ft N g s) (Ft N g' s') w w'∧Hid (g'.x.T=g.x.T)
theorem hide{P:Prop}(h:P):Hid P:=h
theorem cells5(h:W.heap[b]?=some (.cells #[v0,v1,v2,v3,v4] t (0,0))):W.cell? ⟨b,0,none⟩=some v0∧W.cell? ⟨b,1,none⟩=some v1∧W.cell? ⟨b,2,none⟩=some v2∧W.cell? ⟨b,3,none⟩=some v3∧W.cell? ⟨b,4,none⟩=some v4:=
 have k:=λi=>aJ W b i _ _ _ h
 ⟨k 0,k 1,k 2,k 3,k 4⟩
theorem yw(h:W.heap[b]?=some (.cells #[v0,v1,v2,v3,v4] t (0,0))):W.frozen? ⟨b,0,none⟩=false∧W.frozen? ⟨b,1,none⟩=false∧W.frozen? ⟨b,2,none⟩=false∧W.frozen? ⟨b,3,none⟩=false∧W.frozen? ⟨b,4,none⟩=false:=
 have k:=λi=>ng W b i _ _ h
 ⟨k 0,k 1,k 2,k 3,k 4⟩
theorem lT.pre{g:bI}{s':St}{dX:List Hp.Tm}{a b c:World}(hb:Below a.heap.size a b)(p:lT N B g s s' dX b c):lT N B g s s' dX a c:=by
 obtain⟨g1,n1,u1,t1⟩:=p;exact⟨g1,n1,(Up.below hb).trans u1,t1⟩
theorem Nd.base{g:bI}{TL:List Hp.Tm}(n:Nd N B g s TL W):B+1<=W.heap.size:=n.ac.blk.lt
theorem Nd.cell{g:bI}{TL:List Hp.Tm}(n:Nd N B g s TL W):
  W.cell? ⟨N,2,none⟩=some (.int .u32 s.me)∧W.cell? ⟨N,3,none⟩=some (.int .u32 s.seq)∧W.cell? ⟨N,4,none⟩=some (.int .u64 s.bN)∧W.cell? ⟨N,7,none⟩=some (.pointer (some ⟨g.x.T,0,none⟩))∧W.cell? ⟨B,0,none⟩=some (.int .u64 s.now):=by
 obtain⟨_,n2,n3,n4,n5,_⟩:=n.nn.cr.nd.cell;obtain⟨e1,e2,e3,_⟩:=n.nn.eq;obtain⟨c0,_⟩:=n.ac.blk.cell;rw[<-e1,<-e2,<-e3,<-n.now];exact⟨n2,n3,n4,n5,c0⟩
theorem tV(s:St)(r:Int):Bh s (s.drop r):=⟨rfl,rfl,rfl,rfl,rfl,rfl,rfl,rfl,rfl,rfl,rfl,rfl,rfl,rfl,rfl⟩
theorem tT(s:St)(t:Int)(p:aD)(L:List (Int×Int)):Bh s (s.send t p L):=⟨rfl,rfl,rfl,rfl,rfl,rfl,rfl,rfl,rfl,rfl,rfl,rfl,rfl,rfl,rfl⟩
theorem zR(s:St)(t:Int)(L:List (Int×Int)):Bh s (s.lose t L):=⟨rfl,rfl,rfl,rfl,rfl,rfl,rfl,rfl,rfl,rfl,rfl,rfl,rfl,rfl,rfl⟩
theorem jJ{g:bI}{TL:List Hp.Tm}(n:Nd N B g s TL w)(r:Int)(hd:s.aP.length<=1000000):
  Calls Tryz.prog 92 #[.pointer (some ⟨B,0,none⟩),.int .i64 r] w λe w'=>e=.returned (.tuple #[])∧lT N B g s (s.drop r) TL w w':=by
 refine(Im B (B+1) g.a s.bg s.aF s.aO s.aP r w n.ac n.base hd).mono ?_;rintro e w' ⟨v7,rfl,h1,h2⟩;obtain⟨p,q⟩:=n.act (s':=s.drop r) h1 h2 (tV s r) n.now n.bB;exact⟨rfl,_,p,q,rfl⟩
theorem Br{g:bI}{TL:List Hp.Tm}(n:Nd N B g s TL w)(t:Int)(p:aD)(hp:p.Wf)(L:List (Int×Int))(hL:fH w p L)(hd:s.aF.length<=1000000):
  Calls Tryz.prog 80 #[.pointer (some ⟨B,0,none⟩),.int .u32 t,p.val] w λe w'=>e=.returned (.tuple #[])∧lT N B g s (s.send t p L) TL w w':=by
 refine(zP B (B+1) g.a s.bg s.aF s.aO s.aP t p hp L w n.ac n.base hd hL).mono ?_;rintro e w' ⟨v7,rfl,h1,h2⟩;obtain⟨p,q⟩:=n.act (s':=s.send t p L) h1 h2 (tT s t p L) n.now n.bB;exact⟨rfl,_,p,q,rfl⟩
theorem Uz{g:bI}{TL:List Hp.Tm}(n:Nd N B g s TL w)(t:Int)(ao:Option Addr)(c:Nat)(L:List (Int×Int))(hn:L.length<=65536)(hL:bF w ao L)(hd:s.aF.length<=1000000):
  Calls Tryz.prog 137 #[.pointer (some ⟨B,0,none⟩),.int .u32 t,.slice ao L.length c] w λe w'=>e=.returned (.tuple #[])∧lT N B g s (s.lose t L) TL w w':=by
 refine(GX B (B+1) g.a s.bg s.aF s.aO s.aP t ao c L w n.ac n.base hd hn hL).mono ?_;rintro e w' ⟨v7,rfl,h1,h2⟩;obtain⟨p,q⟩:=n.act (s':=s.lose t L) h1 h2 (zR s t L) n.now n.bB;exact⟨rfl,_,p,q,rfl⟩
theorem Nd.tab{g:bI}{TL:List Hp.Tm}(n:Nd N B g s TL W):Bf s.me g.x.T (mZ g.x.T g.M g.ff g.gg s.A) s.A W:=
 ⟨g.M,g.ff,g.gg,by rw[<-n.nn.eq.self];exact n.nn.cr.tb,λ_ h=>h⟩
theorem Nd.wI{g:bI}{TL:List Hp.Tm}{W':World}(n:Nd N B g s TL W){A':List Rt}(h:Bf s.me g.x.T (ext (mZ g.x.T g.M g.ff g.gg s.A) W.heap.size W'.heap.size) A' W')(hf:Fx (mZ g.x.T g.M g.ff g.gg s.A) W W'):lT N B g s {s with A:=A'} TL W W':=by
 obtain⟨M',TB,xB,p,q⟩:=n.table h hf;exact⟨_,p,q,rfl⟩
theorem Bf.ext{me:Int}{T:Nat}{S:Nat->Prop}{A:List Rt}(h:Bf me T S A W)(a b:Nat):Bf me T (Go.Proofs.YtakaadcpaeiccabGreat.ext S a b) A W:=by
 obtain⟨M,f,g,h1,h2⟩:=h;exact⟨M,f,g,h1,λk hk=> .inl (h2 k hk)⟩
theorem IQ{g:bI}{TL:List Hp.Tm}(n:Nd N B g s TL w)(d q h nx e:Int)(hd:a_ d)(hs:a_ q)(hh:oV h)(hn:a_ nx)(he:Be e):
  Calls Tryz.prog 161 #[.pointer (some ⟨g.x.T,0,none⟩),.int .u32 d,.int .u32 q,.int .i64 h,.int .u32 nx,.int .u64 e] w λr w'=>r=.returned (.int .i64 (fA s.me s.A d q h nx e).2)∧lT N B g s {s with A:=(fA s.me s.A d q h nx e).1} TL w w':=by
 refine(Ku s.me g.x.T _ s.A d q h nx e hd hs hh hn he w n.tab).mono ?_;rintro r w' ⟨rfl,h1,h2⟩;exact⟨rfl,n.wI h1 h2⟩
theorem M5{g:bI}{TL:List Hp.Tm}(n:Nd N B g s TL w)(d e:Int)(hd:a_ d)(he:Be e):
  Calls Tryz.prog 81 #[.pointer (some ⟨g.x.T,0,none⟩),.int .u32 d,.int .u64 e] w λr w'=>r=.returned (.tuple #[])∧lT N B g s {s with A:=gU s.A d e} TL w w':=by
 refine(MZ s.me g.x.T _ s.A d e hd he w n.tab).mono ?_;rintro r w' ⟨rfl,h1,h2⟩;exact⟨rfl,n.wI (h1.ext _ _) h2⟩
theorem rG{g:bI}{TL:List Hp.Tm}(n:Nd N B g s TL w)(d nb:Int)(hd:a_ d)(hn:a_ nb):
  Calls Tryz.prog 182 #[.pointer (some ⟨g.x.T,0,none⟩),.int .u32 d,.int .u32 nb] w λr w'=>r=.returned (.tuple #[])∧lT N B g s {s with A:=kM s.A d nb} TL w w':=by
 refine(KW s.me g.x.T _ s.A d nb hd hn w n.tab).mono ?_;rintro r w' ⟨rfl,h1,h2⟩;exact⟨rfl,n.wI h1 h2⟩
theorem abo{g:bI}{TL:List Hp.Tm}(n:Nd N B g s TL w)(d now:Int)(hd:a_ d):
  Calls Tryz.prog 79 #[.pointer (some ⟨g.x.T,0,none⟩),.int .u32 d,.int .u64 now] w λe w'=>∃ao c,e=.returned (.tuple #[Ja (bE s.A d now).1 (.slice ao (bE s.A d now).1.bL.length c),.bool (bE s.A d now).2])∧Below w.heap.size w w':=by
 refine(UU s.me g.x.T _ s.A d now hd w n.tab).mono ?_;rintro e w' ⟨v',rfl,h1,h2⟩;obtain⟨ao,c,rfl,_⟩:=ax h1;exact⟨ao,c,rfl,h2⟩
theorem YZ{g:bI}{TL:List Hp.Tm}(n:Nd N B g s TL w)(d:Int)(hd:a_ d):
  Calls Tryz.prog 157 #[.pointer (some ⟨g.x.T,0,none⟩),.int .u32 d] w λe w'=>e=.returned (.tuple #[.int .u32 (eP s.A d),.bool (aK s.A d).isSome])∧w'=w:=FW n.nn.cr.tb d hd
theorem Dw{g:bI}{TL:List Hp.Tm}(n:Nd N B g s TL w)(t d:Int)(hd:a_ d)(hl:s.aF.length<=1000000):
  Calls Tryz.prog 129 #[.pointer (some ⟨N,0,none⟩),.pointer (some ⟨B,0,none⟩),.int .u32 t,.int .u32 d] w λe w'=>e=.returned (.tuple #[])∧lT N B g s (s.lD t d) TL w w':=by
 refine(GY N B (B+1) g.x g.a s.bg s.aF s.aO s.aP t d hd w n.nn.cr n.ac n.base hl).mono ?_;rintro e w' ⟨v7,rfl,h1,h2⟩;obtain⟨p,q⟩:=n.act (s':=s.lD t d) h1 h2 (zR s t _) n.now n.bB;exact⟨rfl,_,p,q,rfl⟩
theorem Pw{g:bI}{TL:List Hp.Tm}(n:Nd N B g s TL w)(q:Int×Int)(hq:wD q)(now:Int)(hn:0<=now):
  Calls Tryz.prog 160 #[.pointer (some ⟨N,8,none⟩),jX q,.int .u64 now] w λe w'=>e=.returned (.bool (iR s.mem q now))∧Below w.heap.size w w':=by
 have h:=n.nn.rs.sn;rw[<-n.nn.eq.tn]at h;exact Qx N g.x s.mem q hq now hn w n.nn.cr.nd h
theorem Px{g:bI}{TL:List Hp.Tm}(n:Nd N B g s TL w)(q:Int×Int)(hq:wD q)(dF:Int)(h0:0<=dF)(hm:∀e∈s.mem,e.dF<=dF)(htn:s.tn<=4611686018427387904):
  Calls Tryz.prog 156 #[.pointer (some ⟨N,8,none⟩),jX q,.int .u64 dF] w λe w'=>e=.returned (.tuple #[])∧lT N B g s {s with mem:=dw s.mem q dF s.tn,tn:=s.tn+1} TL w w':=by
 have h:=n.nn.rs.sn;rw[<-n.nn.eq.tn]at h htn;refine(F8 N g.x s.mem q hq dF h0 hm htn w n.nn.cr.nd h).mono ?_;rintro e w' ⟨rfl,h1,h2,h3⟩;rw[n.nn.eq.tn]at h1 h2;obtain⟨e1,e2,e3,e4,e5,e6,e7,e8,e9⟩:=n.nn.eq;have hr:=n.nn.rs;have hne:∀k,kr g.x g.h g.u g.Mt g.tv s k->k≠g.x.Ms->¬(k=N∨k=g.x.Ms):=λk hk h1 h2=>h2.elim (λe=>n.nn.apart hk (.inl e)) h1;have hnd:=n.nn.qM;simp only[List.nodup_cons,fE,List.not_mem_nil,or_false,not_or]at hnd;obtain⟨_,_,⟨d1,d2⟩,_⟩:=hnd;have AA:∀ {k:Nat} {o:Obj},w.heap[k]?=some o->(∀es cl,o≠ .map es cl)->k≠g.x.Ms:=by
  rintro k o ho hn rfl;obtain⟨es,cl,hm⟩:=hr.sn.obj;rw[hm]at ho;exact hn _ _ (Option.some.inj ho).symm
 have hkeep:∀ {k:Nat},kr g.x g.h g.u g.Mt g.tv s k->k≠g.x.Ms->w'.heap[k]?=w.heap[k]?:=λhk h=>h3.block _ (hr.lt hk) (hne _ hk h);have hSr:∀k,II g.x.qy g.h g.u s.Q k->k≠g.x.Ms:=by
  intro k hk;obtain⟨o,ho,⟨rfl,_⟩|⟨c,rfl⟩|⟨c,rfl⟩⟩:=hr.sr.kind hk
  ·exact Ne.symm d1
  ·exact AA ho (λ_ _ h=>by cases h)
  ·exact AA ho (λ_ _ h=>by cases h)
 obtain⟨p,q⟩:=n.rest (s':={s with mem:=dw s.mem q dF s.tn,tn:=s.tn+1}) (dX:=TL) h1 rfl rfl ⟨e1,e2,e3,e4,e5,rfl,e7,e8,e9⟩
  ⟨h2,hr.sr.kept λk hk=>hkeep (.inr (.inl hk)) (hSr k hk),hr.tm.at (hkeep (.inr (.inr (.inl rfl))) (AA hr.tm.blk (λ_ _ h=>by cases h))) (hkeep (.inr (.inr (.inr (.inl rfl)))) (Ne.symm d2)) (λk hk=>hkeep (.inr (.inr (.inr (.inr (.inl hk))))) (by
   obtain⟨c,hc⟩:=aS hr.tm.row hk;exact AA hc (λ_ _ h=>by cases h))),hr.hpo,hr.pm,bQ hr.pc λk hk=>hkeep (.inr (.inr (.inr (.inr (.inr hk))))) (by
   obtain⟨c,hc⟩:=aS hr.pc hk;exact AA hc (λ_ _ h=>by cases h))⟩
  (h3.mono λk h=>h.elim .inl λh=> .inr (.inl h)) (λk hk=> .inl hk) ⟨rfl,rfl,rfl⟩ ⟨rfl,rfl,rfl,rfl,rfl,rfl,rfl,rfl,rfl⟩
 exact⟨rfl,_,p,q,rfl⟩
end Go.Proofs.YtakaadcpaeiccabGreat
