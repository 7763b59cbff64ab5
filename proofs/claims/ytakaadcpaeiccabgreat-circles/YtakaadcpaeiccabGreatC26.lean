import Derived.Test.YtakaadcpaeiccabGreatC21
set_option maxHeartbeats 8000000
set_option maxRecDepth 100000
namespace Go.Proofs.YtakaadcpaeiccabGreat
open Go.RowKit
theorem ND(R:Nat)(x0 x4:Int)(r:List Int)(W:World)(k:Int)(k1:(k==1)=false)(k2:(k==2)=false)(k3:(k==3)=false)(k9:(k==9)=false)(hr:Rd R(x0::k::0::0::x4::r)W):
  Calls Tryz.prog 56 #[.pointer(some⟨R,0,none⟩)]W fun e w'=>dV R(x0::k::0::0::x4::r)W e w':=by
 have hby:=hr.bytes;have hR:=hr.lt;go_enter Tryz.func56,Tryz.ntmps56
 go_wp2_with fail
 have hC0:=PB.new ah.zero W;have h1:=hr.alloc ah.zero.box;have hg0:=World.grownBy_alloc W ah.zero.box(some R);dsimp only [ah.box,ah.zero]at hC0 h1 hg0;refine(aG R _ _ _ h1).mono ?_;rintro e w1⟨rfl,hr1,hg1⟩;have lC:PB ah.zero W.heap.size w1:=PB.grown hC0 hg1(by omega);have hW1:=ae hg0 hg1;clear hr h1 hg0 hg1 hC0;go_wp2_with fail
 refine(aG R _ _ _ hr1).mono ?_;rintro e w2⟨rfl,hr2,hg2⟩;have hC2:=lC.grown hg2(by omega);have hW2:=ae hW1 hg2;clear hr1 hg2 lC hW1;go_wp2_with fail
 have hB:=PB.new⟨x0,k,0,false,0,0,0,0,0,0,none,0,0,⟨#[]⟩⟩w2;have AQ:W.heap.size<w2.heap.size:=hC2.lt;have jZ:=hC2.alloc(ah.box⟨x0,k,0,false,0,0,0,0,0,0,none,0,0,⟨#[]⟩⟩);have hr3:=hr2.alloc(ah.box⟨x0,k,0,false,0,0,0,0,0,0,none,0,0,⟨#[]⟩⟩);have hW3:=ae hW2(World.grownBy_alloc w2(ah.box⟨x0,k,0,false,0,0,0,0,0,0,none,0,0,⟨#[]⟩⟩)(some R));have qJ:=hr2.lt;generalize qL:w2.heap.size=B at hB AQ qJ ⊢;clear qL;dsimp only [ah.box]at hB jZ hr3 hW3;clear hr2 hC2 hW2;refine(aG R _ _ _ hr3).mono ?_;rintro e w4⟨rfl,hr4,hg4⟩;have hB4:=hB.grown hg4(by omega);have nX:=jZ.grown hg4(by omega);have lG:=ae hW3 hg4;clear hr3 hg4 hB jZ hW3;go_wp2_with(go_at_call 85;refine(require_ok _).mono ?_;rintro e w4⟨rfl,rfl⟩;obtain⟨_,_,_,c3,_,_,_,_,_,_,_,_⟩:=hB4.cell;have f3:=hB4.free 3)
 have mE:=hB4.set⟨x0,k,0,false,0,0,0,0,0,0,none,0,0,⟨#[]⟩⟩3(.bool false)rfl;have iq:=hr4.setCell(B:=B)(by omega)(i:=3)(.bool false)(.bool false)(by simp)c3;have lJ:=nX.other(a:=⟨B,3,none⟩)(by simp;omega)(.bool false);have jE:=aL lG(a:=⟨B,3,none⟩)(by simp;omega)(.bool false);clear c3 f3 hr4 hB4 nX lG;generalize w4.setCell _ _=w5 at mE iq lJ jE ⊢;refine(aG R _ _ _ iq).mono ?_;rintro e w6⟨rfl,lw,fB⟩;have qc:=mE.grown fB(by omega);have cK:=lJ.grown fB(by omega);have pX:=ae jE fB;clear iq fB mE lJ jE;go_wp2_with(go_at_call 85;refine(require_ok _).mono ?_;rintro e w6⟨rfl,rfl⟩)
 refine(aG R _ _ _ lw).mono ?_;rintro e w7⟨rfl,pO,eu⟩;have fG:=qc.grown eu(by omega);have dI:=cK.grown eu(by omega);have uP:=ae pX eu;clear lw eu qc cK pX;go_wp2_with fail
 obtain⟨_,c1,_,_,_,_,_,_,_,_,_,_⟩:=fG.cell;refine(ky B k k1 k2 k9 w7 c1).mono ?_;rintro e w7⟨rfl,rfl⟩;clear c1;go_wp2_with fail
 refine wp_loop_rounds 1 ?_;rw [rounds_succ];have q1:=hby k(by simp);have hne:k≠1∧k≠2∧k≠3∧k≠9:=⟨by simpa using k1,by simpa using k2,by simpa using k3,by simpa using k9⟩;have Gp:bC k x4=0:=by simp [bC,hne.1,hne.2.1,hne.2.2.1,hne.2.2.2]
 have Sg:fU x0 k 0 x4 []=⟨x0,k,0,false,0,0,0,0,0,0,none,0,0,⟨#[]⟩⟩:=by simp [fU,hne.1,hne.2.1,hne.2.2.1,hne.2.2.2]
 have zy:=(show Hid _ from Gp);have Sd:=(show Hid _ from Sg);have hne':=(show Hid _ from hne);clear Gp Sg hne;obtain⟨v,hv,DC,hvb,hvs⟩:=pO;have hsh:∃a c,v=.slice a r.length c:=by
  rcases hvs with⟨rfl,h⟩|⟨_,_,_,rfl,_⟩
  ·exact⟨none,0,by rw [h];rfl⟩
  ·exact⟨_,_,rfl⟩
 obtain⟨sa,sc,rfl⟩:=hsh;clear hvs hvb DC;have hBx:=fG;have DV:=dI;have pq:=uP;obtain⟨c0,c1,c2,c3,c4,c5,c6,c7,c8,c9,c10,c11⟩:=fG.cell;dsimp only at c0 c1 c2 c3 c4 c5 c6 c7 c8 c9 c10 c11;by_cases hrest:r=[]
 case neg=>
  have hl0:((r.length:Int)==0)=false:=by
   rw [beq_eq_false_iff_ne];intro h;exact hrest(List.eq_nil_of_length_eq_zero(by omega))
  go_wp2_with(go_at_call 85;refine(bK _).mono ?_;rintro e w9⟨rfl,mr⟩;rw [mr])
  have hl1:0<r.length:=List.length_pos_iff.2 hrest;refine⟨rfl,pq,.inr⟨?_,rfl⟩⟩;exact bL(by rw [zy.out];omega)
 subst hrest;have q0:=hby x0(by simp);have q4:=hby x4(by simp);have hwf:ah.Wf⟨x0,k,0,false,0,0,0,0,0,0,none,0,0,⟨#[]⟩⟩:=⟨by dsimp only;omega,by dsimp only;omega,by dsimp only;omega,by dsimp only;omega,by dsimp only;omega,by dsimp only;omega,by dsimp only;omega,by dsimp only;omega,by dsimp only;omega,by dsimp only;omega,by dsimp only;omega,by dsimp only;omega,by dsimp only;omega,by dsimp only;omega,by dsimp only;omega,by dsimp only;omega,by dsimp only;omega,by dsimp only;omega,by dsimp only;omega,by simp [ByteArray.size]⟩;have hpk:fU x0 k 0 x4 []=⟨x0,k,0,false,0,0,0,0,0,0,none,0,0,⟨#[]⟩⟩:=Sd.out;have gW:=nu(x0:=x0)(x1:=k)(x2:=0)(x4:=x4)(r:=[])(by simp)(zy.out.symm);rw [hpk]at gW;clear hby q0 q4 q1;cases hg:ah.dL⟨x0,k,0,false,0,0,0,0,0,0,none,0,0,⟨#[]⟩⟩
 ·go_wp2_with(first|(go_at_call 90;refine(bz⟨x0,k,0,false,0,0,0,0,0,0,none,0,0,⟨#[]⟩⟩hwf _).mono ?_;rintro e w9⟨rfl,gy⟩)|(go_at_call 85;refine(bK _).mono ?_;rintro e Ki⟨rfl,mr⟩;rw [mr]))
  exact⟨rfl,bO pq gy,.inr⟨gW.trans hg,rfl⟩⟩
 ·go_wp2_with(first|(go_at_call 90;refine(bz⟨x0,k,0,false,0,0,0,0,0,0,none,0,0,⟨#[]⟩⟩hwf _).mono ?_;rintro e w9⟨rfl,gy⟩;have uQ:=hBx.below gy;have lI:=DV.below gy;obtain⟨y0,y1,y2,y3,y4,y5,y6,y7,y8,y9,jH,jG⟩:=uQ.cell;obtain⟨k0,k1,k2,k3,k4,k5,k6,k7,k8,k9,k10,k11⟩:=lI.cell;have kf:=lI.free;dsimp only at y0 y1 y2 y3 y4 y5 y6 y7 y8 y9 jH jG;dsimp only [ah.zero]at k0 k1 k2 k3 k4 k5 k6 k7 k8 k9 k10 k11)|(go_at_call 85;refine(require_ok _).mono ?_;rintro e w9⟨rfl,rfl⟩))
  have gY:=lI.storeAll⟨x0,k,0,false,0,0,0,0,0,0,none,0,0,⟨#[]⟩⟩;have pu:=fE(bO pq gy)(C:=W.heap.size)(Nat.le_refl _)⟨x0,k,0,false,0,0,0,0,0,0,none,0,0,⟨#[]⟩⟩;clear y0 y1 y2 y3 y4 y5 y6 y7 y8 y9 jH jG k0 k1 k2 k3 k4 k5 k6 k7 k8 k9 k10 k11 kf uQ lI;dsimp only [bV]at gY pu;generalize World.setCell _ _ _=wF at gY pu ⊢;obtain⟨y0,y1,y2,y3,y4,y5,y6,y7,y8,y9,jH,jG⟩:=gY.cell;dsimp only at y0 y1 y2 y3 y4 y5 y6 y7 y8 y9 jH jG;refine bodyPost_ret(v:=ah.val⟨x0,k,0,false,0,0,0,0,0,0,none,0,0,⟨#[]⟩⟩)(by simp [results,Tryz.results56,go_sem,y0,y1,y2,y3,y4,y5,y6,y7,y8,y9,jH,jG])rfl ?_;exact⟨pu,.inl⟨gW.trans hg,_,rfl,_,_,_,_,_,_,none,0,rfl,by rw [hpk],by rw [hpk];simp [jX,hne'.out.2.2.1],fun j hj=>absurd hj(by simp [jX,hne'.out.2.2.1]),fun b hb=>by cases hb⟩⟩
theorem NC(R:Nat)(x0 x4:Int)(r:List Int)(W:World)(k:Int)(k1:(k==1)=false)(k2:(k==2)=false)(k3:(k==3)=false)(k9:(k==9)=false)(hr:Rd R(x0::k::8::0::x4::r)W):
  Calls Tryz.prog 56 #[.pointer(some⟨R,0,none⟩)]W fun e w'=>dV R(x0::k::8::0::x4::r)W e w':=by
 have hby:=hr.bytes;have hR:=hr.lt;go_enter Tryz.func56,Tryz.ntmps56
 go_wp2_with fail
 have hC0:=PB.new ah.zero W;have h1:=hr.alloc ah.zero.box;have hg0:=World.grownBy_alloc W ah.zero.box(some R);dsimp only [ah.box,ah.zero]at hC0 h1 hg0;refine(aG R _ _ _ h1).mono ?_;rintro e w1⟨rfl,hr1,hg1⟩;have lC:PB ah.zero W.heap.size w1:=PB.grown hC0 hg1(by omega);have hW1:=ae hg0 hg1;clear hr h1 hg0 hg1 hC0;go_wp2_with fail
 refine(aG R _ _ _ hr1).mono ?_;rintro e w2⟨rfl,hr2,hg2⟩;have hC2:=lC.grown hg2(by omega);have hW2:=ae hW1 hg2;clear hr1 hg2 lC hW1;go_wp2_with fail
 have hB:=PB.new⟨x0,k,0,false,0,0,0,0,0,0,none,0,0,⟨#[]⟩⟩w2;have AQ:W.heap.size<w2.heap.size:=hC2.lt;have jZ:=hC2.alloc(ah.box⟨x0,k,0,false,0,0,0,0,0,0,none,0,0,⟨#[]⟩⟩);have hr3:=hr2.alloc(ah.box⟨x0,k,0,false,0,0,0,0,0,0,none,0,0,⟨#[]⟩⟩);have hW3:=ae hW2(World.grownBy_alloc w2(ah.box⟨x0,k,0,false,0,0,0,0,0,0,none,0,0,⟨#[]⟩⟩)(some R));have qJ:=hr2.lt;generalize qL:w2.heap.size=B at hB AQ qJ ⊢;clear qL;dsimp only [ah.box]at hB jZ hr3 hW3;clear hr2 hC2 hW2;refine(aG R _ _ _ hr3).mono ?_;rintro e w4⟨rfl,hr4,hg4⟩;have hB4:=hB.grown hg4(by omega);have nX:=jZ.grown hg4(by omega);have lG:=ae hW3 hg4;clear hr3 hg4 hB jZ hW3;go_wp2_with(go_at_call 85;refine(require_ok _).mono ?_;rintro e w4⟨rfl,rfl⟩;obtain⟨_,_,_,c3,_,_,_,_,_,_,_,_⟩:=hB4.cell;have f3:=hB4.free 3)
 have mE:=hB4.set⟨x0,k,0,true,0,0,0,0,0,0,none,0,0,⟨#[]⟩⟩3(.bool true)rfl;have iq:=hr4.setCell(B:=B)(by omega)(i:=3)(.bool false)(.bool true)(by simp)c3;have lJ:=nX.other(a:=⟨B,3,none⟩)(by simp;omega)(.bool true);have jE:=aL lG(a:=⟨B,3,none⟩)(by simp;omega)(.bool true);clear c3 f3 hr4 hB4 nX lG;generalize w4.setCell _ _=w5 at mE iq lJ jE ⊢;refine(aG R _ _ _ iq).mono ?_;rintro e w6⟨rfl,lw,fB⟩;have qc:=mE.grown fB(by omega);have cK:=lJ.grown fB(by omega);have pX:=ae jE fB;clear iq fB mE lJ jE;go_wp2_with(go_at_call 85;refine(require_ok _).mono ?_;rintro e w6⟨rfl,rfl⟩)
 refine(aG R _ _ _ lw).mono ?_;rintro e w7⟨rfl,pO,eu⟩;have fG:=qc.grown eu(by omega);have dI:=cK.grown eu(by omega);have uP:=ae pX eu;clear lw eu qc cK pX;go_wp2_with fail
 obtain⟨_,c1,_,_,_,_,_,_,_,_,_,_⟩:=fG.cell;refine(ky B k k1 k2 k9 w7 c1).mono ?_;rintro e w7⟨rfl,rfl⟩;clear c1;go_wp2_with fail
 refine wp_loop_rounds 1 ?_;rw [rounds_succ];have q1:=hby k(by simp);have hne:k≠1∧k≠2∧k≠3∧k≠9:=⟨by simpa using k1,by simpa using k2,by simpa using k3,by simpa using k9⟩;have Gp:bC k x4=0:=by simp [bC,hne.1,hne.2.1,hne.2.2.1,hne.2.2.2]
 have Sg:fU x0 k 8 x4 []=⟨x0,k,0,true,0,0,0,0,0,0,none,0,0,⟨#[]⟩⟩:=by simp [fU,hne.1,hne.2.1,hne.2.2.1,hne.2.2.2]
 have zy:=(show Hid _ from Gp);have Sd:=(show Hid _ from Sg);have hne':=(show Hid _ from hne);clear Gp Sg hne;obtain⟨v,hv,DC,hvb,hvs⟩:=pO;have hsh:∃a c,v=.slice a r.length c:=by
  rcases hvs with⟨rfl,h⟩|⟨_,_,_,rfl,_⟩
  ·exact⟨none,0,by rw [h];rfl⟩
  ·exact⟨_,_,rfl⟩
 obtain⟨sa,sc,rfl⟩:=hsh;clear hvs hvb DC;have hBx:=fG;have DV:=dI;have pq:=uP;obtain⟨c0,c1,c2,c3,c4,c5,c6,c7,c8,c9,c10,c11⟩:=fG.cell;dsimp only at c0 c1 c2 c3 c4 c5 c6 c7 c8 c9 c10 c11;by_cases hrest:r=[]
 case neg=>
  have hl0:((r.length:Int)==0)=false:=by
   rw [beq_eq_false_iff_ne];intro h;exact hrest(List.eq_nil_of_length_eq_zero(by omega))
  go_wp2_with(go_at_call 85;refine(bK _).mono ?_;rintro e w9⟨rfl,mr⟩;rw [mr])
  have hl1:0<r.length:=List.length_pos_iff.2 hrest;refine⟨rfl,pq,.inr⟨?_,rfl⟩⟩;exact bL(by rw [zy.out];omega)
 subst hrest;have q0:=hby x0(by simp);have q4:=hby x4(by simp);have hwf:ah.Wf⟨x0,k,0,true,0,0,0,0,0,0,none,0,0,⟨#[]⟩⟩:=⟨by dsimp only;omega,by dsimp only;omega,by dsimp only;omega,by dsimp only;omega,by dsimp only;omega,by dsimp only;omega,by dsimp only;omega,by dsimp only;omega,by dsimp only;omega,by dsimp only;omega,by dsimp only;omega,by dsimp only;omega,by dsimp only;omega,by dsimp only;omega,by dsimp only;omega,by dsimp only;omega,by dsimp only;omega,by dsimp only;omega,by dsimp only;omega,by simp [ByteArray.size]⟩;have hpk:fU x0 k 8 x4 []=⟨x0,k,0,true,0,0,0,0,0,0,none,0,0,⟨#[]⟩⟩:=Sd.out;have gW:=nu(x0:=x0)(x1:=k)(x2:=8)(x4:=x4)(r:=[])(by simp)(zy.out.symm);rw [hpk]at gW;clear hby q0 q4 q1;cases hg:ah.dL⟨x0,k,0,true,0,0,0,0,0,0,none,0,0,⟨#[]⟩⟩
 ·go_wp2_with(first|(go_at_call 90;refine(bz⟨x0,k,0,true,0,0,0,0,0,0,none,0,0,⟨#[]⟩⟩hwf _).mono ?_;rintro e w9⟨rfl,gy⟩)|(go_at_call 85;refine(bK _).mono ?_;rintro e Ki⟨rfl,mr⟩;rw [mr]))
  exact⟨rfl,bO pq gy,.inr⟨gW.trans hg,rfl⟩⟩
 ·go_wp2_with(first|(go_at_call 90;refine(bz⟨x0,k,0,true,0,0,0,0,0,0,none,0,0,⟨#[]⟩⟩hwf _).mono ?_;rintro e w9⟨rfl,gy⟩;have uQ:=hBx.below gy;have lI:=DV.below gy;obtain⟨y0,y1,y2,y3,y4,y5,y6,y7,y8,y9,jH,jG⟩:=uQ.cell;obtain⟨k0,k1,k2,k3,k4,k5,k6,k7,k8,k9,k10,k11⟩:=lI.cell;have kf:=lI.free;dsimp only at y0 y1 y2 y3 y4 y5 y6 y7 y8 y9 jH jG;dsimp only [ah.zero]at k0 k1 k2 k3 k4 k5 k6 k7 k8 k9 k10 k11)|(go_at_call 85;refine(require_ok _).mono ?_;rintro e w9⟨rfl,rfl⟩))
  have gY:=lI.storeAll⟨x0,k,0,true,0,0,0,0,0,0,none,0,0,⟨#[]⟩⟩;have pu:=fE(bO pq gy)(C:=W.heap.size)(Nat.le_refl _)⟨x0,k,0,true,0,0,0,0,0,0,none,0,0,⟨#[]⟩⟩;clear y0 y1 y2 y3 y4 y5 y6 y7 y8 y9 jH jG k0 k1 k2 k3 k4 k5 k6 k7 k8 k9 k10 k11 kf uQ lI;dsimp only [bV]at gY pu;generalize World.setCell _ _ _=wF at gY pu ⊢;obtain⟨y0,y1,y2,y3,y4,y5,y6,y7,y8,y9,jH,jG⟩:=gY.cell;dsimp only at y0 y1 y2 y3 y4 y5 y6 y7 y8 y9 jH jG;refine bodyPost_ret(v:=ah.val⟨x0,k,0,true,0,0,0,0,0,0,none,0,0,⟨#[]⟩⟩)(by simp [results,Tryz.results56,go_sem,y0,y1,y2,y3,y4,y5,y6,y7,y8,y9,jH,jG])rfl ?_;exact⟨pu,.inl⟨gW.trans hg,_,rfl,_,_,_,_,_,_,none,0,rfl,by rw [hpk],by rw [hpk];simp [jX,hne'.out.2.2.1],fun j hj=>absurd hj(by simp [jX,hne'.out.2.2.1]),fun b hb=>by cases hb⟩⟩
theorem RL {a b c:Int} {r:List Int}(h0:(c==0)=false)(h8:(c==8)=false):uM(a::b::c::r)=false:=by
 match r with
 | []=>rfl
 | [_]=>rfl
 |z::n::r=>simp_all [uM]
theorem Gc {a b c z:Int} {r:List Int}(h0:(z==0)=false):uM(a::b::c::z::r)=false:=by
 match r with
 | []=>rfl
 |n::r=>simp_all [uM]
theorem Ns(R:Nat)(W:World)(hr:Rd R []W):
  Calls Tryz.prog 56 #[.pointer(some⟨R,0,none⟩)]W fun e w'=>dV R []W e w':=by
 have hR:=hr.lt;go_enter Tryz.func56,Tryz.ntmps56
 go_wp2_with fail
 have h1:=hr.alloc ah.zero.box;have hW0:=World.grownBy_alloc W ah.zero.box(some R);dsimp only [ah.box,ah.zero]at h1 hW0;clear hr;refine(o5 R _ h1).mono ?_;rintro e w9⟨rfl,rfl⟩;exact⟨rfl,hW0,.inr⟨rfl,rfl⟩⟩
theorem Nr(R:Nat)(a:Int)(W:World)(hr:Rd R [a]W):
  Calls Tryz.prog 56 #[.pointer(some⟨R,0,none⟩)]W fun e w'=>dV R [a]W e w':=by
 have hR:=hr.lt;go_enter Tryz.func56,Tryz.ntmps56
 go_wp2_with fail
 have h1:=hr.alloc ah.zero.box;have hW0:=World.grownBy_alloc W ah.zero.box(some R);dsimp only [ah.box,ah.zero]at h1 hW0;clear hr;refine(aG R _ _ _ h1).mono ?_;rintro e w1⟨rfl,hr1,hg1⟩;have hW1:=ae hW0 hg1;clear h1 hg1 hW0;go_wp2_with fail
 refine(o5 R _ hr1).mono ?_;rintro e w9⟨rfl,rfl⟩;exact⟨rfl,hW1,.inr⟨rfl,rfl⟩⟩
theorem Nq(R:Nat)(a b:Int)(W:World)(hr:Rd R [a,b]W):
  Calls Tryz.prog 56 #[.pointer(some⟨R,0,none⟩)]W fun e w'=>dV R [a,b]W e w':=by
 have hR:=hr.lt;go_enter Tryz.func56,Tryz.ntmps56
 go_wp2_with fail
 have h1:=hr.alloc ah.zero.box;have hW0:=World.grownBy_alloc W ah.zero.box(some R);dsimp only [ah.box,ah.zero]at h1 hW0;clear hr;refine(aG R _ _ _ h1).mono ?_;rintro e w1⟨rfl,hr1,hg1⟩;have hW1:=ae hW0 hg1;clear h1 hg1 hW0;go_wp2_with fail
 refine(aG R _ _ _ hr1).mono ?_;rintro e w2⟨rfl,hr2,hg2⟩;have hW2:=ae hW1 hg2;clear hr1 hg2 hW1;go_wp2_with fail
 have hB:=PB.new⟨a,b,0,false,0,0,0,0,0,0,none,0,0,⟨#[]⟩⟩w2;have hr3:=hr2.alloc(ah.box⟨a,b,0,false,0,0,0,0,0,0,none,0,0,⟨#[]⟩⟩);have hW3:=ae hW2(World.grownBy_alloc w2(ah.box⟨a,b,0,false,0,0,0,0,0,0,none,0,0,⟨#[]⟩⟩)(some R));have qJ:=hr2.lt;have hWs:=hW2.size;generalize qL:w2.heap.size=B at hB qJ hWs ⊢;clear qL;dsimp only [ah.box]at hB hr3 hW3;clear hr2 hW2;refine(o5 R _ hr3).mono ?_;rintro e w9⟨rfl,rfl⟩;exact⟨rfl,hW3,.inr⟨rfl,rfl⟩⟩
theorem Np(R:Nat)(a b c:Int)(r:List Int)(hc0:(c==0)=false)(hc8:(c==8)=false)(W:World)(hr:Rd R(a::b::c::r)W):
  Calls Tryz.prog 56 #[.pointer(some⟨R,0,none⟩)]W fun e w'=>dV R(a::b::c::r)W e w':=by
 have hR:=hr.lt;go_enter Tryz.func56,Tryz.ntmps56
 go_wp2_with fail
 have h1:=hr.alloc ah.zero.box;have hW0:=World.grownBy_alloc W ah.zero.box(some R);dsimp only [ah.box,ah.zero]at h1 hW0;clear hr;refine(aG R _ _ _ h1).mono ?_;rintro e w1⟨rfl,hr1,hg1⟩;have hW1:=ae hW0 hg1;clear h1 hg1 hW0;go_wp2_with fail
 refine(aG R _ _ _ hr1).mono ?_;rintro e w2⟨rfl,hr2,hg2⟩;have hW2:=ae hW1 hg2;clear hr1 hg2 hW1;go_wp2_with fail
 have hB:=PB.new⟨a,b,0,false,0,0,0,0,0,0,none,0,0,⟨#[]⟩⟩w2;have hr3:=hr2.alloc(ah.box⟨a,b,0,false,0,0,0,0,0,0,none,0,0,⟨#[]⟩⟩);have hW3:=ae hW2(World.grownBy_alloc w2(ah.box⟨a,b,0,false,0,0,0,0,0,0,none,0,0,⟨#[]⟩⟩)(some R));have qJ:=hr2.lt;have hWs:=hW2.size;generalize qL:w2.heap.size=B at hB qJ hWs ⊢;clear qL;dsimp only [ah.box]at hB hr3 hW3;clear hr2 hW2;refine(aG R _ _ _ hr3).mono ?_;rintro e w4⟨rfl,hr4,hg4⟩;have hB4:=hB.grown hg4(by omega);have lG:=ae hW3 hg4;clear hr3 hg4 hB hW3;go_wp2_with(go_at_call 85;refine(bK _).mono ?_;rintro e w9⟨rfl,mr⟩;rw [mr])
 exact⟨rfl,lG,.inr⟨RL hc0 hc8,rfl⟩⟩
theorem I5(R:Nat)(a b:Int)(W:World)(hr:Rd R [a,b,0]W):
  Calls Tryz.prog 56 #[.pointer(some⟨R,0,none⟩)]W fun e w'=>dV R [a,b,0]W e w':=by
 have hR:=hr.lt;go_enter Tryz.func56,Tryz.ntmps56
 go_wp2_with fail
 have h1:=hr.alloc ah.zero.box;have hW0:=World.grownBy_alloc W ah.zero.box(some R);dsimp only [ah.box,ah.zero]at h1 hW0;clear hr;refine(aG R _ _ _ h1).mono ?_;rintro e w1⟨rfl,hr1,hg1⟩;have hW1:=ae hW0 hg1;clear h1 hg1 hW0;go_wp2_with fail
 refine(aG R _ _ _ hr1).mono ?_;rintro e w2⟨rfl,hr2,hg2⟩;have hW2:=ae hW1 hg2;clear hr1 hg2 hW1;go_wp2_with fail
 have hB:=PB.new⟨a,b,0,false,0,0,0,0,0,0,none,0,0,⟨#[]⟩⟩w2;have hr3:=hr2.alloc(ah.box⟨a,b,0,false,0,0,0,0,0,0,none,0,0,⟨#[]⟩⟩);have hW3:=ae hW2(World.grownBy_alloc w2(ah.box⟨a,b,0,false,0,0,0,0,0,0,none,0,0,⟨#[]⟩⟩)(some R));have qJ:=hr2.lt;have hWs:=hW2.size;generalize qL:w2.heap.size=B at hB qJ hWs ⊢;clear qL;dsimp only [ah.box]at hB hr3 hW3;clear hr2 hW2;refine(aG R _ _ _ hr3).mono ?_;rintro e w4⟨rfl,hr4,hg4⟩;have hB4:=hB.grown hg4(by omega);have lG:=ae hW3 hg4;clear hr3 hg4 hB hW3;go_wp2_with(go_at_call 85;refine(require_ok _).mono ?_;rintro e w4⟨rfl,rfl⟩;obtain⟨_,_,_,c3,_,_,_,_,_,_,_,_⟩:=hB4.cell;have f3:=hB4.free 3)
 have iq:=hr4.setCell(B:=B)(by omega)(i:=3)(.bool false)(.bool false)(by simp)c3;have jE:=aL lG(a:=⟨B,3,none⟩)(by simp;omega)(.bool false);clear c3 f3 hr4 hB4 lG;generalize w4.setCell _ _=w5 at iq jE ⊢;refine(o5 R _ iq).mono ?_;rintro e w9⟨rfl,rfl⟩;exact⟨rfl,jE,.inr⟨rfl,rfl⟩⟩
theorem IY(R:Nat)(a b z:Int)(r:List Int)(hz:(z==0)=false)(W:World)(hr:Rd R(a::b::0::z::r)W):
  Calls Tryz.prog 56 #[.pointer(some⟨R,0,none⟩)]W fun e w'=>dV R(a::b::0::z::r)W e w':=by
 have hR:=hr.lt;go_enter Tryz.func56,Tryz.ntmps56
 go_wp2_with fail
 have h1:=hr.alloc ah.zero.box;have hW0:=World.grownBy_alloc W ah.zero.box(some R);dsimp only [ah.box,ah.zero]at h1 hW0;clear hr;refine(aG R _ _ _ h1).mono ?_;rintro e w1⟨rfl,hr1,hg1⟩;have hW1:=ae hW0 hg1;clear h1 hg1 hW0;go_wp2_with fail
 refine(aG R _ _ _ hr1).mono ?_;rintro e w2⟨rfl,hr2,hg2⟩;have hW2:=ae hW1 hg2;clear hr1 hg2 hW1;go_wp2_with fail
 have hB:=PB.new⟨a,b,0,false,0,0,0,0,0,0,none,0,0,⟨#[]⟩⟩w2;have hr3:=hr2.alloc(ah.box⟨a,b,0,false,0,0,0,0,0,0,none,0,0,⟨#[]⟩⟩);have hW3:=ae hW2(World.grownBy_alloc w2(ah.box⟨a,b,0,false,0,0,0,0,0,0,none,0,0,⟨#[]⟩⟩)(some R));have qJ:=hr2.lt;have hWs:=hW2.size;generalize qL:w2.heap.size=B at hB qJ hWs ⊢;clear qL;dsimp only [ah.box]at hB hr3 hW3;clear hr2 hW2;refine(aG R _ _ _ hr3).mono ?_;rintro e w4⟨rfl,hr4,hg4⟩;have hB4:=hB.grown hg4(by omega);have lG:=ae hW3 hg4;clear hr3 hg4 hB hW3;go_wp2_with(go_at_call 85;refine(require_ok _).mono ?_;rintro e w4⟨rfl,rfl⟩;obtain⟨_,_,_,c3,_,_,_,_,_,_,_,_⟩:=hB4.cell;have f3:=hB4.free 3)
 have iq:=hr4.setCell(B:=B)(by omega)(i:=3)(.bool false)(.bool false)(by simp)c3;have jE:=aL lG(a:=⟨B,3,none⟩)(by simp;omega)(.bool false);clear c3 f3 hr4 hB4 lG;generalize w4.setCell _ _=w5 at iq jE ⊢;refine(aG R _ _ _ iq).mono ?_;rintro e w6⟨rfl,lw,fB⟩;have pX:=ae jE fB;clear iq fB jE;go_wp2_with(go_at_call 85;refine(bK _).mono ?_;rintro e w9⟨rfl,mr⟩;rw [mr])
 exact⟨rfl,pX,.inr⟨Gc hz,rfl⟩⟩
theorem I1(R:Nat)(a b:Int)(W:World)(hr:Rd R [a,b,0,0]W):
  Calls Tryz.prog 56 #[.pointer(some⟨R,0,none⟩)]W fun e w'=>dV R [a,b,0,0]W e w':=by
 have hR:=hr.lt;go_enter Tryz.func56,Tryz.ntmps56
 go_wp2_with fail
 have h1:=hr.alloc ah.zero.box;have hW0:=World.grownBy_alloc W ah.zero.box(some R);dsimp only [ah.box,ah.zero]at h1 hW0;clear hr;refine(aG R _ _ _ h1).mono ?_;rintro e w1⟨rfl,hr1,hg1⟩;have hW1:=ae hW0 hg1;clear h1 hg1 hW0;go_wp2_with fail
 refine(aG R _ _ _ hr1).mono ?_;rintro e w2⟨rfl,hr2,hg2⟩;have hW2:=ae hW1 hg2;clear hr1 hg2 hW1;go_wp2_with fail
 have hB:=PB.new⟨a,b,0,false,0,0,0,0,0,0,none,0,0,⟨#[]⟩⟩w2;have hr3:=hr2.alloc(ah.box⟨a,b,0,false,0,0,0,0,0,0,none,0,0,⟨#[]⟩⟩);have hW3:=ae hW2(World.grownBy_alloc w2(ah.box⟨a,b,0,false,0,0,0,0,0,0,none,0,0,⟨#[]⟩⟩)(some R));have qJ:=hr2.lt;have hWs:=hW2.size;generalize qL:w2.heap.size=B at hB qJ hWs ⊢;clear qL;dsimp only [ah.box]at hB hr3 hW3;clear hr2 hW2;refine(aG R _ _ _ hr3).mono ?_;rintro e w4⟨rfl,hr4,hg4⟩;have hB4:=hB.grown hg4(by omega);have lG:=ae hW3 hg4;clear hr3 hg4 hB hW3;go_wp2_with(go_at_call 85;refine(require_ok _).mono ?_;rintro e w4⟨rfl,rfl⟩;obtain⟨_,_,_,c3,_,_,_,_,_,_,_,_⟩:=hB4.cell;have f3:=hB4.free 3)
 have iq:=hr4.setCell(B:=B)(by omega)(i:=3)(.bool false)(.bool false)(by simp)c3;have jE:=aL lG(a:=⟨B,3,none⟩)(by simp;omega)(.bool false);clear c3 f3 hr4 hB4 lG;generalize w4.setCell _ _=w5 at iq jE ⊢;refine(aG R _ _ _ iq).mono ?_;rintro e w6⟨rfl,lw,fB⟩;have pX:=ae jE fB;clear iq fB jE;go_wp2_with(go_at_call 85;refine(require_ok _).mono ?_;rintro e w6⟨rfl,rfl⟩)
 refine(o5 R _ lw).mono ?_;rintro e w9⟨rfl,rfl⟩;exact⟨rfl,pX,.inr⟨rfl,rfl⟩⟩
theorem I4(R:Nat)(a b:Int)(W:World)(hr:Rd R [a,b,8]W):
  Calls Tryz.prog 56 #[.pointer(some⟨R,0,none⟩)]W fun e w'=>dV R [a,b,8]W e w':=by
 have hR:=hr.lt;go_enter Tryz.func56,Tryz.ntmps56
 go_wp2_with fail
 have h1:=hr.alloc ah.zero.box;have hW0:=World.grownBy_alloc W ah.zero.box(some R);dsimp only [ah.box,ah.zero]at h1 hW0;clear hr;refine(aG R _ _ _ h1).mono ?_;rintro e w1⟨rfl,hr1,hg1⟩;have hW1:=ae hW0 hg1;clear h1 hg1 hW0;go_wp2_with fail
 refine(aG R _ _ _ hr1).mono ?_;rintro e w2⟨rfl,hr2,hg2⟩;have hW2:=ae hW1 hg2;clear hr1 hg2 hW1;go_wp2_with fail
 have hB:=PB.new⟨a,b,0,false,0,0,0,0,0,0,none,0,0,⟨#[]⟩⟩w2;have hr3:=hr2.alloc(ah.box⟨a,b,0,false,0,0,0,0,0,0,none,0,0,⟨#[]⟩⟩);have hW3:=ae hW2(World.grownBy_alloc w2(ah.box⟨a,b,0,false,0,0,0,0,0,0,none,0,0,⟨#[]⟩⟩)(some R));have qJ:=hr2.lt;have hWs:=hW2.size;generalize qL:w2.heap.size=B at hB qJ hWs ⊢;clear qL;dsimp only [ah.box]at hB hr3 hW3;clear hr2 hW2;refine(aG R _ _ _ hr3).mono ?_;rintro e w4⟨rfl,hr4,hg4⟩;have hB4:=hB.grown hg4(by omega);have lG:=ae hW3 hg4;clear hr3 hg4 hB hW3;go_wp2_with(go_at_call 85;refine(require_ok _).mono ?_;rintro e w4⟨rfl,rfl⟩;obtain⟨_,_,_,c3,_,_,_,_,_,_,_,_⟩:=hB4.cell;have f3:=hB4.free 3)
 have iq:=hr4.setCell(B:=B)(by omega)(i:=3)(.bool false)(.bool true)(by simp)c3;have jE:=aL lG(a:=⟨B,3,none⟩)(by simp;omega)(.bool true);clear c3 f3 hr4 hB4 lG;generalize w4.setCell _ _=w5 at iq jE ⊢;refine(o5 R _ iq).mono ?_;rintro e w9⟨rfl,rfl⟩;exact⟨rfl,jE,.inr⟨rfl,rfl⟩⟩
theorem IX(R:Nat)(a b z:Int)(r:List Int)(hz:(z==0)=false)(W:World)(hr:Rd R(a::b::8::z::r)W):
  Calls Tryz.prog 56 #[.pointer(some⟨R,0,none⟩)]W fun e w'=>dV R(a::b::8::z::r)W e w':=by
 have hR:=hr.lt;go_enter Tryz.func56,Tryz.ntmps56
 go_wp2_with fail
 have h1:=hr.alloc ah.zero.box;have hW0:=World.grownBy_alloc W ah.zero.box(some R);dsimp only [ah.box,ah.zero]at h1 hW0;clear hr;refine(aG R _ _ _ h1).mono ?_;rintro e w1⟨rfl,hr1,hg1⟩;have hW1:=ae hW0 hg1;clear h1 hg1 hW0;go_wp2_with fail
 refine(aG R _ _ _ hr1).mono ?_;rintro e w2⟨rfl,hr2,hg2⟩;have hW2:=ae hW1 hg2;clear hr1 hg2 hW1;go_wp2_with fail
 have hB:=PB.new⟨a,b,0,false,0,0,0,0,0,0,none,0,0,⟨#[]⟩⟩w2;have hr3:=hr2.alloc(ah.box⟨a,b,0,false,0,0,0,0,0,0,none,0,0,⟨#[]⟩⟩);have hW3:=ae hW2(World.grownBy_alloc w2(ah.box⟨a,b,0,false,0,0,0,0,0,0,none,0,0,⟨#[]⟩⟩)(some R));have qJ:=hr2.lt;have hWs:=hW2.size;generalize qL:w2.heap.size=B at hB qJ hWs ⊢;clear qL;dsimp only [ah.box]at hB hr3 hW3;clear hr2 hW2;refine(aG R _ _ _ hr3).mono ?_;rintro e w4⟨rfl,hr4,hg4⟩;have hB4:=hB.grown hg4(by omega);have lG:=ae hW3 hg4;clear hr3 hg4 hB hW3;go_wp2_with(go_at_call 85;refine(require_ok _).mono ?_;rintro e w4⟨rfl,rfl⟩;obtain⟨_,_,_,c3,_,_,_,_,_,_,_,_⟩:=hB4.cell;have f3:=hB4.free 3)
 have iq:=hr4.setCell(B:=B)(by omega)(i:=3)(.bool false)(.bool true)(by simp)c3;have jE:=aL lG(a:=⟨B,3,none⟩)(by simp;omega)(.bool true);clear c3 f3 hr4 hB4 lG;generalize w4.setCell _ _=w5 at iq jE ⊢;refine(aG R _ _ _ iq).mono ?_;rintro e w6⟨rfl,lw,fB⟩;have pX:=ae jE fB;clear iq fB jE;go_wp2_with(go_at_call 85;refine(bK _).mono ?_;rintro e w9⟨rfl,mr⟩;rw [mr])
 exact⟨rfl,pX,.inr⟨Gc hz,rfl⟩⟩
theorem IZ(R:Nat)(a b:Int)(W:World)(hr:Rd R [a,b,8,0]W):
  Calls Tryz.prog 56 #[.pointer(some⟨R,0,none⟩)]W fun e w'=>dV R [a,b,8,0]W e w':=by
 have hR:=hr.lt;go_enter Tryz.func56,Tryz.ntmps56
 go_wp2_with fail
 have h1:=hr.alloc ah.zero.box;have hW0:=World.grownBy_alloc W ah.zero.box(some R);dsimp only [ah.box,ah.zero]at h1 hW0;clear hr;refine(aG R _ _ _ h1).mono ?_;rintro e w1⟨rfl,hr1,hg1⟩;have hW1:=ae hW0 hg1;clear h1 hg1 hW0;go_wp2_with fail
 refine(aG R _ _ _ hr1).mono ?_;rintro e w2⟨rfl,hr2,hg2⟩;have hW2:=ae hW1 hg2;clear hr1 hg2 hW1;go_wp2_with fail
 have hB:=PB.new⟨a,b,0,false,0,0,0,0,0,0,none,0,0,⟨#[]⟩⟩w2;have hr3:=hr2.alloc(ah.box⟨a,b,0,false,0,0,0,0,0,0,none,0,0,⟨#[]⟩⟩);have hW3:=ae hW2(World.grownBy_alloc w2(ah.box⟨a,b,0,false,0,0,0,0,0,0,none,0,0,⟨#[]⟩⟩)(some R));have qJ:=hr2.lt;have hWs:=hW2.size;generalize qL:w2.heap.size=B at hB qJ hWs ⊢;clear qL;dsimp only [ah.box]at hB hr3 hW3;clear hr2 hW2;refine(aG R _ _ _ hr3).mono ?_;rintro e w4⟨rfl,hr4,hg4⟩;have hB4:=hB.grown hg4(by omega);have lG:=ae hW3 hg4;clear hr3 hg4 hB hW3;go_wp2_with(go_at_call 85;refine(require_ok _).mono ?_;rintro e w4⟨rfl,rfl⟩;obtain⟨_,_,_,c3,_,_,_,_,_,_,_,_⟩:=hB4.cell;have f3:=hB4.free 3)
 have iq:=hr4.setCell(B:=B)(by omega)(i:=3)(.bool false)(.bool true)(by simp)c3;have jE:=aL lG(a:=⟨B,3,none⟩)(by simp;omega)(.bool true);clear c3 f3 hr4 hB4 lG;generalize w4.setCell _ _=w5 at iq jE ⊢;refine(aG R _ _ _ iq).mono ?_;rintro e w6⟨rfl,lw,fB⟩;have pX:=ae jE fB;clear iq fB jE;go_wp2_with(go_at_call 85;refine(require_ok _).mono ?_;rintro e w6⟨rfl,rfl⟩)
 refine(o5 R _ lw).mono ?_;rintro e w9⟨rfl,rfl⟩;exact⟨rfl,pX,.inr⟨rfl,rfl⟩⟩
end Go.Proofs.YtakaadcpaeiccabGreat
