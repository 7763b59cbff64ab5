import Derived.Test.YtakaadcpaeiccabGreatC30
set_option maxHeartbeats 8000000
set_option maxRecDepth 100000
namespace Go.Proofs.YtakaadcpaeiccabGreat
open Go.RowKit Go.Maps
variable{a κ:Int}{m:aP}{q:Nat}{s:bG}
theorem kJ(h:m.has a=true):∃i:Nat,a=i∧i<m.S.length:=by
 unfold aP.has at h;rw[eF,decide_eq_true_iff,decide_eq_true_iff]at h;exact⟨a.toNat,(Int.toNat_of_nonneg h.1).symm,by omega⟩
theorem lI(h:m.runs a=true):∃i:Nat,a=i∧i<m.S.length:=kJ (Bool.and_eq_true_iff.1 h).1
theorem WW{now:Int}(h:C_ κ q now s):C_ κ q now s.stop:=
 ⟨h.addr,h.a0,h.jb,h.jl,fo _,λ_ hz=>(by cases hz),λ_ hz=>(by cases hz)⟩
theorem WJ{now:Int}(h:C_ κ q now s)(n:Int):C_ κ q now {s with tears:=true,whole:=max 0 n}:=
 ⟨h.addr,h.a0,h.jb,h.jl,Int.le_max_left _ _,λz hz=>(h.nd z hz).up (fo _) (aB _) (fo _) rfl,h.jn⟩
theorem iX.put'(h:iX κ q m)(i:Nat){s:bG}(hs:C_ κ q m.now s):iX κ q (m.put i s):=by
 refine⟨by rw[(gQ _ _ _).1,List.length_set];exact h.n,h.bD,h.now,λu hu=> ?_⟩;rw[(gQ _ _ _).1]at hu;rcases List.mem_or_eq_of_mem_set hu with hu|rfl
 ·exact h.st u hu
 ·exact hs
theorem XV(h:iX κ q m)(a b:Nat)(ha:a<m.S.length)(hb:b<m.S.length)(on:Bool):iX κ q (m.link a b on):=by
 have hs:∀(m:aP),iX κ q m->∀c,c<m.S.length->∀L:List Bool,iX κ q (m.put c {m.at' c with hrs:=L}):=λm hm c hc L=>by
  refine hm.put' c ?_;have h2:=hm.at (cK hc);rw[<-dX (cK hc)]at h2;exact⟨h2.addr,h2.a0,h2.jb,h2.jl,h2.wh,λz hz=>(h2.nd z hz).up (fo _) (aB _) (fo _) rfl,h2.jn⟩
 unfold aP.link;split
 ·exact h
 ·exact hs _ (hs m h a ha _) b (by rw[(gQ _ _ _).1,List.length_set];exact hb) _
@[reducible] def SBo(G g i B D : Nat)(now : Int)(sv : Value)(W : World): Prop :=
 (W.cell? ⟨G,0,none⟩=some (.int .u64 now)∧W.cell? ⟨G,1,none⟩=some sv∧W.cell? ⟨g,i,none⟩=some (.pointer (some ⟨B,0,none⟩))∧W.cell? ⟨D,1,none⟩=some (.int .i64 i))∧G<W.heap.size∧g<W.heap.size∧D<W.heap.size
theorem SBo.keep{G g i B D:Nat}{now:Int}{sv:Value}{W W':World}(h:SBo G g i B D now sv W)(hz:W.heap.size<=W'.heap.size)(hb:∀k,k=G∨k=g∨k=D->W'.heap[k]?=W.heap[k]?):SBo G g i B D now sv W':=by
 obtain⟨⟨c0,c1,c2,c3⟩,h1,h2,h3⟩:=h;exact⟨⟨(World.cell?_of_block (a:=⟨G,0,none⟩) (hb _ (.inl rfl))).trans c0,(World.cell?_of_block (a:=⟨G,1,none⟩) (hb _ (.inl rfl))).trans c1,(World.cell?_of_block (a:=⟨g,i,none⟩) (hb _ (.inr (.inl rfl)))).trans c2,(World.cell?_of_block (a:=⟨D,1,none⟩) (hb _ (.inr (.inr rfl)))).trans c3⟩,fO h1 hz,fO h2 hz,fO h3 hz⟩
theorem agd{y:MG}{w:World}(h:MM y m w){κ:Int}{q:Nat}(hok:iX κ q m)(IQ:0<=κ∧κ<=90000000000)(hq:q<=4990)(fK:m.now+60000<=4611686018427387904)(hfl:qH m)(o:Op)(ht:o.dK=8->o.txt.size<=65536)(hbt:∀i:Nat,o.a=i->i<m.S.length->(m.at' i).nd=none->Gn (m.at' i) m.now∧Dh κ q (m.put i {m.at' i with nd:=some (St.new (m.at' i).addr (m.at' i).aZ m.now)}) i (St.new (m.at' i).addr (m.at' i).aZ m.now)):
  Calls Tryz.prog 11 #[.pointer (some ⟨y.G,0,none⟩),VZ o] w λe w'=>jB y m (m.step o).1 (m.step o).2 w.heap.size w e w'∧iX (κ+1000000) (q+1) (m.step o).1:=by
 have hb0:Below w.heap.size w (w.alloc (.cells #[.int .i64 o.dK,.int .i64 o.a,.int .i64 o.b,.int .i64 o.n,.bool o.on,.string o.txt] 28)):=bC;have hC:=bS w (.cells #[.int .i64 o.dK,.int .i64 o.a,.int .i64 o.b,.int .i64 o.n,.bool o.on,.string o.txt] 28);have h1:=h.later hb0;have HM:=hide λW (hW:MM y m W)=>aer hW o;have hstep:∀r,m.may o=true->r=(if o.dK=1 then(m.link o.a.toNat o.b.toNat o.on,[])else if o.dK=2 then m.send o.a.toNat o.b.toNat o.txt else if o.dK=3 then m.tick o.n else if o.dK=4∨o.dK=5∨o.dK=6∨o.dK=7 then m.flight o else if o.dK=8 then m.hear o.a.toNat o.b.toNat o.txt else if o.dK=9 then(m.put o.a.toNat (m.at' o.a.toNat).stop,[])else if o.dK=10 then(m.put o.a.toNat {m.at' o.a.toNat with tears:=true,whole:=max 0 o.n},[])else if o.dK=11 then m.Lh o.a.toNat else(m,[]))->m.step o=r:=by
  intro r hm hr;rw[hr];unfold aP.step;rw[aH (by rw[hm];decide)]
 cases hmay:m.may o with
 |false=>
  have ho:m.step o=(m,[⟨0,5,Ot.none⟩]):=by
   unfold aP.step;rw[aM (by rw[hmay];rfl)]
  rw[ho];have hfin:Hid (∀wc,Below w.heap.size w wc->jB y m m [⟨0,5,Ot.none⟩] w.heap.size w (.returned (.slice (some ⟨wc.heap.size,0,none⟩) 1 1)) (wc.alloc (.cells #[.int .i64 0,.int .i64 5,.string ⟨#[]⟩,.bool false,.slice none 0 0,.slice none 0 0,.slice none 0 0] 54))∧iX (κ+1000000) (q+1) m):=by
   intro wc hb;have hev:=FR (b:=w.heap.size) (W:=wc) (x:=(⟨0,5,Ot.none⟩,⟨.slice none 0 0,.slice none 0 0,.slice none 0 0⟩)) hb.size ⟨⟨rfl,.inl ⟨rfl,rfl⟩⟩,⟨rfl,.inl ⟨rfl,rfl⟩⟩,⟨rfl,.inl ⟨rfl,rfl⟩⟩⟩;exact⟨⟨_,_,rfl,rfl,hev,(MP.refl h).post (hb.alloc hb.size _)⟩,hok.up (by omega) (Nat.le_succ _)⟩
  rw[hmay]at HM;obtain⟨dK,a,b,n,on,txt⟩:=o;unfold VZ at HM ⊢;dsimp only at hb0 hC h1 HM ⊢;clear hstep hok hfl h ho hbt;go_enter Tryz.func11,Tryz.ntmps11;go_upto_region 1 with(fail);generalize World.alloc _ _=W1 at hb0 hC h1 ⊢;have UD:=aF hC;have t0:W1.cell? ⟨w.heap.size,0,none⟩=some (.int .i64 dK):=aG _ _ 0 _ _ _ hC;have t1:W1.cell? ⟨w.heap.size,1,none⟩=some (.int .i64 a):=aG _ _ 1 _ _ _ hC;have t2:W1.cell? ⟨w.heap.size,2,none⟩=some (.int .i64 b):=aG _ _ 2 _ _ _ hC;have t3:W1.cell? ⟨w.heap.size,3,none⟩=some (.int .i64 n):=aG _ _ 3 _ _ _ hC;have t4:W1.cell? ⟨w.heap.size,4,none⟩=some (.bool on):=aG _ _ 4 _ _ _ hC;have t5:W1.cell? ⟨w.heap.size,5,none⟩=some (.string txt):=aG _ _ 5 _ _ _ hC;go_upto_region 2 with(go_at_call 28;refine(HM.out W1 h1).mono ?_;rintro e w2 ⟨rfl,hb2⟩);have hfn:=hide (hfin.out _ (hb0.trans (hb2.mono (Nat.le_of_lt UD))));clear hfin HM hb0 hb2 hC t0 t1 t2 t3 t4 t5;go_wp2;go_ret;exact hfn.out
 |true=>
  rw[hmay]at HM;obtain⟨dK,a,b,n,on,txt⟩:=o;unfold VZ at HM ⊢;dsimp only at hb0 hC h1 HM ht hstep hbt ⊢;replace ht:=hide ht;have hstep:=λr=>hstep r hmay;obtain⟨r,hr⟩:∃r,m.step ⟨dK,a,b,n,on,txt⟩=r:=⟨_,rfl⟩;rw[hr]at hstep ⊢;clear hr;go_enter Tryz.func11,Tryz.ntmps11;go_upto_region 1 with(fail);generalize World.alloc _ _=W1 at hb0 hC h1 ⊢;have UD:=aF hC;have t0:W1.cell? ⟨w.heap.size,0,none⟩=some (.int .i64 dK):=aG _ _ 0 _ _ _ hC;have t1:W1.cell? ⟨w.heap.size,1,none⟩=some (.int .i64 a):=aG _ _ 1 _ _ _ hC;have t2:W1.cell? ⟨w.heap.size,2,none⟩=some (.int .i64 b):=aG _ _ 2 _ _ _ hC;have t3:W1.cell? ⟨w.heap.size,3,none⟩=some (.int .i64 n):=aG _ _ 3 _ _ _ hC;have t4:W1.cell? ⟨w.heap.size,4,none⟩=some (.bool on):=aG _ _ 4 _ _ _ hC;have t5:W1.cell? ⟨w.heap.size,5,none⟩=some (.string txt):=aG _ _ 5 _ _ _ hC;replace hmay:=hide hmay;replace hstep:=hide hstep;go_upto_region 3 with(go_at_call 28;refine(HM.out W1 h1).mono ?_;rintro e w2 ⟨rfl,hb2⟩);have hC2:=(hb2.block _ UD).trans hC;clear t0 t1 t2 t3 t4 t5;have t0:w2.cell? ⟨w.heap.size,0,none⟩=some (.int .i64 dK):=aG _ _ 0 _ _ _ hC2;have t1:w2.cell? ⟨w.heap.size,1,none⟩=some (.int .i64 a):=aG _ _ 1 _ _ _ hC2;have t2:w2.cell? ⟨w.heap.size,2,none⟩=some (.int .i64 b):=aG _ _ 2 _ _ _ hC2;have t3:w2.cell? ⟨w.heap.size,3,none⟩=some (.int .i64 n):=aG _ _ 3 _ _ _ hC2;have t4:w2.cell? ⟨w.heap.size,4,none⟩=some (.bool on):=aG _ _ 4 _ _ _ hC2;have t5:w2.cell? ⟨w.heap.size,5,none⟩=some (.string txt):=aG _ _ 5 _ _ _ hC2;have hm2:=h1.later hb2;have hb3:=hb0.trans (hb2.mono (Nat.le_of_lt UD));have HF:=hide λ(e:Ending) w4 (hp:jB y m r.1 r.2 w2.heap.size w2 e w4)=>(show jB y m r.1 r.2 w.heap.size w e w4 by
   obtain⟨v,L,rfl,hL,hev,hmp⟩:=hp;exact⟨v,L,rfl,hL,hev.lower hb3.size,hmp.pre hb3⟩)
  have HE:=hide λw4 (he: []=r.2) (hp:MP y m r.1 w2 w4)=>(show jB y m r.1 r.2 w.heap.size w (.returned (.slice none 0 0)) w4 from⟨_,[],rfl,he,gP.nil _ _,hp.pre hb3⟩);have HQ:=hide λmd (hk:iX κ q md)=>(show iX (κ+1000000) (q+1) md from hk.up (by omega) (Nat.le_succ _));clear HM hb0 hb2 hC h1 h UD hb3;by_cases d1:dK=1
  ·subst d1;have hm:=hmay.out;unfold aP.may at hm;dsimp only at hm;rw[aM rfl,eF]at hm;obtain⟨i,rfl,hi⟩:=kJ hm.1;obtain⟨j,rfl,hj⟩:=kJ hm.2;have er:=(hstep.out (m.link i j on,[]) (by rw[aM rfl];simp only[jm])).symm;have J2:m.link i j on=r.1:=congrArg Prod.fst er;have ZY:=hide (show []=r.2 from congrArg Prod.snd er);have HX:=acK hm2 i j hi hj hok.n on;have hk:=HQ.out _ (XV hok i j hi hj on);rw[J2]at HX hk;replace HX:=hide HX;replace hk:=hide hk;clear hm hmay hstep hok hfl hbt hm2 HF HQ er J2;go_wp2_with(go_at_call 29;refine HX.out.mono ?_;rintro e w4 ⟨rfl,hmp⟩;have hfin:=hide (HE.out _ ZY.out hmp);clear hmp);go_ret;exact⟨hfin.out,hk.out⟩
  by_cases d2:dK=2
  ·subst d2;have hm:=hmay.out;unfold aP.may at hm;dsimp only at hm;rw[aH (by decide),aM (.inl rfl),eF]at hm;obtain⟨i,rfl,hi⟩:=lI hm.1;obtain⟨j,rfl,hj⟩:=kJ hm.2;have er:=(hstep.out (m.send i j txt) (by rw[aH (by decide),aM rfl];simp only[jm])).symm;have HX:=acJ hm2 hok IQ (by omega) i j hi hj txt hm.1;rw[er]at HX;replace HX:=hide HX;clear hm hmay hstep hok hfl hbt hm2 HE HQ er;go_wp2_with(go_at_call 30;refine HX.out.mono ?_;rintro e w4 ⟨⟨v,L,rfl,hL,hev,hmp⟩,hmk⟩;have hfin:=hide (HF.out _ _ ⟨v,L,rfl,hL,hev,hmp⟩);replace hmk:=hide (hmk.up (show κ+200000<=κ+1000000 by omega) (aB _));clear hL hev hmp);go_ret;exact⟨hfin.out,hmk.out⟩
  by_cases d3:dK=3
  ·subst d3;have er:=(hstep.out (m.tick n) (by rw[aH (by decide),aH (by decide),aM rfl])).symm;have HX:=acI hm2 hok IQ hq n fK;rw[er]at HX;replace HX:=hide HX;clear hmay hstep hok hfl hbt hm2 HE HQ er;go_wp2_with(go_at_call 31;refine HX.out.mono ?_;rintro e w4 ⟨⟨v,L,rfl,hL,hev,hmp⟩,hmk⟩;have hfin:=hide (HF.out _ _ ⟨v,L,rfl,hL,hev,hmp⟩);replace hmk:=hide (hmk.up (fo _) (Nat.le_succ q));clear hL hev hmp);go_ret;exact⟨hfin.out,hmk.out⟩
  by_cases d4:dK=4∨dK=5∨dK=6∨dK=7
  ·have er:=(hstep.out (m.flight ⟨dK,a,b,n,on,txt⟩) (by rw[aH d1,aH d2,aH d3,aM d4])).symm;have HX:=VI hm2 hok IQ hfl ⟨dK,a,b,n,on,txt⟩ d4;rw[er]at HX;unfold VZ at HX;dsimp only at HX;replace HX:=hide HX;clear hmay hstep hok hfl hbt hm2 HE HQ er d1 d2 d3;rcases d4 with rfl|rfl|rfl|rfl;all_goals
    go_wp2_with(go_at_call 32;refine HX.out.mono ?_;rintro e w4 ⟨⟨v,L,rfl,hL,hev,hmp⟩,hmk⟩;have hfin:=hide (HF.out _ _ ⟨v,L,rfl,hL,hev,hmp⟩);replace hmk:=hide (hmk.up (show κ+200000<=κ+1000000 by omega) (Nat.le_succ q));clear hL hev hmp);go_ret;exact⟨hfin.out,hmk.out⟩
  by_cases d8:dK=8
  ·subst d8;have hm:=hmay.out;unfold aP.may at hm;dsimp only at hm;rw[aH (by decide),aM (.inr rfl),eF]at hm;obtain⟨i,rfl,hi⟩:=lI hm.1;obtain⟨j,rfl,hj⟩:=kJ hm.2;have er:=(hstep.out (m.hear i j txt) (by rw[aH (by decide),aH (by decide),aH (by decide),aH (by decide),aM rfl];simp only[jm])).symm;have HX:=VG hm2 hok IQ i j hi hj txt (ht.out rfl);rw[er]at HX;replace HX:=hide HX;clear hm hmay hstep hok hfl hbt hm2 HE HQ er d4;go_wp2_with(go_at_call 33;refine HX.out.mono ?_;rintro e w4 ⟨⟨v,L,rfl,hL,hev,hmp⟩,hmk⟩;have hfin:=hide (HF.out _ _ ⟨v,L,rfl,hL,hev,hmp⟩);replace hmk:=hide (hmk.up (show κ+200000<=κ+1000000 by omega) (Nat.le_succ q));clear hL hev hmp);go_ret;exact⟨hfin.out,hmk.out⟩
  by_cases d9:dK=9
  ·subst d9;have hm:=hmay.out;unfold aP.may at hm;dsimp only at hm;rw[aH (by decide),aH (by decide),aM (.inl rfl)]at hm;obtain⟨i,rfl,hi⟩:=lI hm;have er:=(hstep.out (m.put i (m.at' i).stop,[]) (by rw[aH (by decide),aH (by decide),aH (by decide),aH (by decide),aH (by decide),aM rfl];simp only[jm])).symm;have J2:m.put i (m.at' i).stop=r.1:=congrArg Prod.fst er;have ZY:=hide (show []=r.2 from congrArg Prod.snd er);obtain⟨x,s,g,c,e1,e2,e3,e4,p0⟩:=hm2.get hi;rw[e3]at J2;have hmd:=hm2.drew;have HX:=hide ((Ga (hmd.st i x s e1 e2)).mono λe w4 hp=>show e=.returned (.tuple #[])∧MP y m r.1 w2 w4 by
    rw[<-J2];exact⟨hp.1,(hmd.stp e1 e2 hp.2).pre (aU _ _).drew⟩)
   have hk:=HQ.out _ (hok.put' i (WW (hok.at e2)));rw[J2]at hk;replace hk:=hide hk;obtain⟨_,q1,_,_⟩:=hm2.cell;rw[e4]at q1;have hin:(i:Int)<(m.S.length:Int):=by omega
   clear hm hmay hstep hok hfl hbt hm2 HF HQ er J2 d4 hmd e1 e2 e3 e4;go_upto_region 18 with(fail);go_region_with(go_at_call 34;refine HX.out.mono ?_;rintro e w4 ⟨rfl,hmp⟩;have hfin:=hide (HE.out _ ZY.out hmp);clear hmp)
   all_goals
    go_wp2;go_ret;exact⟨hfin.out,hk.out⟩
  by_cases d10:dK=10
  ·subst d10;have hm:=hmay.out;unfold aP.may at hm;dsimp only at hm;rw[aH (by decide),aH (by decide),aM (.inr rfl)]at hm;obtain⟨i,rfl,hi⟩:=lI hm;have er:=(hstep.out (m.put i {m.at' i with tears:=true,whole:=max 0 n},[]) (by rw[aH (by decide),aH (by decide),aH (by decide),aH (by decide),aH (by decide),aH (by decide),aM rfl];simp only[jm])).symm;have J2:m.put i {m.at' i with tears:=true,whole:=max 0 n}=r.1:=congrArg Prod.fst er;have ZY:=hide (show []=r.2 from congrArg Prod.snd er);obtain⟨x,s,g,c,e1,e2,e3,e4,p0⟩:=hm2.get hi;rw[e3]at J2;have hmd:=hm2.drew;have HX:=hide ((Zf (hmd.st i x s e1 e2) n).mono λe w4 hp=>show e=.returned (.tuple #[])∧MP y m r.1 w2 w4 by
    rw[<-J2];exact⟨hp.1,(hmd.stp e1 e2 hp.2).pre (aU _ _).drew⟩)
   have hk:=HQ.out _ (hok.put' i (WJ (hok.at e2) n));rw[J2]at hk;replace hk:=hide hk;obtain⟨_,q1,_,_⟩:=hm2.cell;rw[e4]at q1;have hin:(i:Int)<(m.S.length:Int):=by omega
   clear hm hmay hstep hok hfl hbt hm2 HF HQ er J2 d4 hmd e1 e2 e3 e4;go_upto_region 20 with(fail);go_region_with(go_at_call 35;refine HX.out.mono ?_;rintro e w4 ⟨rfl,hmp⟩;have hfin:=hide (HE.out _ ZY.out hmp);clear hmp)
   all_goals
    go_wp2;go_ret;exact⟨hfin.out,hk.out⟩
  by_cases d11:dK=11
  ·subst d11;have hm:=hmay.out;unfold aP.may at hm;dsimp only at hm;rw[aH (by decide),aH (by decide),aH (by decide),aM rfl,eF]at hm;obtain⟨i,rfl,hi⟩:=kJ hm.1;obtain⟨x,s,g,c,e1,e2,e3,e4,p0⟩:=hm2.get hi;have hnd:(m.at' i).nd=none:=by
    have h5:=hm.2;unfold aP.runs at h5;rw[hm.1,jm]at h5;cases hn:(m.at' i).nd with
    |none=>rfl
    |some v=>
     rw[hn]at h5;cases h5
   obtain⟨Yh,hdk⟩:=hbt i rfl hi hnd;have er:=(hstep.out (m.Lh i) (by rw[aH (by decide),aH (by decide),aH (by decide),aH (by decide),aH (by decide),aH (by decide),aH (by decide),aM rfl];simp only[jm])).symm;unfold aP.Lh at er;rw[e3]at hnd Yh hdk er;rw[BV e2]at er;have hHB:=λW (hW:mZ x s W)=>Oa hW hnd m.now Yh;obtain⟨z,hz⟩:∃z,St.new s.addr s.aZ m.now=z:=⟨_,rfl⟩;rw[hz]at hdk er hHB;obtain⟨m',hm'⟩:∃m',m.put i {s with nd:=some z}=m':=⟨_,rfl⟩;rw[hm']at hdk er;obtain⟨q0,q1,_,_⟩:=hm2.cell;rw[e4]at q1;have hin:(i:Int)<(m.S.length:Int):=by omega
   have hst:=hm2.st i x s e1 e2;have ZV:=aF hm2.blk;have hgl:g<w2.heap.size:=World.block_lt_of_cell? _ _ p0;have hDl:w.heap.size<w2.heap.size:=World.block_lt_of_cell? _ _ t1;have hnF:∀k,k=y.G∨k=g∨k=w.heap.size->¬lC x s k:=by
    intro k hk hF;obtain⟨o,ho,hK⟩:=hst.kind hF;rcases hk with rfl|rfl|rfl
    ·rw[hm2.blk]at ho;cases ho;exact hK.not (by decide)
    ·obtain⟨cc,hc⟩:=aS hm2.Ai (k:=k) (by rw[e4];rfl);rw[hc]at ho;cases ho;exact hK.not (by decide)
    ·rw[hC2]at ho;cases ho;exact hK.not (by decide)
   have hS0:SBo y.G g i x.B w.heap.size m.now (.slice (some ⟨g,0,none⟩) m.S.length c) w2:=⟨⟨q0,q1,p0,t1⟩,ZV,hgl,hDl⟩;have hS:=hS0.keep (W':=w2.drew) (aB _) (λ_ _=>rfl);have hd1:Below w2.heap.size w2 w2.drew:=(aU _ _).drew;have hmd:=hm2.drew;have HB2:=hide ((hHB w2.drew (hmd.st i x s e1 e2)).mono λe w4 hp=>show ∃aJ bL bO y2,SBo y.G g i x.B w.heap.size m.now (.slice (some ⟨g,0,none⟩) m.S.length c) w4∧e=.returned (iZ z.aZ z.bn aJ bL bO)∧iH w2.heap.size z.aI z.aR z.aQ aJ bL bO w4∧w2.heap.size<=w4.heap.size∧MM y2 m' w4∧MU y m y2 m' w2 w4 by
    obtain⟨aJ,bL,bO,he,hp,hor⟩:=hp;obtain⟨y2,h5,h6⟩:=hmd.stp e1 e2 hp;rw[hm']at h5 h6;have h7:=hp;obtain⟨_,_,_,hfx,_⟩:=h7;have hsz:=hfx.size;exact⟨aJ,bL,bO,y2,hS.keep hsz λk hk=>hfx.block k (by rcases hk with rfl|rfl|rfl<;>assumption) (hnF k hk),he,hor,h6.fx.size,h5,h6.pre hd1⟩)
   obtain⟨B,hB⟩:∃B,x.B=B:=⟨_,rfl⟩;rw[hB]at HB2 hS;clear hm hmay hstep hok hfl hbt hm2 HE HQ d4 hmd e1 e2 e3 e4 Yh hHB hz hm' hst ZV hgl hDl hnF hS0 hB hd1;go_upto_region 22 with(fail);clear q0 q1 p0 t0 t1 t2 t3 t4 t5 hC2;refine qL (SBo y.G g i B w.heap.size m.now (.slice (some ⟨g,0,none⟩) m.S.length c)) [16,17] (by kernel_rfl) hS (λhHeld=> ?_);refine bq (i:=0) (v:=?hv0) rfl (by kernel_rfl) (λ_ _ _ h=>h) (Or.inl ⟨by rfl,?hy0⟩) hHeld ?hr0
   case hy0=>
    rintro w5 ⟨⟨q0,q1,p0,t1⟩,_⟩;go_simp;try with_reducible rfl
   try go_frame
   refine bq (i:=1) (v:=?hv1) rfl (by kernel_rfl) (λ_ _ _ h=>h) (Or.inl ⟨by rfl,?hy1⟩) hHeld ?hr1
   case hy1=>
    rintro w5 ⟨⟨q0,q1,p0,t1⟩,_⟩;go_simp;try with_reducible rfl
   try go_frame
   refine bq (i:=2) (v:=?hv2) rfl (by kernel_rfl) (λ_ _ _ h=>h) (Or.inl ⟨by rfl,?hy2⟩) hHeld ?hr2
   case hy2=>
    rintro w5 ⟨⟨q0,q1,p0,t1⟩,_⟩;go_simp;try with_reducible rfl
   try go_frame
   refine bq (i:=3) (v:=?hv3) rfl (by kernel_rfl) (λ_ _ _ h=>h) (Or.inl ⟨by rfl,?hy3⟩) hHeld ?hr3
   case hy3=>
    rintro w5 ⟨⟨q0,q1,p0,t1⟩,_⟩;go_simp;try with_reducible rfl
   try go_frame
   refine bq (i:=4) (v:=?hv4) rfl (by kernel_rfl) (λ_ _ _ h=>h) (Or.inl ⟨by rfl,?hy4⟩) hHeld ?hr4
   case hy4=>
    rintro w5 ⟨⟨q0,q1,p0,t1⟩,_⟩;go_simp;try with_reducible rfl
   try go_frame
   refine bq (i:=5) (v:=?hv5) rfl (by kernel_rfl) (λ_ _ _ h=>h) (Or.inl ⟨by rfl,?hy5⟩) hHeld ?nO
   case hy5=>
    rintro w5 ⟨⟨q0,q1,p0,t1⟩,_⟩;go_simp;try with_reducible rfl
   try go_frame
   refine bq (i:=6) (v:=?hv6) rfl (by kernel_rfl) (λ_ _ _ h=>h) (Or.inl ⟨by rfl,?hy6⟩) hHeld ?uz
   case hy6=>
    rintro w5 ⟨⟨q0,q1,p0,t1⟩,_⟩;go_simp;try with_reducible rfl
   try go_frame
   refine bq (i:=7) (v:=?hv7) rfl (by kernel_rfl) (λ_ _ _ h=>h) (Or.inl ⟨by rfl,?hy7⟩) hHeld ?Bg
   case hy7=>
    rintro w5 ⟨⟨q0,q1,p0,t1⟩,_⟩;go_simp;try with_reducible rfl
   try go_frame
   refine bq (i:=8) (v:=?hv8) rfl (by kernel_rfl) (λ_ _ _ h=>h) (Or.inl ⟨by rfl,?hy8⟩) hHeld ?iR
   case hy8=>
    rintro w5 ⟨⟨q0,q1,p0,t1⟩,_⟩;go_simp;try with_reducible rfl
   try go_frame
   refine bq (i:=9) (v:=?hv9) rfl (by kernel_rfl) (λ_ _ _ h=>h) (Or.inl ⟨by rfl,?hy9⟩) hHeld ?nu
   case hy9=>
    rintro w5 ⟨⟨q0,q1,p0,t1⟩,_⟩;go_simp;try with_reducible rfl
   try go_frame
   refine bq (i:=10) (v:=?aeX) rfl (by kernel_rfl) (λ_ _ _ h=>h) (Or.inl ⟨by rfl,?aa4⟩) hHeld ?afa
   case aa4=>
    rintro w5 ⟨⟨q0,q1,p0,t1⟩,_⟩;go_simp;try with_reducible rfl
   try go_frame
   refine bq (i:=11) (v:=?aeW) rfl (by kernel_rfl) (λ_ _ _ h=>h) (Or.inl ⟨by rfl,?aa3⟩) hHeld ?ae9
   case aa3=>
    rintro w5 ⟨⟨q0,q1,p0,t1⟩,_⟩;go_simp;try with_reducible rfl
   try go_frame
   refine bq (i:=12) (v:=?aeV) rfl (by kernel_rfl) (λ_ _ _ h=>h) (Or.inl ⟨by rfl,?aa2⟩) hHeld ?ae8
   case aa2=>
    rintro w5 ⟨⟨q0,q1,p0,t1⟩,_⟩;go_simp;try with_reducible rfl
   try go_frame
   refine bq (i:=13) (v:=?aeU) rfl (by kernel_rfl) (λ_ _ _ h=>h) (Or.inl ⟨by rfl,?aa1⟩) hHeld ?ae7
   case aa1=>
    rintro w5 ⟨⟨q0,q1,p0,t1⟩,_⟩;go_simp;try with_reducible rfl
   try go_frame
   refine bq (i:=14) (v:=?aeT) rfl (by kernel_rfl) (λ_ _ _ h=>h) (Or.inl ⟨by rfl,?aa0⟩) hHeld ?ae6
   case aa0=>
    rintro w5 ⟨⟨q0,q1,p0,t1⟩,_⟩;go_simp;try with_reducible rfl
   try go_frame
   refine jR (i:=15) (by kernel_rfl) rfl (λK2 hK2=> ?_);go_simp;go_at_call 37;refine HB2.out.mono ?_;rintro e w4 ⟨aJ,bL,bO,y2,hS2,rfl,hor,hsz,CU,V5⟩;have VN:=Gg CU hdk aJ bL bO w2.heap.size hor hsz;rw[V5.G]at VN;go_simp;refine hK2.out _ _ (λ_=>hS2) ?_;clear hK2 K2 HB2;refine jR (i:=16) (by kernel_rfl) rfl (λK3 hK3=> ?_);replace VN:=hide VN;replace V5:=hide V5;replace hdk:=hide hdk;clear hor CU hS2 hHeld hS;go_simp;go_at_call 36;refine VN.out.mono ?_;rintro e w6 ⟨v,L,rfl,hL,hev,y3,PG,hu6⟩;have hfin:=HF.out (.returned v) w6 (by rw[<-er];exact⟨v,L,rfl,hL,hev,y3,PG,V5.out.trans hu6⟩);have hk:=(FW hdk.out).up (show κ+100000<=κ+1000000 by omega) (Nat.le_succ q);rw[er]at hk;have PW:=hide (And.intro hfin hk);clear hL hev PG hu6 VN V5 hdk HF hfin hk er;go_simp;refine hK3.out _ _ (λh=>(h (by decide)).elim) ?_;clear hK3 K3;refine jR (i:=17) (by kernel_rfl) rfl (λK4 hK4=> ?_);go_simp;refine hK4.out _ _ (λh=>(h (by decide)).elim) ?_;clear hK4 K4;refine yu (by kernel_rfl) ?_ _;go_wp2;go_ret;exact PW.out
  ·have er:=(hstep.out (m,[]) (by rw[aH d1,aH d2,aH d3,aH d4,aH d8,aH d9,aH d10,aH d11])).symm;have J2:m=r.1:=congrArg Prod.fst er;have ZY:=(show []=r.2 from congrArg Prod.snd er);have hfin:=HE.out w2 ZY (by rw[<-J2];exact MP.refl hm2);have hk:=HQ.out _ hok;rw[J2]at hk;have PW:=hide (And.intro hfin hk);have d41:¬dK=4:=λe=>d4 (.inl e);have d42:¬dK=5:=λe=>d4 (.inr (.inl e));have d43:¬dK=6:=λe=>d4 (.inr (.inr (.inl e)));have d44:¬dK=7:=λe=>d4 (.inr (.inr (.inr e)));clear hmay hstep hok hfl hbt hm2 HF HQ HE er J2 ZY d4 hk hfin;go_wp2;go_ret;exact PW.out
variable{κ:Int}{xs:List Int}{q:Nat}{s:bG}
theorem Ph(q own:Int)(f:Int->Option Int)(A:List Rt)(h:own<q):0<(bJ q own f A).2.length:=by
 have h1:∀(A:List Rt) (st:(Int->Option Int)×List (Bool×Int×Int)),0<st.2.length->0<(A.foldl jF st).2.length:=by
  intro A
  induction A with
  |nil=>intro st hs;exact hs
  |cons y A ih=>
   intro st hs;rw[fP];refine ih _ ?_;unfold jF;split
   ·simp
   ·exact hs
 refine h1 A _ ?_;unfold pM;rw[aM h];exact Nat.succ_pos 0
theorem abV{s:Int}(h:a_ s):0<gr s:=by unfold a_ gr at *;omega
theorem RY{me now:Int}(hbd:qx (jl xs)):0<(St.raw me xs now).write.bg.length:=by
 show 0<(([]:List (Bool×Int×Int))++(bJ (gr ((qI (jl xs)).getD 0)) 0 _ _).2).length;rw[List.nil_append];exact Ph _ _ _ _ (abV (Hy hbd))
theorem ac7{me now:Int}(hbd:qx (jl xs)):(∀y∈(St.raw me xs now).A,y.Ok)∧(St.raw me xs now).A.length<=8:=by
 have hc:=NV hbd;have e:(St.raw me xs now).A=um me ((cmpL (jl xs)).take (cmpL (jl xs)).length):=by rw[List.take_length];rfl
 rw[e];refine⟨λy hy=> ?_,M4 _ _ _⟩;obtain⟨j,x,_,hj,hp,rfl⟩:=zO _ _ _ y hy;have hx1:x.1=false:=by
  unfold Cw at hp;simp only[eF,Bool.not_eq_true']at hp;exact hp.1
 obtain⟨h1,h2⟩:=SL hbd hc (gI hj) hx1;exact M0 h1 h2
theorem aaQ{now:Int}(h:C_ κ q now s)(IQ:1<=κ)(fK:0<=now∧now<=4611686018427387904):Zn κ q now {s with nd:=some (St.new s.addr s.aZ now)} (St.new s.addr s.aZ now):=by
 have hbd:=TD h.jb;have hm:=ML h.addr hbd fK;obtain⟨hA,hl⟩:=ac7 (me:=s.addr) (now:=now) hbd;have hi:=Be hm (by omega) rfl hA hl;have e:=aO (St.raw s.addr s.aZ now);rw[St.uq];refine⟨TI hi (by omega),λa ha=> ?_,e.me,by rw[e.now];exact fo _,by rw[e.Q];exact b_ _,by rw[e.A];exact hA,by rw[e.A];exact hl⟩;rw[e.Q]at ha;cases ha
theorem EZ{now:Int}(h:C_ κ q now s)(IQ:1<=κ)(fK:0<=now∧now<=4611686018427387904):JC κ q now {s with nd:=some (St.new s.addr s.aZ now)} (St.new s.addr s.aZ now):=by
 have hbd:=TD h.jb;have hn:=RY (me:=s.addr) (now:=now) hbd;have hc:L6 0 (St.new s.addr s.aZ now):=by
  rw[St.uq];exact BP (s:=St.raw s.addr s.aZ now) rfl (.inr ⟨rfl,hn⟩)
 have hnw:0<(St.new s.addr s.aZ now).bg.length:=by
  rw[St.uq];unfold St.finish;split
  ·show 0<(St.cmp _).length;rw[zU];exact Nat.succ_pos _
  ·exact hn
 refine⟨h.addr,h.a0,h.jb,h.jl,h.wh,rfl,aaQ h IQ fK,λhr=> ?_,λhr=>(hc.yes hr).1,?_⟩
 ·have hx:s.aZ=[]:=by
   rw[St.uq]at hr;unfold St.finish at hr;split at hr
   ·cases hr
   ·have h5:decide (s.aZ≠ [])=false:=hr;simpa using h5
  have:=hc.no hr;show 13 * (St.new s.addr s.aZ now).cnt=((s.aZ.length:Nat):Int)+_;rw[hx]at this ⊢;simp only[List.length_nil];omega
 ·cases hr:(St.new s.addr s.aZ now).bn with
  |false=>
   have:=hc.no hr;omega
  |true=>
   have:=hc.yes hr;omega
theorem Vb{m:aP}(hok:iX κ q m)(IQ:1<=κ){i:Nat}(hi:i<m.S.length)(hfw:Zq (jl (m.at' i).aZ)):Gn (m.at' i) m.now∧Dh κ q (m.put i {m.at' i with nd:=some (St.new (m.at' i).addr (m.at' i).aZ m.now)}) i (St.new (m.at' i).addr (m.at' i).aZ m.now):=by
 have hS:m.S[i]?=some (m.at' i):=by
  have h1:=cK hi;rw[dX h1];exact h1
 have hs:=hok.at hS;refine⟨⟨hs.addr,hs.a0,hs.jb,by have:=hs.jl;omega,hfw,hok.now⟩,⟨by rw[(gQ _ _ _).1,List.length_set];exact hok.n,hok.bD,hok.now,λj u hu hne=> ?_,⟨{m.at' i with nd:=some (St.new (m.at' i).addr (m.at' i).aZ m.now)},by rw[(gQ _ _ _).1,List.getElem?_set_self hi],EZ hs IQ hok.now⟩⟩⟩;rw[(gQ _ _ _).1,List.getElem?_set_ne (Ne.symm hne)]at hu;exact hok.at hu
theorem VL(ao:Option Addr)(g n c:Nat)(hao:0<n->ao=some ⟨g,0,none⟩)(L:List Int)(d:Int)(w:World)(hn:n<=100)(hc:∀k,k<n->w.cell? ⟨g,k,none⟩=some (.int .u32 (L.getD k 0)))(hd:∀k,k<n->L.getD k 0≠d):
  Calls Tryz.prog 136 #[.slice ao n c,.int .u32 d] w λe w'=>e=.returned (.int .i64 (-1))∧w'=w:=by
 go_enter Tryz.func136,Tryz.ntmps136;go_wp2_with fail;go_loopw [8] (λi wr=>∃(j:Nat),j<=n∧i=.int .i64 j∧wr=w) (λi _=>n - (intOf i).toNat)
 case atStart=>exact⟨0,b_ _,rfl,rfl⟩
 case round=>
  obtain⟨j,hj,rfl,rfl⟩:=hrel;by_cases hlt:j<n
  ·have hix:(j:Int)<(n:Int):=by omega
   have hne:(d==L.getD j 0)=false:=by
    rw[beq_eq_false_iff_ne];exact λe=>hd j hlt e.symm
   have h0:=hc j hlt;obtain⟨x,hx⟩:∃x,L.getD j 0=x:=⟨_,rfl⟩;rw[hx]at h0 hne;cases hao (by omega);clear hc hd hx hao;go_wp2;go_roundw
   case rel=>exact⟨j+1,by omega,by go_num,by trivial⟩
   case measure=>simp[intOf];omega
  ·obtain rfl:j=n:=by omega
   clear hc hd hao;go_wp2;go_ret;exact⟨rfl,rfl⟩
theorem JP(ao:Option Addr)(g n c:Nat)(hao:0<n->ao=some ⟨g,0,none⟩)(L:List Int)(d:Int)(w:World)(hn:n<=100)(hc:∀k,k<n->w.cell? ⟨g,k,none⟩=some (.int .u32 (L.getD k 0)))(hd:∀k,k<n->L.getD k 0≠d):
  Calls Tryz.prog 97 #[.slice ao n c,.int .u32 d] w λe w'=>e=.returned (.bool false)∧w'=w:=by
 have HI:=hide (VL ao g n c hao L d w hn hc hd);clear hc hd hao;go_enter Tryz.func97,Tryz.ntmps97;go_wp2_with(go_at_call 136;refine HI.out.mono ?_;rintro e w2 ⟨rfl,hw⟩;replace hw:=hide hw);go_ret;exact⟨rfl,hw.out⟩
theorem YN(g n c:Nat)(L:List Int)(w:World)(hn:0<n∧n<=6)(hcap:n<=c)(hc:∀k,k<n->w.cell? ⟨g,k,none⟩=some (.int .u32 (L.getD k 0)))(h0:∀k,k<n->L.getD k 0≠0)(hd:∀j k,j<k->k<n->L.getD j 0≠L.getD k 0):
  Calls Tryz.prog 61 #[.slice (some ⟨g,0,none⟩) n c] w λe w'=>e=.returned (.bool true)∧w'=w:=by
 have hz:((n:Int)==0)=false:=by
  rw[beq_eq_false_iff_ne];omega
 have hs:decide ((n:Int)>6)=false:=fD (by omega);have hs':decide (6<(n:Int))=false:=fD (by omega);have hz':decide ((n:Int)=0)=false:=fD (by omega);have HC:=hide λ(k:Nat) (hk:k<n)=>JP (some ⟨g,0,none⟩) g k c (λ_=>rfl) L (L.getD k 0) w (by omega) (λj hj=>hc j (by omega)) (λj hj=>hd j k hj hk);replace hc:=hide hc;replace h0:=hide h0;clear hd;go_enter Tryz.func61,Tryz.ntmps61;go_wp2_with fail;go_loopw [15] (λi wr=>∃(j:Nat),j<=n∧i=.int .i64 j∧wr=w) (λi _=>n - (intOf i).toNat)
 case atStart=>exact⟨0,b_ _,rfl,rfl⟩
 case round=>
  obtain⟨j,hj,rfl,rfl⟩:=hrel;by_cases hlt:j<n
  ·have hix:(j:Int)<(n:Int):=by omega
   have hjc:(j:Int)<=(c:Int):=by omega
   have hne:(L.getD j 0==0)=false:=by
    rw[beq_eq_false_iff_ne];exact h0.out j hlt
   have k0:=hc.out j hlt;have HX:=hide (HC.out j hlt);obtain⟨x,hx⟩:∃x,L.getD j 0=x:=⟨_,rfl⟩;rw[hx]at k0 hne HX;clear hc h0 HC hx;go_wp2_with(go_at_call 97;refine HX.out.mono ?_;rintro e w2 ⟨rfl,hw⟩;obtain rfl:=hw);go_roundw
   case rel=>exact⟨j+1,by omega,by go_num,by trivial⟩
   case measure=>simp[intOf];omega
  ·obtain rfl:j=n:=by omega
   clear hc h0 HC;go_wp2;go_ret;exact⟨rfl,rfl⟩
variable{j:Nat}{α:Type}
theorem dZ{L:List α}{a b:α}(h:(L++ [a])[j]?=some b):L[j]?=some b∨(j=L.length∧b=a):=by
 by_cases hj:j<L.length
 ·rw[List.getElem?_append_left hj]at h;exact .inl h
 ·rw[List.getElem?_append_right (by omega)]at h;obtain⟨h1,h2⟩:=fu.1 h;have h3:j - L.length=0:=by simpa using h1
  refine .inr ⟨by omega,?_⟩;simp only[h3,List.getElem_cons_zero]at h2;exact h2.symm
theorem lt_of_some{L:List α}{b:α}(h:L[j]?=some b):j<L.length:=(fu.1 h).1
theorem MM.add{y:MG}{m:aP}{W:World}(h:MM y m W){x:SG}{s:bG}(hx:mZ x s W)(hap:∀k,lC x s k->¬uP y m k){v7:Value}{w7:World}(ho:w7.ownsRow 0 94 1 v7 (m.S.length+1) (LJ y.L++LJ [x]))(hg:W.grownBy w7 y.sv.ownBlock)(hv:v7.ownBlock=y.sv.ownBlock∨v7.ownBlock=some W.heap.size):
  (w7.cell? ⟨y.G,1,none⟩=some y.sv∧w7.frozen? ⟨y.G,1,none⟩=false)∧MM {y with L:=y.L++ [x],sv:=v7} {m with S:=m.S++ [s]} (w7.setCell ⟨y.G,1,none⟩ v7)∧∀k,uP {y with L:=y.L++ [x],sv:=v7} {m with S:=m.S++ [s]} k->uP y m k∨lC x s k∨(W.heap.size<=k∧k<(w7.setCell ⟨y.G,1,none⟩ v7).heap.size):=by
 have hne:y.sv.ownBlock≠some y.G:=aA h.Ai h.blk (λc e=>(by cases e));have hblk:=hg.block _ (aF h.blk) λe=>hne e.symm;obtain⟨_,c1,_,fz⟩:=h.cell;have JV:=hblk.trans h.blk;have hg2:w7.grownBy (w7.setCell ⟨y.G,1,none⟩ v7) (some y.G):=ah (aC _ (some y.G)) 1 _;have hsz:=hg.size;have hkeep:∀k,k<W.heap.size->k≠y.G->y.sv.ownBlock≠some k->(w7.setCell ⟨y.G,1,none⟩ v7).heap[k]?=W.heap[k]?:=λk hk h1 h2=>(hg2.block k (by omega) λe=>h1 (Option.some.inj e)).trans (hg.block k hk λe=>h2 e.symm);have hst:∀(i:Nat) z u,y.L[i]?=some z->m.S[i]?=some u->mZ z u (w7.setCell ⟨y.G,1,none⟩ v7):=λi z u h1 h2=>(h.st i z u h1 h2).kept λk hk=>by
  obtain⟨q1,q2,_⟩:=h.own h1 h2 hk;exact hkeep k ((h.st i z u h1 h2).lt hk) q1 q2
 have hxs:mZ x s (w7.setCell ⟨y.G,1,none⟩ v7):=hx.kept λk hk=>hkeep k (hx.lt hk) (λe=>hap k hk (.inl e)) λe=>hap k hk (.inr (.inl e));have hll:=h.len;refine⟨⟨(World.cell?_of_block (a:=⟨y.G,1,none⟩) hblk).trans c1,(World.frozen?_of_block (a:=⟨y.G,1,none⟩) hblk).trans (fz 1)⟩,⟨?_,?_,?_,?_,λi z u h1 h2=> ?_,λi j z u z' u' hij h1 h2 h3 h4 k hk hk'=> ?_⟩,λk hk=> ?_⟩
 ·simp[World.setCell,Array.getElem?_modify,JV]
 ·have hr:=ho.kept hg2 (.inr (aA ho JV (λc e=>(by cases e))));show World.ownsRow _ 0 _ 1 v7 (m.S++ [s]).length (LJ (y.L++ [x]));rw[dx,show LJ (y.L++ [x])=LJ y.L++LJ [x]from List.map_append];exact hr
 ·refine bP h.bD λk hk=>hkeep k (h.bD.lt k hk).2 (λe=> ?_) λe=> ?_
  ·subst e;exact aA h.bD h.blk (λc e=>(by cases e)) hk
  ·rcases bX h.Ai h.bD (by decide)with q|q
   ·rw[q]at e;cases e
   ·exact q (e.trans hk.symm)
 ·show(y.L++ [x]).length=(m.S++ [s]).length;rw[dx,dx,hll];rfl
 ·rcases dZ h1 with h1|⟨e1,rfl⟩
  ·rcases dZ h2 with h2|⟨e2,_⟩
   ·exact hst i z u h1 h2
   ·have:=lt_of_some h1;omega
  ·rcases dZ h2 with h2|⟨_,rfl⟩
   ·have:=lt_of_some h2;omega
   ·exact hxs
 ·rcases dZ h1 with p1|⟨e1,rfl⟩
  ·rcases dZ h2 with p2|⟨e2,_⟩
   ·rcases dZ h3 with h3|⟨e3,rfl⟩
    ·rcases dZ h4 with h4|⟨e4,_⟩
     ·exact h.ap i j z u z' u' hij p1 p2 h3 h4 k hk hk'
     ·have:=lt_of_some h3;omega
    ·rcases dZ h4 with h4|⟨_,rfl⟩
     ·have:=lt_of_some h4;omega
     ·exact hap k hk' (.inr (.inr (.inr ⟨i,z,u,p1,p2,hk⟩)))
   ·have:=lt_of_some p1;omega
  ·rcases dZ h2 with h2|⟨_,rfl⟩
   ·have:=lt_of_some h2;omega
   ·rcases dZ h3 with h3|⟨e3,_⟩
    ·rcases dZ h4 with h4|⟨e4,_⟩
     ·exact hap k hk (.inr (.inr (.inr ⟨j,z',u',h3,h4,hk'⟩)))
     ·have:=lt_of_some h3;omega
    ·exact absurd (e1.trans e3.symm) hij
 ·rcases hk with hk|hk|hk|⟨i,z,u,h1,h2,hk⟩
  ·exact .inl (.inl hk)
  ·rcases hv with e|e
   ·exact .inl (.inr (.inl (by rw[<-e];exact hk)))
   ·have h1:=(ho.lt k hk).2;rw[show({y with L:=y.L++ [x],sv:=v7}:MG).sv=v7 from rfl,e]at hk;cases hk;exact .inr (.inr ⟨aB _,by simpa using h1⟩)
  ·exact .inl (.inr (.inr (.inl hk)))
  ·rcases dZ h1 with h1|⟨e1,rfl⟩
   ·rcases dZ h2 with h2|⟨e2,_⟩
    ·exact .inl (.inr (.inr (.inr ⟨i,z,u,h1,h2,hk⟩)))
    ·have:=lt_of_some h1;omega
   ·rcases dZ h2 with h2|⟨_,rfl⟩
    ·have:=lt_of_some h2;omega
    ·exact .inr (.inl hk)
theorem SY:Nonempty bI:=⟨by repeat' (first|exact Value.slice none 0 0|exact(0:Nat)|exact(0:Int)|exact false|exact(⟨#[]⟩:ByteArray)|exact []|exact none|constructor|intro)⟩
def mO(a:Int):Obj:=.cells #[.int .u32 a,.slice none 0 0,.pointer none,.bool false,.bool false,.bool false,.bool false,.bool false,.bool false,.bool false,.int .i64 0] 102
def Dt(a:Int):bG:=⟨a,bB (St.new a [] 0).bg,some (St.new a [] 0),List.replicate 6 false,false,0⟩
theorem aaq(wr:World)(a:Int)(hU:a_ a)(h0:a≠0):Calls Tryz.prog 37 #[.pointer (some ⟨wr.heap.size,0,none⟩),.int .u64 0] (wr.alloc (mO a)) λe W3=>∃aJ bL bO,e=.returned (iZ (St.new a [] 0).aZ (St.new a [] 0).bn aJ bL bO)∧Hid (Calls Tryz.prog 62 #[.pointer (some ⟨wr.heap.size,0,none⟩),iZ (St.new a [] 0).aZ (St.new a [] 0).bn aJ bL bO] W3 λe W4=>e=.returned (.bool true)∧∃x2:SG,x2.B=wr.heap.size∧mZ x2 (Dt a) W4∧Fx (λk=>k=wr.heap.size) (wr.alloc (mO a)) W4∧∀k,lC x2 (Dt a) k->wr.heap.size<=k):=by
 obtain⟨g0⟩:=SY;have hx:mZ ⟨wr.heap.size,.slice none 0 0,0,g0,[]⟩ ⟨a,[],none,List.replicate 6 false,false,0⟩ (wr.alloc (mO a)):=
  ⟨bS _ _,rfl,⟨rfl,.inl ⟨rfl,rfl⟩⟩,λz hz=>(by cases hz)⟩
 have hs:C_ 1 0 0 ⟨a,[],none,List.replicate 6 false,false,0⟩:=⟨hU,h0,λx h=>(by cases h),b_ _,fo _,λz hz=>(by cases hz),λz hz=>(by cases hz)⟩;have hp:=EZ hs (fo _) ⟨fo _,by decide⟩;have hsz:(wr.alloc (mO a)).heap.size=wr.heap.size+1:=by simp
 have hin:∀k,lC ⟨wr.heap.size,.slice none 0 0,0,g0,[]⟩ ⟨a,[],none,List.replicate 6 false,false,0⟩ k->k=wr.heap.size:=by
  intro k hk;rcases hk with hk|hk|⟨z,hz,_⟩
  ·exact hk
  ·cases hk
  ·cases hz
 refine(Oa hx rfl 0 ⟨hU,h0,λx h=>(by cases h),b_ _,⟨[],b_ _,λa h=>(by cases h)⟩,⟨fo _,by decide⟩⟩).mono ?_;rintro e W3 ⟨aJ,bL,bO,rfl,⟨x1,hB1,hm1,hf1,hu1⟩,_⟩;refine⟨aJ,bL,bO,rfl,hide ?_⟩;dsimp only at hB1 hm1 hu1;have hnw:=hp.nwl;have hcn:=hp.nd.inv.bd;have HW:=JA hm1 (St.new a [] 0).ot aJ bL bO hcn (by show(St.new a [] 0).bg.length<=_;dsimp only at hnw;omega) (b_ _) (fo _);rw[hB1]at HW;have hne:(St.new a [] 0).ot.bg≠ []∨(St.new a [] 0).ot.bn=true:=by
  refine .inl λe=> ?_;have h1:=hp.no;have h2:=hp.yes;have h3:=hp.pos;have e':(St.new a [] 0).bg=[]:=e;dsimp only at h1 h2 h3;rw[e']at h1 h2;cases hr:(St.new a [] 0).bn with
  |false=>
   have h4:=h1 hr;simp only[List.length_nil]at h4;omega
  |true=>
   have h4:=h2 hr;simp only[List.length_nil]at h4;omega
 have hwe:=bG.jX (s:=⟨a,[],some (St.new a [] 0),List.replicate 6 false,false,0⟩) hne rfl;have hs2:(bG.write ⟨a,[],some (St.new a [] 0),List.replicate 6 false,false,0⟩ (St.new a [] 0).ot).1=Dt a:=by
  rw[hwe];unfold Dt;dsimp only;split<;>rfl
 have hs3:(bG.write ⟨a,[],some (St.new a [] 0),List.replicate 6 false,false,0⟩ (St.new a [] 0).ot).2=true:=by rw[hwe]
 rw[hs2,hs3]at HW;refine HW.mono ?_;rintro e W4 ⟨rfl,x2,hB2,hm2,hf2,hu2⟩;have hz1:=hf1.size;refine⟨rfl,x2,hB2.trans hB1,hm2,(hf1.mono hin).trans hf2 λi hi hk=> ?_,λk hk=> ?_⟩
 ·rcases hu1 i hk with h|h
  ·exact hin i h
  ·omega
 ·rcases hu2 k hk with h|h
  ·rcases hu1 k h with h|h
   ·exact Nat.le_of_eq (hin k h).symm
   ·omega
  ·omega
variable{L:List Int}{k:Nat}
theorem TN:(Tryz.prog.info? 94).map (λi=>(i.zero,i.size,i.bytes))=some (some (.pointer none),1,8):=by kernel_rfl
def NwI(M:Nat)(w:World)(L:List Int)(k:Nat)(wr:World):Prop:=∃y:MG,y.G=M∧MM y (aP.new (L.take k)) wr∧Fx (λ_=>False) w wr∧∀q,uP y (aP.new (L.take k)) q->w.heap.size<=q
theorem Ii(hk:k<L.length):aP.new (L.take (k+1))={aP.new (L.take k)with S:=(aP.new (L.take k)).S++ [Dt (L.getD k 0)]}:=by
 unfold aP.new;rw[List.take_add_one,List.map_append]
 congr 1
 rw[List.getD_eq_getElem?_getD,cK hk];rfl
theorem E5(L:List Int):(aP.new L).S.length=L.length:=by
 unfold aP.new;rw[iL]
theorem XG{M:Nat}{w wr:World}(hk:k<L.length){y:MG}(hG:y.G=M)(hm:MM y (aP.new (L.take k)) wr)(hf:Fx (λ_=>False) w wr)(hge:∀q,uP y (aP.new (L.take k)) q->w.heap.size<=q)(W4:World)(x2:SG)(hB:x2.B=wr.heap.size)(hx:mZ x2 (Dt (L.getD k 0)) W4)(h4:Fx (λq=>q=wr.heap.size) (wr.alloc (mO (L.getD k 0))) W4)(hxg:∀q,lC x2 (Dt (L.getD k 0)) q->wr.heap.size<=q):
  MM y (aP.new (L.take k)) W4∧∀(v7:Value) (w7:World),w7.ownsRow 0 94 1 v7 ((aP.new (L.take k)).S.length+1) (LJ y.L++ [.pointer (some ⟨wr.heap.size,0,none⟩)])->(W4.alloc (.cells #[.pointer (some ⟨wr.heap.size,0,none⟩)] 94)).grownBy w7 y.sv.ownBlock->(v7.ownBlock=y.sv.ownBlock∨v7.ownBlock=some (W4.alloc (.cells #[.pointer (some ⟨wr.heap.size,0,none⟩)] 94)).heap.size)->(w7.cell? ⟨M,1,none⟩=some y.sv∧w7.frozen? ⟨M,1,none⟩=false)∧Hid (NwI M w L (k+1) (w7.setCell ⟨M,1,none⟩ v7)):=by
 subst hG;have hsz:(wr.alloc (mO (L.getD k 0))).heap.size=wr.heap.size+1:=by simp
 have hz4:=h4.size;have hm2:=hm.later ((aU wr.heap.size wr).alloc (aB _) (mO (L.getD k 0)));have CU:MM y (aP.new (L.take k)) W4:=hm2.kept λq hq=>h4.block q (hm2.lt hq) λe=>by
  have:=hm.lt hq;omega
 refine⟨CU,λv7 w7 ho hg hv=> ?_⟩;have hb5:Below W4.heap.size W4 (W4.alloc (.cells #[.pointer (some ⟨wr.heap.size,0,none⟩)] 94)):=bC;have hm5:=CU.later hb5;rw[<-hB]at ho;obtain⟨c1,hm7,hin⟩:=hm5.add (hx.later hb5) (λq hq hq'=>by
  have h1:=hxg q hq;have h2:=hm.lt hq';omega) ho hg hv
 refine⟨c1,hide ⟨{y with L:=y.L++ [x2],sv:=v7},rfl,?_,?_,λq hq=> ?_⟩⟩
 ·rw[Ii hk];exact hm7
 ·have f1:Fx (λ_=>False) w (wr.alloc (mO (L.getD k 0))):=hf.trans (S':=λ_=>False) (Fx.below ((aU wr.heap.size wr).alloc (aB _) _)) λ_ _ h=>h;have hzf:=hf.size;have f2:Fx (λ_=>False) w W4:=f1.trans h4 λi hi e=>by omega
  have f3:Fx (λ_=>False) w (W4.alloc (.cells #[.pointer (some ⟨wr.heap.size,0,none⟩)] 94)):=f2.trans (S':=λ_=>False) (Fx.below hb5) λ_ _ h=>h;have f4:Fx (λ_=>False) w w7:=aV f3 hg λi hi e=>by
   have:=hge i (.inr (.inl e));omega
  exact aV f4 (ah (aC w7 (some y.G)) 1 v7) λi hi e=>by
   cases e;have:=hge y.G (.inl rfl);omega
 ·rw[Ii hk]at hq;have hzf:=hf.size;have agM:=hb5.size;rcases hin q hq with h|h|⟨h,_⟩
  ·exact hge q h
  ·have:=hxg q h;omega
  ·omega
theorem aeu(g n c:Nat)(L:List Int)(w:World)(hL:L.length=n)(hn:0<n∧n<=6)(hcap:n<=c)(hU:∀k,k<n->a_ (L.getD k 0))(hgl:g<w.heap.size)(hc:∀k,k<n->w.cell? ⟨g,k,none⟩=some (.int .u32 (L.getD k 0)))(h0:∀k,k<n->L.getD k 0≠0)(hd:∀j k,j<k->k<n->L.getD j 0≠L.getD k 0):
  Calls Tryz.prog 27 #[.slice (some ⟨g,0,none⟩) n c] w λe w'=>∃y:MG,e=.returned (.tuple #[.pointer (some ⟨y.G,0,none⟩),.int .i64 0])∧MM y (aP.new L) w'∧Fx (λ_=>False) w w'∧∀q,uP y (aP.new L) q->w.heap.size<=q:=by
 have HFt:=hide (YN g n c L w hn hcap hc h0 hd);have hst:Hid (NwI w.heap.size w L 0 (w.alloc (.cells #[.int .u64 0,.slice none 0 0,.slice none 0 0] 97))):=by
  refine hide ⟨⟨w.heap.size,.slice none 0 0,.slice none 0 0,[]⟩,rfl,⟨bS _ _,⟨rfl,.inl ⟨rfl,rfl⟩⟩,⟨rfl,.inl ⟨rfl,rfl⟩⟩,rfl,λi x s h=>(by cases h),λi j x s x' s' _ h=>(by cases h)⟩,Fx.below (bC),λq hq=> ?_⟩;rcases hq with h|h|h|⟨i,x,s,h,_⟩
  ·exact Nat.le_of_eq h.symm
  ·cases h
  ·cases h
  ·cases h
 replace hc:=hide hc;replace h0:=hide h0;replace hU:=hide hU;obtain⟨i0,hi,hz0,hz1,hz2⟩:=info_parts TN;go_enter Tryz.func27,Tryz.ntmps27;go_upto_region 4 with(go_at_call 61;refine HFt.out.mono ?_;rintro e w2 ⟨rfl,hw⟩;have hw2:=hw.symm;subst hw2);generalize World.alloc _ _=W1 at hst ⊢;generalize w.heap.size=M at hst ⊢;go_wp2_with fail;go_loopw [15] (λi wr=>∃(j:Nat),j<=n∧i=.int .i64 j∧Hid (NwI M w L j wr)) (λi _=>n - (intOf i).toNat)
 case atStart=>exact⟨0,b_ _,rfl,hst⟩
 case round=>
  obtain⟨j,hj,rfl,hr⟩:=hrel;by_cases hlt:j<n
  ·have hlL:j<L.length:=by omega
   have hix:(j:Int)<(n:Int):=by omega
   obtain⟨y,hG,hm,hf,hge⟩:=hr.out;have k0:=(World.cell?_of_block (a:=⟨g,j,none⟩) (hf.block g hgl (λh=>h))).trans (hc.out j hlt);have HX:=aaq wr _ (hU.out j hlt) (h0.out j hlt);have HS:=XG hlL hG hm hf hge;have hlen:(aP.new (L.take j)).S.length=j:=by
    rw[E5,List.length_take];omega
   have q0:wr.cell? ⟨M,0,none⟩=some (.int .u64 0):=by
    rw[<-hG];exact hm.cell.1
   obtain⟨a,ha⟩:∃a,L.getD j 0=a:=⟨_,rfl⟩;rw[ha]at k0 HX HS;have q2:=(((aU wr.heap.size wr).alloc (aB _) (mO a)).cell (World.block_lt_of_cell? _ _ q0)).trans q0;obtain⟨W2,hW2⟩:∃W2,wr.alloc (mO a)=W2:=⟨_,rfl⟩;rw[hW2]at HX HS q2;unfold mO at hW2;obtain⟨D,hD⟩:∃D,wr.heap.size=D:=⟨_,rfl⟩;obtain⟨mk,hmk⟩:∃mk,aP.new (L.take j)=mk:=⟨_,rfl⟩;rw[hmk]at HS hlen;rw[hlen]at HS;rw[hD]at HX HS;replace HX:=hide HX;have HS2:Hid (∀(W4:World) (x2:SG),x2.B=D->mZ x2 (Dt a) W4->Fx (λq=>q=D) W2 W4->(∀q,lC x2 (Dt a) q->D<=q)->∃ao cc,y.sv=.slice ao j cc∧W4.cell? ⟨M,1,none⟩=some (.slice ao j cc)∧(W4.alloc (.cells #[.pointer (some ⟨D,0,none⟩)] 94)).ownsRow 0 94 1 (.slice ao j cc) j (LJ y.L)∧∀(v7:Value) (w7:World),w7.ownsRow 0 94 1 v7 (j+1) (LJ y.L++ [.pointer (some ⟨D,0,none⟩)])->(W4.alloc (.cells #[.pointer (some ⟨D,0,none⟩)] 94)).grownBy w7 (Value.slice ao j cc).ownBlock->(v7.ownBlock=(Value.slice ao j cc).ownBlock∨v7.ownBlock=some (W4.alloc (.cells #[.pointer (some ⟨D,0,none⟩)] 94)).heap.size)->(w7.cell? ⟨M,1,none⟩=some (.slice ao j cc)∧w7.frozen? ⟨M,1,none⟩=false)∧Hid (NwI M w L (j+1) (w7.setCell ⟨M,1,none⟩ v7))):=by
    refine hide λW4 x2 p1 p2 p3 p4=> ?_;obtain⟨CU,hnx⟩:=HS W4 x2 p1 p2 p3 p4;obtain⟨ao,cc,hsv,_⟩:=ay CU.Ai;rw[hlen]at hsv;have hs5:=(CU.later ((aU W4.heap.size W4).alloc (aB _) (.cells #[.pointer (some ⟨D,0,none⟩)] 94))).Ai;have c1:=CU.cell.2.1;rw[hsv,hlen]at hs5;rw[hG,hsv]at c1;rw[hsv]at hnx;exact⟨ao,cc,hsv,c1,hs5,hnx⟩
   have hsrc:Hid (∀W4:World,Src Tryz.prog 1 95 (.slice (some ⟨W4.heap.size,0,none⟩) 1 1) 1 [.pointer (some ⟨D,0,none⟩)] (W4.alloc (.cells #[.pointer (some ⟨D,0,none⟩)] 94))):=hide λW4=>Src.ofRow (base:=0) (e':=94) (e:=94) Tryz.underlying95 ⟨rfl,.inr ⟨W4.heap.size,1,_,rfl,b_ _,bS _ _,aB _,by decide,rfl,rfl⟩⟩ (λu hu=>by
    rw[dO]at hu;subst hu;rfl)
   have hmx:Hid (j+1<=maxLen∧(j+1)* 8<=140737488355328):=by unfold maxLen;exact hide (by omega)
   clear HS hm hf hge hlen hmk ha q0 hG hr;go_upto_region 8 with(fail);clear hW2 hD k0;go_wp2_with(first
    |(go_at_call 37;refine HX.out.mono ?_;rintro e W3 ⟨aJ,bL,bO,rfl,HW⟩)
    |(go_at_call 62;refine HW.out.mono ?_;rintro e W4 ⟨rfl,x2,hB2,hm2,hf2,adJ⟩;obtain⟨ao,cc,hsv,c1,hs5,hnx⟩:=HS2.out W4 x2 hB2 hm2 hf2 adJ;have hsr:=hsrc.out W4;replace hnx:=hide hnx;clear hB2 hm2 hf2 adJ HW hsv)
    |(at_builtin;refine uU rfl _ _ _ _ rfl 0 94 i0 (.pointer none) 1 8 Tryz.underlying95 hi hz0 hz1 hz2 rfl (.slice ao j cc) j (LJ y.L) rfl hs5 _ 1 [.pointer (some ⟨D,0,none⟩)] rfl hsr hmx.out.1 hmx.out.2 (b_ _) ?_;intro v7 w7 ho hg hv;obtain⟨⟨g1,g2⟩,hnw⟩:=hnx.out v7 w7 ho hg hv;obtain⟨Rf,U_,rfl,_⟩:=ay ho;clear ho hg hv hnx hs5 hsr))
   go_roundw
   case rel=>exact⟨j+1,by omega,by go_num,hnw⟩
   case measure=>simp[intOf];omega
  ·obtain rfl:j=n:=by omega
   obtain⟨y,hG,hm,hf,hge⟩:=hr.out;rw[jD (Nat.le_of_eq hL)]at hm hge;have hfin:Hid (∃y:MG,y.G=M∧MM y (aP.new L) wr∧Fx (λ_=>False) w wr∧∀q,uP y (aP.new L) q->w.heap.size<=q):=⟨y,hG,hm,hf,hge⟩;clear hm hf hge hG hr hc h0 hU;go_wp2;go_returns;obtain⟨y,hG,hm,hf,hge⟩:=hfin.out;exact⟨y,by rw[hG];rfl,hm,hf,hge⟩
variable{m:aP}
theorem aar{a:Int}(hU:a_ a)(h0:a≠0):C_ 1 0 0 (Dt a):=by
 have hs:C_ 1 0 0 ⟨a,[],none,List.replicate 6 false,false,0⟩:=⟨hU,h0,λx h=>(by cases h),b_ _,fo _,λz hz=>(by cases hz),λz hz=>(by cases hz)⟩;have hp:=EZ hs (fo _) ⟨fo _,by decide⟩;dsimp only at hp;have hne:(St.new a [] 0).ot.bg≠ []∨(St.new a [] 0).ot.bn=true:=by
  refine .inl λe=> ?_;have h1:=hp.no;have h2:=hp.yes;have h3:=hp.pos;have e':(St.new a [] 0).bg=[]:=e;dsimp only at h1 h2 h3;rw[e']at h1 h2;cases hr:(St.new a [] 0).bn with
  |false=>
   have h4:=h1 hr;simp only[List.length_nil]at h4;omega
  |true=>
   have h4:=h2 hr;simp only[List.length_nil]at h4;omega
 have hwe:=bG.jX (s:=⟨a,[],some (St.new a [] 0),List.replicate 6 false,false,0⟩) hne rfl;have hs2:(bG.write ⟨a,[],some (St.new a [] 0),List.replicate 6 false,false,0⟩ (St.new a [] 0).ot).1=Dt a:=by
  rw[hwe];unfold Dt;dsimp only;split<;>rfl
 have:=hp.write;rw[hs2]at this;exact this
theorem M9{L:List Int}(hn:L.length<=6)(hU:∀a∈L,a_ a)(h0:∀a∈L,a≠0):iX 1 0 (aP.new L)∧qH (aP.new L):=by
 refine⟨⟨by rw[E5];exact hn,b_ _,⟨fo _,by show(0:Int)<=4611686018427387904;decide⟩,λs hs=> ?_⟩,λf hf=>by cases hf⟩;obtain⟨a,ha,rfl⟩:=dh.1 hs;exact aar (hU a ha) (h0 a ha)
def QW(L:List (Int×ByteArray)):Prop:=∀f∈L,f.2.size<=65536
theorem qH.launch(h:qH m){i j:Nat}{b:ByteArray}(hi:i<m.S.length)(hj:j<m.S.length)(hb:b.size<=65536):qH (m.launch (i,j,b)):=by
 intro f hf;have h1:∀f∈m.bD++ [(i,j,b)],f.1<m.S.length∧f.2.1<m.S.length∧f.2.2.size<=65536:=by
  intro f hf;rcases dG.1 hf with hf|hf
  ·exact h f hf
  ·rw[dO]at hf;subst hf;exact⟨hi,hj,hb⟩
 unfold aP.launch at hf;dsimp only at hf;split at hf
 ·exact h1 f (List.mem_of_mem_tail hf)
 ·exact h1 f hf
theorem qH.put(h:qH m)(i:Nat)(s:bG):qH (m.put i s):=by
 intro f hf;rw[(gQ _ _ _).1,List.length_set];exact h f hf
theorem qH.foldl{i:Nat}{b:ByteArray}(hb:b.size<=65536):∀(l:List Nat) (m:aP),qH m->i<m.S.length->(∀j∈l,j<m.S.length)->qH (l.foldl (λm j=>m.launch (i,j,b)) m)
 | [],_,h,_,_=>h
 |a::l,m,h,hi,hl=>by
  rw[fP];exact qH.foldl hb l _ (h.launch hi (hl a (gm ..)) hb) hi λj hj=>hl j (iJ _ hj)
theorem qH.bK(h:qH m){i:Nat}{f:Int×ByteArray}(hi:i<m.S.length)(hb:f.2.size<=65536):qH (m.bK i f):=by
 refine qH.foldl hb _ _ h hi λj hj=> ?_;unfold aP.heard at hj;exact List.mem_range.1 (List.mem_filter.1 hj).1
variable{c:sN}{n:Nat}{s s':St}
theorem Qn{p:aD}{L:List (Int×Int)}(h:L=[]∨L.length=p.ln):(strOfNums (jU p L)).size<=65536:=by
 have hs:∀xs:List Int,(strOfNums xs).size=xs.length:=λxs=>by simp[strOfNums,ByteArray.size]
 rw[hs];unfold jU;split
 ·rename_i hg;obtain⟨hl,_,_,_,_,hp,hk⟩:=eY hg;have hln:p.ln<=8:=by
   have h1:=(pU hl).1;rcases hk with hk|hk|hk|hk
   ·rw[h1];simp[aD.dz,hk]
   ·rw[h1];simp[aD.dz,hk]
   ·rw[h1];simp[aD.dz,hk]
   ·exact hk.2.2
  have hL:L.length<=8:=by
   rcases h with h|h
   ·rw[h];exact b_ _
   ·omega
  have h1:=vI p p.nums.length;have h2:(iw L L.length).length<=64:=by
   unfold iw;rw[List.take_length,xS];omega
  simp only[zF,dx,aD.head,dY,List.length_nil,bW];omega
 ·exact b_ _
theorem ab0(h:Pr c s s')(hs:∀f∈s.aI,f.2.size<=65536):∀f∈s'.aI,f.2.size<=65536:=by
 cases h with
 |zw h=>rw[h.aI];exact hs
 |tab _=>exact hs
 |aJ t p L _ hz=>
  intro f hf;rcases dG.1 (show f∈s.aI++ [(t,strOfNums (jU p L))]from hf)with hf|hf
  ·exact hs f hf
  ·rw[dO]at hf;subst hf;exact Qn hz
 |grw=>exact hs
 |mx _ _ _ _=>exact hs
 |wr=>exact hs
theorem YF(h:fU c n s s')(hs:∀f∈s.aI,f.2.size<=65536):∀f∈s'.aI,f.2.size<=65536:=by
 induction h with
 |nil=>exact hs
 |snoc _ k ih=>exact ab0 k (ih hs)
theorem vT{now:Int}(h:fU c n (s.locked.begin now) s'):∀f∈s'.finish.freed.aI,f.2.size<=65536:=by
 have h1:=YF h (λf hf=>by cases hf);rw[show s'.finish.freed.aI=s'.aI from(aO s').aI];exact h1
end Go.Proofs.YtakaadcpaeiccabGreat
