import Derived.Test.YtakaadcpaeiccabGreatV22
set_option maxHeartbeats 8000000
set_option maxRecDepth 100000
namespace Go.Proofs.YtakaadcpaeiccabGreat
open Go.RowKit Go.Maps
variable{a κ:Int}{m:aM}{q:Nat}{s:eB}
theorem kI(h:m.has a=true):∃i:Nat,a=i∧i<m.S.length:=by
 unfold aM.has at h;rw[jr,decide_eq_true_iff,decide_eq_true_iff]at h;exact⟨a.toNat,(Int.toNat_of_nonneg h.1).symm,by omega⟩
theorem lH(h:m.runs a=true):∃i:Nat,a=i∧i<m.S.length:=kI (Bool.and_eq_true_iff.1 h).1
theorem VN{now:Int}(h:Cj κ q now s):Cj κ q now s.stop:=
 ⟨h.addr,h.a0,h.jb,h.jl,gP _,λ_ hz=>(by cases hz),λ_ hz=>(by cases hz)⟩
theorem Vy{now:Int}(h:Cj κ q now s)(n:Int):Cj κ q now {s with tears:=true,whole:=max 0 n}:=
 ⟨h.addr,h.a0,h.jb,h.jl,Int.le_max_left _ _,λz hz=>(h.nd z hz).up (gP _) (aB _) (gP _) rfl,h.jn⟩
theorem ja.put'(h:ja κ q m)(i:Nat){s:eB}(hs:Cj κ q m.now s):ja κ q (m.put i s):=by
 refine⟨by rw[(fJ _ _ _).1,List.length_set];exact h.n,h.aT,h.now,λu hu=> ?_⟩;rw[(fJ _ _ _).1]at hu;rcases List.mem_or_eq_of_mem_set hu with hu|rfl
 ·exact h.st u hu
 ·exact hs
theorem WO(h:ja κ q m)(a b:Nat)(ha:a<m.S.length)(hb:b<m.S.length)(on:Bool):ja κ q (m.link a b on):=by
 have hs:∀(m:aM),ja κ q m->∀c,c<m.S.length->∀L:List Bool,ja κ q (m.put c {m.at' c with hrs:=L}):=λm hm c hc L=>by
  refine hm.put' c ?_;have h2:=hm.at (bS hc);rw[<-dR (bS hc)]at h2;exact⟨h2.addr,h2.a0,h2.jb,h2.jl,h2.wh,λz hz=>(h2.nd z hz).up (gP _) (aB _) (gP _) rfl,h2.jn⟩
 unfold aM.link;split
 ·exact h
 ·exact hs _ (hs m h a ha _) b (by rw[(fJ _ _ _).1,List.length_set];exact hb) _
@[reducible] def SBo(G g i B D : Nat)(now : Int)(sv : Value)(W : World): Prop :=
 (W.cell? ⟨G,0,none⟩=some (.int .u64 now)∧W.cell? ⟨G,1,none⟩=some sv∧W.cell? ⟨g,i,none⟩=some (.pointer (some ⟨B,0,none⟩))∧W.cell? ⟨D,1,none⟩=some (.int .i64 i))∧G<W.heap.size∧g<W.heap.size∧D<W.heap.size
theorem SBo.keep{G g i B D:Nat}{now:Int}{sv:Value}{W W':World}(h:SBo G g i B D now sv W)(hz:W.heap.size<=W'.heap.size)(hb:∀k,k=G∨k=g∨k=D->W'.heap[k]?=W.heap[k]?):SBo G g i B D now sv W':=by
 obtain⟨⟨c0,c1,c2,c3⟩,h1,h2,h3⟩:=h;exact⟨⟨(World.cell?_of_block (a:=⟨G,0,none⟩) (hb _ (.inl rfl))).trans c0,(World.cell?_of_block (a:=⟨G,1,none⟩) (hb _ (.inl rfl))).trans c1,(World.cell?_of_block (a:=⟨g,i,none⟩) (hb _ (.inr (.inl rfl)))).trans c2,(World.cell?_of_block (a:=⟨D,1,none⟩) (hb _ (.inr (.inr rfl)))).trans c3⟩,fZ h1 hz,fZ h2 hz,fZ h3 hz⟩
theorem ae2{y:MG}{w:World}(h:MM y m w){κ:Int}{q:Nat}(hok:ja κ q m)(Hf:0<=κ∧κ<=90000000000)(hq:q<=4990)(di:m.now+60000<=4611686018427387904)(hfl:qw m)(o:Op)(ht:o.fe=8->o.txt.size<=65536)(hbt:∀i:Nat,o.a=i->i<m.S.length->(m.at' i).nd=none->FI (m.at' i) m.now∧Ct κ q (m.put i {m.at' i with nd:=some (St.new (m.at' i).addr (m.at' i).bH m.now)}) i (St.new (m.at' i).addr (m.at' i).bH m.now)):
  Calls Tryz.prog 11 #[.pointer (some ⟨y.G,0,none⟩),Ee o] w λe w'=>jK y m (m.step o).1 (m.step o).2 w.heap.size w e w'∧ja (κ+1000000) (q+1) (m.step o).1:=by
 have hb0:Below w.heap.size w (w.alloc (.cells #[.int .i64 o.fe,.int .i64 o.a,.int .i64 o.b,.int .i64 o.n,.bool o.on,.string o.txt] 28)):=bC;have hC:=bV w (.cells #[.int .i64 o.fe,.int .i64 o.a,.int .i64 o.b,.int .i64 o.n,.bool o.on,.string o.txt] 28);have h1:=h.later hb0;have HM:=hide λW (hW:MM y m W)=>adn hW o;have hstep:∀r,m.may o=true->r=(if o.fe=1 then(m.link o.a.toNat o.b.toNat o.on,[])else if o.fe=2 then m.send o.a.toNat o.b.toNat o.txt else if o.fe=3 then m.tick o.n else if o.fe=4∨o.fe=5∨o.fe=6∨o.fe=7 then m.flight o else if o.fe=8 then m.hear o.a.toNat o.b.toNat o.txt else if o.fe=9 then(m.put o.a.toNat (m.at' o.a.toNat).stop,[])else if o.fe=10 then(m.put o.a.toNat {m.at' o.a.toNat with tears:=true,whole:=max 0 o.n},[])else if o.fe=11 then m.IB o.a.toNat else(m,[]))->m.step o=r:=by
  intro r hm hr;rw[hr];unfold aM.step;rw[ay (by rw[hm];decide)]
 cases hmay:m.may o with
 |false=>
  have ho:m.step o=(m,[⟨0,5,Ot.none⟩]):=by
   unfold aM.step;rw[aI (by rw[hmay];rfl)]
  rw[ho];have hfin:Hid (∀wc,Below w.heap.size w wc->jK y m m [⟨0,5,Ot.none⟩] w.heap.size w (.returned (.slice (some ⟨wc.heap.size,0,none⟩) 1 1)) (wc.alloc (.cells #[.int .i64 0,.int .i64 5,.string ⟨#[]⟩,.bool false,.slice none 0 0,.slice none 0 0,.slice none 0 0] 54))∧ja (κ+1000000) (q+1) m):=by
   intro wc hb;have hev:=EY (b:=w.heap.size) (W:=wc) (x:=(⟨0,5,Ot.none⟩,⟨.slice none 0 0,.slice none 0 0,.slice none 0 0⟩)) hb.size ⟨⟨rfl,.inl ⟨rfl,rfl⟩⟩,⟨rfl,.inl ⟨rfl,rfl⟩⟩,⟨rfl,.inl ⟨rfl,rfl⟩⟩⟩;exact⟨⟨_,_,rfl,rfl,hev,(MP.refl h).post (hb.alloc hb.size _)⟩,hok.up (by omega) (Nat.le_succ _)⟩
  rw[hmay]at HM;obtain⟨fe,a,b,n,on,txt⟩:=o;unfold Ee at HM ⊢;dsimp only at hb0 hC h1 HM ⊢;clear hstep hok hfl h ho hbt;go_enter Tryz.func11,Tryz.ntmps11;go_upto_region 1 with(fail);generalize World.alloc _ _=W1 at hb0 hC h1 ⊢;have Tv:=aG hC;have t0:W1.cell? ⟨w.heap.size,0,none⟩=some (.int .i64 fe):=aJ _ _ 0 _ _ _ hC;have t1:W1.cell? ⟨w.heap.size,1,none⟩=some (.int .i64 a):=aJ _ _ 1 _ _ _ hC;have t2:W1.cell? ⟨w.heap.size,2,none⟩=some (.int .i64 b):=aJ _ _ 2 _ _ _ hC;have t3:W1.cell? ⟨w.heap.size,3,none⟩=some (.int .i64 n):=aJ _ _ 3 _ _ _ hC;have t4:W1.cell? ⟨w.heap.size,4,none⟩=some (.bool on):=aJ _ _ 4 _ _ _ hC;have t5:W1.cell? ⟨w.heap.size,5,none⟩=some (.string txt):=aJ _ _ 5 _ _ _ hC;go_upto_region 2 with(go_at_call 28;refine(HM.out W1 h1).mono ?_;rintro e w2 ⟨rfl,hb2⟩);have hfn:=hide (hfin.out _ (hb0.trans (hb2.mono (Nat.le_of_lt Tv))));clear hfin HM hb0 hb2 hC t0 t1 t2 t3 t4 t5;go_wp2;go_ret;exact hfn.out
 |true=>
  rw[hmay]at HM;obtain⟨fe,a,b,n,on,txt⟩:=o;unfold Ee at HM ⊢;dsimp only at hb0 hC h1 HM ht hstep hbt ⊢;replace ht:=hide ht;have hstep:=λr=>hstep r hmay;obtain⟨r,hr⟩:∃r,m.step ⟨fe,a,b,n,on,txt⟩=r:=⟨_,rfl⟩;rw[hr]at hstep ⊢;clear hr;go_enter Tryz.func11,Tryz.ntmps11;go_upto_region 1 with(fail);generalize World.alloc _ _=W1 at hb0 hC h1 ⊢;have Tv:=aG hC;have t0:W1.cell? ⟨w.heap.size,0,none⟩=some (.int .i64 fe):=aJ _ _ 0 _ _ _ hC;have t1:W1.cell? ⟨w.heap.size,1,none⟩=some (.int .i64 a):=aJ _ _ 1 _ _ _ hC;have t2:W1.cell? ⟨w.heap.size,2,none⟩=some (.int .i64 b):=aJ _ _ 2 _ _ _ hC;have t3:W1.cell? ⟨w.heap.size,3,none⟩=some (.int .i64 n):=aJ _ _ 3 _ _ _ hC;have t4:W1.cell? ⟨w.heap.size,4,none⟩=some (.bool on):=aJ _ _ 4 _ _ _ hC;have t5:W1.cell? ⟨w.heap.size,5,none⟩=some (.string txt):=aJ _ _ 5 _ _ _ hC;replace hmay:=hide hmay;replace hstep:=hide hstep;go_upto_region 3 with(go_at_call 28;refine(HM.out W1 h1).mono ?_;rintro e w2 ⟨rfl,hb2⟩);have hC2:=(hb2.block _ Tv).trans hC;clear t0 t1 t2 t3 t4 t5;have t0:w2.cell? ⟨w.heap.size,0,none⟩=some (.int .i64 fe):=aJ _ _ 0 _ _ _ hC2;have t1:w2.cell? ⟨w.heap.size,1,none⟩=some (.int .i64 a):=aJ _ _ 1 _ _ _ hC2;have t2:w2.cell? ⟨w.heap.size,2,none⟩=some (.int .i64 b):=aJ _ _ 2 _ _ _ hC2;have t3:w2.cell? ⟨w.heap.size,3,none⟩=some (.int .i64 n):=aJ _ _ 3 _ _ _ hC2;have t4:w2.cell? ⟨w.heap.size,4,none⟩=some (.bool on):=aJ _ _ 4 _ _ _ hC2;have t5:w2.cell? ⟨w.heap.size,5,none⟩=some (.string txt):=aJ _ _ 5 _ _ _ hC2;have hm2:=h1.later hb2;have hb3:=hb0.trans (hb2.mono (Nat.le_of_lt Tv));have HF:=hide λ(e:Ending) w4 (hp:jK y m r.1 r.2 w2.heap.size w2 e w4)=>(show jK y m r.1 r.2 w.heap.size w e w4 by
   obtain⟨v,L,rfl,hL,hev,hmp⟩:=hp;exact⟨v,L,rfl,hL,hev.lower hb3.size,hmp.pre hb3⟩)
  have HE:=hide λw4 (he: []=r.2) (hp:MP y m r.1 w2 w4)=>(show jK y m r.1 r.2 w.heap.size w (.returned (.slice none 0 0)) w4 from⟨_,[],rfl,he,gL.nil _ _,hp.pre hb3⟩);have HQ:=hide λmd (hk:ja κ q md)=>(show ja (κ+1000000) (q+1) md from hk.up (by omega) (Nat.le_succ _));clear HM hb0 hb2 hC h1 h Tv hb3;by_cases d1:fe=1
  ·subst d1;have hm:=hmay.out;unfold aM.may at hm;dsimp only at hm;rw[aI rfl,jr]at hm;obtain⟨i,rfl,hi⟩:=kI hm.1;obtain⟨j,rfl,hj⟩:=kI hm.2;have er:=(hstep.out (m.link i j on,[]) (by rw[aI rfl];simp only[iU])).symm;have Jg:m.link i j on=r.1:=congrArg Prod.fst er;have YQ:=hide (show []=r.2 from congrArg Prod.snd er);have HX:=abu hm2 i j hi hj hok.n on;have hk:=HQ.out _ (WO hok i j hi hj on);rw[Jg]at HX hk;replace HX:=hide HX;replace hk:=hide hk;clear hm hmay hstep hok hfl hbt hm2 HF HQ er Jg;go_wp2_with(go_at_call 29;refine HX.out.mono ?_;rintro e w4 ⟨rfl,hmp⟩;have hfin:=hide (HE.out _ YQ.out hmp);clear hmp);go_ret;exact⟨hfin.out,hk.out⟩
  by_cases d2:fe=2
  ·subst d2;have hm:=hmay.out;unfold aM.may at hm;dsimp only at hm;rw[ay (by decide),aI (.inl rfl),jr]at hm;obtain⟨i,rfl,hi⟩:=lH hm.1;obtain⟨j,rfl,hj⟩:=kI hm.2;have er:=(hstep.out (m.send i j txt) (by rw[ay (by decide),aI rfl];simp only[iU])).symm;have HX:=abt hm2 hok Hf (by omega) i j hi hj txt hm.1;rw[er]at HX;replace HX:=hide HX;clear hm hmay hstep hok hfl hbt hm2 HE HQ er;go_wp2_with(go_at_call 30;refine HX.out.mono ?_;rintro e w4 ⟨⟨v,L,rfl,hL,hev,hmp⟩,hmk⟩;have hfin:=hide (HF.out _ _ ⟨v,L,rfl,hL,hev,hmp⟩);replace hmk:=hide (hmk.up (show κ+200000<=κ+1000000 by omega) (aB _));clear hL hev hmp);go_ret;exact⟨hfin.out,hmk.out⟩
  by_cases d3:fe=3
  ·subst d3;have er:=(hstep.out (m.tick n) (by rw[ay (by decide),ay (by decide),aI rfl])).symm;have HX:=abr hm2 hok Hf hq n di;rw[er]at HX;replace HX:=hide HX;clear hmay hstep hok hfl hbt hm2 HE HQ er;go_wp2_with(go_at_call 31;refine HX.out.mono ?_;rintro e w4 ⟨⟨v,L,rfl,hL,hev,hmp⟩,hmk⟩;have hfin:=hide (HF.out _ _ ⟨v,L,rfl,hL,hev,hmp⟩);replace hmk:=hide (hmk.up (gP _) (Nat.le_succ q));clear hL hev hmp);go_ret;exact⟨hfin.out,hmk.out⟩
  by_cases d4:fe=4∨fe=5∨fe=6∨fe=7
  ·have er:=(hstep.out (m.flight ⟨fe,a,b,n,on,txt⟩) (by rw[ay d1,ay d2,ay d3,aI d4])).symm;have HX:=UJ hm2 hok Hf hfl ⟨fe,a,b,n,on,txt⟩ d4;rw[er]at HX;unfold Ee at HX;dsimp only at HX;replace HX:=hide HX;clear hmay hstep hok hfl hbt hm2 HE HQ er d1 d2 d3;rcases d4 with rfl|rfl|rfl|rfl;all_goals
    go_wp2_with(go_at_call 32;refine HX.out.mono ?_;rintro e w4 ⟨⟨v,L,rfl,hL,hev,hmp⟩,hmk⟩;have hfin:=hide (HF.out _ _ ⟨v,L,rfl,hL,hev,hmp⟩);replace hmk:=hide (hmk.up (show κ+200000<=κ+1000000 by omega) (Nat.le_succ q));clear hL hev hmp);go_ret;exact⟨hfin.out,hmk.out⟩
  by_cases d8:fe=8
  ·subst d8;have hm:=hmay.out;unfold aM.may at hm;dsimp only at hm;rw[ay (by decide),aI (.inr rfl),jr]at hm;obtain⟨i,rfl,hi⟩:=lH hm.1;obtain⟨j,rfl,hj⟩:=kI hm.2;have er:=(hstep.out (m.hear i j txt) (by rw[ay (by decide),ay (by decide),ay (by decide),ay (by decide),aI rfl];simp only[iU])).symm;have HX:=UH hm2 hok Hf i j hi hj txt (ht.out rfl);rw[er]at HX;replace HX:=hide HX;clear hm hmay hstep hok hfl hbt hm2 HE HQ er d4;go_wp2_with(go_at_call 33;refine HX.out.mono ?_;rintro e w4 ⟨⟨v,L,rfl,hL,hev,hmp⟩,hmk⟩;have hfin:=hide (HF.out _ _ ⟨v,L,rfl,hL,hev,hmp⟩);replace hmk:=hide (hmk.up (show κ+200000<=κ+1000000 by omega) (Nat.le_succ q));clear hL hev hmp);go_ret;exact⟨hfin.out,hmk.out⟩
  by_cases d9:fe=9
  ·subst d9;have hm:=hmay.out;unfold aM.may at hm;dsimp only at hm;rw[ay (by decide),ay (by decide),aI (.inl rfl)]at hm;obtain⟨i,rfl,hi⟩:=lH hm;have er:=(hstep.out (m.put i (m.at' i).stop,[]) (by rw[ay (by decide),ay (by decide),ay (by decide),ay (by decide),ay (by decide),aI rfl];simp only[iU])).symm;have Jg:m.put i (m.at' i).stop=r.1:=congrArg Prod.fst er;have YQ:=hide (show []=r.2 from congrArg Prod.snd er);obtain⟨x,s,g,c,e1,e2,e3,e4,p0⟩:=hm2.get hi;rw[e3]at Jg;have hmd:=hm2.drew;have HX:=hide ((Fs (hmd.st i x s e1 e2)).mono λe w4 hp=>show e=.returned (.tuple #[])∧MP y m r.1 w2 w4 by
    rw[<-Jg];exact⟨hp.1,(hmd.Zd e1 e2 hp.2).pre (aV _ _).drew⟩)
   have hk:=HQ.out _ (hok.put' i (VN (hok.at e2)));rw[Jg]at hk;replace hk:=hide hk;obtain⟨_,q1,_,_⟩:=hm2.cell;rw[e4]at q1;have hin:(i:Int)<(m.S.length:Int):=by omega
   clear hm hmay hstep hok hfl hbt hm2 HF HQ er Jg d4 hmd e1 e2 e3 e4;go_upto_region 18 with(fail);go_region_with(go_at_call 34;refine HX.out.mono ?_;rintro e w4 ⟨rfl,hmp⟩;have hfin:=hide (HE.out _ YQ.out hmp);clear hmp)
   all_goals
    go_wp2;go_ret;exact⟨hfin.out,hk.out⟩
  by_cases d10:fe=10
  ·subst d10;have hm:=hmay.out;unfold aM.may at hm;dsimp only at hm;rw[ay (by decide),ay (by decide),aI (.inr rfl)]at hm;obtain⟨i,rfl,hi⟩:=lH hm;have er:=(hstep.out (m.put i {m.at' i with tears:=true,whole:=max 0 n},[]) (by rw[ay (by decide),ay (by decide),ay (by decide),ay (by decide),ay (by decide),ay (by decide),aI rfl];simp only[iU])).symm;have Jg:m.put i {m.at' i with tears:=true,whole:=max 0 n}=r.1:=congrArg Prod.fst er;have YQ:=hide (show []=r.2 from congrArg Prod.snd er);obtain⟨x,s,g,c,e1,e2,e3,e4,p0⟩:=hm2.get hi;rw[e3]at Jg;have hmd:=hm2.drew;have HX:=hide ((Ya (hmd.st i x s e1 e2) n).mono λe w4 hp=>show e=.returned (.tuple #[])∧MP y m r.1 w2 w4 by
    rw[<-Jg];exact⟨hp.1,(hmd.Zd e1 e2 hp.2).pre (aV _ _).drew⟩)
   have hk:=HQ.out _ (hok.put' i (Vy (hok.at e2) n));rw[Jg]at hk;replace hk:=hide hk;obtain⟨_,q1,_,_⟩:=hm2.cell;rw[e4]at q1;have hin:(i:Int)<(m.S.length:Int):=by omega
   clear hm hmay hstep hok hfl hbt hm2 HF HQ er Jg d4 hmd e1 e2 e3 e4;go_upto_region 20 with(fail);go_region_with(go_at_call 35;refine HX.out.mono ?_;rintro e w4 ⟨rfl,hmp⟩;have hfin:=hide (HE.out _ YQ.out hmp);clear hmp)
   all_goals
    go_wp2;go_ret;exact⟨hfin.out,hk.out⟩
  by_cases d11:fe=11
  ·subst d11;have hm:=hmay.out;unfold aM.may at hm;dsimp only at hm;rw[ay (by decide),ay (by decide),ay (by decide),aI rfl,jr]at hm;obtain⟨i,rfl,hi⟩:=kI hm.1;obtain⟨x,s,g,c,e1,e2,e3,e4,p0⟩:=hm2.get hi;have hnd:(m.at' i).nd=none:=by
    have h5:=hm.2;unfold aM.runs at h5;rw[hm.1,iU]at h5;cases hn:(m.at' i).nd with
    |none=>rfl
    |some v=>
     rw[hn]at h5;cases h5
   obtain⟨Td,hdk⟩:=hbt i rfl hi hnd;have er:=(hstep.out (m.IB i) (by rw[ay (by decide),ay (by decide),ay (by decide),ay (by decide),ay (by decide),ay (by decide),ay (by decide),aI rfl];simp only[iU])).symm;unfold aM.IB at er;rw[e3]at hnd Td hdk er;rw[xJ e2]at er;have hHB:=λW (hW:m_ x s W)=>M4 hW hnd m.now Td;obtain⟨z,hz⟩:∃z,St.new s.addr s.bH m.now=z:=⟨_,rfl⟩;rw[hz]at hdk er hHB;obtain⟨m',hm'⟩:∃m',m.put i {s with nd:=some z}=m':=⟨_,rfl⟩;rw[hm']at hdk er;obtain⟨q0,q1,_,_⟩:=hm2.cell;rw[e4]at q1;have hin:(i:Int)<(m.S.length:Int):=by omega
   have hst:=hm2.st i x s e1 e2;have YN:=aG hm2.blk;have hgl:g<w2.heap.size:=World.block_lt_of_cell? _ _ p0;have hDl:w.heap.size<w2.heap.size:=World.block_lt_of_cell? _ _ t1;have hnF:∀k,k=y.G∨k=g∨k=w.heap.size->¬lm x s k:=by
    intro k hk hF;obtain⟨o,ho,hK⟩:=hst.kind hF;rcases hk with rfl|rfl|rfl
    ·rw[hm2.blk]at ho;cases ho;exact hK.not (by decide)
    ·obtain⟨cc,hc⟩:=aS hm2.zJ (k:=k) (by rw[e4];rfl);rw[hc]at ho;cases ho;exact hK.not (by decide)
    ·rw[hC2]at ho;cases ho;exact hK.not (by decide)
   have hS0:SBo y.G g i x.B w.heap.size m.now (.slice (some ⟨g,0,none⟩) m.S.length c) w2:=⟨⟨q0,q1,p0,t1⟩,YN,hgl,hDl⟩;have hS:=hS0.keep (W':=w2.drew) (aB _) (λ_ _=>rfl);have hd1:Below w2.heap.size w2 w2.drew:=(aV _ _).drew;have hmd:=hm2.drew;have HB2:=hide ((hHB w2.drew (hmd.st i x s e1 e2)).mono λe w4 hp=>show ∃aH bO bP y2,SBo y.G g i x.B w.heap.size m.now (.slice (some ⟨g,0,none⟩) m.S.length c) w4∧e=.returned (jg z.bH z.bB aH bO bP)∧iH w2.heap.size z.aF z.aO z.aP aH bO bP w4∧w2.heap.size<=w4.heap.size∧MM y2 m' w4∧MU y m y2 m' w2 w4 by
    obtain⟨aH,bO,bP,he,hp,hor⟩:=hp;obtain⟨y2,h5,h6⟩:=hmd.Zd e1 e2 hp;rw[hm']at h5 h6;have h7:=hp;obtain⟨_,_,_,hfx,_⟩:=h7;have hsz:=hfx.size;exact⟨aH,bO,bP,y2,hS.keep hsz λk hk=>hfx.block k (by rcases hk with rfl|rfl|rfl<;>assumption) (hnF k hk),he,hor,h6.fx.size,h5,h6.pre hd1⟩)
   obtain⟨B,hB⟩:∃B,x.B=B:=⟨_,rfl⟩;rw[hB]at HB2 hS;clear hm hmay hstep hok hfl hbt hm2 HE HQ d4 hmd e1 e2 e3 e4 Td hHB hz hm' hst YN hgl hDl hnF hS0 hB hd1;go_upto_region 22 with(fail);clear q0 q1 p0 t0 t1 t2 t3 t4 t5 hC2;refine mI (SBo y.G g i B w.heap.size m.now (.slice (some ⟨g,0,none⟩) m.S.length c)) [16,17] (by kernel_rfl) hS (λhHeld=> ?_);refine aQ (i:=0) (v:=?hv0) rfl (by kernel_rfl) (Or.inl ⟨by rfl,?hy0⟩) hHeld ?hr0
   case hy0=>
    rintro w5 ⟨⟨q0,q1,p0,t1⟩,_⟩;go_simp;try with_reducible rfl
   try go_frame
   refine aQ (i:=1) (v:=?hv1) rfl (by kernel_rfl) (Or.inl ⟨by rfl,?hy1⟩) hHeld ?hr1
   case hy1=>
    rintro w5 ⟨⟨q0,q1,p0,t1⟩,_⟩;go_simp;try with_reducible rfl
   try go_frame
   refine aQ (i:=2) (v:=?hv2) rfl (by kernel_rfl) (Or.inl ⟨by rfl,?hy2⟩) hHeld ?hr2
   case hy2=>
    rintro w5 ⟨⟨q0,q1,p0,t1⟩,_⟩;go_simp;try with_reducible rfl
   try go_frame
   refine aQ (i:=3) (v:=?hv3) rfl (by kernel_rfl) (Or.inl ⟨by rfl,?hy3⟩) hHeld ?hr3
   case hy3=>
    rintro w5 ⟨⟨q0,q1,p0,t1⟩,_⟩;go_simp;try with_reducible rfl
   try go_frame
   refine aQ (i:=4) (v:=?hv4) rfl (by kernel_rfl) (Or.inl ⟨by rfl,?hy4⟩) hHeld ?hr4
   case hy4=>
    rintro w5 ⟨⟨q0,q1,p0,t1⟩,_⟩;go_simp;try with_reducible rfl
   try go_frame
   refine aQ (i:=5) (v:=?hv5) rfl (by kernel_rfl) (Or.inl ⟨by rfl,?hy5⟩) hHeld ?nD
   case hy5=>
    rintro w5 ⟨⟨q0,q1,p0,t1⟩,_⟩;go_simp;try with_reducible rfl
   try go_frame
   refine aQ (i:=6) (v:=?hv6) rfl (by kernel_rfl) (Or.inl ⟨by rfl,?hy6⟩) hHeld ?uo
   case hy6=>
    rintro w5 ⟨⟨q0,q1,p0,t1⟩,_⟩;go_simp;try with_reducible rfl
   try go_frame
   refine aQ (i:=7) (v:=?hv7) rfl (by kernel_rfl) (Or.inl ⟨by rfl,?hy7⟩) hHeld ?zk
   case hy7=>
    rintro w5 ⟨⟨q0,q1,p0,t1⟩,_⟩;go_simp;try with_reducible rfl
   try go_frame
   refine aQ (i:=8) (v:=?hv8) rfl (by kernel_rfl) (Or.inl ⟨by rfl,?hy8⟩) hHeld ?iO
   case hy8=>
    rintro w5 ⟨⟨q0,q1,p0,t1⟩,_⟩;go_simp;try with_reducible rfl
   try go_frame
   refine aQ (i:=9) (v:=?hv9) rfl (by kernel_rfl) (Or.inl ⟨by rfl,?hy9⟩) hHeld ?mY
   case hy9=>
    rintro w5 ⟨⟨q0,q1,p0,t1⟩,_⟩;go_simp;try with_reducible rfl
   try go_frame
   refine aQ (i:=10) (v:=?ab1) rfl (by kernel_rfl) (Or.inl ⟨by rfl,?Sk⟩) hHeld ?acd
   case Sk=>
    rintro w5 ⟨⟨q0,q1,p0,t1⟩,_⟩;go_simp;try with_reducible rfl
   try go_frame
   refine aQ (i:=11) (v:=?ab0) rfl (by kernel_rfl) (Or.inl ⟨by rfl,?Sj⟩) hHeld ?ab9
   case Sj=>
    rintro w5 ⟨⟨q0,q1,p0,t1⟩,_⟩;go_simp;try with_reducible rfl
   try go_frame
   refine aQ (i:=12) (v:=?abZ) rfl (by kernel_rfl) (Or.inl ⟨by rfl,?Si⟩) hHeld ?ab8
   case Si=>
    rintro w5 ⟨⟨q0,q1,p0,t1⟩,_⟩;go_simp;try with_reducible rfl
   try go_frame
   refine aQ (i:=13) (v:=?adO) rfl (by kernel_rfl) (Or.inl ⟨by rfl,?ZY⟩) hHeld ?adY
   case ZY=>
    rintro w5 ⟨⟨q0,q1,p0,t1⟩,_⟩;go_simp;try with_reducible rfl
   try go_frame
   refine aQ (i:=14) (v:=?adN) rfl (by kernel_rfl) (Or.inl ⟨by rfl,?ZX⟩) hHeld ?adX
   case ZX=>
    rintro w5 ⟨⟨q0,q1,p0,t1⟩,_⟩;go_simp;try with_reducible rfl
   try go_frame
   refine gm (i:=15) (by kernel_rfl) rfl (λK2 hK2=> ?_);go_simp;go_at_call 37;refine HB2.out.mono ?_;rintro e w4 ⟨aH,bO,bP,y2,hS2,rfl,hor,hsz,Cb,U1⟩;have UN:=Fz Cb hdk aH bO bP w2.heap.size hor hsz;rw[U1.G]at UN;go_simp;refine hK2.out _ _ (λ_=>hS2) ?_;clear hK2 K2 HB2;refine gm (i:=16) (by kernel_rfl) rfl (λK3 hK3=> ?_);replace UN:=hide UN;replace U1:=hide U1;replace hdk:=hide hdk;clear hor Cb hS2 hHeld hS;go_simp;go_at_call 36;refine UN.out.mono ?_;rintro e w6 ⟨v,L,rfl,hL,hev,y3,OC,hu6⟩;have hfin:=HF.out (.returned v) w6 (by rw[<-er];exact⟨v,L,rfl,hL,hev,y3,OC,U1.out.trans hu6⟩);have hk:=(E9 hdk.out).up (show κ+100000<=κ+1000000 by omega) (Nat.le_succ q);rw[er]at hk;have OJ:=hide (And.intro hfin hk);clear hL hev OC hu6 UN U1 hdk HF hfin hk er;go_simp;refine hK3.out _ _ (λh=>(h (by decide)).elim) ?_;clear hK3 K3;refine gm (i:=17) (by kernel_rfl) rfl (λK4 hK4=> ?_);go_simp;refine hK4.out _ _ (λh=>(h (by decide)).elim) ?_;clear hK4 K4;refine qA (by kernel_rfl) ?_ _;go_wp2;go_ret;exact OJ.out
  ·have er:=(hstep.out (m,[]) (by rw[ay d1,ay d2,ay d3,ay d4,ay d8,ay d9,ay d10,ay d11])).symm;have Jg:m=r.1:=congrArg Prod.fst er;have YQ:=(show []=r.2 from congrArg Prod.snd er);have hfin:=HE.out w2 YQ (by rw[<-Jg];exact MP.refl hm2);have hk:=HQ.out _ hok;rw[Jg]at hk;have OJ:=hide (And.intro hfin hk);have d41:¬fe=4:=λe=>d4 (.inl e);have d42:¬fe=5:=λe=>d4 (.inr (.inl e));have d43:¬fe=6:=λe=>d4 (.inr (.inr (.inl e)));have d44:¬fe=7:=λe=>d4 (.inr (.inr (.inr e)));clear hmay hstep hok hfl hbt hm2 HF HQ HE er Jg YQ d4 hk hfin;go_wp2;go_ret;exact OJ.out
variable{κ:Int}{xs:List Int}{q:Nat}{s:eB}
theorem Og(q own:Int)(f:Int->Option Int)(A:List Rt)(h:own<q):0<(bK q own f A).2.length:=by
 have h1:∀(A:List Rt) (st:(Int->Option Int)×List (Bool×Int×Int)),0<st.2.length->0<(A.foldl mP st).2.length:=by
  intro A
  induction A with
  |nil=>intro st hs;exact hs
  |cons y A ih=>
   intro st hs;rw[gZ];refine ih _ ?_;unfold mP;split
   ·simp
   ·exact hs
 refine h1 A _ ?_;unfold qL;rw[aI h];exact Nat.succ_pos 0
theorem aaP{s:Int}(h:a_ s):0<gr s:=by unfold a_ gr at *;omega
theorem QH{me now:Int}(hbd:qg (jl xs)):0<(St.raw me xs now).write.bg.length:=by
 show 0<(([]:List (Bool×Int×Int))++(bK (gr ((sD (jl xs)).getD 0)) 0 _ _).2).length;rw[List.nil_append];exact Og _ _ _ _ (aaP (Gv hbd))
theorem abR{me now:Int}(hbd:qg (jl xs)):(∀y∈(St.raw me xs now).A,y.Ok)∧(St.raw me xs now).A.length<=8:=by
 have hc:=MQ hbd;have e:(St.raw me xs now).A=wS me ((cmpL (jl xs)).take (cmpL (jl xs)).length):=by rw[List.take_length];rfl
 rw[e];refine⟨λy hy=> ?_,Ej _ _ _⟩;obtain⟨j,x,_,hj,hp,rfl⟩:=Ei _ _ _ y hy;have hx1:x.1=false:=by
  unfold BS at hp;simp only[jr,Bool.not_eq_true']at hp;exact hp.1
 obtain⟨h1,h2⟩:=Rl hbd hc (iV hj) hx1;exact LG h1 h2
theorem ZG{now:Int}(h:Cj κ q now s)(Hf:1<=κ)(di:0<=now∧now<=4611686018427387904):Yh κ q now {s with nd:=some (St.new s.addr s.bH now)} (St.new s.addr s.bH now):=by
 have hbd:=R6 h.jb;have hm:=Li h.addr hbd di;obtain⟨hA,hl⟩:=abR (me:=s.addr) (now:=now) hbd;have hi:=Am hm (by omega) rfl hA hl;have e:=aR (St.raw s.addr s.bH now);rw[St.uf];refine⟨R9 hi (by omega),λa ha=> ?_,e.me,by rw[e.now];exact gP _,by rw[e.Q];exact dm _,by rw[e.A];exact hA,by rw[e.A];exact hl⟩;rw[e.Q]at ha;cases ha
theorem Em{now:Int}(h:Cj κ q now s)(Hf:1<=κ)(di:0<=now∧now<=4611686018427387904):IJ κ q now {s with nd:=some (St.new s.addr s.bH now)} (St.new s.addr s.bH now):=by
 have hbd:=R6 h.jb;have hn:=QH (me:=s.addr) (now:=now) hbd;have hc:KT 0 (St.new s.addr s.bH now):=by
  rw[St.uf];exact A7 (s:=St.raw s.addr s.bH now) rfl (.inr ⟨rfl,hn⟩)
 have hnw:0<(St.new s.addr s.bH now).bg.length:=by
  rw[St.uf];unfold St.finish;split
  ·show 0<(St.cmp _).length;rw[zo];exact Nat.succ_pos _
  ·exact hn
 refine⟨h.addr,h.a0,h.jb,h.jl,h.wh,rfl,ZG h Hf di,λhr=> ?_,λhr=>(hc.yes hr).1,?_⟩
 ·have hx:s.bH=[]:=by
   rw[St.uf]at hr;unfold St.finish at hr;split at hr
   ·cases hr
   ·have h5:decide (s.bH≠ [])=false:=hr;simpa using h5
  have:=hc.no hr;show 13 * (St.new s.addr s.bH now).cnt=((s.bH.length:Nat):Int)+_;rw[hx]at this ⊢;simp only[List.length_nil];omega
 ·cases hr:(St.new s.addr s.bH now).bB with
  |false=>
   have:=hc.no hr;omega
  |true=>
   have:=hc.yes hr;omega
theorem Ud{m:aM}(hok:ja κ q m)(Hf:1<=κ){i:Nat}(hi:i<m.S.length)(hfw:Na (jl (m.at' i).bH)):FI (m.at' i) m.now∧Ct κ q (m.put i {m.at' i with nd:=some (St.new (m.at' i).addr (m.at' i).bH m.now)}) i (St.new (m.at' i).addr (m.at' i).bH m.now):=by
 have hS:m.S[i]?=some (m.at' i):=by
  have h1:=bS hi;rw[dR h1];exact h1
 have hs:=hok.at hS;refine⟨⟨hs.addr,hs.a0,hs.jb,by have:=hs.jl;omega,hfw,hok.now⟩,⟨by rw[(fJ _ _ _).1,List.length_set];exact hok.n,hok.aT,hok.now,λj u hu hne=> ?_,⟨{m.at' i with nd:=some (St.new (m.at' i).addr (m.at' i).bH m.now)},by rw[(fJ _ _ _).1,List.getElem?_set_self hi],Em hs Hf hok.now⟩⟩⟩;rw[(fJ _ _ _).1,List.getElem?_set_ne (Ne.symm hne)]at hu;exact hok.at hu
theorem UM(ao:Option Addr)(g n c:Nat)(hao:0<n->ao=some ⟨g,0,none⟩)(L:List Int)(d:Int)(w:World)(hn:n<=100)(hc:∀k,k<n->w.cell? ⟨g,k,none⟩=some (.int .u32 (L.getD k 0)))(hd:∀k,k<n->L.getD k 0≠d):
  Calls Tryz.prog 136 #[.slice ao n c,.int .u32 d] w λe w'=>e=.returned (.int .i64 (-1))∧w'=w:=by
 go_enter Tryz.func136,Tryz.ntmps136;go_wp2_with fail;go_loopw [8] (λi wr=>∃(j:Nat),j<=n∧i=.int .i64 j∧wr=w) (λi _=>n - (intOf i).toNat)
 case atStart=>exact⟨0,dm _,rfl,rfl⟩
 case round=>
  obtain⟨j,hj,rfl,rfl⟩:=hrel;by_cases hlt:j<n
  ·have hix:(j:Int)<(n:Int):=by omega
   have hne:(d==L.getD j 0)=false:=by
    rw[beq_eq_false_iff_ne];exact λe=>hd j hlt e.symm
   have h0:=hc j hlt;obtain⟨x,hx⟩:∃x,L.getD j 0=x:=⟨_,rfl⟩;rw[hx]at h0 hne;cases hao (by omega);clear hc hd hx hao;go_wp2;go_roundw
   case rel=>exact⟨j+1,by omega,by go_num,by trivial⟩
   case measure=>simp[intOf];omega
  ·obtain rfl:j=n:=by omega
   clear hc hd hao;go_wp2;go_ret;exact⟨rfl,rfl⟩
theorem I5(ao:Option Addr)(g n c:Nat)(hao:0<n->ao=some ⟨g,0,none⟩)(L:List Int)(d:Int)(w:World)(hn:n<=100)(hc:∀k,k<n->w.cell? ⟨g,k,none⟩=some (.int .u32 (L.getD k 0)))(hd:∀k,k<n->L.getD k 0≠d):
  Calls Tryz.prog 97 #[.slice ao n c,.int .u32 d] w λe w'=>e=.returned (.bool false)∧w'=w:=by
 have HI:=hide (UM ao g n c hao L d w hn hc hd);clear hc hd hao;go_enter Tryz.func97,Tryz.ntmps97;go_wp2_with(go_at_call 136;refine HI.out.mono ?_;rintro e w2 ⟨rfl,hw⟩;replace hw:=hide hw);go_ret;exact⟨rfl,hw.out⟩
theorem XH(g n c:Nat)(L:List Int)(w:World)(hn:0<n∧n<=6)(hcap:n<=c)(hc:∀k,k<n->w.cell? ⟨g,k,none⟩=some (.int .u32 (L.getD k 0)))(h0:∀k,k<n->L.getD k 0≠0)(hd:∀j k,j<k->k<n->L.getD j 0≠L.getD k 0):
  Calls Tryz.prog 61 #[.slice (some ⟨g,0,none⟩) n c] w λe w'=>e=.returned (.bool true)∧w'=w:=by
 have hz:((n:Int)==0)=false:=by
  rw[beq_eq_false_iff_ne];omega
 have hs:decide ((n:Int)>6)=false:=eU (by omega);have hs':decide (6<(n:Int))=false:=eU (by omega);have hz':decide ((n:Int)=0)=false:=eU (by omega);have HC:=hide λ(k:Nat) (hk:k<n)=>I5 (some ⟨g,0,none⟩) g k c (λ_=>rfl) L (L.getD k 0) w (by omega) (λj hj=>hc j (by omega)) (λj hj=>hd j k hj hk);replace hc:=hide hc;replace h0:=hide h0;clear hd;go_enter Tryz.func61,Tryz.ntmps61;go_wp2_with fail;go_loopw [15] (λi wr=>∃(j:Nat),j<=n∧i=.int .i64 j∧wr=w) (λi _=>n - (intOf i).toNat)
 case atStart=>exact⟨0,dm _,rfl,rfl⟩
 case round=>
  obtain⟨j,hj,rfl,rfl⟩:=hrel;by_cases hlt:j<n
  ·have hix:(j:Int)<(n:Int):=by omega
   have hjc:(j:Int)<=(c:Int):=by omega
   have hne:(L.getD j 0==0)=false:=by
    rw[beq_eq_false_iff_ne];exact h0.out j hlt
   have k0:=hc.out j hlt;have HX:=hide (HC.out j hlt);obtain⟨x,hx⟩:∃x,L.getD j 0=x:=⟨_,rfl⟩;rw[hx]at k0 hne HX;clear hc h0 HC hx;go_wp2_with(go_at_call 97;refine HX.out.mono ?_;rintro e w2 ⟨rfl,hw⟩;obtain rfl:=hw);go_roundw
   case rel=>exact⟨j+1,by omega,by go_num,by trivial⟩
   case measure=>simp[intOf];omega
  ·obtain rfl:j=n:=by omega
   clear hc h0 HC;go_wp2;go_ret;exact⟨rfl,rfl⟩
variable{j:Nat}{α:Type}
theorem dY{L:List α}{a b:α}(h:(L++ [a])[j]?=some b):L[j]?=some b∨(j=L.length∧b=a):=by
 by_cases hj:j<L.length
 ·rw[List.getElem?_append_left hj]at h;exact .inl h
 ·rw[List.getElem?_append_right (by omega)]at h;obtain⟨h1,h2⟩:=fO.1 h;have h3:j - L.length=0:=by simpa using h1
  refine .inr ⟨by omega,?_⟩;simp only[h3,List.getElem_cons_zero]at h2;exact h2.symm
theorem lt_of_some{L:List α}{b:α}(h:L[j]?=some b):j<L.length:=(fO.1 h).1
theorem MM.add{y:MG}{m:aM}{W:World}(h:MM y m W){x:SG}{s:eB}(hx:m_ x s W)(hap:∀k,lm x s k->¬wE y m k){v7:Value}{w7:World}(ho:w7.ownsRow 0 94 1 v7 (m.S.length+1) (KE y.L++KE [x]))(hg:W.grownBy w7 y.sv.ownBlock)(hv:v7.ownBlock=y.sv.ownBlock∨v7.ownBlock=some W.heap.size):
  (w7.cell? ⟨y.G,1,none⟩=some y.sv∧w7.frozen? ⟨y.G,1,none⟩=false)∧MM {y with L:=y.L++ [x],sv:=v7} {m with S:=m.S++ [s]} (w7.setCell ⟨y.G,1,none⟩ v7)∧∀k,wE {y with L:=y.L++ [x],sv:=v7} {m with S:=m.S++ [s]} k->wE y m k∨lm x s k∨(W.heap.size<=k∧k<(w7.setCell ⟨y.G,1,none⟩ v7).heap.size):=by
 have hne:y.sv.ownBlock≠some y.G:=aL h.zJ h.blk (λc e=>(by cases e));have hblk:=hg.block _ (aG h.blk) λe=>hne e.symm;obtain⟨_,c1,_,fz⟩:=h.cell;have Mw:=hblk.trans h.blk;have hg2:w7.grownBy (w7.setCell ⟨y.G,1,none⟩ v7) (some y.G):=ah (aC _ (some y.G)) 1 _;have hsz:=hg.size;have hkeep:∀k,k<W.heap.size->k≠y.G->y.sv.ownBlock≠some k->(w7.setCell ⟨y.G,1,none⟩ v7).heap[k]?=W.heap[k]?:=λk hk h1 h2=>(hg2.block k (by omega) λe=>h1 (Option.some.inj e)).trans (hg.block k hk λe=>h2 e.symm);have hst:∀(i:Nat) z u,y.L[i]?=some z->m.S[i]?=some u->m_ z u (w7.setCell ⟨y.G,1,none⟩ v7):=λi z u h1 h2=>(h.st i z u h1 h2).kept λk hk=>by
  obtain⟨q1,q2,_⟩:=h.own h1 h2 hk;exact hkeep k ((h.st i z u h1 h2).lt hk) q1 q2
 have hxs:m_ x s (w7.setCell ⟨y.G,1,none⟩ v7):=hx.kept λk hk=>hkeep k (hx.lt hk) (λe=>hap k hk (.inl e)) λe=>hap k hk (.inr (.inl e));have hll:=h.len;refine⟨⟨(World.cell?_of_block (a:=⟨y.G,1,none⟩) hblk).trans c1,(World.frozen?_of_block (a:=⟨y.G,1,none⟩) hblk).trans (fz 1)⟩,⟨?_,?_,?_,?_,λi z u h1 h2=> ?_,λi j z u z' u' hij h1 h2 h3 h4 k hk hk'=> ?_⟩,λk hk=> ?_⟩
 ·simp[World.setCell,d_,Mw]
 ·have hr:=ho.kept hg2 (.inr (aL ho Mw (λc e=>(by cases e))));show World.ownsRow _ 0 _ 1 v7 (m.S++ [s]).length (KE (y.L++ [x]));rw[bU,show KE (y.L++ [x])=KE y.L++KE [x]from List.map_append];exact hr
 ·refine bQ h.aT λk hk=>hkeep k (h.aT.lt k hk).2 (λe=> ?_) λe=> ?_
  ·subst e;exact aL h.aT h.blk (λc e=>(by cases e)) hk
  ·rcases bX h.zJ h.aT (by decide)with q|q
   ·rw[q]at e;cases e
   ·exact q (e.trans hk.symm)
 ·show(y.L++ [x]).length=(m.S++ [s]).length;rw[bU,bU,hll];rfl
 ·rcases dY h1 with h1|⟨e1,rfl⟩
  ·rcases dY h2 with h2|⟨e2,_⟩
   ·exact hst i z u h1 h2
   ·have:=lt_of_some h1;omega
  ·rcases dY h2 with h2|⟨_,rfl⟩
   ·have:=lt_of_some h2;omega
   ·exact hxs
 ·rcases dY h1 with p1|⟨e1,rfl⟩
  ·rcases dY h2 with p2|⟨e2,_⟩
   ·rcases dY h3 with h3|⟨e3,rfl⟩
    ·rcases dY h4 with h4|⟨e4,_⟩
     ·exact h.ap i j z u z' u' hij p1 p2 h3 h4 k hk hk'
     ·have:=lt_of_some h3;omega
    ·rcases dY h4 with h4|⟨_,rfl⟩
     ·have:=lt_of_some h4;omega
     ·exact hap k hk' (.inr (.inr (.inr ⟨i,z,u,p1,p2,hk⟩)))
   ·have:=lt_of_some p1;omega
  ·rcases dY h2 with h2|⟨_,rfl⟩
   ·have:=lt_of_some h2;omega
   ·rcases dY h3 with h3|⟨e3,_⟩
    ·rcases dY h4 with h4|⟨e4,_⟩
     ·exact hap k hk (.inr (.inr (.inr ⟨j,z',u',h3,h4,hk'⟩)))
     ·have:=lt_of_some h3;omega
    ·exact absurd (e1.trans e3.symm) hij
 ·rcases hk with hk|hk|hk|⟨i,z,u,h1,h2,hk⟩
  ·exact .inl (.inl hk)
  ·rcases hv with e|e
   ·exact .inl (.inr (.inl (by rw[<-e];exact hk)))
   ·have h1:=(ho.lt k hk).2;rw[show({y with L:=y.L++ [x],sv:=v7}:MG).sv=v7 from rfl,e]at hk;cases hk;exact .inr (.inr ⟨aB _,by simpa using h1⟩)
  ·exact .inl (.inr (.inr (.inl hk)))
  ·rcases dY h1 with h1|⟨e1,rfl⟩
   ·rcases dY h2 with h2|⟨e2,_⟩
    ·exact .inl (.inr (.inr (.inr ⟨i,z,u,h1,h2,hk⟩)))
    ·have:=lt_of_some h1;omega
   ·rcases dY h2 with h2|⟨_,rfl⟩
    ·have:=lt_of_some h2;omega
    ·exact .inr (.inl hk)
theorem Rq:Nonempty bI:=⟨by repeat' (first|exact Value.slice none 0 0|exact(0:Nat)|exact(0:Int)|exact false|exact(⟨#[]⟩:ByteArray)|exact []|exact none|constructor|intro)⟩
def mO(a:Int):Obj:=.cells #[.int .u32 a,.slice none 0 0,.pointer none,.bool false,.bool false,.bool false,.bool false,.bool false,.bool false,.bool false,.int .i64 0] 102
def Jr(a:Int):eB:=⟨a,bD (St.new a [] 0).bg,some (St.new a [] 0),List.replicate 6 false,false,0⟩
theorem Zf(wr:World)(a:Int)(hU:a_ a)(h0:a≠0):Calls Tryz.prog 37 #[.pointer (some ⟨wr.heap.size,0,none⟩),.int .u64 0] (wr.alloc (mO a)) λe W3=>∃aH bO bP,e=.returned (jg (St.new a [] 0).bH (St.new a [] 0).bB aH bO bP)∧Hid (Calls Tryz.prog 62 #[.pointer (some ⟨wr.heap.size,0,none⟩),jg (St.new a [] 0).bH (St.new a [] 0).bB aH bO bP] W3 λe W4=>e=.returned (.bool true)∧∃x2:SG,x2.B=wr.heap.size∧m_ x2 (Jr a) W4∧Fx (λk=>k=wr.heap.size) (wr.alloc (mO a)) W4∧∀k,lm x2 (Jr a) k->wr.heap.size<=k):=by
 obtain⟨g0⟩:=Rq;have hx:m_ ⟨wr.heap.size,.slice none 0 0,0,g0,[]⟩ ⟨a,[],none,List.replicate 6 false,false,0⟩ (wr.alloc (mO a)):=
  ⟨bV _ _,rfl,⟨rfl,.inl ⟨rfl,rfl⟩⟩,λz hz=>(by cases hz)⟩
 have hs:Cj 1 0 0 ⟨a,[],none,List.replicate 6 false,false,0⟩:=⟨hU,h0,λx h=>(by cases h),dm _,gP _,λz hz=>(by cases hz),λz hz=>(by cases hz)⟩;have hp:=Em hs (gP _) ⟨gP _,by decide⟩;have hsz:(wr.alloc (mO a)).heap.size=wr.heap.size+1:=by simp
 have hin:∀k,lm ⟨wr.heap.size,.slice none 0 0,0,g0,[]⟩ ⟨a,[],none,List.replicate 6 false,false,0⟩ k->k=wr.heap.size:=by
  intro k hk;rcases hk with hk|hk|⟨z,hz,_⟩
  ·exact hk
  ·cases hk
  ·cases hz
 refine(M4 hx rfl 0 ⟨hU,h0,λx h=>(by cases h),dm _,⟨[],dm _,λa h=>(by cases h)⟩,⟨gP _,by decide⟩⟩).mono ?_;rintro e W3 ⟨aH,bO,bP,rfl,⟨x1,hB1,hm1,hf1,hu1⟩,_⟩;refine⟨aH,bO,bP,rfl,hide ?_⟩;dsimp only at hB1 hm1 hu1;have hnw:=hp.nwl;have hcn:=hp.nd.inv.bd;have HW:=IE hm1 (St.new a [] 0).ot aH bO bP hcn (by show(St.new a [] 0).bg.length<=_;dsimp only at hnw;omega) (dm _) (gP _);rw[hB1]at HW;have hne:(St.new a [] 0).ot.bg≠ []∨(St.new a [] 0).ot.bB=true:=by
  refine .inl λe=> ?_;have h1:=hp.no;have h2:=hp.yes;have h3:=hp.pos;have e':(St.new a [] 0).bg=[]:=e;dsimp only at h1 h2 h3;rw[e']at h1 h2;cases hr:(St.new a [] 0).bB with
  |false=>
   have h4:=h1 hr;simp only[List.length_nil]at h4;omega
  |true=>
   have h4:=h2 hr;simp only[List.length_nil]at h4;omega
 have hwe:=eB.j3 (s:=⟨a,[],some (St.new a [] 0),List.replicate 6 false,false,0⟩) hne rfl;have hs2:(eB.write ⟨a,[],some (St.new a [] 0),List.replicate 6 false,false,0⟩ (St.new a [] 0).ot).1=Jr a:=by
  rw[hwe];unfold Jr;dsimp only;split<;>rfl
 have hs3:(eB.write ⟨a,[],some (St.new a [] 0),List.replicate 6 false,false,0⟩ (St.new a [] 0).ot).2=true:=by rw[hwe]
 rw[hs2,hs3]at HW;refine HW.mono ?_;rintro e W4 ⟨rfl,x2,hB2,hm2,hf2,hu2⟩;have hz1:=hf1.size;refine⟨rfl,x2,hB2.trans hB1,hm2,(hf1.mono hin).trans hf2 λi hi hk=> ?_,λk hk=> ?_⟩
 ·rcases hu1 i hk with h|h
  ·exact hin i h
  ·omega
 ·rcases hu2 k hk with h|h
  ·rcases hu1 k h with h|h
   ·exact Nat.le_of_eq (hin k h).symm
   ·omega
  ·omega
variable{L:List Int}{k:Nat}
theorem Sg:(Tryz.prog.info? 94).map (λi=>(i.zero,i.size,i.bytes))=some (some (.pointer none),1,8):=by kernel_rfl
def NwI(M:Nat)(w:World)(L:List Int)(k:Nat)(wr:World):Prop:=∃y:MG,y.G=M∧MM y (aM.new (L.take k)) wr∧Fx (λ_=>False) w wr∧∀q,wE y (aM.new (L.take k)) q->w.heap.size<=q
theorem GH(hk:k<L.length):aM.new (L.take (k+1))={aM.new (L.take k)with S:=(aM.new (L.take k)).S++ [Jr (L.getD k 0)]}:=by
 unfold aM.new;rw[List.take_add_one,List.map_append]
 congr 1
 rw[List.getD_eq_getElem?_getD,bS hk];rfl
theorem LM(L:List Int):(aM.new L).S.length=L.length:=by
 unfold aM.new;rw[gY]
theorem Wu{M:Nat}{w wr:World}(hk:k<L.length){y:MG}(hG:y.G=M)(hm:MM y (aM.new (L.take k)) wr)(hf:Fx (λ_=>False) w wr)(hge:∀q,wE y (aM.new (L.take k)) q->w.heap.size<=q)(W4:World)(x2:SG)(hB:x2.B=wr.heap.size)(hx:m_ x2 (Jr (L.getD k 0)) W4)(h4:Fx (λq=>q=wr.heap.size) (wr.alloc (mO (L.getD k 0))) W4)(hxg:∀q,lm x2 (Jr (L.getD k 0)) q->wr.heap.size<=q):
  MM y (aM.new (L.take k)) W4∧∀(v7:Value) (w7:World),w7.ownsRow 0 94 1 v7 ((aM.new (L.take k)).S.length+1) (KE y.L++ [.pointer (some ⟨wr.heap.size,0,none⟩)])->(W4.alloc (.cells #[.pointer (some ⟨wr.heap.size,0,none⟩)] 94)).grownBy w7 y.sv.ownBlock->(v7.ownBlock=y.sv.ownBlock∨v7.ownBlock=some (W4.alloc (.cells #[.pointer (some ⟨wr.heap.size,0,none⟩)] 94)).heap.size)->(w7.cell? ⟨M,1,none⟩=some y.sv∧w7.frozen? ⟨M,1,none⟩=false)∧Hid (NwI M w L (k+1) (w7.setCell ⟨M,1,none⟩ v7)):=by
 subst hG;have hsz:(wr.alloc (mO (L.getD k 0))).heap.size=wr.heap.size+1:=by simp
 have hz4:=h4.size;have hm2:=hm.later ((aV wr.heap.size wr).alloc (aB _) (mO (L.getD k 0)));have Cb:MM y (aM.new (L.take k)) W4:=hm2.kept λq hq=>h4.block q (hm2.lt hq) λe=>by
  have:=hm.lt hq;omega
 refine⟨Cb,λv7 w7 ho hg hv=> ?_⟩;have hb5:Below W4.heap.size W4 (W4.alloc (.cells #[.pointer (some ⟨wr.heap.size,0,none⟩)] 94)):=bC;have hm5:=Cb.later hb5;rw[<-hB]at ho;obtain⟨c1,hm7,hin⟩:=hm5.add (hx.later hb5) (λq hq hq'=>by
  have h1:=hxg q hq;have h2:=hm.lt hq';omega) ho hg hv
 refine⟨c1,hide ⟨{y with L:=y.L++ [x2],sv:=v7},rfl,?_,?_,λq hq=> ?_⟩⟩
 ·rw[GH hk];exact hm7
 ·have f1:Fx (λ_=>False) w (wr.alloc (mO (L.getD k 0))):=hf.trans (S':=λ_=>False) (Fx.below ((aV wr.heap.size wr).alloc (aB _) _)) λ_ _ h=>h;have hzf:=hf.size;have f2:Fx (λ_=>False) w W4:=f1.trans h4 λi hi e=>by omega
  have f3:Fx (λ_=>False) w (W4.alloc (.cells #[.pointer (some ⟨wr.heap.size,0,none⟩)] 94)):=f2.trans (S':=λ_=>False) (Fx.below hb5) λ_ _ h=>h;have f4:Fx (λ_=>False) w w7:=aW f3 hg λi hi e=>by
   have:=hge i (.inr (.inl e));omega
  exact aW f4 (ah (aC w7 (some y.G)) 1 v7) λi hi e=>by
   cases e;have:=hge y.G (.inl rfl);omega
 ·rw[GH hk]at hq;have hzf:=hf.size;have afD:=hb5.size;rcases hin q hq with h|h|⟨h,_⟩
  ·exact hge q h
  ·have:=hxg q h;omega
  ·omega
theorem adp(g n c:Nat)(L:List Int)(w:World)(hL:L.length=n)(hn:0<n∧n<=6)(hcap:n<=c)(hU:∀k,k<n->a_ (L.getD k 0))(hgl:g<w.heap.size)(hc:∀k,k<n->w.cell? ⟨g,k,none⟩=some (.int .u32 (L.getD k 0)))(h0:∀k,k<n->L.getD k 0≠0)(hd:∀j k,j<k->k<n->L.getD j 0≠L.getD k 0):
  Calls Tryz.prog 27 #[.slice (some ⟨g,0,none⟩) n c] w λe w'=>∃y:MG,e=.returned (.tuple #[.pointer (some ⟨y.G,0,none⟩),.int .i64 0])∧MM y (aM.new L) w'∧Fx (λ_=>False) w w'∧∀q,wE y (aM.new L) q->w.heap.size<=q:=by
 have HFt:=hide (XH g n c L w hn hcap hc h0 hd);have hst:Hid (NwI w.heap.size w L 0 (w.alloc (.cells #[.int .u64 0,.slice none 0 0,.slice none 0 0] 97))):=by
  refine hide ⟨⟨w.heap.size,.slice none 0 0,.slice none 0 0,[]⟩,rfl,⟨bV _ _,⟨rfl,.inl ⟨rfl,rfl⟩⟩,⟨rfl,.inl ⟨rfl,rfl⟩⟩,rfl,λi x s h=>(by cases h),λi j x s x' s' _ h=>(by cases h)⟩,Fx.below (bC),λq hq=> ?_⟩;rcases hq with h|h|h|⟨i,x,s,h,_⟩
  ·exact Nat.le_of_eq h.symm
  ·cases h
  ·cases h
  ·cases h
 replace hc:=hide hc;replace h0:=hide h0;replace hU:=hide hU;obtain⟨i0,hi,hz0,hz1,hz2⟩:=info_parts Sg;go_enter Tryz.func27,Tryz.ntmps27;go_upto_region 4 with(go_at_call 61;refine HFt.out.mono ?_;rintro e w2 ⟨rfl,hw⟩;have hw2:=hw.symm;subst hw2);generalize World.alloc _ _=W1 at hst ⊢;generalize w.heap.size=M at hst ⊢;go_wp2_with fail;go_loopw [15] (λi wr=>∃(j:Nat),j<=n∧i=.int .i64 j∧Hid (NwI M w L j wr)) (λi _=>n - (intOf i).toNat)
 case atStart=>exact⟨0,dm _,rfl,hst⟩
 case round=>
  obtain⟨j,hj,rfl,hr⟩:=hrel;by_cases hlt:j<n
  ·have hlL:j<L.length:=by omega
   have hix:(j:Int)<(n:Int):=by omega
   obtain⟨y,hG,hm,hf,hge⟩:=hr.out;have k0:=(World.cell?_of_block (a:=⟨g,j,none⟩) (hf.block g hgl (λh=>h))).trans (hc.out j hlt);have HX:=Zf wr _ (hU.out j hlt) (h0.out j hlt);have HS:=Wu hlL hG hm hf hge;have hlen:(aM.new (L.take j)).S.length=j:=by
    rw[LM,List.length_take];omega
   have q0:wr.cell? ⟨M,0,none⟩=some (.int .u64 0):=by
    rw[<-hG];exact hm.cell.1
   obtain⟨a,ha⟩:∃a,L.getD j 0=a:=⟨_,rfl⟩;rw[ha]at k0 HX HS;have q2:=(((aV wr.heap.size wr).alloc (aB _) (mO a)).cell (World.block_lt_of_cell? _ _ q0)).trans q0;obtain⟨W2,hW2⟩:∃W2,wr.alloc (mO a)=W2:=⟨_,rfl⟩;rw[hW2]at HX HS q2;unfold mO at hW2;obtain⟨D,hD⟩:∃D,wr.heap.size=D:=⟨_,rfl⟩;obtain⟨mk,hmk⟩:∃mk,aM.new (L.take j)=mk:=⟨_,rfl⟩;rw[hmk]at HS hlen;rw[hlen]at HS;rw[hD]at HX HS;replace HX:=hide HX;have HS2:Hid (∀(W4:World) (x2:SG),x2.B=D->m_ x2 (Jr a) W4->Fx (λq=>q=D) W2 W4->(∀q,lm x2 (Jr a) q->D<=q)->∃ao cc,y.sv=.slice ao j cc∧W4.cell? ⟨M,1,none⟩=some (.slice ao j cc)∧(W4.alloc (.cells #[.pointer (some ⟨D,0,none⟩)] 94)).ownsRow 0 94 1 (.slice ao j cc) j (KE y.L)∧∀(v7:Value) (w7:World),w7.ownsRow 0 94 1 v7 (j+1) (KE y.L++ [.pointer (some ⟨D,0,none⟩)])->(W4.alloc (.cells #[.pointer (some ⟨D,0,none⟩)] 94)).grownBy w7 (Value.slice ao j cc).ownBlock->(v7.ownBlock=(Value.slice ao j cc).ownBlock∨v7.ownBlock=some (W4.alloc (.cells #[.pointer (some ⟨D,0,none⟩)] 94)).heap.size)->(w7.cell? ⟨M,1,none⟩=some (.slice ao j cc)∧w7.frozen? ⟨M,1,none⟩=false)∧Hid (NwI M w L (j+1) (w7.setCell ⟨M,1,none⟩ v7))):=by
    refine hide λW4 x2 p1 p2 p3 p4=> ?_;obtain⟨Cb,hnx⟩:=HS W4 x2 p1 p2 p3 p4;obtain⟨ao,cc,hsv,_⟩:=ax Cb.zJ;rw[hlen]at hsv;have hs5:=(Cb.later ((aV W4.heap.size W4).alloc (aB _) (.cells #[.pointer (some ⟨D,0,none⟩)] 94))).zJ;have c1:=Cb.cell.2.1;rw[hsv,hlen]at hs5;rw[hG,hsv]at c1;rw[hsv]at hnx;exact⟨ao,cc,hsv,c1,hs5,hnx⟩
   have hsrc:Hid (∀W4:World,Src Tryz.prog 1 95 (.slice (some ⟨W4.heap.size,0,none⟩) 1 1) 1 [.pointer (some ⟨D,0,none⟩)] (W4.alloc (.cells #[.pointer (some ⟨D,0,none⟩)] 94))):=hide λW4=>Src.ofRow (base:=0) (e':=94) (e:=94) Tryz.underlying95 ⟨rfl,.inr ⟨W4.heap.size,1,_,rfl,dm _,bV _ _,aB _,by decide,rfl,rfl⟩⟩ (λu hu=>by
    rw[fM]at hu;subst hu;rfl)
   have hmx:Hid (j+1<=maxLen∧(j+1)* 8<=140737488355328):=by unfold maxLen;exact hide (by omega)
   clear HS hm hf hge hlen hmk ha q0 hG hr;go_upto_region 8 with(fail);clear hW2 hD k0;go_wp2_with(first
    |(go_at_call 37;refine HX.out.mono ?_;rintro e W3 ⟨aH,bO,bP,rfl,HW⟩)
    |(go_at_call 62;refine HW.out.mono ?_;rintro e W4 ⟨rfl,x2,hB2,hm2,hf2,acB⟩;obtain⟨ao,cc,hsv,c1,hs5,hnx⟩:=HS2.out W4 x2 hB2 hm2 hf2 acB;have hsr:=hsrc.out W4;replace hnx:=hide hnx;clear hB2 hm2 hf2 acB HW hsv)
    |(at_builtin;refine nH rfl _ _ _ _ rfl 0 94 i0 (.pointer none) 1 8 Tryz.underlying95 hi hz0 hz1 hz2 rfl (.slice ao j cc) j (KE y.L) rfl hs5 _ 1 [.pointer (some ⟨D,0,none⟩)] rfl hsr hmx.out.1 hmx.out.2 (dm _) ?_;intro v7 w7 ho hg hv;obtain⟨⟨g1,g2⟩,hnw⟩:=hnx.out v7 w7 ho hg hv;obtain⟨Qc,Ua,rfl,_⟩:=ax ho;clear ho hg hv hnx hs5 hsr))
   go_roundw
   case rel=>exact⟨j+1,by omega,by go_num,hnw⟩
   case measure=>simp[intOf];omega
  ·obtain rfl:j=n:=by omega
   obtain⟨y,hG,hm,hf,hge⟩:=hr.out;rw[kN (Nat.le_of_eq hL)]at hm hge;have hfin:Hid (∃y:MG,y.G=M∧MM y (aM.new L) wr∧Fx (λ_=>False) w wr∧∀q,wE y (aM.new L) q->w.heap.size<=q):=⟨y,hG,hm,hf,hge⟩;clear hm hf hge hG hr hc h0 hU;go_wp2;go_returns;obtain⟨y,hG,hm,hf,hge⟩:=hfin.out;exact⟨y,by rw[hG];rfl,hm,hf,hge⟩
variable{m:aM}
theorem Zg{a:Int}(hU:a_ a)(h0:a≠0):Cj 1 0 0 (Jr a):=by
 have hs:Cj 1 0 0 ⟨a,[],none,List.replicate 6 false,false,0⟩:=⟨hU,h0,λx h=>(by cases h),dm _,gP _,λz hz=>(by cases hz),λz hz=>(by cases hz)⟩;have hp:=Em hs (gP _) ⟨gP _,by decide⟩;dsimp only at hp;have hne:(St.new a [] 0).ot.bg≠ []∨(St.new a [] 0).ot.bB=true:=by
  refine .inl λe=> ?_;have h1:=hp.no;have h2:=hp.yes;have h3:=hp.pos;have e':(St.new a [] 0).bg=[]:=e;dsimp only at h1 h2 h3;rw[e']at h1 h2;cases hr:(St.new a [] 0).bB with
  |false=>
   have h4:=h1 hr;simp only[List.length_nil]at h4;omega
  |true=>
   have h4:=h2 hr;simp only[List.length_nil]at h4;omega
 have hwe:=eB.j3 (s:=⟨a,[],some (St.new a [] 0),List.replicate 6 false,false,0⟩) hne rfl;have hs2:(eB.write ⟨a,[],some (St.new a [] 0),List.replicate 6 false,false,0⟩ (St.new a [] 0).ot).1=Jr a:=by
  rw[hwe];unfold Jr;dsimp only;split<;>rfl
 have:=hp.write;rw[hs2]at this;exact this
theorem LK{L:List Int}(hn:L.length<=6)(hU:∀a∈L,a_ a)(h0:∀a∈L,a≠0):ja 1 0 (aM.new L)∧qw (aM.new L):=by
 refine⟨⟨by rw[LM];exact hn,dm _,⟨gP _,by show(0:Int)<=4611686018427387904;decide⟩,λs hs=> ?_⟩,λf hf=>by cases hf⟩;obtain⟨a,ha,rfl⟩:=dW.1 hs;exact Zg (hU a ha) (h0 a ha)
def PO(L:List (Int×ByteArray)):Prop:=∀f∈L,f.2.size<=65536
theorem qw.launch(h:qw m){i j:Nat}{b:ByteArray}(hi:i<m.S.length)(hj:j<m.S.length)(hb:b.size<=65536):qw (m.launch (i,j,b)):=by
 intro f hf;have h1:∀f∈m.aT++ [(i,j,b)],f.1<m.S.length∧f.2.1<m.S.length∧f.2.2.size<=65536:=by
  intro f hf;rcases fu.1 hf with hf|hf
  ·exact h f hf
  ·rw[fM]at hf;subst hf;exact⟨hi,hj,hb⟩
 unfold aM.launch at hf;dsimp only at hf;split at hf
 ·exact h1 f (List.mem_of_mem_tail hf)
 ·exact h1 f hf
theorem qw.put(h:qw m)(i:Nat)(s:eB):qw (m.put i s):=by
 intro f hf;rw[(fJ _ _ _).1,List.length_set];exact h f hf
theorem qw.foldl{i:Nat}{b:ByteArray}(hb:b.size<=65536):∀(l:List Nat) (m:aM),qw m->i<m.S.length->(∀j∈l,j<m.S.length)->qw (l.foldl (λm j=>m.launch (i,j,b)) m)
 | [],_,h,_,_=>h
 |a::l,m,h,hi,hl=>by
  rw[gZ];exact qw.foldl hb l _ (h.launch hi (hl a (jT ..)) hb) hi λj hj=>hl j (lU _ hj)
theorem qw.cO(h:qw m){i:Nat}{f:Int×ByteArray}(hi:i<m.S.length)(hb:f.2.size<=65536):qw (m.cO i f):=by
 refine qw.foldl hb _ _ h hi λj hj=> ?_;unfold aM.heard at hj;exact List.mem_range.1 (List.mem_filter.1 hj).1
variable{c:uM}{n:Nat}{s s':St}
theorem O8{p:aD}{L:List (Int×Int)}(h:L=[]∨L.length=p.ln):(strOfNums (pR p L)).size<=65536:=by
 have hs:∀xs:List Int,(strOfNums xs).size=xs.length:=λxs=>by simp[strOfNums,ByteArray.size]
 rw[hs];unfold pR;split
 ·rename_i hg;obtain⟨hl,_,_,_,_,hp,hk⟩:=jm hg;have hln:p.ln<=8:=by
   have h1:=(Ai hl).1;rcases hk with hk|hk|hk|hk
   ·rw[h1];simp[aD.dO,hk]
   ·rw[h1];simp[aD.dO,hk]
   ·rw[h1];simp[aD.dO,hk]
   ·exact hk.2.2
  have hL:L.length<=8:=by
   rcases h with h|h
   ·rw[h];exact dm _
   ·omega
  have h1:=vB p p.nums.length;have h2:(ic L L.length).length<=64:=by
   unfold ic;rw[List.take_length,xC];omega
  simp only[yR,bU,aD.head,dZ,List.length_nil,dz];omega
 ·exact dm _
theorem aaS(h:Pr c s s')(hs:∀f∈s.aF,f.2.size<=65536):∀f∈s'.aF,f.2.size<=65536:=by
 cases h with
 |Ac h=>rw[h.aF];exact hs
 |tab _=>exact hs
 |aH t p L _ hz=>
  intro f hf;rcases fu.1 (show f∈s.aF++ [(t,strOfNums (pR p L))]from hf)with hf|hf
  ·exact hs f hf
  ·rw[fM]at hf;subst hf;exact O8 hz
 |grw=>exact hs
 |mx _ _ _ _=>exact hs
 |wr=>exact hs
theorem XB(h:gF c n s s')(hs:∀f∈s.aF,f.2.size<=65536):∀f∈s'.aF,f.2.size<=65536:=by
 induction h with
 |nil=>exact hs
 |snoc _ k ih=>exact aaS k (ih hs)
theorem vO{now:Int}(h:gF c n (s.locked.begin now) s'):∀f∈s'.finish.freed.aF,f.2.size<=65536:=by
 have h1:=XB h (λf hf=>by cases hf);rw[show s'.finish.freed.aF=s'.aF from(aR s').aF];exact h1
variable{b:ByteArray}{m:aM}{φ:aM->Int×ByteArray->aM×List Ev}{i j:Nat}{o:Op}
abbrev oP:=List (Int×ByteArray)
abbrev Cq:=aM×List Ev
structure Kn(J:Cq->oP->Prop)(i:Nat)(z:Cq)(P:oP)(s:eB)(o:Ot):Prop where
 idle:o.idle=true->J (z.1.put i s,z.2) P
 whole:o.idle=false->(s.write o).2=true->J (z.1.put i (s.write o).1,z.2++ [⟨i,0,o⟩]) (o.aF++P)
 abD:o.idle=false->(s.write o).2=false->J (z.1.put i (s.write o).1,z.2++ [⟨i,0,Ot.none⟩]) P
structure aby(J:Cq->oP->Prop)(i:Nat):Prop where
 send:∀m e f P,J (m,e) (f::P)->J (m.cO i f,e) P
 brk:∀m e P f s z,J (m,e) (f::P)->f.1≠0->m.heard i f.1=[]->(m.cO i f).S[i]?=some s->s.nd=some z->Kn J i (m.cO i f,e) P {s with nd:=some (z.brk m.now f.1)} (z.brk m.now f.1).ot
theorem Iq(φ:aM->Int×ByteArray->aM×List Ev)(a:List Ev):∀(L:oP) (m:aM) (b:List Ev),L.foldl (uD φ) (m,a++b)=((L.foldl (uD φ) (m,b)).1,a++(L.foldl (uD φ) (m,b)).2)
 | [],_,_=>rfl
 |f::L,m,b=>by
  rw[gZ,gZ];unfold uD;dsimp only;rw[List.append_assoc];exact Iq φ a L _ _
theorem YP{J:Cq->oP->Prop}(hφ:∀m e f P,J (m,e) (f::P)->J ((φ m f).1,e++(φ m f).2) P):∀(L:oP) (z:Cq) (P:oP),J z (L++P)->J (L.foldl (uD φ) z) P
 | [],_,_,h=>h
 |f::L,z,P,h=>by
  rw[gZ];exact YP hφ L _ P (hφ z.1 z.2 f (L++P) h)
theorem Ll(m:aM)(i:Nat)(s s':eB):(m.put i s).put i s'=m.put i s':=by
 unfold aM.put;dsimp only;rw[List.set_set]
theorem Ug(hi:i<m.S.length)(s:eB):(m.put i s).at' i=s:=dR (by rw[(fJ _ _ _).1,List.getElem?_set_self hi])
theorem Ip{J:Cq->oP->Prop}(hφ:∀m e f P,J (m,e) (f::P)->J ((φ m f).1,e++(φ m f).2) P){m:aM}{e:List Ev}{P:oP}{s:eB}{o:Ot}(hi:i<m.S.length)(h:Kn J i (m,e) P s o):J (((m.put i s).jH φ i o).1,e++((m.put i s).jH φ i o).2) P:=by
 unfold aM.jH;rw[Ug hi,Ll];split
 ·rename_i hd;rw[fw];exact h.idle hd
 ·rename_i hd;have hd':o.idle=false:=by simpa using hd
  split
  ·rename_i hw;have h1:=YP hφ o.aF _ P (h.whole hd' hw);rw[Iq]at h1;exact h1
  ·rename_i hw;exact h.abD hd' (by simpa using hw)
theorem XQ{J:Cq->oP->Prop}(hJ:aby J i){m:aM}{e:List Ev}{P:oP}{s:eB}{o:Ot}(hi:i<m.S.length)(h:Kn J i (m,e) P s o):J (((m.put i s).did i o).1,e++((m.put i s).did i o).2) P:=by
 refine Ip (φ:=aM.iX i) (λm e f P hj=> ?_) hi h;have h1:=hJ.send m e f P hj;unfold aM.iX;split
 ·rw[fw];exact h1
 ·rename_i hne;simp only[not_or,Classical.not_not]at hne;split
  ·rw[fw];exact h1
  ·rename_i z hz;have hi2:i<(m.cO i f).S.length:=by
    refine Nat.lt_of_not_le λhle=> ?_;unfold aM.at' at hz;rw[List.getD_eq_getElem?_getD,List.getElem?_eq_none hle]at hz;cases hz
   have hs:=bS hi2;have hz':((m.cO i f).S[i]).nd=some z:=by rw[dR hs]at hz;exact hz
   have h2:=hJ.brk m e P f _ z hj hne.2 hne.1 hs hz';rw[dR hs];refine Ip (φ:=aM.nW i) (λm e f P hj=> ?_) hi2 h2;rw[show(aM.nW i m f).2=[]from rfl,fw];exact hJ.send m e f P hj
structure Dv(I:Nat->Cq->Prop)(J:Nat->Nat->Cq->oP->Prop)(o:Op):Prop where
 mono:∀k z,I (k+1) z->I k z
 out:∀k i z,J k i z []->I k z
 did:∀k i,aby (J k i) i
 evn:∀k0 m e a r,I k0 (m,e)->I k0 (m,e++ [⟨a,r,Ot.none⟩])
 link:∀k0 m e (a b:Nat),a<m.S.length->b<m.S.length->o.fe=1->I k0 (m,e)->I k0 (m.link a b o.on,e)
 snd:∀m e (a b:Nat) s z,m.S[a]?=some s->s.nd=some z->b<m.S.length->o.fe=2->o.a=a->o.b=b->o.txt.size<=16->(m.at' b).addr≠z.me->(m.at' b).addr≠0->I 1 (m,e)->Kn (J 0 a) a (m,e) [] {s with nd:=some (z.snd m.now (m.at' b).addr o.txt)} (z.snd m.now (m.at' b).addr o.txt).ot
 tim:∀m e,1<=o.n->o.n<=60000->o.fe=3->I (m.S.length+1) (m,e)->I m.S.length ({m with now:=m.now+o.n},e)
 iW:∀k0 m e (i:Nat) s z,m.S[i]?=some s->s.nd=some z->o.fe=3->I (k0+1) (m,e)->Kn (J k0 i) i (m,e) [] {s with nd:=some (z.iW m.now)} (z.iW m.now).ot
 land:∀k0 m e (k:Nat) f,m.aT[k]?=some f->o.fe=4∨o.fe=5->I k0 (m,e)->I k0 ({m with aT:=m.aT.eraseIdx k},e)
 rcv:∀k0 m e (k:Nat) f s z,m.aT[k]?=some f->m.S[f.2.1]?=some s->s.nd=some z->o.fe=4->I (k0+1) (m,e)->Kn (J k0 f.2.1) f.2.1 ({m with aT:=m.aT.eraseIdx k},e) [] {s with nd:=some (z.rcv m.now (m.at' f.1).addr (aA f.2.2))} (z.rcv m.now (m.at' f.1).addr (aA f.2.2)).ot
 twice:∀k0 m e (k:Nat) f,m.aT[k]?=some f->o.fe=6->I k0 (m,e)->I k0 (m.launch f,e)
 cut:∀k0 m e (k:Nat) f n,m.aT[k]?=some f->o.fe≠1->n<=f.2.2.size->I k0 (m,e)->I k0 ({m with aT:=m.aT.set k (f.1,f.2.1,f.2.2.extract 0 n)},e)
 inj:∀k0 m e (a b:Nat) s z,m.S[a]?=some s->s.nd=some z->b<m.S.length->o.fe=8->I (k0+1) (m,e)->Kn (J k0 a) a (m,e) [] {s with nd:=some (z.rcv m.now (m.at' b).addr (aA o.txt))} (z.rcv m.now (m.at' b).addr (aA o.txt)).ot
 stop:∀k0 m e (a:Nat) s,m.S[a]?=some s->I k0 (m,e)->I k0 (m.put a s.stop,e)
 abE:∀k0 m e (a:Nat) s n,m.S[a]?=some s->I k0 (m,e)->I k0 (m.put a {s with tears:=true,whole:=max 0 n},e)
 IB:∀k0 m e (a:Nat) s,m.S[a]?=some s->s.nd=none->I (k0+1) (m,e)->Kn (J k0 a) a (m,e) [] {s with nd:=some (St.new s.addr s.bH m.now)} (St.new s.addr s.bH m.now).ot
theorem vZ{I:Nat->Cq->Prop}{J:Nat->Nat->Cq->oP->Prop}(h:Dv I J o){k0:Nat}{m:aM}{e:List Ev}{i:Nat}{s:eB}{z:St}(hs:m.S[i]?=some s)(hw:Kn (J k0 i) i (m,e) [] {s with nd:=some z} z.ot):I k0 ((m.act i z).1,e++(m.act i z).2):=by
 rw[xJ hs];exact h.out k0 i _ (XQ (h.did k0 i) (fO.1 hs).1 hw)
theorem FX{I:Nat->Cq->Prop}{J:Nat->Nat->Cq->oP->Prop}(h:Dv I J o)(ho:o.fe=3)(e:List Ev):∀(l:List Nat) (z:Cq),I l.length (z.1,e++z.2)->I 0 ((l.foldl aM.kz z).1,e++(l.foldl aM.kz z).2)
 | [],_,hz=>hz
 |i::l,z,hz=>by
  rw[gZ];refine FX h ho e l _ ?_;rw[dZ]at hz;unfold aM.kz;split
  ·exact h.mono _ _ hz
  ·rename_i s hs;have hi2:i<z.1.S.length:=by
    refine Nat.lt_of_not_le λhle=> ?_;unfold aM.at' at hs;rw[List.getD_eq_getElem?_getD,List.getElem?_eq_none hle]at hs;cases hs
   have hu:=bS hi2;have hs':(z.1.S[i]).nd=some s:=by rw[dR hu]at hs;exact hs
   have h1:=vZ h hu (h.iW _ z.1 (e++z.2) i _ s hu hs' ho hz);dsimp only;rw[<-List.append_assoc];exact h1
theorem Df(h:(m.at' i).nd=none):m.hear i j b=(m,[]):=by
 unfold aM.hear;rw[h]
theorem xg{s:St}(h:(m.at' i).nd=some s):m.hear i j b=m.act i (s.rcv m.now (m.at' j).addr (aA b)):=by
 unfold aM.hear;rw[h]
theorem zK{I:Nat->Cq->Prop}{J:Nat->Nat->Cq->oP->Prop}(h:Dv I J o){m:aM}{e:List Ev}(hfl:∀f∈m.aT,f.2.1<m.S.length){n:Nat}(hn:m.S.length+1<=n)(hIn:I n (m,e)):I 0 ((m.step o).1,e++(m.step o).2):=by
 have S_:∀(k j:Nat) (z:Cq),I (k+j) z->I k z:=by
  intro k j
  induction j with
  |zero=>exact λz h=>h
  |succ j ih=>exact λz hz=>ih z (h.mono _ _ hz)
 have hI:I 0 (m,e):=S_ 0 n _ (by rw[Nat.zero_add];exact hIn);have hI1:I (0+1) (m,e):=S_ 1 (n - 1) _ (by rw[show 1+(n - 1)=n by omega];exact hIn);have hIS:I (m.S.length+1) (m,e):=S_ _ (n - (m.S.length+1)) _ (by rw[show m.S.length+1+(n - (m.S.length+1))=n by omega];exact hIn);unfold aM.step;split
 ·exact h.evn _ _ _ _ _ hI
 rename_i hmay;have kH:m.may o=true:=by simpa using hmay
 unfold aM.may at kH;split
 ·rename_i h1;rw[aI h1,jr]at kH;obtain⟨i,hi,hil⟩:=kI kH.1;obtain⟨j,hj,hjl⟩:=kI kH.2;rw[hi,hj,iU,iU,fw];exact h.link _ m e i j hil hjl h1 hI
 rename_i h1;rw[ay h1]at kH;split
 ·rename_i h2;rw[aI (.inl h2),jr]at kH;obtain⟨i,hi,hil⟩:=lH kH.1;obtain⟨j,hj,hjl⟩:=kI kH.2;rw[hi,hj,iU,iU];have hs:=bS hil;unfold aM.send;rw[dR hs];split
  ·rw[fw];exact hI
  ·rename_i z hz;split
   ·exact h.evn _ _ _ _ _ hI
   ·rename_i hsz;split
    ·exact h.evn _ _ _ _ _ hI
    ·rename_i hd;simp only[not_or]at hd;exact vZ h hs (h.snd m e i j _ z hs hz hjl h2 hi hj (by omega) hd.1 hd.2 hI1)
 rename_i h2;split
 ·rename_i h3;unfold aM.tick;split
  ·rw[fw];exact hI
  ·rename_i hn;simp only[not_or]at hn;refine FX h h3 e _ _ ?_;rw[fw,List.length_range];exact h.tim m e (by omega) (by omega) h3 hIS
 rename_i h3;split
 ·rename_i h4;unfold aM.flight;split
  ·rw[fw];exact hI
  ·rename_i hn;simp only[not_or]at hn;dsimp only;have hk:o.a.toNat%m.aT.length<m.aT.length:=Nat.mod_lt _ (by omega);generalize o.a.toNat%m.aT.length=k at hk;obtain⟨f,hf⟩:∃f,m.aT[k]?=some f:=⟨_,bS hk⟩;have hgd:m.aT.getD k (0,0,⟨#[]⟩)=f:=by rw[List.getD_eq_getElem?_getD,hf];rfl
   rw[hgd];have aeh:=hfl f (iV hf);split
   ·rename_i h5;have hs:=bS aeh;have ha:({m with aT:=m.aT.eraseIdx k}:aM).at' f.2.1=m.S[f.2.1]:=dR (m:={m with aT:=m.aT.eraseIdx k}) hs;cases hz:(m.S[f.2.1]).nd with
    |none=>
     rw[Df (by rw[ha];exact hz),fw];exact h.land _ m e k f hf (.inl h5) hI
    |some z=>
     rw[xg (by rw[ha];exact hz)];exact vZ (m:={m with aT:=m.aT.eraseIdx k}) h hs (h.rcv _ m e k f _ z hf hs hz h5 hI1)
   ·split
    ·rename_i h5 h6;rw[fw];exact h.land _ m e k f hf (.inr h6) hI
    ·split
     ·rename_i h6;rw[fw];exact h.twice _ m e k f hf h6 hI
     ·rw[fw];exact h.cut _ m e k f _ hf h1 (Nat.sub_le _ _) hI
 rename_i h4;split
 ·rename_i h8;rw[aI (.inr h8),jr]at kH;obtain⟨i,hi,hil⟩:=lH kH.1;obtain⟨j,hj,hjl⟩:=kI kH.2;rw[hi,hj,iU,iU];have hs:=bS hil;cases hz:(m.S[i]).nd with
  |none=>
   rw[Df (by rw[dR hs];exact hz),fw];exact hI
  |some z=>
   rw[xg (by rw[dR hs];exact hz)];exact vZ h hs (h.inj _ m e i j _ z hs hz hjl h8 hI1)
 rename_i h8;rw[ay (by simp[h2,h8])]at kH;split
 ·rename_i h9;rw[aI (.inl h9)]at kH;obtain⟨i,hi,hil⟩:=lH kH;rw[hi,iU,fw,dR (bS hil)];exact h.stop _ m e i _ (bS hil) hI
 rename_i h9;split
 ·rename_i h10;rw[aI (.inr h10)]at kH;obtain⟨i,hi,hil⟩:=lH kH;rw[hi,iU,fw,dR (bS hil)];exact h.abE _ m e i _ _ (bS hil) hI
 rename_i h10;split
 ·rename_i h11;rw[ay (by simp[h9,h10]),aI h11,jr]at kH;obtain⟨i,hi,hil⟩:=kI kH.1;rw[hi,iU];have hs:=bS hil;unfold aM.IB;rw[dR hs];have hz:(m.S[i]).nd=none:=by
   have h2:=kH.2;unfold aM.runs at h2;rw[hi,iU,dR hs]at h2;have h3:m.has (i:Int)=true:=by
    unfold aM.has;simp;omega
   rw[h3]at h2;simpa using h2
  exact vZ h hs (h.IB _ m e i _ hs hz hI1)
 ·rw[fw];exact hI
end Go.Proofs.YtakaadcpaeiccabGreat
