import Derived.Test.YtakaadcpaeiccabGreatO22
set_option maxHeartbeats 8000000
set_option maxRecDepth 100000
namespace Go.Proofs.YtakaadcpaeiccabGreat
open Go.RowKit Go.Maps
variable{a κ:Int}{m:aP}{q:Nat}{s:bG}
theorem kJ(h:m.has a=true):∃i:Nat,a=i∧i<m.S.length:=by
 unfold aP.has at h;rw[eG,decide_eq_true_iff,decide_eq_true_iff]at h;exact⟨a.toNat,(Int.toNat_of_nonneg h.1).symm,by omega⟩
theorem lJ(h:m.runs a=true):∃i:Nat,a=i∧i<m.S.length:=kJ (Bool.and_eq_true_iff.1 h).1
theorem WY{now:Int}(h:Db κ q now s):Db κ q now s.stop:=
 ⟨h.addr,h.a0,h.jb,h.jl,fq _,λ_ hz=>(by cases hz),λ_ hz=>(by cases hz)⟩
theorem WL{now:Int}(h:Db κ q now s)(n:Int):Db κ q now {s with tears:=true,whole:=max 0 n}:=
 ⟨h.addr,h.a0,h.jb,h.jl,Int.le_max_left _ _,λz hz=>(h.nd z hz).up (fq _) (aA _) (fq _) rfl,h.jn⟩
theorem iX.put'(h:iX κ q m)(i:Nat){s:bG}(hs:Db κ q m.now s):iX κ q (m.put i s):=by
 refine⟨by rw[(gP _ _ _).1,List.length_set];exact h.n,h.bD,h.now,λu hu=> ?_⟩;rw[(gP _ _ _).1]at hu;rcases List.mem_or_eq_of_mem_set hu with hu|rfl
 ·exact h.st u hu
 ·exact hs
theorem XY(h:iX κ q m)(a b:Nat)(ha:a<m.S.length)(hb:b<m.S.length)(on:Bool):iX κ q (m.link a b on):=by
 have hs:∀(m:aP),iX κ q m->∀c,c<m.S.length->∀L:List Bool,iX κ q (m.put c {m.at' c with hrs:=L}):=λm hm c hc L=>by
  refine hm.put' c ?_;have h2:=hm.at (cK hc);rw[<-dX (cK hc)]at h2;exact⟨h2.addr,h2.a0,h2.jb,h2.jl,h2.wh,λz hz=>(h2.nd z hz).up (fq _) (aA _) (fq _) rfl,h2.jn⟩
 unfold aP.link;split
 ·exact h
 ·exact hs _ (hs m h a ha _) b (by rw[(gP _ _ _).1,List.length_set];exact hb) _
@[reducible] def SBo(G g i B D : Nat)(now : Int)(sv : Value)(W : World): Prop :=
 (W.cell? ⟨G,0,none⟩=some (.int .u64 now)∧W.cell? ⟨G,1,none⟩=some sv∧W.cell? ⟨g,i,none⟩=some (.pointer (some ⟨B,0,none⟩))∧W.cell? ⟨D,1,none⟩=some (.int .i64 i))∧G<W.heap.size∧g<W.heap.size∧D<W.heap.size
theorem SBo.keep{G g i B D:Nat}{now:Int}{sv:Value}{W W':World}(h:SBo G g i B D now sv W)(hz:W.heap.size<=W'.heap.size)(hb:∀k,k=G∨k=g∨k=D->W'.heap[k]?=W.heap[k]?):SBo G g i B D now sv W':=by
 obtain⟨⟨c0,c1,c2,c3⟩,h1,h2,h3⟩:=h;exact⟨⟨(World.cell?_of_block (a:=⟨G,0,none⟩) (hb _ (.inl rfl))).trans c0,(World.cell?_of_block (a:=⟨G,1,none⟩) (hb _ (.inl rfl))).trans c1,(World.cell?_of_block (a:=⟨g,i,none⟩) (hb _ (.inr (.inl rfl)))).trans c2,(World.cell?_of_block (a:=⟨D,1,none⟩) (hb _ (.inr (.inr rfl)))).trans c3⟩,fP h1 hz,fP h2 hz,fP h3 hz⟩
theorem agd{y:MG}{w:World}(h:MM y m w){κ:Int}{q:Nat}(hok:iX κ q m)(IV:0<=κ∧κ<=90000000000)(hq:q<=4990)(fM:m.now+60000<=4611686018427387904)(hfl:qI m)(o:Op)(ht:o.dK=8->o.txt.size<=65536)(hbt:∀i:Nat,o.a=i->i<m.S.length->(m.at' i).nd=none->Gq (m.at' i) m.now∧Dj κ q (m.put i {m.at' i with nd:=some (St.new (m.at' i).addr (m.at' i).aZ m.now)}) i (St.new (m.at' i).addr (m.at' i).aZ m.now)):
  Calls Tryz.prog 11 #[.pointer (some ⟨y.G,0,none⟩),V4 o] w λe w'=>jC y m (m.step o).1 (m.step o).2 w.heap.size w e w'∧iX (κ+1000000) (q+1) (m.step o).1:=by
 have hb0:Below w.heap.size w (w.alloc (.cells #[.int .i64 o.dK,.int .i64 o.a,.int .i64 o.b,.int .i64 o.n,.bool o.on,.string o.txt] 28)):=bC;have hC:=bS w (.cells #[.int .i64 o.dK,.int .i64 o.a,.int .i64 o.b,.int .i64 o.n,.bool o.on,.string o.txt] 28);have h1:=h.later hb0;have HM:=hide λW (hW:MM y m W)=>aer hW o;have hstep:∀r,m.may o=true->r=(if o.dK=1 then(m.link o.a.toNat o.b.toNat o.on,[])else if o.dK=2 then m.send o.a.toNat o.b.toNat o.txt else if o.dK=3 then m.tick o.n else if o.dK=4∨o.dK=5∨o.dK=6∨o.dK=7 then m.flight o else if o.dK=8 then m.hear o.a.toNat o.b.toNat o.txt else if o.dK=9 then(m.put o.a.toNat (m.at' o.a.toNat).stop,[])else if o.dK=10 then(m.put o.a.toNat {m.at' o.a.toNat with tears:=true,whole:=max 0 o.n},[])else if o.dK=11 then m.Lj o.a.toNat else(m,[]))->m.step o=r:=by
  intro r hm hr;rw[hr];unfold aP.step;rw[aG (by rw[hm];decide)]
 cases hmay:m.may o with
 |false=>
  have ho:m.step o=(m,[⟨0,5,Ot.none⟩]):=by
   unfold aP.step;rw[aM (by rw[hmay];rfl)]
  rw[ho];have hfin:Hid (∀wc,Below w.heap.size w wc->jC y m m [⟨0,5,Ot.none⟩] w.heap.size w (.returned (.slice (some ⟨wc.heap.size,0,none⟩) 1 1)) (wc.alloc (.cells #[.int .i64 0,.int .i64 5,.string ⟨#[]⟩,.bool false,.slice none 0 0,.slice none 0 0,.slice none 0 0] 54))∧iX (κ+1000000) (q+1) m):=by
   intro wc hb;have hev:=FU (b:=w.heap.size) (W:=wc) (x:=(⟨0,5,Ot.none⟩,⟨.slice none 0 0,.slice none 0 0,.slice none 0 0⟩)) hb.size ⟨⟨rfl,.inl ⟨rfl,rfl⟩⟩,⟨rfl,.inl ⟨rfl,rfl⟩⟩,⟨rfl,.inl ⟨rfl,rfl⟩⟩⟩;exact⟨⟨_,_,rfl,rfl,hev,(MP.refl h).post (hb.alloc hb.size _)⟩,hok.up (by omega) (Nat.le_succ _)⟩
  rw[hmay]at HM;obtain⟨dK,a,b,n,on,txt⟩:=o;unfold V4 at HM ⊢;dsimp only at hb0 hC h1 HM ⊢;clear hstep hok hfl h ho hbt;go_enter Tryz.func11,Tryz.ntmps11;go_upto_region 1 with(fail);generalize World.alloc _ _=W1 at hb0 hC h1 ⊢;have UF:=aD hC;have t0:W1.cell? ⟨w.heap.size,0,none⟩=some (.int .i64 dK):=aF _ _ 0 _ _ _ hC;have t1:W1.cell? ⟨w.heap.size,1,none⟩=some (.int .i64 a):=aF _ _ 1 _ _ _ hC;have t2:W1.cell? ⟨w.heap.size,2,none⟩=some (.int .i64 b):=aF _ _ 2 _ _ _ hC;have t3:W1.cell? ⟨w.heap.size,3,none⟩=some (.int .i64 n):=aF _ _ 3 _ _ _ hC;have t4:W1.cell? ⟨w.heap.size,4,none⟩=some (.bool on):=aF _ _ 4 _ _ _ hC;have t5:W1.cell? ⟨w.heap.size,5,none⟩=some (.string txt):=aF _ _ 5 _ _ _ hC;go_upto_region 2 with(go_at_call 28;refine(HM.out W1 h1).mono ?_;rintro e w2 ⟨rfl,hb2⟩);have hfn:=hide (hfin.out _ (hb0.trans (hb2.mono (Nat.le_of_lt UF))));clear hfin HM hb0 hb2 hC t0 t1 t2 t3 t4 t5;go_wp2;go_ret;exact hfn.out
 |true=>
  rw[hmay]at HM;obtain⟨dK,a,b,n,on,txt⟩:=o;unfold V4 at HM ⊢;dsimp only at hb0 hC h1 HM ht hstep hbt ⊢;replace ht:=hide ht;have hstep:=λr=>hstep r hmay;obtain⟨r,hr⟩:∃r,m.step ⟨dK,a,b,n,on,txt⟩=r:=⟨_,rfl⟩;rw[hr]at hstep ⊢;clear hr;go_enter Tryz.func11,Tryz.ntmps11;go_upto_region 1 with(fail);generalize World.alloc _ _=W1 at hb0 hC h1 ⊢;have UF:=aD hC;have t0:W1.cell? ⟨w.heap.size,0,none⟩=some (.int .i64 dK):=aF _ _ 0 _ _ _ hC;have t1:W1.cell? ⟨w.heap.size,1,none⟩=some (.int .i64 a):=aF _ _ 1 _ _ _ hC;have t2:W1.cell? ⟨w.heap.size,2,none⟩=some (.int .i64 b):=aF _ _ 2 _ _ _ hC;have t3:W1.cell? ⟨w.heap.size,3,none⟩=some (.int .i64 n):=aF _ _ 3 _ _ _ hC;have t4:W1.cell? ⟨w.heap.size,4,none⟩=some (.bool on):=aF _ _ 4 _ _ _ hC;have t5:W1.cell? ⟨w.heap.size,5,none⟩=some (.string txt):=aF _ _ 5 _ _ _ hC;replace hmay:=hide hmay;replace hstep:=hide hstep;go_upto_region 3 with(go_at_call 28;refine(HM.out W1 h1).mono ?_;rintro e w2 ⟨rfl,hb2⟩);have hC2:=(hb2.block _ UF).trans hC;clear t0 t1 t2 t3 t4 t5;have t0:w2.cell? ⟨w.heap.size,0,none⟩=some (.int .i64 dK):=aF _ _ 0 _ _ _ hC2;have t1:w2.cell? ⟨w.heap.size,1,none⟩=some (.int .i64 a):=aF _ _ 1 _ _ _ hC2;have t2:w2.cell? ⟨w.heap.size,2,none⟩=some (.int .i64 b):=aF _ _ 2 _ _ _ hC2;have t3:w2.cell? ⟨w.heap.size,3,none⟩=some (.int .i64 n):=aF _ _ 3 _ _ _ hC2;have t4:w2.cell? ⟨w.heap.size,4,none⟩=some (.bool on):=aF _ _ 4 _ _ _ hC2;have t5:w2.cell? ⟨w.heap.size,5,none⟩=some (.string txt):=aF _ _ 5 _ _ _ hC2;have hm2:=h1.later hb2;have hb3:=hb0.trans (hb2.mono (Nat.le_of_lt UF));have HF:=hide λ(e:Ending) w4 (hp:jC y m r.1 r.2 w2.heap.size w2 e w4)=>(show jC y m r.1 r.2 w.heap.size w e w4 by
   obtain⟨v,L,rfl,hL,hev,hmp⟩:=hp;exact⟨v,L,rfl,hL,hev.lower hb3.size,hmp.pre hb3⟩)
  have HE:=hide λw4 (he: []=r.2) (hp:MP y m r.1 w2 w4)=>(show jC y m r.1 r.2 w.heap.size w (.returned (.slice none 0 0)) w4 from⟨_,[],rfl,he,gN.nil _ _,hp.pre hb3⟩);have HQ:=hide λmd (hk:iX κ q md)=>(show iX (κ+1000000) (q+1) md from hk.up (by omega) (Nat.le_succ _));clear HM hb0 hb2 hC h1 h UF hb3;by_cases d1:dK=1
  ·subst d1;have hm:=hmay.out;unfold aP.may at hm;dsimp only at hm;rw[aM rfl,eG]at hm;obtain⟨i,rfl,hi⟩:=kJ hm.1;obtain⟨j,rfl,hj⟩:=kJ hm.2;have er:=(hstep.out (m.link i j on,[]) (by rw[aM rfl];simp only[jo])).symm;have J4:m.link i j on=r.1:=congrArg Prod.fst er;have Z4:=hide (show []=r.2 from congrArg Prod.snd er);have HX:=acK hm2 i j hi hj hok.n on;have hk:=HQ.out _ (XY hok i j hi hj on);rw[J4]at HX hk;replace HX:=hide HX;replace hk:=hide hk;clear hm hmay hstep hok hfl hbt hm2 HF HQ er J4;go_wp2_with(go_at_call 29;refine HX.out.mono ?_;rintro e w4 ⟨rfl,hmp⟩;have hfin:=hide (HE.out _ Z4.out hmp);clear hmp);go_ret;exact⟨hfin.out,hk.out⟩
  by_cases d2:dK=2
  ·subst d2;have hm:=hmay.out;unfold aP.may at hm;dsimp only at hm;rw[aG (by decide),aM (.inl rfl),eG]at hm;obtain⟨i,rfl,hi⟩:=lJ hm.1;obtain⟨j,rfl,hj⟩:=kJ hm.2;have er:=(hstep.out (m.send i j txt) (by rw[aG (by decide),aM rfl];simp only[jo])).symm;have HX:=acJ hm2 hok IV (by omega) i j hi hj txt hm.1;rw[er]at HX;replace HX:=hide HX;clear hm hmay hstep hok hfl hbt hm2 HE HQ er;go_wp2_with(go_at_call 30;refine HX.out.mono ?_;rintro e w4 ⟨⟨v,L,rfl,hL,hev,hmp⟩,hmk⟩;have hfin:=hide (HF.out _ _ ⟨v,L,rfl,hL,hev,hmp⟩);replace hmk:=hide (hmk.up (show κ+200000<=κ+1000000 by omega) (aA _));clear hL hev hmp);go_ret;exact⟨hfin.out,hmk.out⟩
  by_cases d3:dK=3
  ·subst d3;have er:=(hstep.out (m.tick n) (by rw[aG (by decide),aG (by decide),aM rfl])).symm;have HX:=acI hm2 hok IV hq n fM;rw[er]at HX;replace HX:=hide HX;clear hmay hstep hok hfl hbt hm2 HE HQ er;go_wp2_with(go_at_call 31;refine HX.out.mono ?_;rintro e w4 ⟨⟨v,L,rfl,hL,hev,hmp⟩,hmk⟩;have hfin:=hide (HF.out _ _ ⟨v,L,rfl,hL,hev,hmp⟩);replace hmk:=hide (hmk.up (fq _) (Nat.le_succ q));clear hL hev hmp);go_ret;exact⟨hfin.out,hmk.out⟩
  by_cases d4:dK=4∨dK=5∨dK=6∨dK=7
  ·have er:=(hstep.out (m.flight ⟨dK,a,b,n,on,txt⟩) (by rw[aG d1,aG d2,aG d3,aM d4])).symm;have HX:=VK hm2 hok IV hfl ⟨dK,a,b,n,on,txt⟩ d4;rw[er]at HX;unfold V4 at HX;dsimp only at HX;replace HX:=hide HX;clear hmay hstep hok hfl hbt hm2 HE HQ er d1 d2 d3;rcases d4 with rfl|rfl|rfl|rfl;all_goals
    go_wp2_with(go_at_call 32;refine HX.out.mono ?_;rintro e w4 ⟨⟨v,L,rfl,hL,hev,hmp⟩,hmk⟩;have hfin:=hide (HF.out _ _ ⟨v,L,rfl,hL,hev,hmp⟩);replace hmk:=hide (hmk.up (show κ+200000<=κ+1000000 by omega) (Nat.le_succ q));clear hL hev hmp);go_ret;exact⟨hfin.out,hmk.out⟩
  by_cases d8:dK=8
  ·subst d8;have hm:=hmay.out;unfold aP.may at hm;dsimp only at hm;rw[aG (by decide),aM (.inr rfl),eG]at hm;obtain⟨i,rfl,hi⟩:=lJ hm.1;obtain⟨j,rfl,hj⟩:=kJ hm.2;have er:=(hstep.out (m.hear i j txt) (by rw[aG (by decide),aG (by decide),aG (by decide),aG (by decide),aM rfl];simp only[jo])).symm;have HX:=VI hm2 hok IV i j hi hj txt (ht.out rfl);rw[er]at HX;replace HX:=hide HX;clear hm hmay hstep hok hfl hbt hm2 HE HQ er d4;go_wp2_with(go_at_call 33;refine HX.out.mono ?_;rintro e w4 ⟨⟨v,L,rfl,hL,hev,hmp⟩,hmk⟩;have hfin:=hide (HF.out _ _ ⟨v,L,rfl,hL,hev,hmp⟩);replace hmk:=hide (hmk.up (show κ+200000<=κ+1000000 by omega) (Nat.le_succ q));clear hL hev hmp);go_ret;exact⟨hfin.out,hmk.out⟩
  by_cases d9:dK=9
  ·subst d9;have hm:=hmay.out;unfold aP.may at hm;dsimp only at hm;rw[aG (by decide),aG (by decide),aM (.inl rfl)]at hm;obtain⟨i,rfl,hi⟩:=lJ hm;have er:=(hstep.out (m.put i (m.at' i).stop,[]) (by rw[aG (by decide),aG (by decide),aG (by decide),aG (by decide),aG (by decide),aM rfl];simp only[jo])).symm;have J4:m.put i (m.at' i).stop=r.1:=congrArg Prod.fst er;have Z4:=hide (show []=r.2 from congrArg Prod.snd er);obtain⟨x,s,g,c,e1,e2,e3,e4,p0⟩:=hm2.get hi;rw[e3]at J4;have hmd:=hm2.drew;have HX:=hide ((Gc (hmd.st i x s e1 e2)).mono λe w4 hp=>show e=.returned (.tuple #[])∧MP y m r.1 w2 w4 by
    rw[<-J4];exact⟨hp.1,(hmd.stp e1 e2 hp.2).pre (aU _ _).drew⟩)
   have hk:=HQ.out _ (hok.put' i (WY (hok.at e2)));rw[J4]at hk;replace hk:=hide hk;obtain⟨_,q1,_,_⟩:=hm2.cell;rw[e4]at q1;have hin:(i:Int)<(m.S.length:Int):=by omega
   clear hm hmay hstep hok hfl hbt hm2 HF HQ er J4 d4 hmd e1 e2 e3 e4;go_upto_region 18 with(fail);go_region_with(go_at_call 34;refine HX.out.mono ?_;rintro e w4 ⟨rfl,hmp⟩;have hfin:=hide (HE.out _ Z4.out hmp);clear hmp)
   all_goals
    go_wp2;go_ret;exact⟨hfin.out,hk.out⟩
  by_cases d10:dK=10
  ·subst d10;have hm:=hmay.out;unfold aP.may at hm;dsimp only at hm;rw[aG (by decide),aG (by decide),aM (.inr rfl)]at hm;obtain⟨i,rfl,hi⟩:=lJ hm;have er:=(hstep.out (m.put i {m.at' i with tears:=true,whole:=max 0 n},[]) (by rw[aG (by decide),aG (by decide),aG (by decide),aG (by decide),aG (by decide),aG (by decide),aM rfl];simp only[jo])).symm;have J4:m.put i {m.at' i with tears:=true,whole:=max 0 n}=r.1:=congrArg Prod.fst er;have Z4:=hide (show []=r.2 from congrArg Prod.snd er);obtain⟨x,s,g,c,e1,e2,e3,e4,p0⟩:=hm2.get hi;rw[e3]at J4;have hmd:=hm2.drew;have HX:=hide ((Zh (hmd.st i x s e1 e2) n).mono λe w4 hp=>show e=.returned (.tuple #[])∧MP y m r.1 w2 w4 by
    rw[<-J4];exact⟨hp.1,(hmd.stp e1 e2 hp.2).pre (aU _ _).drew⟩)
   have hk:=HQ.out _ (hok.put' i (WL (hok.at e2) n));rw[J4]at hk;replace hk:=hide hk;obtain⟨_,q1,_,_⟩:=hm2.cell;rw[e4]at q1;have hin:(i:Int)<(m.S.length:Int):=by omega
   clear hm hmay hstep hok hfl hbt hm2 HF HQ er J4 d4 hmd e1 e2 e3 e4;go_upto_region 20 with(fail);go_region_with(go_at_call 35;refine HX.out.mono ?_;rintro e w4 ⟨rfl,hmp⟩;have hfin:=hide (HE.out _ Z4.out hmp);clear hmp)
   all_goals
    go_wp2;go_ret;exact⟨hfin.out,hk.out⟩
  by_cases d11:dK=11
  ·subst d11;have hm:=hmay.out;unfold aP.may at hm;dsimp only at hm;rw[aG (by decide),aG (by decide),aG (by decide),aM rfl,eG]at hm;obtain⟨i,rfl,hi⟩:=kJ hm.1;obtain⟨x,s,g,c,e1,e2,e3,e4,p0⟩:=hm2.get hi;have hnd:(m.at' i).nd=none:=by
    have h5:=hm.2;unfold aP.runs at h5;rw[hm.1,jo]at h5;cases hn:(m.at' i).nd with
    |none=>rfl
    |some v=>
     rw[hn]at h5;cases h5
   obtain⟨Yj,hdk⟩:=hbt i rfl hi hnd;have er:=(hstep.out (m.Lj i) (by rw[aG (by decide),aG (by decide),aG (by decide),aG (by decide),aG (by decide),aG (by decide),aG (by decide),aM rfl];simp only[jo])).symm;unfold aP.Lj at er;rw[e3]at hnd Yj hdk er;rw[BZ e2]at er;have hHB:=λW (hW:m_ x s W)=>Od hW hnd m.now Yj;obtain⟨z,hz⟩:∃z,St.new s.addr s.aZ m.now=z:=⟨_,rfl⟩;rw[hz]at hdk er hHB;obtain⟨m',hm'⟩:∃m',m.put i {s with nd:=some z}=m':=⟨_,rfl⟩;rw[hm']at hdk er;obtain⟨q0,q1,_,_⟩:=hm2.cell;rw[e4]at q1;have hin:(i:Int)<(m.S.length:Int):=by omega
   have hst:=hm2.st i x s e1 e2;have ZX:=aD hm2.blk;have hgl:g<w2.heap.size:=World.block_lt_of_cell? _ _ p0;have hDl:w.heap.size<w2.heap.size:=World.block_lt_of_cell? _ _ t1;have hnF:∀k,k=y.G∨k=g∨k=w.heap.size->¬lC x s k:=by
    intro k hk hF;obtain⟨o,ho,hK⟩:=hst.kind hF;rcases hk with rfl|rfl|rfl
    ·rw[hm2.blk]at ho;cases ho;exact hK.not (by decide)
    ·obtain⟨cc,hc⟩:=aS hm2.Ak (k:=k) (by rw[e4];rfl);rw[hc]at ho;cases ho;exact hK.not (by decide)
    ·rw[hC2]at ho;cases ho;exact hK.not (by decide)
   have hS0:SBo y.G g i x.B w.heap.size m.now (.slice (some ⟨g,0,none⟩) m.S.length c) w2:=⟨⟨q0,q1,p0,t1⟩,ZX,hgl,hDl⟩;have hS:=hS0.keep (W':=w2.drew) (aA _) (λ_ _=>rfl);have hd1:Below w2.heap.size w2 w2.drew:=(aU _ _).drew;have hmd:=hm2.drew;have HB2:=hide ((hHB w2.drew (hmd.st i x s e1 e2)).mono λe w4 hp=>show ∃aI bL bO y2,SBo y.G g i x.B w.heap.size m.now (.slice (some ⟨g,0,none⟩) m.S.length c) w4∧e=.returned (ja z.aZ z.bn aI bL bO)∧iG w2.heap.size z.aH z.aR z.aQ aI bL bO w4∧w2.heap.size<=w4.heap.size∧MM y2 m' w4∧MU y m y2 m' w2 w4 by
    obtain⟨aI,bL,bO,he,hp,hor⟩:=hp;obtain⟨y2,h5,h6⟩:=hmd.stp e1 e2 hp;rw[hm']at h5 h6;have h7:=hp;obtain⟨_,_,_,hfx,_⟩:=h7;have hsz:=hfx.size;exact⟨aI,bL,bO,y2,hS.keep hsz λk hk=>hfx.block k (by rcases hk with rfl|rfl|rfl<;>assumption) (hnF k hk),he,hor,h6.fx.size,h5,h6.pre hd1⟩)
   obtain⟨B,hB⟩:∃B,x.B=B:=⟨_,rfl⟩;rw[hB]at HB2 hS;clear hm hmay hstep hok hfl hbt hm2 HE HQ d4 hmd e1 e2 e3 e4 Yj hHB hz hm' hst ZX hgl hDl hnF hS0 hB hd1;go_upto_region 22 with(fail);clear q0 q1 p0 t0 t1 t2 t3 t4 t5 hC2;refine qM (SBo y.G g i B w.heap.size m.now (.slice (some ⟨g,0,none⟩) m.S.length c)) [16,17] (by kernel_rfl) hS (λhHeld=> ?_);refine bq (i:=0) (v:=?hv0) rfl (by kernel_rfl) (Or.inl ⟨by rfl,?hy0⟩) hHeld ?hr0
   case hy0=>
    rintro w5 ⟨⟨q0,q1,p0,t1⟩,_⟩;go_simp;try with_reducible rfl
   try go_frame
   refine bq (i:=1) (v:=?hv1) rfl (by kernel_rfl) (Or.inl ⟨by rfl,?hy1⟩) hHeld ?hr1
   case hy1=>
    rintro w5 ⟨⟨q0,q1,p0,t1⟩,_⟩;go_simp;try with_reducible rfl
   try go_frame
   refine bq (i:=2) (v:=?hv2) rfl (by kernel_rfl) (Or.inl ⟨by rfl,?hy2⟩) hHeld ?hr2
   case hy2=>
    rintro w5 ⟨⟨q0,q1,p0,t1⟩,_⟩;go_simp;try with_reducible rfl
   try go_frame
   refine bq (i:=3) (v:=?hv3) rfl (by kernel_rfl) (Or.inl ⟨by rfl,?hy3⟩) hHeld ?hr3
   case hy3=>
    rintro w5 ⟨⟨q0,q1,p0,t1⟩,_⟩;go_simp;try with_reducible rfl
   try go_frame
   refine bq (i:=4) (v:=?hv4) rfl (by kernel_rfl) (Or.inl ⟨by rfl,?hy4⟩) hHeld ?hr4
   case hy4=>
    rintro w5 ⟨⟨q0,q1,p0,t1⟩,_⟩;go_simp;try with_reducible rfl
   try go_frame
   refine bq (i:=5) (v:=?hv5) rfl (by kernel_rfl) (Or.inl ⟨by rfl,?hy5⟩) hHeld ?nP
   case hy5=>
    rintro w5 ⟨⟨q0,q1,p0,t1⟩,_⟩;go_simp;try with_reducible rfl
   try go_frame
   refine bq (i:=6) (v:=?hv6) rfl (by kernel_rfl) (Or.inl ⟨by rfl,?hy6⟩) hHeld ?uE
   case hy6=>
    rintro w5 ⟨⟨q0,q1,p0,t1⟩,_⟩;go_simp;try with_reducible rfl
   try go_frame
   refine bq (i:=7) (v:=?hv7) rfl (by kernel_rfl) (Or.inl ⟨by rfl,?hy7⟩) hHeld ?Bj
   case hy7=>
    rintro w5 ⟨⟨q0,q1,p0,t1⟩,_⟩;go_simp;try with_reducible rfl
   try go_frame
   refine bq (i:=8) (v:=?hv8) rfl (by kernel_rfl) (Or.inl ⟨by rfl,?hy8⟩) hHeld ?iQ
   case hy8=>
    rintro w5 ⟨⟨q0,q1,p0,t1⟩,_⟩;go_simp;try with_reducible rfl
   try go_frame
   refine bq (i:=9) (v:=?hv9) rfl (by kernel_rfl) (Or.inl ⟨by rfl,?hy9⟩) hHeld ?ny
   case hy9=>
    rintro w5 ⟨⟨q0,q1,p0,t1⟩,_⟩;go_simp;try with_reducible rfl
   try go_frame
   refine bq (i:=10) (v:=?aeX) rfl (by kernel_rfl) (Or.inl ⟨by rfl,?aa4⟩) hHeld ?afa
   case aa4=>
    rintro w5 ⟨⟨q0,q1,p0,t1⟩,_⟩;go_simp;try with_reducible rfl
   try go_frame
   refine bq (i:=11) (v:=?aeW) rfl (by kernel_rfl) (Or.inl ⟨by rfl,?aa3⟩) hHeld ?ae9
   case aa3=>
    rintro w5 ⟨⟨q0,q1,p0,t1⟩,_⟩;go_simp;try with_reducible rfl
   try go_frame
   refine bq (i:=12) (v:=?aeV) rfl (by kernel_rfl) (Or.inl ⟨by rfl,?aa2⟩) hHeld ?ae8
   case aa2=>
    rintro w5 ⟨⟨q0,q1,p0,t1⟩,_⟩;go_simp;try with_reducible rfl
   try go_frame
   refine bq (i:=13) (v:=?aeU) rfl (by kernel_rfl) (Or.inl ⟨by rfl,?aa1⟩) hHeld ?ae7
   case aa1=>
    rintro w5 ⟨⟨q0,q1,p0,t1⟩,_⟩;go_simp;try with_reducible rfl
   try go_frame
   refine bq (i:=14) (v:=?aeT) rfl (by kernel_rfl) (Or.inl ⟨by rfl,?aa0⟩) hHeld ?ae6
   case aa0=>
    rintro w5 ⟨⟨q0,q1,p0,t1⟩,_⟩;go_simp;try with_reducible rfl
   try go_frame
   refine jR (i:=15) (by kernel_rfl) rfl (λK2 hK2=> ?_);go_simp;go_at_call 37;refine HB2.out.mono ?_;rintro e w4 ⟨aI,bL,bO,y2,hS2,rfl,hor,hsz,CW,V7⟩;have VP:=Gi CW hdk aI bL bO w2.heap.size hor hsz;rw[V7.G]at VP;go_simp;refine hK2.out _ _ (λ_=>hS2) ?_;clear hK2 K2 HB2;refine jR (i:=16) (by kernel_rfl) rfl (λK3 hK3=> ?_);replace VP:=hide VP;replace V7:=hide V7;replace hdk:=hide hdk;clear hor CW hS2 hHeld hS;go_simp;go_at_call 36;refine VP.out.mono ?_;rintro e w6 ⟨v,L,rfl,hL,hev,y3,PL,hu6⟩;have hfin:=HF.out (.returned v) w6 (by rw[<-er];exact⟨v,L,rfl,hL,hev,y3,PL,V7.out.trans hu6⟩);have hk:=(FY hdk.out).up (show κ+100000<=κ+1000000 by omega) (Nat.le_succ q);rw[er]at hk;have PY:=hide (And.intro hfin hk);clear hL hev PL hu6 VP V7 hdk HF hfin hk er;go_simp;refine hK3.out _ _ (λh=>(h (by decide)).elim) ?_;clear hK3 K3;refine jR (i:=17) (by kernel_rfl) rfl (λK4 hK4=> ?_);go_simp;refine hK4.out _ _ (λh=>(h (by decide)).elim) ?_;clear hK4 K4;refine yx (by kernel_rfl) ?_ _;go_wp2;go_ret;exact PY.out
  ·have er:=(hstep.out (m,[]) (by rw[aG d1,aG d2,aG d3,aG d4,aG d8,aG d9,aG d10,aG d11])).symm;have J4:m=r.1:=congrArg Prod.fst er;have Z4:=(show []=r.2 from congrArg Prod.snd er);have hfin:=HE.out w2 Z4 (by rw[<-J4];exact MP.refl hm2);have hk:=HQ.out _ hok;rw[J4]at hk;have PY:=hide (And.intro hfin hk);have d41:¬dK=4:=λe=>d4 (.inl e);have d42:¬dK=5:=λe=>d4 (.inr (.inl e));have d43:¬dK=6:=λe=>d4 (.inr (.inr (.inl e)));have d44:¬dK=7:=λe=>d4 (.inr (.inr (.inr e)));clear hmay hstep hok hfl hbt hm2 HF HQ HE er J4 Z4 d4 hk hfin;go_wp2;go_ret;exact PY.out
variable{κ:Int}{xs:List Int}{q:Nat}{s:bG}
theorem Pk(q own:Int)(f:Int->Option Int)(A:List Rt)(h:own<q):0<(bJ q own f A).2.length:=by
 have h1:∀(A:List Rt) (st:(Int->Option Int)×List (Bool×Int×Int)),0<st.2.length->0<(A.foldl jG st).2.length:=by
  intro A
  induction A with
  |nil=>intro st hs;exact hs
  |cons y A ih=>
   intro st hs;rw[fQ];refine ih _ ?_;unfold jG;split
   ·simp
   ·exact hs
 refine h1 A _ ?_;unfold pO;rw[aM h];exact Nat.succ_pos 0
theorem abV{s:Int}(h:a_ s):0<gr s:=by unfold a_ gr at *;omega
theorem R4{me now:Int}(hbd:qy (jl xs)):0<(St.raw me xs now).write.bg.length:=by
 show 0<(([]:List (Bool×Int×Int))++(bJ (gr ((qJ (jl xs)).getD 0)) 0 _ _).2).length;rw[List.nil_append];exact Pk _ _ _ _ (abV (HZ hbd))
theorem ac7{me now:Int}(hbd:qy (jl xs)):(∀y∈(St.raw me xs now).A,y.Ok)∧(St.raw me xs now).A.length<=8:=by
 have hc:=NY hbd;have e:(St.raw me xs now).A=uq me ((cmpL (jl xs)).take (cmpL (jl xs)).length):=by rw[List.take_length];rfl
 rw[e];refine⟨λy hy=> ?_,M6 _ _ _⟩;obtain⟨j,x,_,hj,hp,rfl⟩:=zQ _ _ _ y hy;have hx1:x.1=false:=by
  unfold Cy at hp;simp only[eG,Bool.not_eq_true']at hp;exact hp.1
 obtain⟨h1,h2⟩:=SS hbd hc (gH hj) hx1;exact M5 h1 h2
theorem aaQ{now:Int}(h:Db κ q now s)(IV:1<=κ)(fM:0<=now∧now<=4611686018427387904):Zp κ q now {s with nd:=some (St.new s.addr s.aZ now)} (St.new s.addr s.aZ now):=by
 have hbd:=TG h.jb;have hm:=MO h.addr hbd fM;obtain⟨hA,hl⟩:=ac7 (me:=s.addr) (now:=now) hbd;have hi:=Bg hm (by omega) rfl hA hl;have e:=aO (St.raw s.addr s.aZ now);rw[St.uy];refine⟨TK hi (by omega),λa ha=> ?_,e.me,by rw[e.now];exact fq _,by rw[e.Q];exact b_ _,by rw[e.A];exact hA,by rw[e.A];exact hl⟩;rw[e.Q]at ha;cases ha
theorem E8{now:Int}(h:Db κ q now s)(IV:1<=κ)(fM:0<=now∧now<=4611686018427387904):JE κ q now {s with nd:=some (St.new s.addr s.aZ now)} (St.new s.addr s.aZ now):=by
 have hbd:=TG h.jb;have hn:=R4 (me:=s.addr) (now:=now) hbd;have hc:L9 0 (St.new s.addr s.aZ now):=by
  rw[St.uy];exact BR (s:=St.raw s.addr s.aZ now) rfl (.inr ⟨rfl,hn⟩)
 have hnw:0<(St.new s.addr s.aZ now).bg.length:=by
  rw[St.uy];unfold St.finish;split
  ·show 0<(St.cmp _).length;rw[zW];exact Nat.succ_pos _
  ·exact hn
 refine⟨h.addr,h.a0,h.jb,h.jl,h.wh,rfl,aaQ h IV fM,λhr=> ?_,λhr=>(hc.yes hr).1,?_⟩
 ·have hx:s.aZ=[]:=by
   rw[St.uy]at hr;unfold St.finish at hr;split at hr
   ·cases hr
   ·have h5:decide (s.aZ≠ [])=false:=hr;simpa using h5
  have:=hc.no hr;show 13 * (St.new s.addr s.aZ now).cnt=((s.aZ.length:Nat):Int)+_;rw[hx]at this ⊢;simp only[List.length_nil];omega
 ·cases hr:(St.new s.addr s.aZ now).bn with
  |false=>
   have:=hc.no hr;omega
  |true=>
   have:=hc.yes hr;omega
theorem Ve{m:aP}(hok:iX κ q m)(IV:1<=κ){i:Nat}(hi:i<m.S.length)(hfw:Zt (jl (m.at' i).aZ)):Gq (m.at' i) m.now∧Dj κ q (m.put i {m.at' i with nd:=some (St.new (m.at' i).addr (m.at' i).aZ m.now)}) i (St.new (m.at' i).addr (m.at' i).aZ m.now):=by
 have hS:m.S[i]?=some (m.at' i):=by
  have h1:=cK hi;rw[dX h1];exact h1
 have hs:=hok.at hS;refine⟨⟨hs.addr,hs.a0,hs.jb,by have:=hs.jl;omega,hfw,hok.now⟩,⟨by rw[(gP _ _ _).1,List.length_set];exact hok.n,hok.bD,hok.now,λj u hu hne=> ?_,⟨{m.at' i with nd:=some (St.new (m.at' i).addr (m.at' i).aZ m.now)},by rw[(gP _ _ _).1,List.getElem?_set_self hi],E8 hs IV hok.now⟩⟩⟩;rw[(gP _ _ _).1,List.getElem?_set_ne (Ne.symm hne)]at hu;exact hok.at hu
theorem VO(ao:Option Addr)(g n c:Nat)(hao:0<n->ao=some ⟨g,0,none⟩)(L:List Int)(d:Int)(w:World)(hn:n<=100)(hc:∀k,k<n->w.cell? ⟨g,k,none⟩=some (.int .u32 (L.getD k 0)))(hd:∀k,k<n->L.getD k 0≠d):
  Calls Tryz.prog 136 #[.slice ao n c,.int .u32 d] w λe w'=>e=.returned (.int .i64 (-1))∧w'=w:=by
 go_enter Tryz.func136,Tryz.ntmps136;go_wp2_with fail;go_loopw [8] (λi wr=>∃(j:Nat),j<=n∧i=.int .i64 j∧wr=w) (λi _=>n - (intOf i).toNat)
 case atStart=>exact⟨0,b_ _,rfl,rfl⟩
 case round=>
  obtain⟨j,hj,rfl,rfl⟩:=hrel;by_cases hlt:j<n
  ·have hix:(j:Int)<(n:Int):=by omega
   have hne:(d==L.getD j 0)=false:=by
    rw[beq_eq_false_iff_ne];exact λe=>hd j hlt e.symm
   have h0:=hc j hlt;obtain⟨x,hx⟩:∃x,L.getD j 0=x:=⟨_,rfl⟩;rw[hx]at h0 hne;cases hao (by omega);clear hc hd hx hao;go_wp2;go_roundw
   case rel=>exact⟨j+1,by omega,by go_num,by trivial⟩
   case measure=>simp[intOf];omega
  ·obtain rfl:j=n:=by omega
   clear hc hd hao;go_wp2;go_ret;exact⟨rfl,rfl⟩
theorem JR(ao:Option Addr)(g n c:Nat)(hao:0<n->ao=some ⟨g,0,none⟩)(L:List Int)(d:Int)(w:World)(hn:n<=100)(hc:∀k,k<n->w.cell? ⟨g,k,none⟩=some (.int .u32 (L.getD k 0)))(hd:∀k,k<n->L.getD k 0≠d):
  Calls Tryz.prog 97 #[.slice ao n c,.int .u32 d] w λe w'=>e=.returned (.bool false)∧w'=w:=by
 have HI:=hide (VO ao g n c hao L d w hn hc hd);clear hc hd hao;go_enter Tryz.func97,Tryz.ntmps97;go_wp2_with(go_at_call 136;refine HI.out.mono ?_;rintro e w2 ⟨rfl,hw⟩;replace hw:=hide hw);go_ret;exact⟨rfl,hw.out⟩
theorem YP(g n c:Nat)(L:List Int)(w:World)(hn:0<n∧n<=6)(hcap:n<=c)(hc:∀k,k<n->w.cell? ⟨g,k,none⟩=some (.int .u32 (L.getD k 0)))(h0:∀k,k<n->L.getD k 0≠0)(hd:∀j k,j<k->k<n->L.getD j 0≠L.getD k 0):
  Calls Tryz.prog 61 #[.slice (some ⟨g,0,none⟩) n c] w λe w'=>e=.returned (.bool true)∧w'=w:=by
 have hz:((n:Int)==0)=false:=by
  rw[beq_eq_false_iff_ne];omega
 have hs:decide ((n:Int)>6)=false:=fE (by omega);have hs':decide (6<(n:Int))=false:=fE (by omega);have hz':decide ((n:Int)=0)=false:=fE (by omega);have HC:=hide λ(k:Nat) (hk:k<n)=>JR (some ⟨g,0,none⟩) g k c (λ_=>rfl) L (L.getD k 0) w (by omega) (λj hj=>hc j (by omega)) (λj hj=>hd j k hj hk);replace hc:=hide hc;replace h0:=hide h0;clear hd;go_enter Tryz.func61,Tryz.ntmps61;go_wp2_with fail;go_loopw [15] (λi wr=>∃(j:Nat),j<=n∧i=.int .i64 j∧wr=w) (λi _=>n - (intOf i).toNat)
 case atStart=>exact⟨0,b_ _,rfl,rfl⟩
 case round=>
  obtain⟨j,hj,rfl,rfl⟩:=hrel;by_cases hlt:j<n
  ·have hix:(j:Int)<(n:Int):=by omega
   have hjc:(j:Int)<=(c:Int):=by omega
   have hne:(L.getD j 0==0)=false:=by
    rw[beq_eq_false_iff_ne];exact h0.out j hlt
   have k0:=hc.out j hlt;have HX:=hide (HC.out j hlt);obtain⟨x,hx⟩:∃x,L.getD j 0=x:=⟨_,rfl⟩;rw[hx]at k0 hne HX;clear hc h0 HC hx;go_wp2_with(go_at_call 97;refine HX.out.mono ?_;rintro e w2 ⟨rfl,hw⟩;obtain rfl:=hw);go_roundw
   case rel=>exact⟨j+1,by omega,by go_num,by trivial⟩
   case measure=>simp[intOf];omega
  ·obtain rfl:j=n:=by omega
   clear hc h0 HC;go_wp2;go_ret;exact⟨rfl,rfl⟩
variable{j:Nat}{α:Type}
theorem dZ{L:List α}{a b:α}(h:(L++ [a])[j]?=some b):L[j]?=some b∨(j=L.length∧b=a):=by
 by_cases hj:j<L.length
 ·rw[List.getElem?_append_left hj]at h;exact .inl h
 ·rw[List.getElem?_append_right (by omega)]at h;obtain⟨h1,h2⟩:=fA.1 h;have h3:j - L.length=0:=by simpa using h1
  refine .inr ⟨by omega,?_⟩;simp only[h3,List.getElem_cons_zero]at h2;exact h2.symm
theorem lt_of_some{L:List α}{b:α}(h:L[j]?=some b):j<L.length:=(fA.1 h).1
theorem MM.add{y:MG}{m:aP}{W:World}(h:MM y m W){x:SG}{s:bG}(hx:m_ x s W)(hap:∀k,lC x s k->¬uR y m k){v7:Value}{w7:World}(ho:w7.ownsRow 0 94 1 v7 (m.S.length+1) (LM y.L++LM [x]))(hg:W.grownBy w7 y.sv.ownBlock)(hv:v7.ownBlock=y.sv.ownBlock∨v7.ownBlock=some W.heap.size):
  (w7.cell? ⟨y.G,1,none⟩=some y.sv∧w7.frozen? ⟨y.G,1,none⟩=false)∧MM {y with L:=y.L++ [x],sv:=v7} {m with S:=m.S++ [s]} (w7.setCell ⟨y.G,1,none⟩ v7)∧∀k,uR {y with L:=y.L++ [x],sv:=v7} {m with S:=m.S++ [s]} k->uR y m k∨lC x s k∨(W.heap.size<=k∧k<(w7.setCell ⟨y.G,1,none⟩ v7).heap.size):=by
 have hne:y.sv.ownBlock≠some y.G:=aJ h.Ak h.blk (λc e=>(by cases e));have hblk:=hg.block _ (aD h.blk) λe=>hne e.symm;obtain⟨_,c1,_,fz⟩:=h.cell;have JX:=hblk.trans h.blk;have hg2:w7.grownBy (w7.setCell ⟨y.G,1,none⟩ v7) (some y.G):=ah (aB _ (some y.G)) 1 _;have hsz:=hg.size;have hkeep:∀k,k<W.heap.size->k≠y.G->y.sv.ownBlock≠some k->(w7.setCell ⟨y.G,1,none⟩ v7).heap[k]?=W.heap[k]?:=λk hk h1 h2=>(hg2.block k (by omega) λe=>h1 (Option.some.inj e)).trans (hg.block k hk λe=>h2 e.symm);have hst:∀(i:Nat) z u,y.L[i]?=some z->m.S[i]?=some u->m_ z u (w7.setCell ⟨y.G,1,none⟩ v7):=λi z u h1 h2=>(h.st i z u h1 h2).kept λk hk=>by
  obtain⟨q1,q2,_⟩:=h.own h1 h2 hk;exact hkeep k ((h.st i z u h1 h2).lt hk) q1 q2
 have hxs:m_ x s (w7.setCell ⟨y.G,1,none⟩ v7):=hx.kept λk hk=>hkeep k (hx.lt hk) (λe=>hap k hk (.inl e)) λe=>hap k hk (.inr (.inl e));have hll:=h.len;refine⟨⟨(World.cell?_of_block (a:=⟨y.G,1,none⟩) hblk).trans c1,(World.frozen?_of_block (a:=⟨y.G,1,none⟩) hblk).trans (fz 1)⟩,⟨?_,?_,?_,?_,λi z u h1 h2=> ?_,λi j z u z' u' hij h1 h2 h3 h4 k hk hk'=> ?_⟩,λk hk=> ?_⟩
 ·simp[World.setCell,d_,JX]
 ·have hr:=ho.kept hg2 (.inr (aJ ho JX (λc e=>(by cases e))));show World.ownsRow _ 0 _ 1 v7 (m.S++ [s]).length (LM (y.L++ [x]));rw[dx,show LM (y.L++ [x])=LM y.L++LM [x]from List.map_append];exact hr
 ·refine bP h.bD λk hk=>hkeep k (h.bD.lt k hk).2 (λe=> ?_) λe=> ?_
  ·subst e;exact aJ h.bD h.blk (λc e=>(by cases e)) hk
  ·rcases bX h.Ak h.bD (by decide)with q|q
   ·rw[q]at e;cases e
   ·exact q (e.trans hk.symm)
 ·show(y.L++ [x]).length=(m.S++ [s]).length;rw[dx,dx,hll];rfl
 ·rcases dZ h1 with h1|⟨e1,rfl⟩
  ·rcases dZ h2 with h2|⟨e2,_⟩
   ·exact hst i z u h1 h2
   ·have:=lt_of_some h1;omega
  ·rcases dZ h2 with h2|⟨_,rfl⟩
   ·have:=lt_of_some h2;omega
   ·exact hxs
 ·rcases dZ h1 with p1|⟨e1,rfl⟩
  ·rcases dZ h2 with p2|⟨e2,_⟩
   ·rcases dZ h3 with h3|⟨e3,rfl⟩
    ·rcases dZ h4 with h4|⟨e4,_⟩
     ·exact h.ap i j z u z' u' hij p1 p2 h3 h4 k hk hk'
     ·have:=lt_of_some h3;omega
    ·rcases dZ h4 with h4|⟨_,rfl⟩
     ·have:=lt_of_some h4;omega
     ·exact hap k hk' (.inr (.inr (.inr ⟨i,z,u,p1,p2,hk⟩)))
   ·have:=lt_of_some p1;omega
  ·rcases dZ h2 with h2|⟨_,rfl⟩
   ·have:=lt_of_some h2;omega
   ·rcases dZ h3 with h3|⟨e3,_⟩
    ·rcases dZ h4 with h4|⟨e4,_⟩
     ·exact hap k hk (.inr (.inr (.inr ⟨j,z',u',h3,h4,hk'⟩)))
     ·have:=lt_of_some h3;omega
    ·exact absurd (e1.trans e3.symm) hij
 ·rcases hk with hk|hk|hk|⟨i,z,u,h1,h2,hk⟩
  ·exact .inl (.inl hk)
  ·rcases hv with e|e
   ·exact .inl (.inr (.inl (by rw[<-e];exact hk)))
   ·have h1:=(ho.lt k hk).2;rw[show({y with L:=y.L++ [x],sv:=v7}:MG).sv=v7 from rfl,e]at hk;cases hk;exact .inr (.inr ⟨aA _,by simpa using h1⟩)
  ·exact .inl (.inr (.inr (.inl hk)))
  ·rcases dZ h1 with h1|⟨e1,rfl⟩
   ·rcases dZ h2 with h2|⟨e2,_⟩
    ·exact .inl (.inr (.inr (.inr ⟨i,z,u,h1,h2,hk⟩)))
    ·have:=lt_of_some h1;omega
   ·rcases dZ h2 with h2|⟨_,rfl⟩
    ·have:=lt_of_some h2;omega
    ·exact .inr (.inl hk)
theorem S_:Nonempty bI:=⟨by repeat' (first|exact Value.slice none 0 0|exact(0:Nat)|exact(0:Int)|exact false|exact(⟨#[]⟩:ByteArray)|exact []|exact none|constructor|intro)⟩
def mP(a:Int):Obj:=.cells #[.int .u32 a,.slice none 0 0,.pointer none,.bool false,.bool false,.bool false,.bool false,.bool false,.bool false,.bool false,.int .i64 0] 102
def Dv(a:Int):bG:=⟨a,bB (St.new a [] 0).bg,some (St.new a [] 0),List.replicate 6 false,false,0⟩
theorem aaq(wr:World)(a:Int)(hU:a_ a)(h0:a≠0):Calls Tryz.prog 37 #[.pointer (some ⟨wr.heap.size,0,none⟩),.int .u64 0] (wr.alloc (mP a)) λe W3=>∃aI bL bO,e=.returned (ja (St.new a [] 0).aZ (St.new a [] 0).bn aI bL bO)∧Hid (Calls Tryz.prog 62 #[.pointer (some ⟨wr.heap.size,0,none⟩),ja (St.new a [] 0).aZ (St.new a [] 0).bn aI bL bO] W3 λe W4=>e=.returned (.bool true)∧∃x2:SG,x2.B=wr.heap.size∧m_ x2 (Dv a) W4∧Fx (λk=>k=wr.heap.size) (wr.alloc (mP a)) W4∧∀k,lC x2 (Dv a) k->wr.heap.size<=k):=by
 obtain⟨g0⟩:=S_;have hx:m_ ⟨wr.heap.size,.slice none 0 0,0,g0,[]⟩ ⟨a,[],none,List.replicate 6 false,false,0⟩ (wr.alloc (mP a)):=
  ⟨bS _ _,rfl,⟨rfl,.inl ⟨rfl,rfl⟩⟩,λz hz=>(by cases hz)⟩
 have hs:Db 1 0 0 ⟨a,[],none,List.replicate 6 false,false,0⟩:=⟨hU,h0,λx h=>(by cases h),b_ _,fq _,λz hz=>(by cases hz),λz hz=>(by cases hz)⟩;have hp:=E8 hs (fq _) ⟨fq _,by decide⟩;have hsz:(wr.alloc (mP a)).heap.size=wr.heap.size+1:=by simp
 have hin:∀k,lC ⟨wr.heap.size,.slice none 0 0,0,g0,[]⟩ ⟨a,[],none,List.replicate 6 false,false,0⟩ k->k=wr.heap.size:=by
  intro k hk;rcases hk with hk|hk|⟨z,hz,_⟩
  ·exact hk
  ·cases hk
  ·cases hz
 refine(Od hx rfl 0 ⟨hU,h0,λx h=>(by cases h),b_ _,⟨[],b_ _,λa h=>(by cases h)⟩,⟨fq _,by decide⟩⟩).mono ?_;rintro e W3 ⟨aI,bL,bO,rfl,⟨x1,hB1,hm1,hf1,hu1⟩,_⟩;refine⟨aI,bL,bO,rfl,hide ?_⟩;dsimp only at hB1 hm1 hu1;have hnw:=hp.nwl;have hcn:=hp.nd.inv.bd;have HW:=JC hm1 (St.new a [] 0).ot aI bL bO hcn (by show(St.new a [] 0).bg.length<=_;dsimp only at hnw;omega) (b_ _) (fq _);rw[hB1]at HW;have hne:(St.new a [] 0).ot.bg≠ []∨(St.new a [] 0).ot.bn=true:=by
  refine .inl λe=> ?_;have h1:=hp.no;have h2:=hp.yes;have h3:=hp.pos;have e':(St.new a [] 0).bg=[]:=e;dsimp only at h1 h2 h3;rw[e']at h1 h2;cases hr:(St.new a [] 0).bn with
  |false=>
   have h4:=h1 hr;simp only[List.length_nil]at h4;omega
  |true=>
   have h4:=h2 hr;simp only[List.length_nil]at h4;omega
 have hwe:=bG.jX (s:=⟨a,[],some (St.new a [] 0),List.replicate 6 false,false,0⟩) hne rfl;have hs2:(bG.write ⟨a,[],some (St.new a [] 0),List.replicate 6 false,false,0⟩ (St.new a [] 0).ot).1=Dv a:=by
  rw[hwe];unfold Dv;dsimp only;split<;>rfl
 have hs3:(bG.write ⟨a,[],some (St.new a [] 0),List.replicate 6 false,false,0⟩ (St.new a [] 0).ot).2=true:=by rw[hwe]
 rw[hs2,hs3]at HW;refine HW.mono ?_;rintro e W4 ⟨rfl,x2,hB2,hm2,hf2,hu2⟩;have hz1:=hf1.size;refine⟨rfl,x2,hB2.trans hB1,hm2,(hf1.mono hin).trans hf2 λi hi hk=> ?_,λk hk=> ?_⟩
 ·rcases hu1 i hk with h|h
  ·exact hin i h
  ·omega
 ·rcases hu2 k hk with h|h
  ·rcases hu1 k h with h|h
   ·exact Nat.le_of_eq (hin k h).symm
   ·omega
  ·omega
variable{L:List Int}{k:Nat}
theorem TQ:(Tryz.prog.info? 94).map (λi=>(i.zero,i.size,i.bytes))=some (some (.pointer none),1,8):=by kernel_rfl
def NwI(M:Nat)(w:World)(L:List Int)(k:Nat)(wr:World):Prop:=∃y:MG,y.G=M∧MM y (aP.new (L.take k)) wr∧Fx (λ_=>False) w wr∧∀q,uR y (aP.new (L.take k)) q->w.heap.size<=q
theorem Ik(hk:k<L.length):aP.new (L.take (k+1))={aP.new (L.take k)with S:=(aP.new (L.take k)).S++ [Dv (L.getD k 0)]}:=by
 unfold aP.new;rw[List.take_add_one,List.map_append]
 congr 1
 rw[List.getD_eq_getElem?_getD,cK hk];rfl
theorem E9(L:List Int):(aP.new L).S.length=L.length:=by
 unfold aP.new;rw[iK]
theorem XI{M:Nat}{w wr:World}(hk:k<L.length){y:MG}(hG:y.G=M)(hm:MM y (aP.new (L.take k)) wr)(hf:Fx (λ_=>False) w wr)(hge:∀q,uR y (aP.new (L.take k)) q->w.heap.size<=q)(W4:World)(x2:SG)(hB:x2.B=wr.heap.size)(hx:m_ x2 (Dv (L.getD k 0)) W4)(h4:Fx (λq=>q=wr.heap.size) (wr.alloc (mP (L.getD k 0))) W4)(hxg:∀q,lC x2 (Dv (L.getD k 0)) q->wr.heap.size<=q):
  MM y (aP.new (L.take k)) W4∧∀(v7:Value) (w7:World),w7.ownsRow 0 94 1 v7 ((aP.new (L.take k)).S.length+1) (LM y.L++ [.pointer (some ⟨wr.heap.size,0,none⟩)])->(W4.alloc (.cells #[.pointer (some ⟨wr.heap.size,0,none⟩)] 94)).grownBy w7 y.sv.ownBlock->(v7.ownBlock=y.sv.ownBlock∨v7.ownBlock=some (W4.alloc (.cells #[.pointer (some ⟨wr.heap.size,0,none⟩)] 94)).heap.size)->(w7.cell? ⟨M,1,none⟩=some y.sv∧w7.frozen? ⟨M,1,none⟩=false)∧Hid (NwI M w L (k+1) (w7.setCell ⟨M,1,none⟩ v7)):=by
 subst hG;have hsz:(wr.alloc (mP (L.getD k 0))).heap.size=wr.heap.size+1:=by simp
 have hz4:=h4.size;have hm2:=hm.later ((aU wr.heap.size wr).alloc (aA _) (mP (L.getD k 0)));have CW:MM y (aP.new (L.take k)) W4:=hm2.kept λq hq=>h4.block q (hm2.lt hq) λe=>by
  have:=hm.lt hq;omega
 refine⟨CW,λv7 w7 ho hg hv=> ?_⟩;have hb5:Below W4.heap.size W4 (W4.alloc (.cells #[.pointer (some ⟨wr.heap.size,0,none⟩)] 94)):=bC;have hm5:=CW.later hb5;rw[<-hB]at ho;obtain⟨c1,hm7,hin⟩:=hm5.add (hx.later hb5) (λq hq hq'=>by
  have h1:=hxg q hq;have h2:=hm.lt hq';omega) ho hg hv
 refine⟨c1,hide ⟨{y with L:=y.L++ [x2],sv:=v7},rfl,?_,?_,λq hq=> ?_⟩⟩
 ·rw[Ik hk];exact hm7
 ·have f1:Fx (λ_=>False) w (wr.alloc (mP (L.getD k 0))):=hf.trans (S':=λ_=>False) (Fx.below ((aU wr.heap.size wr).alloc (aA _) _)) λ_ _ h=>h;have hzf:=hf.size;have f2:Fx (λ_=>False) w W4:=f1.trans h4 λi hi e=>by omega
  have f3:Fx (λ_=>False) w (W4.alloc (.cells #[.pointer (some ⟨wr.heap.size,0,none⟩)] 94)):=f2.trans (S':=λ_=>False) (Fx.below hb5) λ_ _ h=>h;have f4:Fx (λ_=>False) w w7:=aV f3 hg λi hi e=>by
   have:=hge i (.inr (.inl e));omega
  exact aV f4 (ah (aB w7 (some y.G)) 1 v7) λi hi e=>by
   cases e;have:=hge y.G (.inl rfl);omega
 ·rw[Ik hk]at hq;have hzf:=hf.size;have agL:=hb5.size;rcases hin q hq with h|h|⟨h,_⟩
  ·exact hge q h
  ·have:=hxg q h;omega
  ·omega
theorem aeu(g n c:Nat)(L:List Int)(w:World)(hL:L.length=n)(hn:0<n∧n<=6)(hcap:n<=c)(hU:∀k,k<n->a_ (L.getD k 0))(hgl:g<w.heap.size)(hc:∀k,k<n->w.cell? ⟨g,k,none⟩=some (.int .u32 (L.getD k 0)))(h0:∀k,k<n->L.getD k 0≠0)(hd:∀j k,j<k->k<n->L.getD j 0≠L.getD k 0):
  Calls Tryz.prog 27 #[.slice (some ⟨g,0,none⟩) n c] w λe w'=>∃y:MG,e=.returned (.tuple #[.pointer (some ⟨y.G,0,none⟩),.int .i64 0])∧MM y (aP.new L) w'∧Fx (λ_=>False) w w'∧∀q,uR y (aP.new L) q->w.heap.size<=q:=by
 have HFt:=hide (YP g n c L w hn hcap hc h0 hd);have hst:Hid (NwI w.heap.size w L 0 (w.alloc (.cells #[.int .u64 0,.slice none 0 0,.slice none 0 0] 97))):=by
  refine hide ⟨⟨w.heap.size,.slice none 0 0,.slice none 0 0,[]⟩,rfl,⟨bS _ _,⟨rfl,.inl ⟨rfl,rfl⟩⟩,⟨rfl,.inl ⟨rfl,rfl⟩⟩,rfl,λi x s h=>(by cases h),λi j x s x' s' _ h=>(by cases h)⟩,Fx.below (bC),λq hq=> ?_⟩;rcases hq with h|h|h|⟨i,x,s,h,_⟩
  ·exact Nat.le_of_eq h.symm
  ·cases h
  ·cases h
  ·cases h
 replace hc:=hide hc;replace h0:=hide h0;replace hU:=hide hU;obtain⟨i0,hi,hz0,hz1,hz2⟩:=info_parts TQ;go_enter Tryz.func27,Tryz.ntmps27;go_upto_region 4 with(go_at_call 61;refine HFt.out.mono ?_;rintro e w2 ⟨rfl,hw⟩;have hw2:=hw.symm;subst hw2);generalize World.alloc _ _=W1 at hst ⊢;generalize w.heap.size=M at hst ⊢;go_wp2_with fail;go_loopw [15] (λi wr=>∃(j:Nat),j<=n∧i=.int .i64 j∧Hid (NwI M w L j wr)) (λi _=>n - (intOf i).toNat)
 case atStart=>exact⟨0,b_ _,rfl,hst⟩
 case round=>
  obtain⟨j,hj,rfl,hr⟩:=hrel;by_cases hlt:j<n
  ·have hlL:j<L.length:=by omega
   have hix:(j:Int)<(n:Int):=by omega
   obtain⟨y,hG,hm,hf,hge⟩:=hr.out;have k0:=(World.cell?_of_block (a:=⟨g,j,none⟩) (hf.block g hgl (λh=>h))).trans (hc.out j hlt);have HX:=aaq wr _ (hU.out j hlt) (h0.out j hlt);have HS:=XI hlL hG hm hf hge;have hlen:(aP.new (L.take j)).S.length=j:=by
    rw[E9,List.length_take];omega
   have q0:wr.cell? ⟨M,0,none⟩=some (.int .u64 0):=by
    rw[<-hG];exact hm.cell.1
   obtain⟨a,ha⟩:∃a,L.getD j 0=a:=⟨_,rfl⟩;rw[ha]at k0 HX HS;have q2:=(((aU wr.heap.size wr).alloc (aA _) (mP a)).cell (World.block_lt_of_cell? _ _ q0)).trans q0;obtain⟨W2,hW2⟩:∃W2,wr.alloc (mP a)=W2:=⟨_,rfl⟩;rw[hW2]at HX HS q2;unfold mP at hW2;obtain⟨D,hD⟩:∃D,wr.heap.size=D:=⟨_,rfl⟩;obtain⟨mk,hmk⟩:∃mk,aP.new (L.take j)=mk:=⟨_,rfl⟩;rw[hmk]at HS hlen;rw[hlen]at HS;rw[hD]at HX HS;replace HX:=hide HX;have HS2:Hid (∀(W4:World) (x2:SG),x2.B=D->m_ x2 (Dv a) W4->Fx (λq=>q=D) W2 W4->(∀q,lC x2 (Dv a) q->D<=q)->∃ao cc,y.sv=.slice ao j cc∧W4.cell? ⟨M,1,none⟩=some (.slice ao j cc)∧(W4.alloc (.cells #[.pointer (some ⟨D,0,none⟩)] 94)).ownsRow 0 94 1 (.slice ao j cc) j (LM y.L)∧∀(v7:Value) (w7:World),w7.ownsRow 0 94 1 v7 (j+1) (LM y.L++ [.pointer (some ⟨D,0,none⟩)])->(W4.alloc (.cells #[.pointer (some ⟨D,0,none⟩)] 94)).grownBy w7 (Value.slice ao j cc).ownBlock->(v7.ownBlock=(Value.slice ao j cc).ownBlock∨v7.ownBlock=some (W4.alloc (.cells #[.pointer (some ⟨D,0,none⟩)] 94)).heap.size)->(w7.cell? ⟨M,1,none⟩=some (.slice ao j cc)∧w7.frozen? ⟨M,1,none⟩=false)∧Hid (NwI M w L (j+1) (w7.setCell ⟨M,1,none⟩ v7))):=by
    refine hide λW4 x2 p1 p2 p3 p4=> ?_;obtain⟨CW,hnx⟩:=HS W4 x2 p1 p2 p3 p4;obtain⟨ao,cc,hsv,_⟩:=ay CW.Ak;rw[hlen]at hsv;have hs5:=(CW.later ((aU W4.heap.size W4).alloc (aA _) (.cells #[.pointer (some ⟨D,0,none⟩)] 94))).Ak;have c1:=CW.cell.2.1;rw[hsv,hlen]at hs5;rw[hG,hsv]at c1;rw[hsv]at hnx;exact⟨ao,cc,hsv,c1,hs5,hnx⟩
   have hsrc:Hid (∀W4:World,Src Tryz.prog 1 95 (.slice (some ⟨W4.heap.size,0,none⟩) 1 1) 1 [.pointer (some ⟨D,0,none⟩)] (W4.alloc (.cells #[.pointer (some ⟨D,0,none⟩)] 94))):=hide λW4=>Src.ofRow (base:=0) (e':=94) (e:=94) Tryz.underlying95 ⟨rfl,.inr ⟨W4.heap.size,1,_,rfl,b_ _,bS _ _,aA _,by decide,rfl,rfl⟩⟩ (λu hu=>by
    rw[dO]at hu;subst hu;rfl)
   have hmx:Hid (j+1<=maxLen∧(j+1)* 8<=140737488355328):=by unfold maxLen;exact hide (by omega)
   clear HS hm hf hge hlen hmk ha q0 hG hr;go_upto_region 8 with(fail);clear hW2 hD k0;go_wp2_with(first
    |(go_at_call 37;refine HX.out.mono ?_;rintro e W3 ⟨aI,bL,bO,rfl,HW⟩)
    |(go_at_call 62;refine HW.out.mono ?_;rintro e W4 ⟨rfl,x2,hB2,hm2,hf2,adJ⟩;obtain⟨ao,cc,hsv,c1,hs5,hnx⟩:=HS2.out W4 x2 hB2 hm2 hf2 adJ;have hsr:=hsrc.out W4;replace hnx:=hide hnx;clear hB2 hm2 hf2 adJ HW hsv)
    |(at_builtin;refine uW rfl _ _ _ _ rfl 0 94 i0 (.pointer none) 1 8 Tryz.underlying95 hi hz0 hz1 hz2 rfl (.slice ao j cc) j (LM y.L) rfl hs5 _ 1 [.pointer (some ⟨D,0,none⟩)] rfl hsr hmx.out.1 hmx.out.2 (b_ _) ?_;intro v7 w7 ho hg hv;obtain⟨⟨g1,g2⟩,hnw⟩:=hnx.out v7 w7 ho hg hv;obtain⟨Ri,Vb,rfl,_⟩:=ay ho;clear ho hg hv hnx hs5 hsr))
   go_roundw
   case rel=>exact⟨j+1,by omega,by go_num,hnw⟩
   case measure=>simp[intOf];omega
  ·obtain rfl:j=n:=by omega
   obtain⟨y,hG,hm,hf,hge⟩:=hr.out;rw[jE (Nat.le_of_eq hL)]at hm hge;have hfin:Hid (∃y:MG,y.G=M∧MM y (aP.new L) wr∧Fx (λ_=>False) w wr∧∀q,uR y (aP.new L) q->w.heap.size<=q):=⟨y,hG,hm,hf,hge⟩;clear hm hf hge hG hr hc h0 hU;go_wp2;go_returns;obtain⟨y,hG,hm,hf,hge⟩:=hfin.out;exact⟨y,by rw[hG];rfl,hm,hf,hge⟩
variable{m:aP}
theorem aar{a:Int}(hU:a_ a)(h0:a≠0):Db 1 0 0 (Dv a):=by
 have hs:Db 1 0 0 ⟨a,[],none,List.replicate 6 false,false,0⟩:=⟨hU,h0,λx h=>(by cases h),b_ _,fq _,λz hz=>(by cases hz),λz hz=>(by cases hz)⟩;have hp:=E8 hs (fq _) ⟨fq _,by decide⟩;dsimp only at hp;have hne:(St.new a [] 0).ot.bg≠ []∨(St.new a [] 0).ot.bn=true:=by
  refine .inl λe=> ?_;have h1:=hp.no;have h2:=hp.yes;have h3:=hp.pos;have e':(St.new a [] 0).bg=[]:=e;dsimp only at h1 h2 h3;rw[e']at h1 h2;cases hr:(St.new a [] 0).bn with
  |false=>
   have h4:=h1 hr;simp only[List.length_nil]at h4;omega
  |true=>
   have h4:=h2 hr;simp only[List.length_nil]at h4;omega
 have hwe:=bG.jX (s:=⟨a,[],some (St.new a [] 0),List.replicate 6 false,false,0⟩) hne rfl;have hs2:(bG.write ⟨a,[],some (St.new a [] 0),List.replicate 6 false,false,0⟩ (St.new a [] 0).ot).1=Dv a:=by
  rw[hwe];unfold Dv;dsimp only;split<;>rfl
 have:=hp.write;rw[hs2]at this;exact this
theorem Na{L:List Int}(hn:L.length<=6)(hU:∀a∈L,a_ a)(h0:∀a∈L,a≠0):iX 1 0 (aP.new L)∧qI (aP.new L):=by
 refine⟨⟨by rw[E9];exact hn,b_ _,⟨fq _,by show(0:Int)<=4611686018427387904;decide⟩,λs hs=> ?_⟩,λf hf=>by cases hf⟩;obtain⟨a,ha,rfl⟩:=dh.1 hs;exact aar (hU a ha) (h0 a ha)
def QY(L:List (Int×ByteArray)):Prop:=∀f∈L,f.2.size<=65536
theorem qI.launch(h:qI m){i j:Nat}{b:ByteArray}(hi:i<m.S.length)(hj:j<m.S.length)(hb:b.size<=65536):qI (m.launch (i,j,b)):=by
 intro f hf;have h1:∀f∈m.bD++ [(i,j,b)],f.1<m.S.length∧f.2.1<m.S.length∧f.2.2.size<=65536:=by
  intro f hf;rcases dG.1 hf with hf|hf
  ·exact h f hf
  ·rw[dO]at hf;subst hf;exact⟨hi,hj,hb⟩
 unfold aP.launch at hf;dsimp only at hf;split at hf
 ·exact h1 f (List.mem_of_mem_tail hf)
 ·exact h1 f hf
theorem qI.put(h:qI m)(i:Nat)(s:bG):qI (m.put i s):=by
 intro f hf;rw[(gP _ _ _).1,List.length_set];exact h f hf
theorem qI.foldl{i:Nat}{b:ByteArray}(hb:b.size<=65536):∀(l:List Nat) (m:aP),qI m->i<m.S.length->(∀j∈l,j<m.S.length)->qI (l.foldl (λm j=>m.launch (i,j,b)) m)
 | [],_,h,_,_=>h
 |a::l,m,h,hi,hl=>by
  rw[fQ];exact qI.foldl hb l _ (h.launch hi (hl a (gm ..)) hb) hi λj hj=>hl j (iI _ hj)
theorem qI.bK(h:qI m){i:Nat}{f:Int×ByteArray}(hi:i<m.S.length)(hb:f.2.size<=65536):qI (m.bK i f):=by
 refine qI.foldl hb _ _ h hi λj hj=> ?_;unfold aP.heard at hj;exact List.mem_range.1 (List.mem_filter.1 hj).1
variable{c:sO}{n:Nat}{s s':St}
theorem Qp{p:aC}{L:List (Int×Int)}(h:L=[]∨L.length=p.ln):(strOfNums (jU p L)).size<=65536:=by
 have hs:∀xs:List Int,(strOfNums xs).size=xs.length:=λxs=>by simp[strOfNums,ByteArray.size]
 rw[hs];unfold jU;split
 ·rename_i hg;obtain⟨hl,_,_,_,_,hp,hk⟩:=eZ hg;have hln:p.ln<=8:=by
   have h1:=(pV hl).1;rcases hk with hk|hk|hk|hk
   ·rw[h1];simp[aC.dz,hk]
   ·rw[h1];simp[aC.dz,hk]
   ·rw[h1];simp[aC.dz,hk]
   ·exact hk.2.2
  have hL:L.length<=8:=by
   rcases h with h|h
   ·rw[h];exact b_ _
   ·omega
  have h1:=vK p p.nums.length;have h2:(iq L L.length).length<=64:=by
   unfold iq;rw[List.take_length,xV];omega
  simp only[zH,dx,aC.head,dY,List.length_nil,bW];omega
 ·exact b_ _
theorem ab0(h:Pr c s s')(hs:∀f∈s.aH,f.2.size<=65536):∀f∈s'.aH,f.2.size<=65536:=by
 cases h with
 |zy h=>rw[h.aH];exact hs
 |tab _=>exact hs
 |aI t p L _ hz=>
  intro f hf;rcases dG.1 (show f∈s.aH++ [(t,strOfNums (jU p L))]from hf)with hf|hf
  ·exact hs f hf
  ·rw[dO]at hf;subst hf;exact Qp hz
 |grw=>exact hs
 |mx _ _ _ _=>exact hs
 |wr=>exact hs
theorem YH(h:fV c n s s')(hs:∀f∈s.aH,f.2.size<=65536):∀f∈s'.aH,f.2.size<=65536:=by
 induction h with
 |nil=>exact hs
 |snoc _ k ih=>exact ab0 k (ih hs)
theorem vV{now:Int}(h:fV c n (s.locked.begin now) s'):∀f∈s'.finish.freed.aH,f.2.size<=65536:=by
 have h1:=YH h (λf hf=>by cases hf);rw[show s'.finish.freed.aH=s'.aH from(aO s').aH];exact h1
variable{b:ByteArray}{m:aP}{φ:aP->Int×ByteArray->aP×List Ev}{i j:Nat}{o:Op}
abbrev kQ:=List (Int×ByteArray)
abbrev z_:=aP×List Ev
structure N_(J:z_->kQ->Prop)(i:Nat)(z:z_)(P:kQ)(s:bG)(o:Ot):Prop where
 idle:o.idle=true->J (z.1.put i s,z.2) P
 whole:o.idle=false->(s.write o).2=true->J (z.1.put i (s.write o).1,z.2++ [⟨i,0,o⟩]) (o.aH++P)
 aez:o.idle=false->(s.write o).2=false->J (z.1.put i (s.write o).1,z.2++ [⟨i,0,Ot.none⟩]) P
structure VW(J:z_->kQ->Prop)(i:Nat):Prop where
 send:∀m e f P,J (m,e) (f::P)->J (m.bK i f,e) P
 brk:∀m e P f s z,J (m,e) (f::P)->f.1≠0->m.heard i f.1=[]->(m.bK i f).S[i]?=some s->s.nd=some z->N_ J i (m.bK i f,e) P {s with nd:=some (z.brk m.now f.1)} (z.brk m.now f.1).ot
theorem Jt(φ:aP->Int×ByteArray->aP×List Ev)(a:List Ev):∀(L:kQ) (m:aP) (b:List Ev),L.foldl (uJ φ) (m,a++b)=((L.foldl (uJ φ) (m,b)).1,a++(L.foldl (uJ φ) (m,b)).2)
 | [],_,_=>rfl
 |f::L,m,b=>by
  rw[fQ,fQ];unfold uJ;dsimp only;rw[List.append_assoc];exact Jt φ a L _ _
theorem Z0{J:z_->kQ->Prop}(hφ:∀m e f P,J (m,e) (f::P)->J ((φ m f).1,e++(φ m f).2) P):∀(L:kQ) (z:z_) (P:kQ),J z (L++P)->J (L.foldl (uJ φ) z) P
 | [],_,_,h=>h
 |f::L,z,P,h=>by
  rw[fQ];exact Z0 hφ L _ P (hφ z.1 z.2 f (L++P) h)
theorem Xu(m:aP)(i:Nat)(s s':bG):(m.put i s).put i s'=m.put i s':=by
 unfold aP.put;dsimp only;rw[List.set_set]
theorem ack(hi:i<m.S.length)(s:bG):(m.put i s).at' i=s:=dX (by rw[(gP _ _ _).1,List.getElem?_set_self hi])
theorem Js{J:z_->kQ->Prop}(hφ:∀m e f P,J (m,e) (f::P)->J ((φ m f).1,e++(φ m f).2) P){m:aP}{e:List Ev}{P:kQ}{s:bG}{o:Ot}(hi:i<m.S.length)(h:N_ J i (m,e) P s o):J (((m.put i s).jH φ i o).1,e++((m.put i s).jH φ i o).2) P:=by
 unfold aP.jH;rw[ack hi,Xu];split
 ·rename_i hd;rw[gT];exact h.idle hd
 ·rename_i hd;have hd':o.idle=false:=by simpa using hd
  split
  ·rename_i hw;have h1:=Z0 hφ o.aH _ P (h.whole hd' hw);rw[Jt]at h1;exact h1
  ·rename_i hw;exact h.aez hd' (by simpa using hw)
theorem YX{J:z_->kQ->Prop}(hJ:VW J i){m:aP}{e:List Ev}{P:kQ}{s:bG}{o:Ot}(hi:i<m.S.length)(h:N_ J i (m,e) P s o):J (((m.put i s).did i o).1,e++((m.put i s).did i o).2) P:=by
 refine Js (φ:=aP.jh i) (λm e f P hj=> ?_) hi h;have h1:=hJ.send m e f P hj;unfold aP.jh;split
 ·rw[gT];exact h1
 ·rename_i hne;simp only[not_or,Classical.not_not]at hne;split
  ·rw[gT];exact h1
  ·rename_i z hz;have hi2:i<(m.bK i f).S.length:=by
    refine Nat.lt_of_not_le λhle=> ?_;unfold aP.at' at hz;rw[List.getD_eq_getElem?_getD,List.getElem?_eq_none hle]at hz;cases hz
   have hs:=cK hi2;have hz':((m.bK i f).S[i]).nd=some z:=by rw[dX hs]at hz;exact hz
   have h2:=hJ.brk m e P f _ z hj hne.2 hne.1 hs hz';rw[dX hs];refine Js (φ:=aP.nV i) (λm e f P hj=> ?_) hi2 h2;rw[show(aP.nV i m f).2=[]from rfl,gT];exact hJ.send m e f P hj
structure Ce(I:Nat->z_->Prop)(J:Nat->Nat->z_->kQ->Prop)(o:Op):Prop where
 mono:∀k z,I (k+1) z->I k z
 out:∀k i z,J k i z []->I k z
 did:∀k i,VW (J k i) i
 evn:∀k0 m e a r,I k0 (m,e)->I k0 (m,e++ [⟨a,r,Ot.none⟩])
 link:∀k0 m e (a b:Nat),a<m.S.length->b<m.S.length->o.dK=1->I k0 (m,e)->I k0 (m.link a b o.on,e)
 snd:∀m e (a b:Nat) s z,m.S[a]?=some s->s.nd=some z->b<m.S.length->o.dK=2->o.a=a->o.b=b->o.txt.size<=16->(m.at' b).addr≠z.me->(m.at' b).addr≠0->I 1 (m,e)->N_ (J 0 a) a (m,e) [] {s with nd:=some (z.snd m.now (m.at' b).addr o.txt)} (z.snd m.now (m.at' b).addr o.txt).ot
 tim:∀m e,1<=o.n->o.n<=60000->o.dK=3->I (m.S.length+1) (m,e)->I m.S.length ({m with now:=m.now+o.n},e)
 jY:∀k0 m e (i:Nat) s z,m.S[i]?=some s->s.nd=some z->o.dK=3->I (k0+1) (m,e)->N_ (J k0 i) i (m,e) [] {s with nd:=some (z.jY m.now)} (z.jY m.now).ot
 land:∀k0 m e (k:Nat) f,m.bD[k]?=some f->o.dK=4∨o.dK=5->I k0 (m,e)->I k0 ({m with bD:=m.bD.eraseIdx k},e)
 rcv:∀k0 m e (k:Nat) f s z,m.bD[k]?=some f->m.S[f.2.1]?=some s->s.nd=some z->o.dK=4->I (k0+1) (m,e)->N_ (J k0 f.2.1) f.2.1 ({m with bD:=m.bD.eraseIdx k},e) [] {s with nd:=some (z.rcv m.now (m.at' f.1).addr (ak f.2.2))} (z.rcv m.now (m.at' f.1).addr (ak f.2.2)).ot
 twice:∀k0 m e (k:Nat) f,m.bD[k]?=some f->o.dK=6->I k0 (m,e)->I k0 (m.launch f,e)
 cut:∀k0 m e (k:Nat) f n,m.bD[k]?=some f->o.dK≠1->n<=f.2.2.size->I k0 (m,e)->I k0 ({m with bD:=m.bD.set k (f.1,f.2.1,f.2.2.extract 0 n)},e)
 inj:∀k0 m e (a b:Nat) s z,m.S[a]?=some s->s.nd=some z->b<m.S.length->o.dK=8->I (k0+1) (m,e)->N_ (J k0 a) a (m,e) [] {s with nd:=some (z.rcv m.now (m.at' b).addr (ak o.txt))} (z.rcv m.now (m.at' b).addr (ak o.txt)).ot
 stop:∀k0 m e (a:Nat) s,m.S[a]?=some s->I k0 (m,e)->I k0 (m.put a s.stop,e)
 aeA:∀k0 m e (a:Nat) s n,m.S[a]?=some s->I k0 (m,e)->I k0 (m.put a {s with tears:=true,whole:=max 0 n},e)
 Lj:∀k0 m e (a:Nat) s,m.S[a]?=some s->s.nd=none->I (k0+1) (m,e)->N_ (J k0 a) a (m,e) [] {s with nd:=some (St.new s.addr s.aZ m.now)} (St.new s.addr s.aZ m.now).ot
theorem wG{I:Nat->z_->Prop}{J:Nat->Nat->z_->kQ->Prop}(h:Ce I J o){k0:Nat}{m:aP}{e:List Ev}{i:Nat}{s:bG}{z:St}(hs:m.S[i]?=some s)(hw:N_ (J k0 i) i (m,e) [] {s with nd:=some z} z.ot):I k0 ((m.act i z).1,e++(m.act i z).2):=by
 rw[BZ hs];exact h.out k0 i _ (YX (h.did k0 i) (fA.1 hs).1 hw)
theorem GH{I:Nat->z_->Prop}{J:Nat->Nat->z_->kQ->Prop}(h:Ce I J o)(ho:o.dK=3)(e:List Ev):∀(l:List Nat) (z:z_),I l.length (z.1,e++z.2)->I 0 ((l.foldl aP.sQ z).1,e++(l.foldl aP.sQ z).2)
 | [],_,hz=>hz
 |i::l,z,hz=>by
  rw[fQ];refine GH h ho e l _ ?_;rw[dY]at hz;unfold aP.sQ;split
  ·exact h.mono _ _ hz
  ·rename_i s hs;have hi2:i<z.1.S.length:=by
    refine Nat.lt_of_not_le λhle=> ?_;unfold aP.at' at hs;rw[List.getD_eq_getElem?_getD,List.getElem?_eq_none hle]at hs;cases hs
   have hu:=cK hi2;have hs':(z.1.S[i]).nd=some s:=by rw[dX hu]at hs;exact hs
   have h1:=wG h hu (h.jY _ z.1 (e++z.2) i _ s hu hs' ho hz);dsimp only;rw[<-List.append_assoc];exact h1
theorem D6(h:(m.at' i).nd=none):m.hear i j b=(m,[]):=by
 unfold aP.hear;rw[h]
theorem D5{s:St}(h:(m.at' i).nd=some s):m.hear i j b=m.act i (s.rcv m.now (m.at' j).addr (ak b)):=by
 unfold aP.hear;rw[h]
theorem vv{I:Nat->z_->Prop}{J:Nat->Nat->z_->kQ->Prop}(h:Ce I J o){m:aP}{e:List Ev}(hfl:∀f∈m.bD,f.2.1<m.S.length){n:Nat}(hn:m.S.length+1<=n)(hIn:I n (m,e)):I 0 ((m.step o).1,e++(m.step o).2):=by
 have Ur:∀(k j:Nat) (z:z_),I (k+j) z->I k z:=by
  intro k j
  induction j with
  |zero=>exact λz h=>h
  |succ j ih=>exact λz hz=>ih z (h.mono _ _ hz)
 have hI:I 0 (m,e):=Ur 0 n _ (by rw[Nat.zero_add];exact hIn);have hI1:I (0+1) (m,e):=Ur 1 (n - 1) _ (by rw[show 1+(n - 1)=n by omega];exact hIn);have hIS:I (m.S.length+1) (m,e):=Ur _ (n - (m.S.length+1)) _ (by rw[show m.S.length+1+(n - (m.S.length+1))=n by omega];exact hIn);unfold aP.step;split
 ·exact h.evn _ _ _ _ _ hI
 rename_i hmay;have kI:m.may o=true:=by simpa using hmay
 unfold aP.may at kI;split
 ·rename_i h1;rw[aM h1,eG]at kI;obtain⟨i,hi,hil⟩:=kJ kI.1;obtain⟨j,hj,hjl⟩:=kJ kI.2;rw[hi,hj,jo,jo,gT];exact h.link _ m e i j hil hjl h1 hI
 rename_i h1;rw[aG h1]at kI;split
 ·rename_i h2;rw[aM (.inl h2),eG]at kI;obtain⟨i,hi,hil⟩:=lJ kI.1;obtain⟨j,hj,hjl⟩:=kJ kI.2;rw[hi,hj,jo,jo];have hs:=cK hil;unfold aP.send;rw[dX hs];split
  ·rw[gT];exact hI
  ·rename_i z hz;split
   ·exact h.evn _ _ _ _ _ hI
   ·rename_i hsz;split
    ·exact h.evn _ _ _ _ _ hI
    ·rename_i hd;simp only[not_or]at hd;exact wG h hs (h.snd m e i j _ z hs hz hjl h2 hi hj (by omega) hd.1 hd.2 hI1)
 rename_i h2;split
 ·rename_i h3;unfold aP.tick;split
  ·rw[gT];exact hI
  ·rename_i hn;simp only[not_or]at hn;refine GH h h3 e _ _ ?_;rw[gT,List.length_range];exact h.tim m e (by omega) (by omega) h3 hIS
 rename_i h3;split
 ·rename_i h4;unfold aP.flight;split
  ·rw[gT];exact hI
  ·rename_i hn;simp only[not_or]at hn;dsimp only;have hk:o.a.toNat%m.bD.length<m.bD.length:=Nat.mod_lt _ (by omega);generalize o.a.toNat%m.bD.length=k at hk;obtain⟨f,hf⟩:∃f,m.bD[k]?=some f:=⟨_,cK hk⟩;have hgd:m.bD.getD k (0,0,⟨#[]⟩)=f:=by rw[List.getD_eq_getElem?_getD,hf];rfl
   rw[hgd];have afr:=hfl f (gH hf);split
   ·rename_i h5;have hs:=cK afr;have ha:({m with bD:=m.bD.eraseIdx k}:aP).at' f.2.1=m.S[f.2.1]:=dX (m:={m with bD:=m.bD.eraseIdx k}) hs;cases hz:(m.S[f.2.1]).nd with
    |none=>
     rw[D6 (by rw[ha];exact hz),gT];exact h.land _ m e k f hf (.inl h5) hI
    |some z=>
     rw[D5 (by rw[ha];exact hz)];exact wG (m:={m with bD:=m.bD.eraseIdx k}) h hs (h.rcv _ m e k f _ z hf hs hz h5 hI1)
   ·split
    ·rename_i h5 h6;rw[gT];exact h.land _ m e k f hf (.inr h6) hI
    ·split
     ·rename_i h6;rw[gT];exact h.twice _ m e k f hf h6 hI
     ·rw[gT];exact h.cut _ m e k f _ hf h1 (Nat.sub_le _ _) hI
 rename_i h4;split
 ·rename_i h8;rw[aM (.inr h8),eG]at kI;obtain⟨i,hi,hil⟩:=lJ kI.1;obtain⟨j,hj,hjl⟩:=kJ kI.2;rw[hi,hj,jo,jo];have hs:=cK hil;cases hz:(m.S[i]).nd with
  |none=>
   rw[D6 (by rw[dX hs];exact hz),gT];exact hI
  |some z=>
   rw[D5 (by rw[dX hs];exact hz)];exact wG h hs (h.inj _ m e i j _ z hs hz hjl h8 hI1)
 rename_i h8;rw[aG (by simp[h2,h8])]at kI;split
 ·rename_i h9;rw[aM (.inl h9)]at kI;obtain⟨i,hi,hil⟩:=lJ kI;rw[hi,jo,gT,dX (cK hil)];exact h.stop _ m e i _ (cK hil) hI
 rename_i h9;split
 ·rename_i h10;rw[aM (.inr h10)]at kI;obtain⟨i,hi,hil⟩:=lJ kI;rw[hi,jo,gT,dX (cK hil)];exact h.aeA _ m e i _ _ (cK hil) hI
 rename_i h10;split
 ·rename_i h11;rw[aG (by simp[h9,h10]),aM h11,eG]at kI;obtain⟨i,hi,hil⟩:=kJ kI.1;rw[hi,jo];have hs:=cK hil;unfold aP.Lj;rw[dX hs];have hz:(m.S[i]).nd=none:=by
   have h2:=kI.2;unfold aP.runs at h2;rw[hi,jo,dX hs]at h2;have h3:m.has (i:Int)=true:=by
    unfold aP.has;simp;omega
   rw[h3]at h2;simpa using h2
  exact wG h hs (h.Lj _ m e i _ hs hz hI1)
 ·rw[gT];exact hI
end Go.Proofs.YtakaadcpaeiccabGreat
