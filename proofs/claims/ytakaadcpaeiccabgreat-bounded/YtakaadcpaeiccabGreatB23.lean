import Derived.Test.YtakaadcpaeiccabGreatB22
set_option maxHeartbeats 8000000
set_option maxRecDepth 100000
namespace Go.Proofs.YtakaadcpaeiccabGreat
open Go.RowKit Go.Maps
variable{m:aP}
def o6(m:aP):Prop:=∀f∈m.bH,f.1<m.S.length∧f.2.1<m.S.length∧f.2.2.size<=65536
theorem iy.VA{κ:Int}{q:Nat}(h:iy κ q m){F:List (Nat×Nat×ByteArray)}(hF:F.length<=48):iy κ q {m with bH:=F}:=⟨h.n,hF,h.now,h.st⟩
theorem RS{y:MG}{w:World}(h:MM y m w){κ:Int}{q:Nat}(hok:iy κ q m)(FD:0<=κ∧κ<=90000000000)(hfl:o6 m)(o:Op)(ho:o.dU=4∨o.dU=5∨o.dU=6∨o.dU=7):
  Calls Tryz.prog 32 #[.pointer (some ⟨y.G,0,none⟩),Pd o] w λe w'=>iW y m (m.flight o).1 (m.flight o).2 w.heap.size w e w'∧iy (κ+200000) q (m.flight o).1:=by
 have hb0:Below w.heap.size w (w.alloc (.cells #[.int .i64 o.dU,.int .i64 o.a,.int .i64 o.b,.int .i64 o.n,.bool o.on,.string o.txt] 28)):=bn;have hC:=bO w (.cells #[.int .i64 o.dU,.int .i64 o.a,.int .i64 o.b,.int .i64 o.n,.bool o.on,.string o.txt] 28);have h1:=h.later hb0;obtain⟨dU,a,b,n,on,txt⟩:=o;dsimp only at hb0 hC h1 ho;have zl:=hok.bH;have hcase:Hid (∀w1:World,Below w.heap.size w w1->(a<0∨m.bH.length=0)->iW y m (m.flight ⟨dU,a,b,n,on,txt⟩).1 (m.flight ⟨dU,a,b,n,on,txt⟩).2 w.heap.size w (.returned (.slice none 0 0)) w1∧iy (κ+200000) q (m.flight ⟨dU,a,b,n,on,txt⟩).1):=by
  intro w1 hb1 hc;have he:m.flight ⟨dU,a,b,n,on,txt⟩=(m,[]):=by
   unfold aP.flight;rw[aO hc]
  rw[he];exact⟨⟨_,[],rfl,rfl,f_.nil _ _,(MP.refl h).post hb1⟩,hok.up (by omega) (aA _)⟩
 unfold Pd;dsimp only;by_cases ha:a<0
 ·have had:decide (a<0)=true:=by simpa using ha
  clear hok hfl h h1 zl;go_enter Tryz.func32,Tryz.ntmps32;go_upto_region 1 with(fail);generalize World.alloc _ _=W1 at hb0 hC ⊢;have t1:W1.cell? ⟨w.heap.size,1,none⟩=some (.int .i64 a):=aF _ _ 1 _ _ _ hC;have hfin:=hide (hcase.out _ hb0 (.inl ha));clear hcase hC ho;go_wp2;go_ret;exact hfin.out
 ·have had:decide (a<0)=false:=by simpa using ha
  obtain⟨_,_,q2,_⟩:=h1.cell;by_cases hl:m.bH.length=0
  ·obtain⟨ao,c,Ag,_⟩:=ak h.bH;rw[hl]at Ag;rw[Ag]at q2;clear hok hfl h h1 zl;go_enter Tryz.func32,Tryz.ntmps32;go_upto_region 1 with(fail);generalize World.alloc _ _=W1 at hb0 hC q2 ⊢;have t1:W1.cell? ⟨w.heap.size,1,none⟩=some (.int .i64 a):=aF _ _ 1 _ _ _ hC;have hfin:=hide (hcase.out _ hb0 (.inr hl));clear hcase hC ho hl Ag;go_wp2;go_ret;exact hfin.out
  ·obtain⟨g,cap,Ag,_⟩:=bS h.bH (by omega);rw[Ag]at q2;have hln:(decide ((m.bH.length:Int)=0))=false:=by
    have:¬(m.bH.length:Int)=0:=by omega
    simpa using this
   obtain⟨k,hk⟩:∃k,a.toNat%m.bH.length=k:=⟨_,rfl⟩;have hkl:k<m.bH.length:=by rw[<-hk];exact Nat.mod_lt _ (by omega)
   have adL:a.tmod (m.bH.length:Int)=(k:Int):=by
    have e:(a.toNat:Int)=a:=Int.toNat_of_nonneg (by omega);rw[Int.tmod_eq_emod_of_nonneg (by omega),<-hk];first|rw[Int.natCast_emod,e]|rw[Int.natCast_mod,e]|rw[Int.ofNat_emod,e]
   obtain⟨f,hf⟩:∃f,m.bH[k]?=some f:=⟨_,bW hkl⟩;have MK:=hfl f (jY hf);have hgd:m.bH.getD k (0,0,⟨#[]⟩)=f:=by rw[List.getD_eq_getElem?_getD,hf];rfl
   have hfo:∀d,d=dU->m.flight ⟨dU,a,b,n,on,txt⟩=if d=4 then {m with bH:=m.bH.eraseIdx k}.hear f.2.1 f.1 f.2.2 else if d=5 then({m with bH:=m.bH.eraseIdx k},[])else if d=6 then(m.launch f,[])else({m with bH:=m.bH.set k (f.1,f.2.1,f.2.2.extract 0 (f.2.2.size - (min (max 0 n) f.2.2.size).toNat))},[]):=by
    rintro d rfl;unfold aP.flight;rw[aD (show ¬(a<0∨m.bH.length=0)from by omega)];dsimp only;rw[hk,hgd]
   replace hfo:=hfo dU rfl;clear hk hgd hcase hfl;rcases ho with rfl|rfl|rfl|rfl
   ·rw[aO rfl]at hfo;rw[hfo];have HL:=hide λW (hW:MM y m W)=>Jj hW k hkl (by omega) f hf;have hmk:=hok.VA (F:=m.bH.eraseIdx k) (by rw[List.length_eraseIdx];split<;>omega);obtain⟨fa,fb,fs⟩:=f;dsimp only at MK hfo HL ⊢;obtain⟨m',hm'⟩:∃m',({m with bH:=m.bH.eraseIdx k}:aP)=m':=⟨_,rfl⟩;have hS':m'.S.length=m.S.length:=by rw[<-hm']
    rw[hm']at hmk HL ⊢;have HH:=hide λ(y':MG) W (hW:MM y' m' W)=>RQ hW hmk FD fb fa (by omega) (by omega) fs MK.2.2;clear hfo hok zl hf MK hm' hmk;go_enter Tryz.func32,Tryz.ntmps32;go_upto_region 1 with(fail);generalize World.alloc _ _=W1 at hb0 hC q2 h1 ⊢;have t0:W1.cell? ⟨w.heap.size,0,none⟩=some (.int .i64 4):=aF _ _ 0 _ _ _ hC;have t1:W1.cell? ⟨w.heap.size,1,none⟩=some (.int .i64 a):=aF _ _ 1 _ _ _ hC;go_upto_region 3 with(fail);go_region
    unfold ZV at HL;dsimp only at HL;go_upto_region 7 with(go_at_call 63;refine(HL.out _ h1.drew).mono ?_;rintro e w2 ⟨rfl,y2,hm2,hu2⟩);have hb3:Below w2.heap.size w2 (w2.alloc (.cells #[.int .i64 fa,.int .i64 fb,.string fs] 149)):=bn;have oZ:=bO w2 (.cells #[.int .i64 fa,.int .i64 fb,.string fs] 149);have nO:=hm2.later hb3;have hu3:=(hu2.post hb3).pre hb0.drew;clear hm2 hu2 hb3 t0 t1 q2 hC h1 hb0 HL h;generalize World.alloc _ _=W3 at nO hu3 oZ ⊢;generalize w2.heap.size=D at oZ ⊢;have t0:W3.cell? ⟨D,0,none⟩=some (.int .i64 fa):=aF _ _ 0 _ _ _ oZ;have t1:W3.cell? ⟨D,1,none⟩=some (.int .i64 fb):=aF _ _ 1 _ _ _ oZ;have t2:W3.cell? ⟨D,2,none⟩=some (.string fs):=aF _ _ 2 _ _ _ oZ;have HH3:=HH.out y2 W3 nO;rw[hu3.G]at HH3;replace HH3:=hide HH3;replace hu3:=hide hu3;clear HH nO oZ;go_wp2_with(go_at_call 33;refine HH3.out.mono ?_;rintro e w4 ⟨⟨v,L,rfl,hL,hev,y4,Az,Sd⟩,aaL⟩;have hfin:=hide (show iW y m (m'.hear fb fa fs).1 (m'.hear fb fa fs).2 w.heap.size w (.returned v) w4∧iy (κ+200000) q (m'.hear fb fa fs).1 from⟨⟨v,L,rfl,hL,hev.lower hu3.out.fx.size,y4,Az,hu3.out.trans Sd⟩,aaL⟩);clear hL hev Az Sd aaL);go_ret;exact hfin.out
   ·rw[aD (by decide),aO rfl]at hfo;rw[hfo];have HL:=hide λW (hW:MM y m W)=>Jj hW k hkl (by omega) f hf;have hmk:=hide (hok.VA (F:=m.bH.eraseIdx k) (by rw[List.length_eraseIdx];split<;>omega));clear hfo hok zl hf MK;go_enter Tryz.func32,Tryz.ntmps32;go_upto_region 1 with(fail);generalize World.alloc _ _=W1 at hb0 hC q2 h1 ⊢;have t0:W1.cell? ⟨w.heap.size,0,none⟩=some (.int .i64 5):=aF _ _ 0 _ _ _ hC;have t1:W1.cell? ⟨w.heap.size,1,none⟩=some (.int .i64 a):=aF _ _ 1 _ _ _ hC;go_upto_region 3 with(fail);go_region
    go_wp2_with(go_at_call 63;refine(HL.out _ h1.drew).mono ?_;rintro e w2 ⟨rfl,hmp⟩;have hfin:=hide (show iW y m {m with bH:=m.bH.eraseIdx k} [] w.heap.size w (.returned (.slice none 0 0)) w2 from⟨_,[],rfl,rfl,f_.nil _ _,hmp.pre (hb0.drew)⟩));go_ret;exact⟨hfin.out,hmk.out.up (by omega) (aA _)⟩
   ·rw[aD (by decide),aD (by decide),aO rfl]at hfo;rw[hfo];obtain⟨q0,q1,q5⟩:=D7 hf;have hr1:=h1.bH;rw[Ag]at hr1;have d0:=(hr1.cellAt (k * 3) (by omega)).trans q0;have d1:=(hr1.cellAt (k * 3+1) (by omega)).trans q1;have d2:=(hr1.cellAt (k * 3+2) (by omega)).trans q5;have hmk:iy κ q (m.launch f):=hok.VA (yQ m f hok.bH);have HL:=hide λW (hW:MM y m W)=>Gv hW (by omega) f;obtain⟨fa,fb,fs⟩:=f;have hkn:(k:Int)<(m.bH.length:Int):=by omega
    obtain⟨m',hm'⟩:∃m',m.launch (fa,fb,fs)=m':=⟨_,rfl⟩;rw[hm']at hmk HL ⊢;unfold ZV at HL;dsimp only at HL d0 d1 d2;clear hfo hok zl hf MK hm' hr1 q0 q1 q5 h;go_enter Tryz.func32,Tryz.ntmps32;go_upto_region 1 with(fail);generalize World.alloc _ _=W1 at hb0 hC q2 h1 d0 d1 d2 ⊢;have t0:W1.cell? ⟨w.heap.size,0,none⟩=some (.int .i64 6):=aF _ _ 0 _ _ _ hC;have t1:W1.cell? ⟨w.heap.size,1,none⟩=some (.int .i64 a):=aF _ _ 1 _ _ _ hC;go_upto_region 3 with(fail);go_region
    go_wp2_with(go_at_call 64;refine(HL.out _ h1.drew).mono ?_;rintro e w2 ⟨rfl,hmp⟩;have hfin:=hide (show iW y m m' [] w.heap.size w (.returned (.slice none 0 0)) w2∧iy (κ+200000) q m' from⟨⟨_,[],rfl,rfl,f_.nil _ _,hmp.pre (hb0.drew)⟩,hmk.up (by omega) (aA _)⟩);clear hmp);go_ret;exact hfin.out
   ·rw[aD (by decide),aD (by decide),aD (by decide)]at hfo;rw[hfo];have HL:=hide λW (hW:MM y m W)=>abB hW k hkl f hf (by omega) n;have hmk:=hide (hok.VA (F:=m.bH.set k (f.1,f.2.1,f.2.2.extract 0 (f.2.2.size - (min (max 0 n) f.2.2.size).toNat))) (by rw[List.length_set];omega));obtain⟨m',hm'⟩:∃m',({m with bH:=m.bH.set k (f.1,f.2.1,f.2.2.extract 0 (f.2.2.size - (min (max 0 n) f.2.2.size).toNat))}:aP)=m':=⟨_,rfl⟩;rw[hm']at hmk HL ⊢;clear hfo hok zl hf MK hm' h;go_enter Tryz.func32,Tryz.ntmps32;go_upto_region 1 with(fail);generalize World.alloc _ _=W1 at hb0 hC q2 h1 ⊢;have t0:W1.cell? ⟨w.heap.size,0,none⟩=some (.int .i64 7):=aF _ _ 0 _ _ _ hC;have t1:W1.cell? ⟨w.heap.size,1,none⟩=some (.int .i64 a):=aF _ _ 1 _ _ _ hC;have t3:W1.cell? ⟨w.heap.size,3,none⟩=some (.int .i64 n):=aF _ _ 3 _ _ _ hC;go_upto_region 3 with(fail);go_region
    go_wp2_with(go_at_call 65;refine(HL.out _ h1.drew).mono ?_;rintro e w2 ⟨rfl,hmp⟩;have hfin:=hide (show iW y m m' [] w.heap.size w (.returned (.slice none 0 0)) w2∧iy (κ+200000) q m' from⟨⟨_,[],rfl,rfl,f_.nil _ _,hmp.pre (hb0.drew)⟩,hmk.out.up (by omega) (aA _)⟩);clear hmp);go_ret;exact hfin.out
variable{a κ:Int}{m:aP}{q:Nat}{s:eU}
theorem jU(h:m.has a=true):∃i:Nat,a=i∧i<m.S.length:=by
 unfold aP.has at h;rw[jr,decide_eq_true_iff,decide_eq_true_iff]at h;exact⟨a.toNat,(Int.toNat_of_nonneg h.1).symm,by omega⟩
theorem kK(h:m.runs a=true):∃i:Nat,a=i∧i<m.S.length:=jU (Bool.and_eq_true_iff.1 h).1
theorem Tt{now:Int}(h:AR κ q now s):AR κ q now s.stop:=
 ⟨h.addr,h.a0,h.jb,h.jl,iB _,λ_ hz=>(by cases hz),λ_ hz=>(by cases hz)⟩
theorem Ta{now:Int}(h:AR κ q now s)(n:Int):AR κ q now {s with tears:=true,whole:=max 0 n}:=
 ⟨h.addr,h.a0,h.jb,h.jl,Int.le_max_left _ _,λz hz=>(h.nd z hz).up (iB _) (aA _) (iB _) rfl,h.jn⟩
theorem iy.put'(h:iy κ q m)(i:Nat){s:eU}(hs:AR κ q m.now s):iy κ q (m.put i s):=by
 refine⟨by rw[(gG _ _ _).1,List.length_set];exact h.n,h.bH,h.now,λu hu=> ?_⟩;rw[(gG _ _ _).1]at hu;rcases List.mem_or_eq_of_mem_set hu with hu|rfl
 ·exact h.st u hu
 ·exact hs
theorem Uo(h:iy κ q m)(a b:Nat)(ha:a<m.S.length)(hb:b<m.S.length)(on:Bool):iy κ q (m.link a b on):=by
 have hs:∀(m:aP),iy κ q m->∀c,c<m.S.length->∀L:List Bool,iy κ q (m.put c {m.at' c with hrs:=L}):=λm hm c hc L=>by
  refine hm.put' c ?_;have h2:=hm.at (bW hc);rw[<-gL (bW hc)]at h2;exact⟨h2.addr,h2.a0,h2.jb,h2.jl,h2.wh,λz hz=>(h2.nd z hz).up (iB _) (aA _) (iB _) rfl,h2.jn⟩
 unfold aP.link;split
 ·exact h
 ·exact hs _ (hs m h a ha _) b (by rw[(gG _ _ _).1,List.length_set];exact hb) _
@[reducible] def ZY(G g i B D : Nat)(now : Int)(sv : Value)(W : World): Prop :=
 (W.cell? ⟨G,0,none⟩=some (.int .u64 now)∧W.cell? ⟨G,1,none⟩=some sv∧W.cell? ⟨g,i,none⟩=some (.pointer (some ⟨B,0,none⟩))∧W.cell? ⟨D,1,none⟩=some (.int .i64 i))∧G<W.heap.size∧g<W.heap.size∧D<W.heap.size
theorem ZY.keep{G g i B D:Nat}{now:Int}{sv:Value}{W W':World}(h:ZY G g i B D now sv W)(hz:W.heap.size<=W'.heap.size)(hb:∀k,k=G∨k=g∨k=D->W'.heap[k]?=W.heap[k]?):ZY G g i B D now sv W':=by
 obtain⟨⟨c0,c1,c2,c3⟩,h1,h2,h3⟩:=h;exact⟨⟨(World.cell?_of_block (a:=⟨G,0,none⟩) (hb _ (.inl rfl))).trans c0,(World.cell?_of_block (a:=⟨G,1,none⟩) (hb _ (.inl rfl))).trans c1,(World.cell?_of_block (a:=⟨g,i,none⟩) (hb _ (.inr (.inl rfl)))).trans c2,(World.cell?_of_block (a:=⟨D,1,none⟩) (hb _ (.inr (.inr rfl)))).trans c3⟩,fB h1 hz,fB h2 hz,fB h3 hz⟩
theorem adt{y:MG}{w:World}(h:MM y m w){κ:Int}{q:Nat}(hok:iy κ q m)(FD:0<=κ∧κ<=90000000000)(hq:q<=4990)(eZ:m.now+60000<=4611686018427387904)(hfl:o6 m)(o:Op)(ht:o.dU=8->o.txt.size<=65536)(hbt:∀i:Nat,o.a=i->i<m.S.length->(m.at' i).nd=none->D8 (m.at' i) m.now∧A7 κ q (m.put i {m.at' i with nd:=some (St.new (m.at' i).addr (m.at' i).bD m.now)}) i (St.new (m.at' i).addr (m.at' i).bD m.now)):
  Calls Tryz.prog 11 #[.pointer (some ⟨y.G,0,none⟩),Pd o] w λe w'=>iW y m (m.step o).1 (m.step o).2 w.heap.size w e w'∧iy (κ+1000000) (q+1) (m.step o).1:=by
 have hb0:Below w.heap.size w (w.alloc (.cells #[.int .i64 o.dU,.int .i64 o.a,.int .i64 o.b,.int .i64 o.n,.bool o.on,.string o.txt] 28)):=bn;have hC:=bO w (.cells #[.int .i64 o.dU,.int .i64 o.a,.int .i64 o.b,.int .i64 o.n,.bool o.on,.string o.txt] 28);have h1:=h.later hb0;have HM:=hide λW (hW:MM y m W)=>abA hW o;have hstep:∀r,m.may o=true->r=(if o.dU=1 then(m.link o.a.toNat o.b.toNat o.on,[])else if o.dU=2 then m.send o.a.toNat o.b.toNat o.txt else if o.dU=3 then m.tick o.n else if o.dU=4∨o.dU=5∨o.dU=6∨o.dU=7 then m.flight o else if o.dU=8 then m.hear o.a.toNat o.b.toNat o.txt else if o.dU=9 then(m.put o.a.toNat (m.at' o.a.toNat).stop,[])else if o.dU=10 then(m.put o.a.toNat {m.at' o.a.toNat with tears:=true,whole:=max 0 o.n},[])else if o.dU=11 then m.Gi o.a.toNat else(m,[]))->m.step o=r:=by
  intro r hm hr;rw[hr];unfold aP.step;rw[aD (by rw[hm];decide)]
 cases hmay:m.may o with
 |false=>
  have ho:m.step o=(m,[⟨0,5,Ot.none⟩]):=by
   unfold aP.step;rw[aO (by rw[hmay];rfl)]
  rw[ho];have hfin:Hid (∀wc,Below w.heap.size w wc->iW y m m [⟨0,5,Ot.none⟩] w.heap.size w (.returned (.slice (some ⟨wc.heap.size,0,none⟩) 1 1)) (wc.alloc (.cells #[.int .i64 0,.int .i64 5,.string ⟨#[]⟩,.bool false,.slice none 0 0,.slice none 0 0,.slice none 0 0] 54))∧iy (κ+1000000) (q+1) m):=by
   intro wc hb;have hev:=Dr (b:=w.heap.size) (W:=wc) (x:=(⟨0,5,Ot.none⟩,⟨.slice none 0 0,.slice none 0 0,.slice none 0 0⟩)) hb.size ⟨⟨rfl,.inl ⟨rfl,rfl⟩⟩,⟨rfl,.inl ⟨rfl,rfl⟩⟩,⟨rfl,.inl ⟨rfl,rfl⟩⟩⟩;exact⟨⟨_,_,rfl,rfl,hev,(MP.refl h).post (hb.alloc hb.size _)⟩,hok.up (by omega) (Nat.le_succ _)⟩
  rw[hmay]at HM;obtain⟨dU,a,b,n,on,txt⟩:=o;unfold Pd at HM ⊢;dsimp only at hb0 hC h1 HM ⊢;clear hstep hok hfl h ho hbt;go_enter Tryz.func11,Tryz.ntmps11;go_upto_region 1 with(fail);generalize World.alloc _ _=W1 at hb0 hC h1 ⊢;have QO:=aB hC;have t0:W1.cell? ⟨w.heap.size,0,none⟩=some (.int .i64 dU):=aF _ _ 0 _ _ _ hC;have t1:W1.cell? ⟨w.heap.size,1,none⟩=some (.int .i64 a):=aF _ _ 1 _ _ _ hC;have t2:W1.cell? ⟨w.heap.size,2,none⟩=some (.int .i64 b):=aF _ _ 2 _ _ _ hC;have t3:W1.cell? ⟨w.heap.size,3,none⟩=some (.int .i64 n):=aF _ _ 3 _ _ _ hC;have t4:W1.cell? ⟨w.heap.size,4,none⟩=some (.bool on):=aF _ _ 4 _ _ _ hC;have t5:W1.cell? ⟨w.heap.size,5,none⟩=some (.string txt):=aF _ _ 5 _ _ _ hC;go_upto_region 2 with(go_at_call 28;refine(HM.out W1 h1).mono ?_;rintro e w2 ⟨rfl,hb2⟩);have hfn:=hide (hfin.out _ (hb0.trans (hb2.mono (Nat.le_of_lt QO))));clear hfin HM hb0 hb2 hC t0 t1 t2 t3 t4 t5;go_wp2;go_ret;exact hfn.out
 |true=>
  rw[hmay]at HM;obtain⟨dU,a,b,n,on,txt⟩:=o;unfold Pd at HM ⊢;dsimp only at hb0 hC h1 HM ht hstep hbt ⊢;replace ht:=hide ht;have hstep:=λr=>hstep r hmay;obtain⟨r,hr⟩:∃r,m.step ⟨dU,a,b,n,on,txt⟩=r:=⟨_,rfl⟩;rw[hr]at hstep ⊢;clear hr;go_enter Tryz.func11,Tryz.ntmps11;go_upto_region 1 with(fail);generalize World.alloc _ _=W1 at hb0 hC h1 ⊢;have QO:=aB hC;have t0:W1.cell? ⟨w.heap.size,0,none⟩=some (.int .i64 dU):=aF _ _ 0 _ _ _ hC;have t1:W1.cell? ⟨w.heap.size,1,none⟩=some (.int .i64 a):=aF _ _ 1 _ _ _ hC;have t2:W1.cell? ⟨w.heap.size,2,none⟩=some (.int .i64 b):=aF _ _ 2 _ _ _ hC;have t3:W1.cell? ⟨w.heap.size,3,none⟩=some (.int .i64 n):=aF _ _ 3 _ _ _ hC;have t4:W1.cell? ⟨w.heap.size,4,none⟩=some (.bool on):=aF _ _ 4 _ _ _ hC;have t5:W1.cell? ⟨w.heap.size,5,none⟩=some (.string txt):=aF _ _ 5 _ _ _ hC;replace hmay:=hide hmay;replace hstep:=hide hstep;go_upto_region 3 with(go_at_call 28;refine(HM.out W1 h1).mono ?_;rintro e w2 ⟨rfl,hb2⟩);have hC2:=(hb2.block _ QO).trans hC;clear t0 t1 t2 t3 t4 t5;have t0:w2.cell? ⟨w.heap.size,0,none⟩=some (.int .i64 dU):=aF _ _ 0 _ _ _ hC2;have t1:w2.cell? ⟨w.heap.size,1,none⟩=some (.int .i64 a):=aF _ _ 1 _ _ _ hC2;have t2:w2.cell? ⟨w.heap.size,2,none⟩=some (.int .i64 b):=aF _ _ 2 _ _ _ hC2;have t3:w2.cell? ⟨w.heap.size,3,none⟩=some (.int .i64 n):=aF _ _ 3 _ _ _ hC2;have t4:w2.cell? ⟨w.heap.size,4,none⟩=some (.bool on):=aF _ _ 4 _ _ _ hC2;have t5:w2.cell? ⟨w.heap.size,5,none⟩=some (.string txt):=aF _ _ 5 _ _ _ hC2;have hm2:=h1.later hb2;have hb3:=hb0.trans (hb2.mono (Nat.le_of_lt QO));have HF:=hide λ(e:Ending) w4 (hp:iW y m r.1 r.2 w2.heap.size w2 e w4)=>(show iW y m r.1 r.2 w.heap.size w e w4 by
   obtain⟨v,L,rfl,hL,hev,hmp⟩:=hp;exact⟨v,L,rfl,hL,hev.lower hb3.size,hmp.pre hb3⟩)
  have HE:=hide λw4 (he: []=r.2) (hp:MP y m r.1 w2 w4)=>(show iW y m r.1 r.2 w.heap.size w (.returned (.slice none 0 0)) w4 from⟨_,[],rfl,he,f_.nil _ _,hp.pre hb3⟩);have HQ:=hide λmd (hk:iy κ q md)=>(show iy (κ+1000000) (q+1) md from hk.up (by omega) (Nat.le_succ _));clear HM hb0 hb2 hC h1 h QO hb3;by_cases d1:dU=1
  ·subst d1;have hm:=hmay.out;unfold aP.may at hm;dsimp only at hm;rw[aO rfl,jr]at hm;obtain⟨i,rfl,hi⟩:=jU hm.1;obtain⟨j,rfl,hj⟩:=jU hm.2;have er:=(hstep.out (m.link i j on,[]) (by rw[aO rfl];simp only[iO])).symm;have GX:m.link i j on=r.1:=congrArg Prod.fst er;have Wt:=hide (show []=r.2 from congrArg Prod.snd er);have HX:=Zq hm2 i j hi hj hok.n on;have hk:=HQ.out _ (Uo hok i j hi hj on);rw[GX]at HX hk;replace HX:=hide HX;replace hk:=hide hk;clear hm hmay hstep hok hfl hbt hm2 HF HQ er GX;go_wp2_with(go_at_call 29;refine HX.out.mono ?_;rintro e w4 ⟨rfl,hmp⟩;have hfin:=hide (HE.out _ Wt.out hmp);clear hmp);go_ret;exact⟨hfin.out,hk.out⟩
  by_cases d2:dU=2
  ·subst d2;have hm:=hmay.out;unfold aP.may at hm;dsimp only at hm;rw[aD (by decide),aO (.inl rfl),jr]at hm;obtain⟨i,rfl,hi⟩:=kK hm.1;obtain⟨j,rfl,hj⟩:=jU hm.2;have er:=(hstep.out (m.send i j txt) (by rw[aD (by decide),aO rfl];simp only[iO])).symm;have HX:=Zp hm2 hok FD (by omega) i j hi hj txt hm.1;rw[er]at HX;replace HX:=hide HX;clear hm hmay hstep hok hfl hbt hm2 HE HQ er;go_wp2_with(go_at_call 30;refine HX.out.mono ?_;rintro e w4 ⟨⟨v,L,rfl,hL,hev,hmp⟩,hmk⟩;have hfin:=hide (HF.out _ _ ⟨v,L,rfl,hL,hev,hmp⟩);replace hmk:=hide (hmk.up (show κ+200000<=κ+1000000 by omega) (aA _));clear hL hev hmp);go_ret;exact⟨hfin.out,hmk.out⟩
  by_cases d3:dU=3
  ·subst d3;have er:=(hstep.out (m.tick n) (by rw[aD (by decide),aD (by decide),aO rfl])).symm;have HX:=Zo hm2 hok FD hq n eZ;rw[er]at HX;replace HX:=hide HX;clear hmay hstep hok hfl hbt hm2 HE HQ er;go_wp2_with(go_at_call 31;refine HX.out.mono ?_;rintro e w4 ⟨⟨v,L,rfl,hL,hev,hmp⟩,hmk⟩;have hfin:=hide (HF.out _ _ ⟨v,L,rfl,hL,hev,hmp⟩);replace hmk:=hide (hmk.up (iB _) (Nat.le_succ q));clear hL hev hmp);go_ret;exact⟨hfin.out,hmk.out⟩
  by_cases d4:dU=4∨dU=5∨dU=6∨dU=7
  ·have er:=(hstep.out (m.flight ⟨dU,a,b,n,on,txt⟩) (by rw[aD d1,aD d2,aD d3,aO d4])).symm;have HX:=RS hm2 hok FD hfl ⟨dU,a,b,n,on,txt⟩ d4;rw[er]at HX;unfold Pd at HX;dsimp only at HX;replace HX:=hide HX;clear hmay hstep hok hfl hbt hm2 HE HQ er d1 d2 d3;rcases d4 with rfl|rfl|rfl|rfl;all_goals
    go_wp2_with(go_at_call 32;refine HX.out.mono ?_;rintro e w4 ⟨⟨v,L,rfl,hL,hev,hmp⟩,hmk⟩;have hfin:=hide (HF.out _ _ ⟨v,L,rfl,hL,hev,hmp⟩);replace hmk:=hide (hmk.up (show κ+200000<=κ+1000000 by omega) (Nat.le_succ q));clear hL hev hmp);go_ret;exact⟨hfin.out,hmk.out⟩
  by_cases d8:dU=8
  ·subst d8;have hm:=hmay.out;unfold aP.may at hm;dsimp only at hm;rw[aD (by decide),aO (.inr rfl),jr]at hm;obtain⟨i,rfl,hi⟩:=kK hm.1;obtain⟨j,rfl,hj⟩:=jU hm.2;have er:=(hstep.out (m.hear i j txt) (by rw[aD (by decide),aD (by decide),aD (by decide),aD (by decide),aO rfl];simp only[iO])).symm;have HX:=RQ hm2 hok FD i j hi hj txt (ht.out rfl);rw[er]at HX;replace HX:=hide HX;clear hm hmay hstep hok hfl hbt hm2 HE HQ er d4;go_wp2_with(go_at_call 33;refine HX.out.mono ?_;rintro e w4 ⟨⟨v,L,rfl,hL,hev,hmp⟩,hmk⟩;have hfin:=hide (HF.out _ _ ⟨v,L,rfl,hL,hev,hmp⟩);replace hmk:=hide (hmk.up (show κ+200000<=κ+1000000 by omega) (Nat.le_succ q));clear hL hev hmp);go_ret;exact⟨hfin.out,hmk.out⟩
  by_cases d9:dU=9
  ·subst d9;have hm:=hmay.out;unfold aP.may at hm;dsimp only at hm;rw[aD (by decide),aD (by decide),aO (.inl rfl)]at hm;obtain⟨i,rfl,hi⟩:=kK hm;have er:=(hstep.out (m.put i (m.at' i).stop,[]) (by rw[aD (by decide),aD (by decide),aD (by decide),aD (by decide),aD (by decide),aO rfl];simp only[iO])).symm;have GX:m.put i (m.at' i).stop=r.1:=congrArg Prod.fst er;have Wt:=hide (show []=r.2 from congrArg Prod.snd er);obtain⟨x,s,g,c,e1,e2,e3,e4,p0⟩:=hm2.get hi;rw[e3]at GX;have hmd:=hm2.drew;have HX:=hide ((DR (hmd.st i x s e1 e2)).mono λe w4 hp=>show e=.returned (.tuple #[])∧MP y m r.1 w2 w4 by
    rw[<-GX];exact⟨hp.1,(hmd.WU e1 e2 hp.2).pre (aR _ _).drew⟩)
   have hk:=HQ.out _ (hok.put' i (Tt (hok.at e2)));rw[GX]at hk;replace hk:=hide hk;obtain⟨_,q1,_,_⟩:=hm2.cell;rw[e4]at q1;have hin:(i:Int)<(m.S.length:Int):=by omega
   clear hm hmay hstep hok hfl hbt hm2 HF HQ er GX d4 hmd e1 e2 e3 e4;go_upto_region 18 with(fail);go_region_with(go_at_call 34;refine HX.out.mono ?_;rintro e w4 ⟨rfl,hmp⟩;have hfin:=hide (HE.out _ Wt.out hmp);clear hmp)
   all_goals
    go_wp2;go_ret;exact⟨hfin.out,hk.out⟩
  by_cases d10:dU=10
  ·subst d10;have hm:=hmay.out;unfold aP.may at hm;dsimp only at hm;rw[aD (by decide),aD (by decide),aO (.inr rfl)]at hm;obtain⟨i,rfl,hi⟩:=kK hm;have er:=(hstep.out (m.put i {m.at' i with tears:=true,whole:=max 0 n},[]) (by rw[aD (by decide),aD (by decide),aD (by decide),aD (by decide),aD (by decide),aD (by decide),aO rfl];simp only[iO])).symm;have GX:m.put i {m.at' i with tears:=true,whole:=max 0 n}=r.1:=congrArg Prod.fst er;have Wt:=hide (show []=r.2 from congrArg Prod.snd er);obtain⟨x,s,g,c,e1,e2,e3,e4,p0⟩:=hm2.get hi;rw[e3]at GX;have hmd:=hm2.drew;have HX:=hide ((VG (hmd.st i x s e1 e2) n).mono λe w4 hp=>show e=.returned (.tuple #[])∧MP y m r.1 w2 w4 by
    rw[<-GX];exact⟨hp.1,(hmd.WU e1 e2 hp.2).pre (aR _ _).drew⟩)
   have hk:=HQ.out _ (hok.put' i (Ta (hok.at e2) n));rw[GX]at hk;replace hk:=hide hk;obtain⟨_,q1,_,_⟩:=hm2.cell;rw[e4]at q1;have hin:(i:Int)<(m.S.length:Int):=by omega
   clear hm hmay hstep hok hfl hbt hm2 HF HQ er GX d4 hmd e1 e2 e3 e4;go_upto_region 20 with(fail);go_region_with(go_at_call 35;refine HX.out.mono ?_;rintro e w4 ⟨rfl,hmp⟩;have hfin:=hide (HE.out _ Wt.out hmp);clear hmp)
   all_goals
    go_wp2;go_ret;exact⟨hfin.out,hk.out⟩
  by_cases d11:dU=11
  ·subst d11;have hm:=hmay.out;unfold aP.may at hm;dsimp only at hm;rw[aD (by decide),aD (by decide),aD (by decide),aO rfl,jr]at hm;obtain⟨i,rfl,hi⟩:=jU hm.1;obtain⟨x,s,g,c,e1,e2,e3,e4,p0⟩:=hm2.get hi;have hnd:(m.at' i).nd=none:=by
    have h5:=hm.2;unfold aP.runs at h5;rw[hm.1,iO]at h5;cases hn:(m.at' i).nd with
    |none=>rfl
    |some v=>
     rw[hn]at h5;cases h5
   obtain⟨UI,hdk⟩:=hbt i rfl hi hnd;have er:=(hstep.out (m.Gi i) (by rw[aD (by decide),aD (by decide),aD (by decide),aD (by decide),aD (by decide),aD (by decide),aD (by decide),aO rfl];simp only[iO])).symm;unfold aP.Gi at er;rw[e3]at hnd UI hdk er;rw[zN e2]at er;have hHB:=λW (hW:l7 x s W)=>KP hW hnd m.now UI;obtain⟨z,hz⟩:∃z,St.new s.addr s.bD m.now=z:=⟨_,rfl⟩;rw[hz]at hdk er hHB;obtain⟨m',hm'⟩:∃m',m.put i {s with nd:=some z}=m':=⟨_,rfl⟩;rw[hm']at hdk er;obtain⟨q0,q1,_,_⟩:=hm2.cell;rw[e4]at q1;have hin:(i:Int)<(m.S.length:Int):=by omega
   have hst:=hm2.st i x s e1 e2;have Wo:=aB hm2.blk;have hgl:g<w2.heap.size:=World.block_lt_of_cell? _ _ p0;have hDl:w.heap.size<w2.heap.size:=World.block_lt_of_cell? _ _ t1;have hnF:∀k,k=y.G∨k=g∨k=w.heap.size->¬kz x s k:=by
    intro k hk hF;obtain⟨o,ho,hK⟩:=hst.kind hF;rcases hk with rfl|rfl|rfl
    ·rw[hm2.blk]at ho;cases ho;exact hK.not (by decide)
    ·obtain⟨cc,hc⟩:=aL hm2.xZ (k:=k) (by rw[e4];rfl);rw[hc]at ho;cases ho;exact hK.not (by decide)
    ·rw[hC2]at ho;cases ho;exact hK.not (by decide)
   have hS0:ZY y.G g i x.B w.heap.size m.now (.slice (some ⟨g,0,none⟩) m.S.length c) w2:=⟨⟨q0,q1,p0,t1⟩,Wo,hgl,hDl⟩;have hS:=hS0.keep (W':=w2.drew) (aA _) (λ_ _=>rfl);have hd1:Below w2.heap.size w2 w2.drew:=(aR _ _).drew;have hmd:=hm2.drew;have HB2:=hide ((hHB w2.drew (hmd.st i x s e1 e2)).mono λe w4 hp=>show ∃aG bL bN y2,ZY y.G g i x.B w.heap.size m.now (.slice (some ⟨g,0,none⟩) m.S.length c) w4∧e=.returned (iC z.bD z.bq aG bL bN)∧gV w2.heap.size z.aI z.aT z.aM aG bL bN w4∧w2.heap.size<=w4.heap.size∧MM y2 m' w4∧MU y m y2 m' w2 w4 by
    obtain⟨aG,bL,bN,he,hp,hor⟩:=hp;obtain⟨y2,h5,h6⟩:=hmd.WU e1 e2 hp;rw[hm']at h5 h6;have h7:=hp;obtain⟨_,_,_,hfx,_⟩:=h7;have hsz:=hfx.size;exact⟨aG,bL,bN,y2,hS.keep hsz λk hk=>hfx.block k (by rcases hk with rfl|rfl|rfl<;>assumption) (hnF k hk),he,hor,h6.fx.size,h5,h6.pre hd1⟩)
   obtain⟨B,hB⟩:∃B,x.B=B:=⟨_,rfl⟩;rw[hB]at HB2 hS;clear hm hmay hstep hok hfl hbt hm2 HE HQ d4 hmd e1 e2 e3 e4 UI hHB hz hm' hst Wo hgl hDl hnF hS0 hB hd1;go_upto_region 22 with(fail);clear q0 q1 p0 t0 t1 t2 t3 t4 t5 hC2;refine o9 (ZY y.G g i B w.heap.size m.now (.slice (some ⟨g,0,none⟩) m.S.length c)) [16,17] (by kernel_rfl) hS (λhHeld=> ?_);refine aZ (i:=0) (v:=?hv0) rfl (by kernel_rfl) (Or.inl ⟨by rfl,?hy0⟩) hHeld ?hr0
   case hy0=>
    rintro w5 ⟨⟨q0,q1,p0,t1⟩,_⟩;go_simp;try with_reducible rfl
   try go_frame
   refine aZ (i:=1) (v:=?hv1) rfl (by kernel_rfl) (Or.inl ⟨by rfl,?hy1⟩) hHeld ?hr1
   case hy1=>
    rintro w5 ⟨⟨q0,q1,p0,t1⟩,_⟩;go_simp;try with_reducible rfl
   try go_frame
   refine aZ (i:=2) (v:=?hv2) rfl (by kernel_rfl) (Or.inl ⟨by rfl,?hy2⟩) hHeld ?hr2
   case hy2=>
    rintro w5 ⟨⟨q0,q1,p0,t1⟩,_⟩;go_simp;try with_reducible rfl
   try go_frame
   refine aZ (i:=3) (v:=?hv3) rfl (by kernel_rfl) (Or.inl ⟨by rfl,?hy3⟩) hHeld ?hr3
   case hy3=>
    rintro w5 ⟨⟨q0,q1,p0,t1⟩,_⟩;go_simp;try with_reducible rfl
   try go_frame
   refine aZ (i:=4) (v:=?hv4) rfl (by kernel_rfl) (Or.inl ⟨by rfl,?hy4⟩) hHeld ?hr4
   case hy4=>
    rintro w5 ⟨⟨q0,q1,p0,t1⟩,_⟩;go_simp;try with_reducible rfl
   try go_frame
   refine aZ (i:=5) (v:=?hv5) rfl (by kernel_rfl) (Or.inl ⟨by rfl,?hy5⟩) hHeld ?mQ
   case hy5=>
    rintro w5 ⟨⟨q0,q1,p0,t1⟩,_⟩;go_simp;try with_reducible rfl
   try go_frame
   refine aZ (i:=6) (v:=?hv6) rfl (by kernel_rfl) (Or.inl ⟨by rfl,?hy6⟩) hHeld ?rY
   case hy6=>
    rintro w5 ⟨⟨q0,q1,p0,t1⟩,_⟩;go_simp;try with_reducible rfl
   try go_frame
   refine aZ (i:=7) (v:=?hv7) rfl (by kernel_rfl) (Or.inl ⟨by rfl,?hy7⟩) hHeld ?yX
   case hy7=>
    rintro w5 ⟨⟨q0,q1,p0,t1⟩,_⟩;go_simp;try with_reducible rfl
   try go_frame
   refine aZ (i:=8) (v:=?hv8) rfl (by kernel_rfl) (Or.inl ⟨by rfl,?hy8⟩) hHeld ?h_
   case hy8=>
    rintro w5 ⟨⟨q0,q1,p0,t1⟩,_⟩;go_simp;try with_reducible rfl
   try go_frame
   refine aZ (i:=9) (v:=?hv9) rfl (by kernel_rfl) (Or.inl ⟨by rfl,?hy9⟩) hHeld ?mD
   case hy9=>
    rintro w5 ⟨⟨q0,q1,p0,t1⟩,_⟩;go_simp;try with_reducible rfl
   try go_frame
   refine aZ (i:=10) (v:=?ab4) rfl (by kernel_rfl) (Or.inl ⟨by rfl,?XO⟩) hHeld ?acj
   case XO=>
    rintro w5 ⟨⟨q0,q1,p0,t1⟩,_⟩;go_simp;try with_reducible rfl
   try go_frame
   refine aZ (i:=11) (v:=?ab3) rfl (by kernel_rfl) (Or.inl ⟨by rfl,?XM⟩) hHeld ?aci
   case XM=>
    rintro w5 ⟨⟨q0,q1,p0,t1⟩,_⟩;go_simp;try with_reducible rfl
   try go_frame
   refine aZ (i:=12) (v:=?ab2) rfl (by kernel_rfl) (Or.inl ⟨by rfl,?XL⟩) hHeld ?ach
   case XL=>
    rintro w5 ⟨⟨q0,q1,p0,t1⟩,_⟩;go_simp;try with_reducible rfl
   try go_frame
   refine aZ (i:=13) (v:=?ab1) rfl (by kernel_rfl) (Or.inl ⟨by rfl,?XK⟩) hHeld ?acg
   case XK=>
    rintro w5 ⟨⟨q0,q1,p0,t1⟩,_⟩;go_simp;try with_reducible rfl
   try go_frame
   refine aZ (i:=14) (v:=?ab0) rfl (by kernel_rfl) (Or.inl ⟨by rfl,?XJ⟩) hHeld ?acf
   case XJ=>
    rintro w5 ⟨⟨q0,q1,p0,t1⟩,_⟩;go_simp;try with_reducible rfl
   try go_frame
   refine jw (i:=15) (by kernel_rfl) rfl (λK2 hK2=> ?_);go_simp;go_at_call 37;refine HB2.out.mono ?_;rintro e w4 ⟨aG,bL,bN,y2,hS2,rfl,hor,hsz,Az,Sd⟩;have RY:=DX Az hdk aG bL bN w2.heap.size hor hsz;rw[Sd.G]at RY;go_simp;refine hK2.out _ _ (λ_=>hS2) ?_;clear hK2 K2 HB2;refine jw (i:=16) (by kernel_rfl) rfl (λK3 hK3=> ?_);replace RY:=hide RY;replace Sd:=hide Sd;replace hdk:=hide hdk;clear hor Az hS2 hHeld hS;go_simp;go_at_call 36;refine RY.out.mono ?_;rintro e w6 ⟨v,L,rfl,hL,hev,y3,MC,hu6⟩;have hfin:=HF.out (.returned v) w6 (by rw[<-er];exact⟨v,L,rfl,hL,hev,y3,MC,Sd.out.trans hu6⟩);have hk:=(Dw hdk.out).up (show κ+100000<=κ+1000000 by omega) (Nat.le_succ q);rw[er]at hk;have MK:=hide (And.intro hfin hk);clear hL hev MC hu6 RY Sd hdk HF hfin hk er;go_simp;refine hK3.out _ _ (λh=>(h (by decide)).elim) ?_;clear hK3 K3;refine jw (i:=17) (by kernel_rfl) rfl (λK4 hK4=> ?_);go_simp;refine hK4.out _ _ (λh=>(h (by decide)).elim) ?_;clear hK4 K4;refine vX (by kernel_rfl) ?_ _;go_wp2;go_ret;exact MK.out
  ·have er:=(hstep.out (m,[]) (by rw[aD d1,aD d2,aD d3,aD d4,aD d8,aD d9,aD d10,aD d11])).symm;have GX:m=r.1:=congrArg Prod.fst er;have Wt:=(show []=r.2 from congrArg Prod.snd er);have hfin:=HE.out w2 Wt (by rw[<-GX];exact MP.refl hm2);have hk:=HQ.out _ hok;rw[GX]at hk;have MK:=hide (And.intro hfin hk);have d41:¬dU=4:=λe=>d4 (.inl e);have d42:¬dU=5:=λe=>d4 (.inr (.inl e));have d43:¬dU=6:=λe=>d4 (.inr (.inr (.inl e)));have d44:¬dU=7:=λe=>d4 (.inr (.inr (.inr e)));clear hmay hstep hok hfl hbt hm2 HF HQ HE er GX Wt d4 hk hfin;go_wp2;go_ret;exact MK.out
variable{κ:Int}{xs:List Int}{q:Nat}{s:eU}
theorem Md(q own:Int)(f:Int->Option Int)(A:List Rt)(h:own<q):0<(bI q own f A).2.length:=by
 have h1:∀(A:List Rt) (st:(Int->Option Int)×List (Bool×Int×Int)),0<st.2.length->0<(A.foldl lX st).2.length:=by
  intro A
  induction A with
  |nil=>intro st hs;exact hs
  |cons y A ih=>
   intro st hs;rw[iH];refine ih _ ?_;unfold lX;split
   ·simp
   ·exact hs
 refine h1 A _ ?_;unfold pJ;rw[aO h];exact Nat.succ_pos 0
theorem YO{s:Int}(h:bg s):0<gr s:=by unfold bg gr at *;omega
theorem OI{me now:Int}(hbd:oV (jl xs)):0<(St.raw me xs now).write.aY.length:=by
 show 0<(([]:List (Bool×Int×Int))++(bI (gr ((qF (jl xs)).getD 0)) 0 _ _).2).length;rw[List.nil_append];exact Md _ _ _ _ (YO (ER hbd))
theorem aal{me now:Int}(hbd:oV (jl xs)):(∀y∈(St.raw me xs now).A,y.Ok)∧(St.raw me xs now).A.length<=8:=by
 have hc:=KG hbd;have e:(St.raw me xs now).A=vw me ((cmpL (jl xs)).take (cmpL (jl xs)).length):=by rw[List.take_length];rfl
 rw[e];refine⟨λy hy=> ?_,CF _ _ _⟩;obtain⟨j,x,_,hj,hp,rfl⟩:=CB _ _ _ y hy;have hx1:x.1=false:=by
  unfold Aq at hp;simp only[jr,Bool.not_eq_true']at hp;exact hp.1
 obtain⟨h1,h2⟩:=Pm hbd hc (jY hj) hx1;exact JX h1 h2
theorem Xu{now:Int}(h:AR κ q now s)(FD:1<=κ)(eZ:0<=now∧now<=4611686018427387904):VN κ q now {s with nd:=some (St.new s.addr s.bD now)} (St.new s.addr s.bD now):=by
 have hbd:=P9 h.jb;have hm:=JO h.addr hbd eZ;obtain⟨hA,hl⟩:=aal (me:=s.addr) (now:=now) hbd;have hi:=yU hm (by omega) rfl hA hl;have e:=aW (St.raw s.addr s.bD now);rw[St.rU];refine⟨Qb hi (by omega),λa ha=> ?_,e.me,by rw[e.now];exact iB _,by rw[e.Q];exact bX _,by rw[e.A];exact hA,by rw[e.A];exact hl⟩;rw[e.Q]at ha;cases ha
theorem CJ{now:Int}(h:AR κ q now s)(FD:1<=κ)(eZ:0<=now∧now<=4611686018427387904):Gn κ q now {s with nd:=some (St.new s.addr s.bD now)} (St.new s.addr s.bD now):=by
 have hbd:=P9 h.jb;have hn:=OI (me:=s.addr) (now:=now) hbd;have hc:Js 0 (St.new s.addr s.bD now):=by
  rw[St.rU];exact zI (s:=St.raw s.addr s.bD now) rfl (.inr ⟨rfl,hn⟩)
 have hnw:0<(St.new s.addr s.bD now).aY.length:=by
  rw[St.rU];unfold St.finish;split
  ·show 0<(St.cmp _).length;rw[xN];exact Nat.succ_pos _
  ·exact hn
 refine⟨h.addr,h.a0,h.jb,h.jl,h.wh,rfl,Xu h FD eZ,λhr=> ?_,λhr=>(hc.yes hr).1,?_⟩
 ·have hx:s.bD=[]:=by
   rw[St.rU]at hr;unfold St.finish at hr;split at hr
   ·cases hr
   ·have h5:decide (s.bD≠ [])=false:=hr;simpa using h5
  have:=hc.no hr;show 13 * (St.new s.addr s.bD now).cnt=((s.bD.length:Nat):Int)+_;rw[hx]at this ⊢;simp only[List.length_nil];omega
 ·cases hr:(St.new s.addr s.bD now).bq with
  |false=>
   have:=hc.no hr;omega
  |true=>
   have:=hc.yes hr;omega
theorem Rm{m:aP}(hok:iy κ q m)(FD:1<=κ){i:Nat}(hi:i<m.S.length)(hfw:KY (jl (m.at' i).bD)):D8 (m.at' i) m.now∧A7 κ q (m.put i {m.at' i with nd:=some (St.new (m.at' i).addr (m.at' i).bD m.now)}) i (St.new (m.at' i).addr (m.at' i).bD m.now):=by
 have hS:m.S[i]?=some (m.at' i):=by
  have h1:=bW hi;rw[gL h1];exact h1
 have hs:=hok.at hS;refine⟨⟨hs.addr,hs.a0,hs.jb,by have:=hs.jl;omega,hfw,hok.now⟩,⟨by rw[(gG _ _ _).1,List.length_set];exact hok.n,hok.bH,hok.now,λj u hu hne=> ?_,⟨{m.at' i with nd:=some (St.new (m.at' i).addr (m.at' i).bD m.now)},by rw[(gG _ _ _).1,List.getElem?_set_self hi],CJ hs FD hok.now⟩⟩⟩;rw[(gG _ _ _).1,List.getElem?_set_ne (Ne.symm hne)]at hu;exact hok.at hu
theorem RX(ao:Option Addr)(g n c:Nat)(hao:0<n->ao=some ⟨g,0,none⟩)(L:List Int)(d:Int)(w:World)(hn:n<=100)(hc:∀k,k<n->w.cell? ⟨g,k,none⟩=some (.int .u32 (L.getD k 0)))(hd:∀k,k<n->L.getD k 0≠d):
  Calls Tryz.prog 136 #[.slice ao n c,.int .u32 d] w λe w'=>e=.returned (.int .i64 (-1))∧w'=w:=by
 go_enter Tryz.func136,Tryz.ntmps136;go_wp2_with fail;go_loopw [8] (λi wr=>∃(j:Nat),j<=n∧i=.int .i64 j∧wr=w) (λi _=>n - (intOf i).toNat)
 case atStart=>exact⟨0,bX _,rfl,rfl⟩
 case round=>
  obtain⟨j,hj,rfl,rfl⟩:=hrel;by_cases hlt:j<n
  ·have hix:(j:Int)<(n:Int):=by omega
   have hne:(d==L.getD j 0)=false:=by
    rw[beq_eq_false_iff_ne];exact λe=>hd j hlt e.symm
   have h0:=hc j hlt;obtain⟨x,hx⟩:∃x,L.getD j 0=x:=⟨_,rfl⟩;rw[hx]at h0 hne;cases hao (by omega);clear hc hd hx hao;go_wp2;go_roundw
   case rel=>exact⟨j+1,by omega,by go_num,by trivial⟩
   case measure=>simp[intOf];omega
  ·obtain rfl:j=n:=by omega
   clear hc hd hao;go_wp2;go_ret;exact⟨rfl,rfl⟩
theorem GA(ao:Option Addr)(g n c:Nat)(hao:0<n->ao=some ⟨g,0,none⟩)(L:List Int)(d:Int)(w:World)(hn:n<=100)(hc:∀k,k<n->w.cell? ⟨g,k,none⟩=some (.int .u32 (L.getD k 0)))(hd:∀k,k<n->L.getD k 0≠d):
  Calls Tryz.prog 97 #[.slice ao n c,.int .u32 d] w λe w'=>e=.returned (.bool false)∧w'=w:=by
 have HI:=hide (RX ao g n c hao L d w hn hc hd);clear hc hd hao;go_enter Tryz.func97,Tryz.ntmps97;go_wp2_with(go_at_call 136;refine HI.out.mono ?_;rintro e w2 ⟨rfl,hw⟩;replace hw:=hide hw);go_ret;exact⟨rfl,hw.out⟩
theorem Vd(g n c:Nat)(L:List Int)(w:World)(hn:0<n∧n<=6)(hcap:n<=c)(hc:∀k,k<n->w.cell? ⟨g,k,none⟩=some (.int .u32 (L.getD k 0)))(h0:∀k,k<n->L.getD k 0≠0)(hd:∀j k,j<k->k<n->L.getD j 0≠L.getD k 0):
  Calls Tryz.prog 61 #[.slice (some ⟨g,0,none⟩) n c] w λe w'=>e=.returned (.bool true)∧w'=w:=by
 have hz:((n:Int)==0)=false:=by
  rw[beq_eq_false_iff_ne];omega
 have hs:decide ((n:Int)>6)=false:=dL (by omega);have hs':decide (6<(n:Int))=false:=dL (by omega);have hz':decide ((n:Int)=0)=false:=dL (by omega);have HC:=hide λ(k:Nat) (hk:k<n)=>GA (some ⟨g,0,none⟩) g k c (λ_=>rfl) L (L.getD k 0) w (by omega) (λj hj=>hc j (by omega)) (λj hj=>hd j k hj hk);replace hc:=hide hc;replace h0:=hide h0;clear hd;go_enter Tryz.func61,Tryz.ntmps61;go_wp2_with fail;go_loopw [15] (λi wr=>∃(j:Nat),j<=n∧i=.int .i64 j∧wr=w) (λi _=>n - (intOf i).toNat)
 case atStart=>exact⟨0,bX _,rfl,rfl⟩
 case round=>
  obtain⟨j,hj,rfl,rfl⟩:=hrel;by_cases hlt:j<n
  ·have hix:(j:Int)<(n:Int):=by omega
   have hjc:(j:Int)<=(c:Int):=by omega
   have hne:(L.getD j 0==0)=false:=by
    rw[beq_eq_false_iff_ne];exact h0.out j hlt
   have k0:=hc.out j hlt;have HX:=hide (HC.out j hlt);obtain⟨x,hx⟩:∃x,L.getD j 0=x:=⟨_,rfl⟩;rw[hx]at k0 hne HX;clear hc h0 HC hx;go_wp2_with(go_at_call 97;refine HX.out.mono ?_;rintro e w2 ⟨rfl,hw⟩;obtain rfl:=hw);go_roundw
   case rel=>exact⟨j+1,by omega,by go_num,by trivial⟩
   case measure=>simp[intOf];omega
  ·obtain rfl:j=n:=by omega
   clear hc h0 HC;go_wp2;go_ret;exact⟨rfl,rfl⟩
variable{j:Nat}{α:Type}
theorem dJ{L:List α}{a b:α}(h:(L++ [a])[j]?=some b):L[j]?=some b∨(j=L.length∧b=a):=by
 by_cases hj:j<L.length
 ·rw[List.getElem?_append_left hj]at h;exact .inl h
 ·rw[List.getElem?_append_right (by omega)]at h;obtain⟨h1,h2⟩:=gm.1 h;have h3:j - L.length=0:=by simpa using h1
  refine .inr ⟨by omega,?_⟩;simp only[h3,List.getElem_cons_zero]at h2;exact h2.symm
theorem lt_of_some{L:List α}{b:α}(h:L[j]?=some b):j<L.length:=(gm.1 h).1
theorem MM.add{y:MG}{m:aP}{W:World}(h:MM y m W){x:SG}{s:eU}(hx:l7 x s W)(hap:∀k,kz x s k->¬uU y m k){v7:Value}{w7:World}(ho:w7.ownsRow 0 94 1 v7 (m.S.length+1) (Jf y.L++Jf [x]))(hg:W.grownBy w7 y.sv.ownBlock)(hv:v7.ownBlock=y.sv.ownBlock∨v7.ownBlock=some W.heap.size):
  (w7.cell? ⟨y.G,1,none⟩=some y.sv∧w7.frozen? ⟨y.G,1,none⟩=false)∧MM {y with L:=y.L++ [x],sv:=v7} {m with S:=m.S++ [s]} (w7.setCell ⟨y.G,1,none⟩ v7)∧∀k,uU {y with L:=y.L++ [x],sv:=v7} {m with S:=m.S++ [s]} k->uU y m k∨kz x s k∨(W.heap.size<=k∧k<(w7.setCell ⟨y.G,1,none⟩ v7).heap.size):=by
 have hne:y.sv.ownBlock≠some y.G:=aH h.xZ h.blk (λc e=>(by cases e));have hblk:=hg.block _ (aB h.blk) λe=>hne e.symm;obtain⟨_,c1,_,fz⟩:=h.cell;have GQ:=hblk.trans h.blk;have hg2:w7.grownBy (w7.setCell ⟨y.G,1,none⟩ v7) (some y.G):=ah (ay _ (some y.G)) 1 _;have hsz:=hg.size;have hkeep:∀k,k<W.heap.size->k≠y.G->y.sv.ownBlock≠some k->(w7.setCell ⟨y.G,1,none⟩ v7).heap[k]?=W.heap[k]?:=λk hk h1 h2=>(hg2.block k (by omega) λe=>h1 (Option.some.inj e)).trans (hg.block k hk λe=>h2 e.symm);have hst:∀(i:Nat) z u,y.L[i]?=some z->m.S[i]?=some u->l7 z u (w7.setCell ⟨y.G,1,none⟩ v7):=λi z u h1 h2=>(h.st i z u h1 h2).kept λk hk=>by
  obtain⟨q1,q2,_⟩:=h.own h1 h2 hk;exact hkeep k ((h.st i z u h1 h2).lt hk) q1 q2
 have hxs:l7 x s (w7.setCell ⟨y.G,1,none⟩ v7):=hx.kept λk hk=>hkeep k (hx.lt hk) (λe=>hap k hk (.inl e)) λe=>hap k hk (.inr (.inl e));have hll:=h.len;refine⟨⟨(World.cell?_of_block (a:=⟨y.G,1,none⟩) hblk).trans c1,(World.frozen?_of_block (a:=⟨y.G,1,none⟩) hblk).trans (fz 1)⟩,⟨?_,?_,?_,?_,λi z u h1 h2=> ?_,λi j z u z' u' hij h1 h2 h3 h4 k hk hk'=> ?_⟩,λk hk=> ?_⟩
 ·simp[World.setCell,dM,GQ]
 ·have hr:=ho.kept hg2 (.inr (aH ho GQ (λc e=>(by cases e))));show World.ownsRow _ 0 _ 1 v7 (m.S++ [s]).length (Jf (y.L++ [x]));rw[bZ,show Jf (y.L++ [x])=Jf y.L++Jf [x]from List.map_append];exact hr
 ·refine bK h.bH λk hk=>hkeep k (h.bH.lt k hk).2 (λe=> ?_) λe=> ?_
  ·subst e;exact aH h.bH h.blk (λc e=>(by cases e)) hk
  ·rcases bP h.xZ h.bH (by decide)with q|q
   ·rw[q]at e;cases e
   ·exact q (e.trans hk.symm)
 ·show(y.L++ [x]).length=(m.S++ [s]).length;rw[bZ,bZ,hll];rfl
 ·rcases dJ h1 with h1|⟨e1,rfl⟩
  ·rcases dJ h2 with h2|⟨e2,_⟩
   ·exact hst i z u h1 h2
   ·have:=lt_of_some h1;omega
  ·rcases dJ h2 with h2|⟨_,rfl⟩
   ·have:=lt_of_some h2;omega
   ·exact hxs
 ·rcases dJ h1 with p1|⟨e1,rfl⟩
  ·rcases dJ h2 with p2|⟨e2,_⟩
   ·rcases dJ h3 with h3|⟨e3,rfl⟩
    ·rcases dJ h4 with h4|⟨e4,_⟩
     ·exact h.ap i j z u z' u' hij p1 p2 h3 h4 k hk hk'
     ·have:=lt_of_some h3;omega
    ·rcases dJ h4 with h4|⟨_,rfl⟩
     ·have:=lt_of_some h4;omega
     ·exact hap k hk' (.inr (.inr (.inr ⟨i,z,u,p1,p2,hk⟩)))
   ·have:=lt_of_some p1;omega
  ·rcases dJ h2 with h2|⟨_,rfl⟩
   ·have:=lt_of_some h2;omega
   ·rcases dJ h3 with h3|⟨e3,_⟩
    ·rcases dJ h4 with h4|⟨e4,_⟩
     ·exact hap k hk (.inr (.inr (.inr ⟨j,z',u',h3,h4,hk'⟩)))
     ·have:=lt_of_some h3;omega
    ·exact absurd (e1.trans e3.symm) hij
 ·rcases hk with hk|hk|hk|⟨i,z,u,h1,h2,hk⟩
  ·exact .inl (.inl hk)
  ·rcases hv with e|e
   ·exact .inl (.inr (.inl (by rw[<-e];exact hk)))
   ·have h1:=(ho.lt k hk).2;rw[show({y with L:=y.L++ [x],sv:=v7}:MG).sv=v7 from rfl,e]at hk;cases hk;exact .inr (.inr ⟨aA _,by simpa using h1⟩)
  ·exact .inl (.inr (.inr (.inl hk)))
  ·rcases dJ h1 with h1|⟨e1,rfl⟩
   ·rcases dJ h2 with h2|⟨e2,_⟩
    ·exact .inl (.inr (.inr (.inr ⟨i,z,u,h1,h2,hk⟩)))
    ·have:=lt_of_some h1;omega
   ·rcases dJ h2 with h2|⟨_,rfl⟩
    ·have:=lt_of_some h2;omega
    ·exact .inr (.inl hk)
theorem Ps:Nonempty bF:=⟨by repeat' (first|exact Value.slice none 0 0|exact(0:Nat)|exact(0:Int)|exact false|exact(⟨#[]⟩:ByteArray)|exact []|exact none|constructor|intro)⟩
def lW(a:Int):Obj:=.cells #[.int .u32 a,.slice none 0 0,.pointer none,.bool false,.bool false,.bool false,.bool false,.bool false,.bool false,.bool false,.int .i64 0] 102
def Lg(a:Int):eU:=⟨a,bA (St.new a [] 0).aY,some (St.new a [] 0),List.replicate 6 false,false,0⟩
theorem WW(wr:World)(a:Int)(hU:bg a)(h0:a≠0):Calls Tryz.prog 37 #[.pointer (some ⟨wr.heap.size,0,none⟩),.int .u64 0] (wr.alloc (lW a)) λe W3=>∃aG bL bN,e=.returned (iC (St.new a [] 0).bD (St.new a [] 0).bq aG bL bN)∧Hid (Calls Tryz.prog 62 #[.pointer (some ⟨wr.heap.size,0,none⟩),iC (St.new a [] 0).bD (St.new a [] 0).bq aG bL bN] W3 λe W4=>e=.returned (.bool true)∧∃x2:SG,x2.B=wr.heap.size∧l7 x2 (Lg a) W4∧Fx (λk=>k=wr.heap.size) (wr.alloc (lW a)) W4∧∀k,kz x2 (Lg a) k->wr.heap.size<=k):=by
 obtain⟨g0⟩:=Ps;have hx:l7 ⟨wr.heap.size,.slice none 0 0,0,g0,[]⟩ ⟨a,[],none,List.replicate 6 false,false,0⟩ (wr.alloc (lW a)):=
  ⟨bO _ _,rfl,⟨rfl,.inl ⟨rfl,rfl⟩⟩,λz hz=>(by cases hz)⟩
 have hs:AR 1 0 0 ⟨a,[],none,List.replicate 6 false,false,0⟩:=⟨hU,h0,λx h=>(by cases h),bX _,iB _,λz hz=>(by cases hz),λz hz=>(by cases hz)⟩;have hp:=CJ hs (iB _) ⟨iB _,by decide⟩;have hsz:(wr.alloc (lW a)).heap.size=wr.heap.size+1:=by simp
 have hin:∀k,kz ⟨wr.heap.size,.slice none 0 0,0,g0,[]⟩ ⟨a,[],none,List.replicate 6 false,false,0⟩ k->k=wr.heap.size:=by
  intro k hk;rcases hk with hk|hk|⟨z,hz,_⟩
  ·exact hk
  ·cases hk
  ·cases hz
 refine(KP hx rfl 0 ⟨hU,h0,λx h=>(by cases h),bX _,⟨[],bX _,λa h=>(by cases h)⟩,⟨iB _,by decide⟩⟩).mono ?_;rintro e W3 ⟨aG,bL,bN,rfl,⟨x1,hB1,hm1,hf1,hu1⟩,_⟩;refine⟨aG,bL,bN,rfl,hide ?_⟩;dsimp only at hB1 hm1 hu1;have hnw:=hp.ZB;have hcn:=hp.nd.inv.bd;have HW:=Gl hm1 (St.new a [] 0).ot aG bL bN hcn (by show(St.new a [] 0).aY.length<=_;dsimp only at hnw;omega) (bX _) (iB _);rw[hB1]at HW;have hne:(St.new a [] 0).ot.aY≠ []∨(St.new a [] 0).ot.bq=true:=by
  refine .inl λe=> ?_;have h1:=hp.no;have h2:=hp.yes;have h3:=hp.pos;have e':(St.new a [] 0).aY=[]:=e;dsimp only at h1 h2 h3;rw[e']at h1 h2;cases hr:(St.new a [] 0).bq with
  |false=>
   have h4:=h1 hr;simp only[List.length_nil]at h4;omega
  |true=>
   have h4:=h2 hr;simp only[List.length_nil]at h4;omega
 have hwe:=eU.kI (s:=⟨a,[],some (St.new a [] 0),List.replicate 6 false,false,0⟩) hne rfl;have hs2:(eU.write ⟨a,[],some (St.new a [] 0),List.replicate 6 false,false,0⟩ (St.new a [] 0).ot).1=Lg a:=by
  rw[hwe];unfold Lg;dsimp only;split<;>rfl
 have hs3:(eU.write ⟨a,[],some (St.new a [] 0),List.replicate 6 false,false,0⟩ (St.new a [] 0).ot).2=true:=by rw[hwe]
 rw[hs2,hs3]at HW;refine HW.mono ?_;rintro e W4 ⟨rfl,x2,hB2,hm2,hf2,hu2⟩;have hz1:=hf1.size;refine⟨rfl,x2,hB2.trans hB1,hm2,(hf1.mono hin).trans hf2 λi hi hk=> ?_,λk hk=> ?_⟩
 ·rcases hu1 i hk with h|h
  ·exact hin i h
  ·omega
 ·rcases hu2 k hk with h|h
  ·rcases hu1 k h with h|h
   ·exact Nat.le_of_eq (hin k h).symm
   ·omega
  ·omega
variable{L:List Int}{k:Nat}
theorem Qg:(Tryz.prog.info? 94).map (λi=>(i.zero,i.size,i.bytes))=some (some (.pointer none),1,8):=by kernel_rfl
def NwI(M:Nat)(w:World)(L:List Int)(k:Nat)(wr:World):Prop:=∃y:MG,y.G=M∧MM y (aP.new (L.take k)) wr∧Fx (λ_=>False) w wr∧∀q,uU y (aP.new (L.take k)) q->w.heap.size<=q
theorem EZ(hk:k<L.length):aP.new (L.take (k+1))={aP.new (L.take k)with S:=(aP.new (L.take k)).S++ [Lg (L.getD k 0)]}:=by
 unfold aP.new;rw[List.take_add_one,List.map_append]
 congr 1
 rw[List.getD_eq_getElem?_getD,bW hk];rfl
theorem J3(L:List Int):(aP.new L).S.length=L.length:=by
 unfold aP.new;rw[jq]
theorem Ug{M:Nat}{w wr:World}(hk:k<L.length){y:MG}(hG:y.G=M)(hm:MM y (aP.new (L.take k)) wr)(hf:Fx (λ_=>False) w wr)(hge:∀q,uU y (aP.new (L.take k)) q->w.heap.size<=q)(W4:World)(x2:SG)(hB:x2.B=wr.heap.size)(hx:l7 x2 (Lg (L.getD k 0)) W4)(h4:Fx (λq=>q=wr.heap.size) (wr.alloc (lW (L.getD k 0))) W4)(hxg:∀q,kz x2 (Lg (L.getD k 0)) q->wr.heap.size<=q):
  MM y (aP.new (L.take k)) W4∧∀(v7:Value) (w7:World),w7.ownsRow 0 94 1 v7 ((aP.new (L.take k)).S.length+1) (Jf y.L++ [.pointer (some ⟨wr.heap.size,0,none⟩)])->(W4.alloc (.cells #[.pointer (some ⟨wr.heap.size,0,none⟩)] 94)).grownBy w7 y.sv.ownBlock->(v7.ownBlock=y.sv.ownBlock∨v7.ownBlock=some (W4.alloc (.cells #[.pointer (some ⟨wr.heap.size,0,none⟩)] 94)).heap.size)->(w7.cell? ⟨M,1,none⟩=some y.sv∧w7.frozen? ⟨M,1,none⟩=false)∧Hid (NwI M w L (k+1) (w7.setCell ⟨M,1,none⟩ v7)):=by
 subst hG;have hsz:(wr.alloc (lW (L.getD k 0))).heap.size=wr.heap.size+1:=by simp
 have hz4:=h4.size;have hm2:=hm.later ((aR wr.heap.size wr).alloc (aA _) (lW (L.getD k 0)));have Az:MM y (aP.new (L.take k)) W4:=hm2.kept λq hq=>h4.block q (hm2.lt hq) λe=>by
  have:=hm.lt hq;omega
 refine⟨Az,λv7 w7 ho hg hv=> ?_⟩;have hb5:Below W4.heap.size W4 (W4.alloc (.cells #[.pointer (some ⟨wr.heap.size,0,none⟩)] 94)):=bn;have Yc:=Az.later hb5;rw[<-hB]at ho;obtain⟨c1,hm7,hin⟩:=Yc.add (hx.later hb5) (λq hq hq'=>by
  have h1:=hxg q hq;have h2:=hm.lt hq';omega) ho hg hv
 refine⟨c1,hide ⟨{y with L:=y.L++ [x2],sv:=v7},rfl,?_,?_,λq hq=> ?_⟩⟩
 ·rw[EZ hk];exact hm7
 ·have f1:Fx (λ_=>False) w (wr.alloc (lW (L.getD k 0))):=hf.trans (S':=λ_=>False) (Fx.below ((aR wr.heap.size wr).alloc (aA _) _)) λ_ _ h=>h;have hzf:=hf.size;have f2:Fx (λ_=>False) w W4:=f1.trans h4 λi hi e=>by omega
  have f3:Fx (λ_=>False) w (W4.alloc (.cells #[.pointer (some ⟨wr.heap.size,0,none⟩)] 94)):=f2.trans (S':=λ_=>False) (Fx.below hb5) λ_ _ h=>h;have f4:Fx (λ_=>False) w w7:=aQ f3 hg λi hi e=>by
   have:=hge i (.inr (.inl e));omega
  exact aQ f4 (ah (ay w7 (some y.G)) 1 v7) λi hi e=>by
   cases e;have:=hge y.G (.inl rfl);omega
 ·rw[EZ hk]at hq;have hzf:=hf.size;have adX:=hb5.size;rcases hin q hq with h|h|⟨h,_⟩
  ·exact hge q h
  ·have:=hxg q h;omega
  ·omega
theorem abC(g n c:Nat)(L:List Int)(w:World)(hL:L.length=n)(hn:0<n∧n<=6)(hcap:n<=c)(hU:∀k,k<n->bg (L.getD k 0))(hgl:g<w.heap.size)(hc:∀k,k<n->w.cell? ⟨g,k,none⟩=some (.int .u32 (L.getD k 0)))(h0:∀k,k<n->L.getD k 0≠0)(hd:∀j k,j<k->k<n->L.getD j 0≠L.getD k 0):
  Calls Tryz.prog 27 #[.slice (some ⟨g,0,none⟩) n c] w λe w'=>∃y:MG,e=.returned (.tuple #[.pointer (some ⟨y.G,0,none⟩),.int .i64 0])∧MM y (aP.new L) w'∧Fx (λ_=>False) w w'∧∀q,uU y (aP.new L) q->w.heap.size<=q:=by
 have HFt:=hide (Vd g n c L w hn hcap hc h0 hd);have hst:Hid (NwI w.heap.size w L 0 (w.alloc (.cells #[.int .u64 0,.slice none 0 0,.slice none 0 0] 97))):=by
  refine hide ⟨⟨w.heap.size,.slice none 0 0,.slice none 0 0,[]⟩,rfl,⟨bO _ _,⟨rfl,.inl ⟨rfl,rfl⟩⟩,⟨rfl,.inl ⟨rfl,rfl⟩⟩,rfl,λi x s h=>(by cases h),λi j x s x' s' _ h=>(by cases h)⟩,Fx.below (bn),λq hq=> ?_⟩;rcases hq with h|h|h|⟨i,x,s,h,_⟩
  ·exact Nat.le_of_eq h.symm
  ·cases h
  ·cases h
  ·cases h
 replace hc:=hide hc;replace h0:=hide h0;replace hU:=hide hU;obtain⟨i0,hi,hz0,hz1,hz2⟩:=info_parts Qg;go_enter Tryz.func27,Tryz.ntmps27;go_upto_region 4 with(go_at_call 61;refine HFt.out.mono ?_;rintro e w2 ⟨rfl,hw⟩;have hw2:=hw.symm;subst hw2);generalize World.alloc _ _=W1 at hst ⊢;generalize w.heap.size=M at hst ⊢;go_wp2_with fail;go_loopw [15] (λi wr=>∃(j:Nat),j<=n∧i=.int .i64 j∧Hid (NwI M w L j wr)) (λi _=>n - (intOf i).toNat)
 case atStart=>exact⟨0,bX _,rfl,hst⟩
 case round=>
  obtain⟨j,hj,rfl,hr⟩:=hrel;by_cases hlt:j<n
  ·have hlL:j<L.length:=by omega
   have hix:(j:Int)<(n:Int):=by omega
   obtain⟨y,hG,hm,hf,hge⟩:=hr.out;have k0:=(World.cell?_of_block (a:=⟨g,j,none⟩) (hf.block g hgl (λh=>h))).trans (hc.out j hlt);have HX:=WW wr _ (hU.out j hlt) (h0.out j hlt);have HS:=Ug hlL hG hm hf hge;have hlen:(aP.new (L.take j)).S.length=j:=by
    rw[J3,List.length_take];omega
   have q0:wr.cell? ⟨M,0,none⟩=some (.int .u64 0):=by
    rw[<-hG];exact hm.cell.1
   obtain⟨a,ha⟩:∃a,L.getD j 0=a:=⟨_,rfl⟩;rw[ha]at k0 HX HS;have q2:=(((aR wr.heap.size wr).alloc (aA _) (lW a)).cell (World.block_lt_of_cell? _ _ q0)).trans q0;obtain⟨W2,hW2⟩:∃W2,wr.alloc (lW a)=W2:=⟨_,rfl⟩;rw[hW2]at HX HS q2;unfold lW at hW2;obtain⟨D,hD⟩:∃D,wr.heap.size=D:=⟨_,rfl⟩;obtain⟨mk,hmk⟩:∃mk,aP.new (L.take j)=mk:=⟨_,rfl⟩;rw[hmk]at HS hlen;rw[hlen]at HS;rw[hD]at HX HS;replace HX:=hide HX;have HS2:Hid (∀(W4:World) (x2:SG),x2.B=D->l7 x2 (Lg a) W4->Fx (λq=>q=D) W2 W4->(∀q,kz x2 (Lg a) q->D<=q)->∃ao cc,y.sv=.slice ao j cc∧W4.cell? ⟨M,1,none⟩=some (.slice ao j cc)∧(W4.alloc (.cells #[.pointer (some ⟨D,0,none⟩)] 94)).ownsRow 0 94 1 (.slice ao j cc) j (Jf y.L)∧∀(v7:Value) (w7:World),w7.ownsRow 0 94 1 v7 (j+1) (Jf y.L++ [.pointer (some ⟨D,0,none⟩)])->(W4.alloc (.cells #[.pointer (some ⟨D,0,none⟩)] 94)).grownBy w7 (Value.slice ao j cc).ownBlock->(v7.ownBlock=(Value.slice ao j cc).ownBlock∨v7.ownBlock=some (W4.alloc (.cells #[.pointer (some ⟨D,0,none⟩)] 94)).heap.size)->(w7.cell? ⟨M,1,none⟩=some (.slice ao j cc)∧w7.frozen? ⟨M,1,none⟩=false)∧Hid (NwI M w L (j+1) (w7.setCell ⟨M,1,none⟩ v7))):=by
    refine hide λW4 x2 p1 p2 p3 p4=> ?_;obtain⟨Az,hnx⟩:=HS W4 x2 p1 p2 p3 p4;obtain⟨ao,cc,hsv,_⟩:=ak Az.xZ;rw[hlen]at hsv;have hs5:=(Az.later ((aR W4.heap.size W4).alloc (aA _) (.cells #[.pointer (some ⟨D,0,none⟩)] 94))).xZ;have c1:=Az.cell.2.1;rw[hsv,hlen]at hs5;rw[hG,hsv]at c1;rw[hsv]at hnx;exact⟨ao,cc,hsv,c1,hs5,hnx⟩
   have hsrc:Hid (∀W4:World,Src Tryz.prog 1 95 (.slice (some ⟨W4.heap.size,0,none⟩) 1 1) 1 [.pointer (some ⟨D,0,none⟩)] (W4.alloc (.cells #[.pointer (some ⟨D,0,none⟩)] 94))):=hide λW4=>Src.ofRow (base:=0) (e':=94) (e:=94) Tryz.underlying95 ⟨rfl,.inr ⟨W4.heap.size,1,_,rfl,bX _,bO _ _,aA _,by decide,rfl,rfl⟩⟩ (λu hu=>by
    rw[fD]at hu;subst hu;rfl)
   have hmx:Hid (j+1<=maxLen∧(j+1)* 8<=140737488355328):=by unfold maxLen;exact hide (by omega)
   clear HS hm hf hge hlen hmk ha q0 hG hr;go_upto_region 8 with(fail);clear hW2 hD k0;go_wp2_with(first
    |(go_at_call 37;refine HX.out.mono ?_;rintro e W3 ⟨aG,bL,bN,rfl,HW⟩)
    |(go_at_call 62;refine HW.out.mono ?_;rintro e W4 ⟨rfl,x2,hB2,hm2,hf2,aaT⟩;obtain⟨ao,cc,hsv,c1,hs5,hnx⟩:=HS2.out W4 x2 hB2 hm2 hf2 aaT;have hsr:=hsrc.out W4;replace hnx:=hide hnx;clear hB2 hm2 hf2 aaT HW hsv)
    |(at_builtin;refine mH rfl _ _ _ _ rfl 0 94 i0 (.pointer none) 1 8 Tryz.underlying95 hi hz0 hz1 hz2 rfl (.slice ao j cc) j (Jf y.L) rfl hs5 _ 1 [.pointer (some ⟨D,0,none⟩)] rfl hsr hmx.out.1 hmx.out.2 (bX _) ?_;intro v7 w7 ho hg hv;obtain⟨⟨g1,g2⟩,hnw⟩:=hnx.out v7 w7 ho hg hv;obtain⟨N8,Rk,rfl,_⟩:=ak ho;clear ho hg hv hnx hs5 hsr))
   go_roundw
   case rel=>exact⟨j+1,by omega,by go_num,hnw⟩
   case measure=>simp[intOf];omega
  ·obtain rfl:j=n:=by omega
   obtain⟨y,hG,hm,hf,hge⟩:=hr.out;rw[l_ (Nat.le_of_eq hL)]at hm hge;have hfin:Hid (∃y:MG,y.G=M∧MM y (aP.new L) wr∧Fx (λ_=>False) w wr∧∀q,uU y (aP.new L) q->w.heap.size<=q):=⟨y,hG,hm,hf,hge⟩;clear hm hf hge hG hr hc h0 hU;go_wp2;go_returns;obtain⟨y,hG,hm,hf,hge⟩:=hfin.out;exact⟨y,by rw[hG];rfl,hm,hf,hge⟩
variable{m:aP}
theorem WX{a:Int}(hU:bg a)(h0:a≠0):AR 1 0 0 (Lg a):=by
 have hs:AR 1 0 0 ⟨a,[],none,List.replicate 6 false,false,0⟩:=⟨hU,h0,λx h=>(by cases h),bX _,iB _,λz hz=>(by cases hz),λz hz=>(by cases hz)⟩;have hp:=CJ hs (iB _) ⟨iB _,by decide⟩;dsimp only at hp;have hne:(St.new a [] 0).ot.aY≠ []∨(St.new a [] 0).ot.bq=true:=by
  refine .inl λe=> ?_;have h1:=hp.no;have h2:=hp.yes;have h3:=hp.pos;have e':(St.new a [] 0).aY=[]:=e;dsimp only at h1 h2 h3;rw[e']at h1 h2;cases hr:(St.new a [] 0).bq with
  |false=>
   have h4:=h1 hr;simp only[List.length_nil]at h4;omega
  |true=>
   have h4:=h2 hr;simp only[List.length_nil]at h4;omega
 have hwe:=eU.kI (s:=⟨a,[],some (St.new a [] 0),List.replicate 6 false,false,0⟩) hne rfl;have hs2:(eU.write ⟨a,[],some (St.new a [] 0),List.replicate 6 false,false,0⟩ (St.new a [] 0).ot).1=Lg a:=by
  rw[hwe];unfold Lg;dsimp only;split<;>rfl
 have:=hp.write;rw[hs2]at this;exact this
theorem J2{L:List Int}(hn:L.length<=6)(hU:∀a∈L,bg a)(h0:∀a∈L,a≠0):iy 1 0 (aP.new L)∧o6 (aP.new L):=by
 refine⟨⟨by rw[J3];exact hn,bX _,⟨iB _,by show(0:Int)<=4611686018427387904;decide⟩,λs hs=> ?_⟩,λf hf=>by cases hf⟩;obtain⟨a,ha,rfl⟩:=dO.1 hs;exact WX (hU a ha) (h0 a ha)
def NM(L:List (Int×ByteArray)):Prop:=∀f∈L,f.2.size<=65536
theorem o6.launch(h:o6 m){i j:Nat}{b:ByteArray}(hi:i<m.S.length)(hj:j<m.S.length)(hb:b.size<=65536):o6 (m.launch (i,j,b)):=by
 intro f hf;have h1:∀f∈m.bH++ [(i,j,b)],f.1<m.S.length∧f.2.1<m.S.length∧f.2.2.size<=65536:=by
  intro f hf;rcases fA.1 hf with hf|hf
  ·exact h f hf
  ·rw[fD]at hf;subst hf;exact⟨hi,hj,hb⟩
 unfold aP.launch at hf;dsimp only at hf;split at hf
 ·exact h1 f (List.mem_of_mem_tail hf)
 ·exact h1 f hf
theorem o6.put(h:o6 m)(i:Nat)(s:eU):o6 (m.put i s):=by
 intro f hf;rw[(gG _ _ _).1,List.length_set];exact h f hf
theorem o6.foldl{i:Nat}{b:ByteArray}(hb:b.size<=65536):∀(l:List Nat) (m:aP),o6 m->i<m.S.length->(∀j∈l,j<m.S.length)->o6 (l.foldl (λm j=>m.launch (i,j,b)) m)
 | [],_,h,_,_=>h
 |a::l,m,h,hi,hl=>by
  rw[iH];exact o6.foldl hb l _ (h.launch hi (hl a (jo ..)) hb) hi λj hj=>hl j (kU _ hj)
theorem o6.bU(h:o6 m){i:Nat}{f:Int×ByteArray}(hi:i<m.S.length)(hb:f.2.size<=65536):o6 (m.bU i f):=by
 refine o6.foldl hb _ _ h hi λj hj=> ?_;unfold aP.heard at hj;exact List.mem_range.1 (List.mem_filter.1 hj).1
variable{c:sP}{n:Nat}{s s':St}
theorem Nb{p:aC}{L:List (Int×Int)}(h:L=[]∨L.length=p.ln):(strOfNums (qH p L)).size<=65536:=by
 have hs:∀xs:List Int,(strOfNums xs).size=xs.length:=λxs=>by simp[strOfNums,ByteArray.size]
 rw[hs];unfold qH;split
 ·rename_i hg;obtain⟨hl,_,_,_,_,hp,hk⟩:=l6 hg;have hln:p.ln<=8:=by
   have h1:=(yP hl).1;rcases hk with hk|hk|hk|hk
   ·rw[h1];simp[aC.dH,hk]
   ·rw[h1];simp[aC.dH,hk]
   ·rw[h1];simp[aC.dH,hk]
   ·exact hk.2.2
  have hL:L.length<=8:=by
   rcases h with h|h
   ·rw[h];exact bX _
   ·omega
  have h1:=t_ p p.nums.length;have h2:(jE L L.length).length<=64:=by
   unfold jE;rw[List.take_length,BH];omega
  simp only[IK,bZ,aC.head,dR,List.length_nil,dI];omega
 ·exact bX _
theorem YQ(h:Pr c s s')(hs:∀f∈s.aI,f.2.size<=65536):∀f∈s'.aI,f.2.size<=65536:=by
 cases h with
 |yK h=>rw[h.aI];exact hs
 |tab _=>exact hs
 |aG t p L _ hz=>
  intro f hf;rcases fA.1 (show f∈s.aI++ [(t,strOfNums (qH p L))]from hf)with hf|hf
  ·exact hs f hf
  ·rw[fD]at hf;subst hf;exact Nb hz
 |grw=>exact hs
 |mx _ _ _ _=>exact hs
 |wr=>exact hs
theorem U9(h:fJ c n s s')(hs:∀f∈s.aI,f.2.size<=65536):∀f∈s'.aI,f.2.size<=65536:=by
 induction h with
 |nil=>exact hs
 |snoc _ k ih=>exact YQ k (ih hs)
theorem uz{now:Int}(h:fJ c n (s.locked.begin now) s'):∀f∈s'.finish.freed.aI,f.2.size<=65536:=by
 have h1:=U9 h (λf hf=>by cases hf);rw[show s'.finish.freed.aI=s'.aI from(aW s').aI];exact h1
end Go.Proofs.YtakaadcpaeiccabGreat
