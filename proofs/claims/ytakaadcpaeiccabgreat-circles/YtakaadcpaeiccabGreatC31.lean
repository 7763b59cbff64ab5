import Derived.Test.YtakaadcpaeiccabGreatC30
set_option maxHeartbeats 8000000
set_option maxRecDepth 100000
namespace Go.Proofs.YtakaadcpaeiccabGreat
open Go.RowKit Go.Maps
theorem Y2{L:List (Nat×Nat×ByteArray)}{k:Nat}{f:Nat×Nat×ByteArray}(h:L[k]?=some f)(b:ByteArray):o6 (L.set k (f.1,f.2.1,b))=(o6 L).set (k * 3+2) (.string b):=by
 induction L generalizing k with
 |nil=>simp at h
 |cons a L ih=>
  cases k with
  |zero=>
   simp only[List.getElem?_cons_zero,Option.some.injEq]at h;subst h;rfl
  |succ k=>
   rw[List.getElem?_cons_succ]at h;rw[List.set_cons_succ];show [_,_,_]++o6 (L.set k _)=(([_,_,_]:List Value)++o6 L).set _ _;rw[ih h,show(k+1)* 3+2=(k * 3+2)+1+1+1 by omega];rfl
theorem WR{W:World}{base e size n g c:Nat}{xs:List Value}(h:W.ownsRow base e size (.slice (some ⟨g,0,none⟩) n c) n xs)(j:Nat)(_:j<n * size)(v:Value):(W.setCell ⟨g,j,none⟩ v).ownsRow base e size (.slice (some ⟨g,0,none⟩) n c) n (xs.set j v):=by
 rcases h.2 with⟨he,_⟩|⟨g',cap,cur,he,hb,hg,h1,h2,h3,h4⟩
 ·cases he
 ·cases he;refine⟨by rw[List.length_set];exact h.1,.inr ⟨g,c,cur.setIfInBounds j v,rfl,hb,?_,h1,h2,by simp[h3],?_⟩⟩
  ·simp[World.setCell,Array.getElem?_modify,hg]
  ·rw[Array.toList_setIfInBounds,<-h4,List.take_set]
theorem aep{y:MG}{m:aS}{w:World}(h:MM y m w)(i:Nat)(hi:i<m.bO.length)(f:Nat×Nat×ByteArray)(hf:m.bO[i]?=some f)(hs:f.2.2.size<=1000000)(n:Int):Calls Tryz.prog 65 #[.pointer (some ⟨y.G,0,none⟩),.int .i64 i,.int .i64 n] w λe w'=>e=.returned (.tuple #[])∧MP y m {m with bO:=m.bO.set i (f.1,f.2.1,f.2.2.extract 0 (f.2.2.size - (min (max 0 n) f.2.2.size).toNat))} w w':=by
 obtain⟨a,b,s⟩:=f;dsimp only at hs ⊢;obtain⟨g,cap,BL,_⟩:=bV h.bO (by omega);obtain⟨q0,q1,q2⟩:=FI hf;dsimp only at q0 q1 q2;have hr:=h.bO;rw[BL]at hr;have c2:=h.cell.2.2.1;rw[BL]at c2;have d2:=(hr.cellAt (i * 3+2) (by omega)).trans q2;have hil:(i:Int)<(m.bO.length:Int):=by omega
 have hfz:w.frozen? ⟨g,i * 3+2,none⟩=false:=by
  obtain⟨cc,hc⟩:=aR hr (k:=g) rfl;exact mM w g _ _ _ hc
 obtain⟨k,hk⟩:∃k:Nat,s.size - (min (max 0 n) s.size).toNat=k:=⟨_,rfl⟩;rw[hk];have hkI:(s.size:Int) - min (max 0 n) (s.size:Int)=(k:Int):=by omega
 have hks:(k:Int)<=(s.size:Int):=by omega
 have hfin:MP y m {m with bO:=m.bO.set i (a,b,s.extract 0 k)} w (w.setCell ⟨g,i * 3+2,none⟩ (.string (s.extract 0 k))):=by
  have hrow:=WR hr (i * 3+2) (by omega) (.string (s.extract 0 k));rw[<-Y2 hf (s.extract 0 k)]at hrow;have hg:w.grownBy (w.setCell ⟨g,i * 3+2,none⟩ (.string (s.extract 0 k))) (some g):=ah (aC _ (some g)) _ _;have hgI:oZ y m g:=.inr (.inr (.inl (by rw[BL];rfl)));have hblk:=h.blk;have hgG:y.G≠g:=λe=>by
   obtain⟨cc,hc⟩:=aR hr (k:=g) rfl;rw[e,hc]at hblk;cases hblk
  refine⟨y,⟨(hg.block _ (aG h.blk) λe=>hgG (Option.some.inj e)).trans h.blk,h.zF.kept hg ?_,?_,h.len,λj x u h1 h2=>(h.st j x u h1 h2).kept λk5 hk5=>hg.block k5 ((h.st j x u h1 h2).lt hk5) λe=> ?_,h.ap⟩,Fx.grown hg λk5 e=>by cases e;exact hgI,λk5 hk5=> .inl hk5,rfl,rfl,rfl,rfl⟩
  ·rcases bX h.zF hr (by decide)with e|e
   ·exact .inl e
   ·exact .inr e
  ·show World.ownsRow _ 0 _ 3 y.av (m.bO.set i _).length _;rw[List.length_set,BL];exact hrow
  ·cases e;exact(h.own h1 h2 hk5).2.2 (by rw[BL];rfl)
 clear h hr hf q0 q1 q2 BL;have hw:wrap64 ((s.size:Int) - min (max 0 n) (s.size:Int))=(k:Int):=by rw[hkI];unfold wrap64;omega
 replace hfin:=hide (hfin.post (aV _ _).drew);go_enter Tryz.func65,Tryz.ntmps65;go_upto_region 1 with(fail);clear c2;go_region
 go_returns;exact⟨rfl,hfin.out⟩
variable{m:aS}
def qE(m:aS):Prop:=∀f∈m.bO,f.1<m.S.length∧f.2.1<m.S.length∧f.2.2.size<=65536
theorem iT.YN{κ:Int}{q:Nat}(h:iT κ q m){F:List (Nat×Nat×ByteArray)}(hF:F.length<=48):iT κ q {m with bO:=F}:=⟨h.n,hF,h.now,h.st⟩
theorem Vm{y:MG}{w:World}(h:MM y m w){κ:Int}{q:Nat}(hok:iT κ q m)(Hu:0<=κ∧κ<=90000000000)(hfl:qE m)(o:Op)(ho:o.dX=4∨o.dX=5∨o.dX=6∨o.dX=7):
  Calls Tryz.prog 32 #[.pointer (some ⟨y.G,0,none⟩),Vz o] w λe w'=>jD y m (m.flight o).1 (m.flight o).2 w.heap.size w e w'∧iT (κ+200000) q (m.flight o).1:=by
 have hb0:Below w.heap.size w (w.alloc (.cells #[.int .i64 o.dX,.int .i64 o.a,.int .i64 o.b,.int .i64 o.n,.bool o.on,.string o.txt] 28)):=bq;have hC:=bS w (.cells #[.int .i64 o.dX,.int .i64 o.a,.int .i64 o.b,.int .i64 o.n,.bool o.on,.string o.txt] 28);have h1:=h.later hb0;obtain⟨dX,a,b,n,on,txt⟩:=o;dsimp only at hb0 hC h1 ho;have Pb:=hok.bO;have hcase:Hid (∀w1:World,Below w.heap.size w w1->(a<0∨m.bO.length=0)->jD y m (m.flight ⟨dX,a,b,n,on,txt⟩).1 (m.flight ⟨dX,a,b,n,on,txt⟩).2 w.heap.size w (.returned (.slice none 0 0)) w1∧iT (κ+200000) q (m.flight ⟨dX,a,b,n,on,txt⟩).1):=by
  intro w1 hb1 hc;have he:m.flight ⟨dX,a,b,n,on,txt⟩=(m,[]):=by
   unfold aS.flight;rw[aQ hc]
  rw[he];exact⟨⟨_,[],rfl,rfl,gY.nil _ _,(MP.refl h).post hb1⟩,hok.up (by omega) (aD _)⟩
 unfold Vz;dsimp only;by_cases ha:a<0
 ·have had:decide (a<0)=true:=by simpa using ha
  clear hok hfl h h1 Pb;go_enter Tryz.func32,Tryz.ntmps32;go_upto_region 1 with(fail);generalize World.alloc _ _=W1 at hb0 hC ⊢;have t1:W1.cell? ⟨w.heap.size,1,none⟩=some (.int .i64 a):=aH _ _ 1 _ _ _ hC;have hfin:=hide (hcase.out _ hb0 (.inl ha));clear hcase hC ho;go_wp2;go_ret;exact hfin.out
 ·have had:decide (a<0)=false:=by simpa using ha
  obtain⟨_,_,q2,_⟩:=h1.cell;by_cases hl:m.bO.length=0
  ·obtain⟨ao,c,BL,_⟩:=ak h.bO;rw[hl]at BL;rw[BL]at q2;clear hok hfl h h1 Pb;go_enter Tryz.func32,Tryz.ntmps32;go_upto_region 1 with(fail);generalize World.alloc _ _=W1 at hb0 hC q2 ⊢;have t1:W1.cell? ⟨w.heap.size,1,none⟩=some (.int .i64 a):=aH _ _ 1 _ _ _ hC;have hfin:=hide (hcase.out _ hb0 (.inr hl));clear hcase hC ho hl BL;go_wp2;go_ret;exact hfin.out
  ·obtain⟨g,cap,BL,_⟩:=bV h.bO (by omega);rw[BL]at q2;have hln:(decide ((m.bO.length:Int)=0))=false:=by
    have:¬(m.bO.length:Int)=0:=by omega
    simpa using this
   obtain⟨k,hk⟩:∃k,a.toNat%m.bO.length=k:=⟨_,rfl⟩;have hkl:k<m.bO.length:=by rw[<-hk];exact Nat.mod_lt _ (by omega)
   have agn:a.tmod (m.bO.length:Int)=(k:Int):=by
    have e:(a.toNat:Int)=a:=Int.toNat_of_nonneg (by omega);rw[Int.tmod_eq_emod_of_nonneg (by omega),<-hk];first|rw[Int.natCast_emod,e]|rw[Int.natCast_mod,e]|rw[Int.ofNat_emod,e]
   obtain⟨f,hf⟩:∃f,m.bO[k]?=some f:=⟨_,cZ hkl⟩;have O8:=hfl f (gG hf);have hgd:m.bO.getD k (0,0,⟨#[]⟩)=f:=by rw[List.getD_eq_getElem?_getD,hf];rfl
   have hfo:∀d,d=dX->m.flight ⟨dX,a,b,n,on,txt⟩=if d=4 then {m with bO:=m.bO.eraseIdx k}.hear f.2.1 f.1 f.2.2 else if d=5 then({m with bO:=m.bO.eraseIdx k},[])else if d=6 then(m.launch f,[])else({m with bO:=m.bO.set k (f.1,f.2.1,f.2.2.extract 0 (f.2.2.size - (min (max 0 n) f.2.2.size).toNat))},[]):=by
    rintro d rfl;unfold aS.flight;rw[aM (show ¬(a<0∨m.bO.length=0)from by omega)];dsimp only;rw[hk,hgd]
   replace hfo:=hfo dX rfl;clear hk hgd hcase hfl;rcases ho with rfl|rfl|rfl|rfl
   ·rw[aQ rfl]at hfo;rw[hfo];have HL:=hide λW (hW:MM y m W)=>KY hW k hkl (by omega) f hf;have hmk:=hok.YN (F:=m.bO.eraseIdx k) (by rw[List.length_eraseIdx];split<;>omega);obtain⟨fa,fb,fs⟩:=f;dsimp only at O8 hfo HL ⊢;obtain⟨m',hm'⟩:∃m',({m with bO:=m.bO.eraseIdx k}:aS)=m':=⟨_,rfl⟩;have hS':m'.S.length=m.S.length:=by rw[<-hm']
    rw[hm']at hmk HL ⊢;have HH:=hide λ(y':MG) W (hW:MM y' m' W)=>Vk hW hmk Hu fb fa (by omega) (by omega) fs O8.2.2;clear hfo hok Pb hf O8 hm' hmk;go_enter Tryz.func32,Tryz.ntmps32;go_upto_region 1 with(fail);generalize World.alloc _ _=W1 at hb0 hC q2 h1 ⊢;have t0:W1.cell? ⟨w.heap.size,0,none⟩=some (.int .i64 4):=aH _ _ 0 _ _ _ hC;have t1:W1.cell? ⟨w.heap.size,1,none⟩=some (.int .i64 a):=aH _ _ 1 _ _ _ hC;go_upto_region 3 with(fail);go_region
    unfold flV at HL;dsimp only at HL;go_upto_region 7 with(go_at_call 63;refine(HL.out _ h1.drew).mono ?_;rintro e w2 ⟨rfl,y2,hm2,hu2⟩);have hb3:Below w2.heap.size w2 (w2.alloc (.cells #[.int .i64 fa,.int .i64 fb,.string fs] 149)):=bq;have qB:=bS w2 (.cells #[.int .i64 fa,.int .i64 fb,.string fs] 149);have oL:=hm2.later hb3;have hu3:=(hu2.post hb3).pre hb0.drew;clear hm2 hu2 hb3 t0 t1 q2 hC h1 hb0 HL h;generalize World.alloc _ _=W3 at oL hu3 qB ⊢;generalize w2.heap.size=D at qB ⊢;have t0:W3.cell? ⟨D,0,none⟩=some (.int .i64 fa):=aH _ _ 0 _ _ _ qB;have t1:W3.cell? ⟨D,1,none⟩=some (.int .i64 fb):=aH _ _ 1 _ _ _ qB;have t2:W3.cell? ⟨D,2,none⟩=some (.string fs):=aH _ _ 2 _ _ _ qB;have HH3:=HH.out y2 W3 oL;rw[hu3.G]at HH3;replace HH3:=hide HH3;replace hu3:=hide hu3;clear HH oL qB;go_wp2_with(go_at_call 33;refine HH3.out.mono ?_;rintro e w4 ⟨⟨v,L,rfl,hL,hev,y4,Cb,VE⟩,adn⟩;have hfin:=hide (show jD y m (m'.hear fb fa fs).1 (m'.hear fb fa fs).2 w.heap.size w (.returned v) w4∧iT (κ+200000) q (m'.hear fb fa fs).1 from⟨⟨v,L,rfl,hL,hev.lower hu3.out.fx.size,y4,Cb,hu3.out.trans VE⟩,adn⟩);clear hL hev Cb VE adn);go_ret;exact hfin.out
   ·rw[aM (by decide),aQ rfl]at hfo;rw[hfo];have HL:=hide λW (hW:MM y m W)=>KY hW k hkl (by omega) f hf;have hmk:=hide (hok.YN (F:=m.bO.eraseIdx k) (by rw[List.length_eraseIdx];split<;>omega));clear hfo hok Pb hf O8;go_enter Tryz.func32,Tryz.ntmps32;go_upto_region 1 with(fail);generalize World.alloc _ _=W1 at hb0 hC q2 h1 ⊢;have t0:W1.cell? ⟨w.heap.size,0,none⟩=some (.int .i64 5):=aH _ _ 0 _ _ _ hC;have t1:W1.cell? ⟨w.heap.size,1,none⟩=some (.int .i64 a):=aH _ _ 1 _ _ _ hC;go_upto_region 3 with(fail);go_region
    go_wp2_with(go_at_call 63;refine(HL.out _ h1.drew).mono ?_;rintro e w2 ⟨rfl,hmp⟩;have hfin:=hide (show jD y m {m with bO:=m.bO.eraseIdx k} [] w.heap.size w (.returned (.slice none 0 0)) w2 from⟨_,[],rfl,rfl,gY.nil _ _,hmp.pre (hb0.drew)⟩));go_ret;exact⟨hfin.out,hmk.out.up (by omega) (aD _)⟩
   ·rw[aM (by decide),aM (by decide),aQ rfl]at hfo;rw[hfo];obtain⟨q0,q1,q5⟩:=FI hf;have hr1:=h1.bO;rw[BL]at hr1;have d0:=(hr1.cellAt (k * 3) (by omega)).trans q0;have d1:=(hr1.cellAt (k * 3+1) (by omega)).trans q1;have d2:=(hr1.cellAt (k * 3+2) (by omega)).trans q5;have hmk:iT κ q (m.launch f):=hok.YN (Ai m f hok.bO);have HL:=hide λW (hW:MM y m W)=>I7 hW (by omega) f;obtain⟨fa,fb,fs⟩:=f;have hkn:(k:Int)<(m.bO.length:Int):=by omega
    obtain⟨m',hm'⟩:∃m',m.launch (fa,fb,fs)=m':=⟨_,rfl⟩;rw[hm']at hmk HL ⊢;unfold flV at HL;dsimp only at HL d0 d1 d2;clear hfo hok Pb hf O8 hm' hr1 q0 q1 q5 h;go_enter Tryz.func32,Tryz.ntmps32;go_upto_region 1 with(fail);generalize World.alloc _ _=W1 at hb0 hC q2 h1 d0 d1 d2 ⊢;have t0:W1.cell? ⟨w.heap.size,0,none⟩=some (.int .i64 6):=aH _ _ 0 _ _ _ hC;have t1:W1.cell? ⟨w.heap.size,1,none⟩=some (.int .i64 a):=aH _ _ 1 _ _ _ hC;go_upto_region 3 with(fail);go_region
    go_wp2_with(go_at_call 64;refine(HL.out _ h1.drew).mono ?_;rintro e w2 ⟨rfl,hmp⟩;have hfin:=hide (show jD y m m' [] w.heap.size w (.returned (.slice none 0 0)) w2∧iT (κ+200000) q m' from⟨⟨_,[],rfl,rfl,gY.nil _ _,hmp.pre (hb0.drew)⟩,hmk.up (by omega) (aD _)⟩);clear hmp);go_ret;exact hfin.out
   ·rw[aM (by decide),aM (by decide),aM (by decide)]at hfo;rw[hfo];have HL:=hide λW (hW:MM y m W)=>aep hW k hkl f hf (by omega) n;have hmk:=hide (hok.YN (F:=m.bO.set k (f.1,f.2.1,f.2.2.extract 0 (f.2.2.size - (min (max 0 n) f.2.2.size).toNat))) (by rw[List.length_set];omega));obtain⟨m',hm'⟩:∃m',({m with bO:=m.bO.set k (f.1,f.2.1,f.2.2.extract 0 (f.2.2.size - (min (max 0 n) f.2.2.size).toNat))}:aS)=m':=⟨_,rfl⟩;rw[hm']at hmk HL ⊢;clear hfo hok Pb hf O8 hm' h;go_enter Tryz.func32,Tryz.ntmps32;go_upto_region 1 with(fail);generalize World.alloc _ _=W1 at hb0 hC q2 h1 ⊢;have t0:W1.cell? ⟨w.heap.size,0,none⟩=some (.int .i64 7):=aH _ _ 0 _ _ _ hC;have t1:W1.cell? ⟨w.heap.size,1,none⟩=some (.int .i64 a):=aH _ _ 1 _ _ _ hC;have t3:W1.cell? ⟨w.heap.size,3,none⟩=some (.int .i64 n):=aH _ _ 3 _ _ _ hC;go_upto_region 3 with(fail);go_region
    go_wp2_with(go_at_call 65;refine(HL.out _ h1.drew).mono ?_;rintro e w2 ⟨rfl,hmp⟩;have hfin:=hide (show jD y m m' [] w.heap.size w (.returned (.slice none 0 0)) w2∧iT (κ+200000) q m' from⟨⟨_,[],rfl,rfl,gY.nil _ _,hmp.pre (hb0.drew)⟩,hmk.out.up (by omega) (aD _)⟩);clear hmp);go_ret;exact hfin.out
variable{a κ:Int}{m:aS}{q:Nat}{s:bJ}
theorem kK(h:m.has a=true):∃i:Nat,a=i∧i<m.S.length:=by
 unfold aS.has at h;rw[fF,decide_eq_true_iff,decide_eq_true_iff]at h;exact⟨a.toNat,(Int.toNat_of_nonneg h.1).symm,by omega⟩
theorem lM(h:m.runs a=true):∃i:Nat,a=i∧i<m.S.length:=kK (Bool.and_eq_true_iff.1 h).1
theorem Wv{now:Int}(h:Cj κ q now s):Cj κ q now s.stop:=
 ⟨h.addr,h.a0,h.jb,h.jl,eY _,λ_ hz=>(by cases hz),λ_ hz=>(by cases hz)⟩
theorem Wh{now:Int}(h:Cj κ q now s)(n:Int):Cj κ q now {s with tears:=true,whole:=max 0 n}:=
 ⟨h.addr,h.a0,h.jb,h.jl,Int.le_max_left _ _,λz hz=>(h.nd z hz).up (eY _) (aD _) (eY _) rfl,h.jn⟩
theorem iT.put'(h:iT κ q m)(i:Nat){s:bJ}(hs:Cj κ q m.now s):iT κ q (m.put i s):=by
 refine⟨by rw[(ic _ _ _).1,List.length_set];exact h.n,h.bO,h.now,λu hu=> ?_⟩;rw[(ic _ _ _).1]at hu;rcases List.mem_or_eq_of_mem_set hu with hu|rfl
 ·exact h.st u hu
 ·exact hs
theorem Xz(h:iT κ q m)(a b:Nat)(ha:a<m.S.length)(hb:b<m.S.length)(on:Bool):iT κ q (m.link a b on):=by
 have hs:∀(m:aS),iT κ q m->∀c,c<m.S.length->∀L:List Bool,iT κ q (m.put c {m.at' c with hrs:=L}):=λm hm c hc L=>by
  refine hm.put' c ?_;have h2:=hm.at (cZ hc);rw[<-eX (cZ hc)]at h2;exact⟨h2.addr,h2.a0,h2.jb,h2.jl,h2.wh,λz hz=>(h2.nd z hz).up (eY _) (aD _) (eY _) rfl,h2.jn⟩
 unfold aS.link;split
 ·exact h
 ·exact hs _ (hs m h a ha _) b (by rw[(ic _ _ _).1,List.length_set];exact hb) _
@[reducible] def SBo(G g i B D : Nat)(now : Int)(sv : Value)(W : World): Prop :=
 (W.cell? ⟨G,0,none⟩=some (.int .u64 now)∧W.cell? ⟨G,1,none⟩=some sv∧W.cell? ⟨g,i,none⟩=some (.pointer (some ⟨B,0,none⟩))∧W.cell? ⟨D,1,none⟩=some (.int .i64 i))∧G<W.heap.size∧g<W.heap.size∧D<W.heap.size
theorem SBo.keep{G g i B D:Nat}{now:Int}{sv:Value}{W W':World}(h:SBo G g i B D now sv W)(hz:W.heap.size<=W'.heap.size)(hb:∀k,k=G∨k=g∨k=D->W'.heap[k]?=W.heap[k]?):SBo G g i B D now sv W':=by
 obtain⟨⟨c0,c1,c2,c3⟩,h1,h2,h3⟩:=h;exact⟨⟨(World.cell?_of_block (a:=⟨G,0,none⟩) (hb _ (.inl rfl))).trans c0,(World.cell?_of_block (a:=⟨G,1,none⟩) (hb _ (.inl rfl))).trans c1,(World.cell?_of_block (a:=⟨g,i,none⟩) (hb _ (.inr (.inl rfl)))).trans c2,(World.cell?_of_block (a:=⟨D,1,none⟩) (hb _ (.inr (.inr rfl)))).trans c3⟩,fZ h1 hz,fZ h2 hz,fZ h3 hz⟩
theorem af5{y:MG}{w:World}(h:MM y m w){κ:Int}{q:Nat}(hok:iT κ q m)(Hu:0<=κ∧κ<=90000000000)(hq:q<=4990)(fK:m.now+60000<=4611686018427387904)(hfl:qE m)(o:Op)(ht:o.dX=8->o.txt.size<=65536)(hbt:∀i:Nat,o.a=i->i<m.S.length->(m.at' i).nd=none->FJ (m.at' i) m.now∧Cq κ q (m.put i {m.at' i with nd:=some (St.new (m.at' i).addr (m.at' i).bn m.now)}) i (St.new (m.at' i).addr (m.at' i).bn m.now)):
  Calls Tryz.prog 11 #[.pointer (some ⟨y.G,0,none⟩),Vz o] w λe w'=>jD y m (m.step o).1 (m.step o).2 w.heap.size w e w'∧iT (κ+1000000) (q+1) (m.step o).1:=by
 have hb0:Below w.heap.size w (w.alloc (.cells #[.int .i64 o.dX,.int .i64 o.a,.int .i64 o.b,.int .i64 o.n,.bool o.on,.string o.txt] 28)):=bq;have hC:=bS w (.cells #[.int .i64 o.dX,.int .i64 o.a,.int .i64 o.b,.int .i64 o.n,.bool o.on,.string o.txt] 28);have h1:=h.later hb0;have HM:=hide λW (hW:MM y m W)=>aeo hW o;have hstep:∀r,m.may o=true->r=(if o.dX=1 then(m.link o.a.toNat o.b.toNat o.on,[])else if o.dX=2 then m.send o.a.toNat o.b.toNat o.txt else if o.dX=3 then m.tick o.n else if o.dX=4∨o.dX=5∨o.dX=6∨o.dX=7 then m.flight o else if o.dX=8 then m.hear o.a.toNat o.b.toNat o.txt else if o.dX=9 then(m.put o.a.toNat (m.at' o.a.toNat).stop,[])else if o.dX=10 then(m.put o.a.toNat {m.at' o.a.toNat with tears:=true,whole:=max 0 o.n},[])else if o.dX=11 then m.KE o.a.toNat else(m,[]))->m.step o=r:=by
  intro r hm hr;rw[hr];unfold aS.step;rw[aM (by rw[hm];decide)]
 cases hmay:m.may o with
 |false=>
  have ho:m.step o=(m,[⟨0,5,Ot.none⟩]):=by
   unfold aS.step;rw[aQ (by rw[hmay];rfl)]
  rw[ho];have hfin:Hid (∀wc,Below w.heap.size w wc->jD y m m [⟨0,5,Ot.none⟩] w.heap.size w (.returned (.slice (some ⟨wc.heap.size,0,none⟩) 1 1)) (wc.alloc (.cells #[.int .i64 0,.int .i64 5,.string ⟨#[]⟩,.bool false,.slice none 0 0,.slice none 0 0,.slice none 0 0] 54))∧iT (κ+1000000) (q+1) m):=by
   intro wc hb;have hev:=EY (b:=w.heap.size) (W:=wc) (x:=(⟨0,5,Ot.none⟩,⟨.slice none 0 0,.slice none 0 0,.slice none 0 0⟩)) hb.size ⟨⟨rfl,.inl ⟨rfl,rfl⟩⟩,⟨rfl,.inl ⟨rfl,rfl⟩⟩,⟨rfl,.inl ⟨rfl,rfl⟩⟩⟩;exact⟨⟨_,_,rfl,rfl,hev,(MP.refl h).post (hb.alloc hb.size _)⟩,hok.up (by omega) (Nat.le_succ _)⟩
  rw[hmay]at HM;obtain⟨dX,a,b,n,on,txt⟩:=o;unfold Vz at HM ⊢;dsimp only at hb0 hC h1 HM ⊢;clear hstep hok hfl h ho hbt;go_enter Tryz.func11,Tryz.ntmps11;go_upto_region 1 with(fail);generalize World.alloc _ _=W1 at hb0 hC h1 ⊢;have Uj:=aG hC;have t0:W1.cell? ⟨w.heap.size,0,none⟩=some (.int .i64 dX):=aH _ _ 0 _ _ _ hC;have t1:W1.cell? ⟨w.heap.size,1,none⟩=some (.int .i64 a):=aH _ _ 1 _ _ _ hC;have t2:W1.cell? ⟨w.heap.size,2,none⟩=some (.int .i64 b):=aH _ _ 2 _ _ _ hC;have t3:W1.cell? ⟨w.heap.size,3,none⟩=some (.int .i64 n):=aH _ _ 3 _ _ _ hC;have t4:W1.cell? ⟨w.heap.size,4,none⟩=some (.bool on):=aH _ _ 4 _ _ _ hC;have t5:W1.cell? ⟨w.heap.size,5,none⟩=some (.string txt):=aH _ _ 5 _ _ _ hC;go_upto_region 2 with(go_at_call 28;refine(HM.out W1 h1).mono ?_;rintro e w2 ⟨rfl,hb2⟩);have hfn:=hide (hfin.out _ (hb0.trans (hb2.mono (Nat.le_of_lt Uj))));clear hfin HM hb0 hb2 hC t0 t1 t2 t3 t4 t5;go_wp2;go_ret;exact hfn.out
 |true=>
  rw[hmay]at HM;obtain⟨dX,a,b,n,on,txt⟩:=o;unfold Vz at HM ⊢;dsimp only at hb0 hC h1 HM ht hstep hbt ⊢;replace ht:=hide ht;have hstep:=λr=>hstep r hmay;obtain⟨r,hr⟩:∃r,m.step ⟨dX,a,b,n,on,txt⟩=r:=⟨_,rfl⟩;rw[hr]at hstep ⊢;clear hr;go_enter Tryz.func11,Tryz.ntmps11;go_upto_region 1 with(fail);generalize World.alloc _ _=W1 at hb0 hC h1 ⊢;have Uj:=aG hC;have t0:W1.cell? ⟨w.heap.size,0,none⟩=some (.int .i64 dX):=aH _ _ 0 _ _ _ hC;have t1:W1.cell? ⟨w.heap.size,1,none⟩=some (.int .i64 a):=aH _ _ 1 _ _ _ hC;have t2:W1.cell? ⟨w.heap.size,2,none⟩=some (.int .i64 b):=aH _ _ 2 _ _ _ hC;have t3:W1.cell? ⟨w.heap.size,3,none⟩=some (.int .i64 n):=aH _ _ 3 _ _ _ hC;have t4:W1.cell? ⟨w.heap.size,4,none⟩=some (.bool on):=aH _ _ 4 _ _ _ hC;have t5:W1.cell? ⟨w.heap.size,5,none⟩=some (.string txt):=aH _ _ 5 _ _ _ hC;replace hmay:=hide hmay;replace hstep:=hide hstep;go_upto_region 3 with(go_at_call 28;refine(HM.out W1 h1).mono ?_;rintro e w2 ⟨rfl,hb2⟩);have hC2:=(hb2.block _ Uj).trans hC;clear t0 t1 t2 t3 t4 t5;have t0:w2.cell? ⟨w.heap.size,0,none⟩=some (.int .i64 dX):=aH _ _ 0 _ _ _ hC2;have t1:w2.cell? ⟨w.heap.size,1,none⟩=some (.int .i64 a):=aH _ _ 1 _ _ _ hC2;have t2:w2.cell? ⟨w.heap.size,2,none⟩=some (.int .i64 b):=aH _ _ 2 _ _ _ hC2;have t3:w2.cell? ⟨w.heap.size,3,none⟩=some (.int .i64 n):=aH _ _ 3 _ _ _ hC2;have t4:w2.cell? ⟨w.heap.size,4,none⟩=some (.bool on):=aH _ _ 4 _ _ _ hC2;have t5:w2.cell? ⟨w.heap.size,5,none⟩=some (.string txt):=aH _ _ 5 _ _ _ hC2;have hm2:=h1.later hb2;have hb3:=hb0.trans (hb2.mono (Nat.le_of_lt Uj));have HF:=hide λ(e:Ending) w4 (hp:jD y m r.1 r.2 w2.heap.size w2 e w4)=>(show jD y m r.1 r.2 w.heap.size w e w4 by
   obtain⟨v,L,rfl,hL,hev,hmp⟩:=hp;exact⟨v,L,rfl,hL,hev.lower hb3.size,hmp.pre hb3⟩)
  have HE:=hide λw4 (he: []=r.2) (hp:MP y m r.1 w2 w4)=>(show jD y m r.1 r.2 w.heap.size w (.returned (.slice none 0 0)) w4 from⟨_,[],rfl,he,gY.nil _ _,hp.pre hb3⟩);have HQ:=hide λmd (hk:iT κ q md)=>(show iT (κ+1000000) (q+1) md from hk.up (by omega) (Nat.le_succ _));clear HM hb0 hb2 hC h1 h Uj hb3;by_cases d1:dX=1
  ·subst d1;have hm:=hmay.out;unfold aS.may at hm;dsimp only at hm;rw[aQ rfl,fF]at hm;obtain⟨i,rfl,hi⟩:=kK hm.1;obtain⟨j,rfl,hj⟩:=kK hm.2;have er:=(hstep.out (m.link i j on,[]) (by rw[aQ rfl];simp only[iU])).symm;have Jo:m.link i j on=r.1:=congrArg Prod.fst er;have ZC:=hide (show []=r.2 from congrArg Prod.snd er);have HX:=acp hm2 i j hi hj hok.n on;have hk:=HQ.out _ (Xz hok i j hi hj on);rw[Jo]at HX hk;replace HX:=hide HX;replace hk:=hide hk;clear hm hmay hstep hok hfl hbt hm2 HF HQ er Jo;go_wp2_with(go_at_call 29;refine HX.out.mono ?_;rintro e w4 ⟨rfl,hmp⟩;have hfin:=hide (HE.out _ ZC.out hmp);clear hmp);go_ret;exact⟨hfin.out,hk.out⟩
  by_cases d2:dX=2
  ·subst d2;have hm:=hmay.out;unfold aS.may at hm;dsimp only at hm;rw[aM (by decide),aQ (.inl rfl),fF]at hm;obtain⟨i,rfl,hi⟩:=lM hm.1;obtain⟨j,rfl,hj⟩:=kK hm.2;have er:=(hstep.out (m.send i j txt) (by rw[aM (by decide),aQ rfl];simp only[iU])).symm;have HX:=aco hm2 hok Hu (by omega) i j hi hj txt hm.1;rw[er]at HX;replace HX:=hide HX;clear hm hmay hstep hok hfl hbt hm2 HE HQ er;go_wp2_with(go_at_call 30;refine HX.out.mono ?_;rintro e w4 ⟨⟨v,L,rfl,hL,hev,hmp⟩,hmk⟩;have hfin:=hide (HF.out _ _ ⟨v,L,rfl,hL,hev,hmp⟩);replace hmk:=hide (hmk.up (show κ+200000<=κ+1000000 by omega) (aD _));clear hL hev hmp);go_ret;exact⟨hfin.out,hmk.out⟩
  by_cases d3:dX=3
  ·subst d3;have er:=(hstep.out (m.tick n) (by rw[aM (by decide),aM (by decide),aQ rfl])).symm;have HX:=acn hm2 hok Hu hq n fK;rw[er]at HX;replace HX:=hide HX;clear hmay hstep hok hfl hbt hm2 HE HQ er;go_wp2_with(go_at_call 31;refine HX.out.mono ?_;rintro e w4 ⟨⟨v,L,rfl,hL,hev,hmp⟩,hmk⟩;have hfin:=hide (HF.out _ _ ⟨v,L,rfl,hL,hev,hmp⟩);replace hmk:=hide (hmk.up (eY _) (Nat.le_succ q));clear hL hev hmp);go_ret;exact⟨hfin.out,hmk.out⟩
  by_cases d4:dX=4∨dX=5∨dX=6∨dX=7
  ·have er:=(hstep.out (m.flight ⟨dX,a,b,n,on,txt⟩) (by rw[aM d1,aM d2,aM d3,aQ d4])).symm;have HX:=Vm hm2 hok Hu hfl ⟨dX,a,b,n,on,txt⟩ d4;rw[er]at HX;unfold Vz at HX;dsimp only at HX;replace HX:=hide HX;clear hmay hstep hok hfl hbt hm2 HE HQ er d1 d2 d3;rcases d4 with rfl|rfl|rfl|rfl;all_goals
    go_wp2_with(go_at_call 32;refine HX.out.mono ?_;rintro e w4 ⟨⟨v,L,rfl,hL,hev,hmp⟩,hmk⟩;have hfin:=hide (HF.out _ _ ⟨v,L,rfl,hL,hev,hmp⟩);replace hmk:=hide (hmk.up (show κ+200000<=κ+1000000 by omega) (Nat.le_succ q));clear hL hev hmp);go_ret;exact⟨hfin.out,hmk.out⟩
  by_cases d8:dX=8
  ·subst d8;have hm:=hmay.out;unfold aS.may at hm;dsimp only at hm;rw[aM (by decide),aQ (.inr rfl),fF]at hm;obtain⟨i,rfl,hi⟩:=lM hm.1;obtain⟨j,rfl,hj⟩:=kK hm.2;have er:=(hstep.out (m.hear i j txt) (by rw[aM (by decide),aM (by decide),aM (by decide),aM (by decide),aQ rfl];simp only[iU])).symm;have HX:=Vk hm2 hok Hu i j hi hj txt (ht.out rfl);rw[er]at HX;replace HX:=hide HX;clear hm hmay hstep hok hfl hbt hm2 HE HQ er d4;go_wp2_with(go_at_call 33;refine HX.out.mono ?_;rintro e w4 ⟨⟨v,L,rfl,hL,hev,hmp⟩,hmk⟩;have hfin:=hide (HF.out _ _ ⟨v,L,rfl,hL,hev,hmp⟩);replace hmk:=hide (hmk.up (show κ+200000<=κ+1000000 by omega) (Nat.le_succ q));clear hL hev hmp);go_ret;exact⟨hfin.out,hmk.out⟩
  by_cases d9:dX=9
  ·subst d9;have hm:=hmay.out;unfold aS.may at hm;dsimp only at hm;rw[aM (by decide),aM (by decide),aQ (.inl rfl)]at hm;obtain⟨i,rfl,hi⟩:=lM hm;have er:=(hstep.out (m.put i (m.at' i).stop,[]) (by rw[aM (by decide),aM (by decide),aM (by decide),aM (by decide),aM (by decide),aQ rfl];simp only[iU])).symm;have Jo:m.put i (m.at' i).stop=r.1:=congrArg Prod.fst er;have ZC:=hide (show []=r.2 from congrArg Prod.snd er);obtain⟨x,s,g,c,e1,e2,e3,e4,p0⟩:=hm2.get hi;rw[e3]at Jo;have hmd:=hm2.drew;have HX:=hide ((Fs (hmd.st i x s e1 e2)).mono λe w4 hp=>show e=.returned (.tuple #[])∧MP y m r.1 w2 w4 by
    rw[<-Jo];exact⟨hp.1,(hmd.Z8 e1 e2 hp.2).pre (aV _ _).drew⟩)
   have hk:=HQ.out _ (hok.put' i (Wv (hok.at e2)));rw[Jo]at hk;replace hk:=hide hk;obtain⟨_,q1,_,_⟩:=hm2.cell;rw[e4]at q1;have hin:(i:Int)<(m.S.length:Int):=by omega
   clear hm hmay hstep hok hfl hbt hm2 HF HQ er Jo d4 hmd e1 e2 e3 e4;go_upto_region 18 with(fail);go_region_with(go_at_call 34;refine HX.out.mono ?_;rintro e w4 ⟨rfl,hmp⟩;have hfin:=hide (HE.out _ ZC.out hmp);clear hmp)
   all_goals
    go_wp2;go_ret;exact⟨hfin.out,hk.out⟩
  by_cases d10:dX=10
  ·subst d10;have hm:=hmay.out;unfold aS.may at hm;dsimp only at hm;rw[aM (by decide),aM (by decide),aQ (.inr rfl)]at hm;obtain⟨i,rfl,hi⟩:=lM hm;have er:=(hstep.out (m.put i {m.at' i with tears:=true,whole:=max 0 n},[]) (by rw[aM (by decide),aM (by decide),aM (by decide),aM (by decide),aM (by decide),aM (by decide),aQ rfl];simp only[iU])).symm;have Jo:m.put i {m.at' i with tears:=true,whole:=max 0 n}=r.1:=congrArg Prod.fst er;have ZC:=hide (show []=r.2 from congrArg Prod.snd er);obtain⟨x,s,g,c,e1,e2,e3,e4,p0⟩:=hm2.get hi;rw[e3]at Jo;have hmd:=hm2.drew;have HX:=hide ((YT (hmd.st i x s e1 e2) n).mono λe w4 hp=>show e=.returned (.tuple #[])∧MP y m r.1 w2 w4 by
    rw[<-Jo];exact⟨hp.1,(hmd.Z8 e1 e2 hp.2).pre (aV _ _).drew⟩)
   have hk:=HQ.out _ (hok.put' i (Wh (hok.at e2) n));rw[Jo]at hk;replace hk:=hide hk;obtain⟨_,q1,_,_⟩:=hm2.cell;rw[e4]at q1;have hin:(i:Int)<(m.S.length:Int):=by omega
   clear hm hmay hstep hok hfl hbt hm2 HF HQ er Jo d4 hmd e1 e2 e3 e4;go_upto_region 20 with(fail);go_region_with(go_at_call 35;refine HX.out.mono ?_;rintro e w4 ⟨rfl,hmp⟩;have hfin:=hide (HE.out _ ZC.out hmp);clear hmp)
   all_goals
    go_wp2;go_ret;exact⟨hfin.out,hk.out⟩
  by_cases d11:dX=11
  ·subst d11;have hm:=hmay.out;unfold aS.may at hm;dsimp only at hm;rw[aM (by decide),aM (by decide),aM (by decide),aQ rfl,fF]at hm;obtain⟨i,rfl,hi⟩:=kK hm.1;obtain⟨x,s,g,c,e1,e2,e3,e4,p0⟩:=hm2.get hi;have hnd:(m.at' i).nd=none:=by
    have h5:=hm.2;unfold aS.runs at h5;rw[hm.1,iU]at h5;cases hn:(m.at' i).nd with
    |none=>rfl
    |some v=>
     rw[hn]at h5;cases h5
   obtain⟨TY,hdk⟩:=hbt i rfl hi hnd;have er:=(hstep.out (m.KE i) (by rw[aM (by decide),aM (by decide),aM (by decide),aM (by decide),aM (by decide),aM (by decide),aM (by decide),aQ rfl];simp only[iU])).symm;unfold aS.KE at er;rw[e3]at hnd TY hdk er;rw[Be e2]at er;have hHB:=λW (hW:mZ x s W)=>Nv hW hnd m.now TY;obtain⟨z,hz⟩:∃z,St.new s.addr s.bn m.now=z:=⟨_,rfl⟩;rw[hz]at hdk er hHB;obtain⟨m',hm'⟩:∃m',m.put i {s with nd:=some z}=m':=⟨_,rfl⟩;rw[hm']at hdk er;obtain⟨q0,q1,_,_⟩:=hm2.cell;rw[e4]at q1;have hin:(i:Int)<(m.S.length:Int):=by omega
   have hst:=hm2.st i x s e1 e2;have Zz:=aG hm2.blk;have hgl:g<w2.heap.size:=World.block_lt_of_cell? _ _ p0;have hDl:w.heap.size<w2.heap.size:=World.block_lt_of_cell? _ _ t1;have hnF:∀k,k=y.G∨k=g∨k=w.heap.size->¬lF x s k:=by
    intro k hk hF;obtain⟨o,ho,hK⟩:=hst.kind hF;rcases hk with rfl|rfl|rfl
    ·rw[hm2.blk]at ho;cases ho;exact hK.not (by decide)
    ·obtain⟨cc,hc⟩:=aR hm2.zF (k:=k) (by rw[e4];rfl);rw[hc]at ho;cases ho;exact hK.not (by decide)
    ·rw[hC2]at ho;cases ho;exact hK.not (by decide)
   have hS0:SBo y.G g i x.B w.heap.size m.now (.slice (some ⟨g,0,none⟩) m.S.length c) w2:=⟨⟨q0,q1,p0,t1⟩,Zz,hgl,hDl⟩;have hS:=hS0.keep (W':=w2.drew) (aD _) (λ_ _=>rfl);have hd1:Below w2.heap.size w2 w2.drew:=(aV _ _).drew;have hmd:=hm2.drew;have HB2:=hide ((hHB w2.drew (hmd.st i x s e1 e2)).mono λe w4 hp=>show ∃aK bP bQ y2,SBo y.G g i x.B w.heap.size m.now (.slice (some ⟨g,0,none⟩) m.S.length c) w4∧e=.returned (iY z.bn z.bC aK bP bQ)∧iG w2.heap.size z.aL z.aY z.aT aK bP bQ w4∧w2.heap.size<=w4.heap.size∧MM y2 m' w4∧MU y m y2 m' w2 w4 by
    obtain⟨aK,bP,bQ,he,hp,hor⟩:=hp;obtain⟨y2,h5,h6⟩:=hmd.Z8 e1 e2 hp;rw[hm']at h5 h6;have h7:=hp;obtain⟨_,_,_,hfx,_⟩:=h7;have hsz:=hfx.size;exact⟨aK,bP,bQ,y2,hS.keep hsz λk hk=>hfx.block k (by rcases hk with rfl|rfl|rfl<;>assumption) (hnF k hk),he,hor,h6.fx.size,h5,h6.pre hd1⟩)
   obtain⟨B,hB⟩:∃B,x.B=B:=⟨_,rfl⟩;rw[hB]at HB2 hS;clear hm hmay hstep hok hfl hbt hm2 HE HQ d4 hmd e1 e2 e3 e4 TY hHB hz hm' hst Zz hgl hDl hnF hS0 hB hd1;go_upto_region 22 with(fail);clear q0 q1 p0 t0 t1 t2 t3 t4 t5 hC2;refine kz (SBo y.G g i B w.heap.size m.now (.slice (some ⟨g,0,none⟩) m.S.length c)) [16,17] (by kernel_rfl) hS (λhHeld=> ?_);refine aN (i:=0) (v:=?hv0) rfl (by kernel_rfl) (λ_ _ _ h=>h) (Or.inl ⟨by rfl,?hy0⟩) hHeld ?hr0
   case hy0=>
    rintro w5 ⟨⟨q0,q1,p0,t1⟩,_⟩;go_simp;try with_reducible rfl
   try go_frame
   refine aN (i:=1) (v:=?hv1) rfl (by kernel_rfl) (λ_ _ _ h=>h) (Or.inl ⟨by rfl,?hy1⟩) hHeld ?hr1
   case hy1=>
    rintro w5 ⟨⟨q0,q1,p0,t1⟩,_⟩;go_simp;try with_reducible rfl
   try go_frame
   refine aN (i:=2) (v:=?hv2) rfl (by kernel_rfl) (λ_ _ _ h=>h) (Or.inl ⟨by rfl,?hy2⟩) hHeld ?hr2
   case hy2=>
    rintro w5 ⟨⟨q0,q1,p0,t1⟩,_⟩;go_simp;try with_reducible rfl
   try go_frame
   refine aN (i:=3) (v:=?hv3) rfl (by kernel_rfl) (λ_ _ _ h=>h) (Or.inl ⟨by rfl,?hy3⟩) hHeld ?hr3
   case hy3=>
    rintro w5 ⟨⟨q0,q1,p0,t1⟩,_⟩;go_simp;try with_reducible rfl
   try go_frame
   refine aN (i:=4) (v:=?hv4) rfl (by kernel_rfl) (λ_ _ _ h=>h) (Or.inl ⟨by rfl,?hy4⟩) hHeld ?hr4
   case hy4=>
    rintro w5 ⟨⟨q0,q1,p0,t1⟩,_⟩;go_simp;try with_reducible rfl
   try go_frame
   refine aN (i:=5) (v:=?hv5) rfl (by kernel_rfl) (λ_ _ _ h=>h) (Or.inl ⟨by rfl,?hy5⟩) hHeld ?nG
   case hy5=>
    rintro w5 ⟨⟨q0,q1,p0,t1⟩,_⟩;go_simp;try with_reducible rfl
   try go_frame
   refine aN (i:=6) (v:=?hv6) rfl (by kernel_rfl) (λ_ _ _ h=>h) (Or.inl ⟨by rfl,?hy6⟩) hHeld ?sM
   case hy6=>
    rintro w5 ⟨⟨q0,q1,p0,t1⟩,_⟩;go_simp;try with_reducible rfl
   try go_frame
   refine aN (i:=7) (v:=?hv7) rfl (by kernel_rfl) (λ_ _ _ h=>h) (Or.inl ⟨by rfl,?hy7⟩) hHeld ?y_
   case hy7=>
    rintro w5 ⟨⟨q0,q1,p0,t1⟩,_⟩;go_simp;try with_reducible rfl
   try go_frame
   refine aN (i:=8) (v:=?hv8) rfl (by kernel_rfl) (λ_ _ _ h=>h) (Or.inl ⟨by rfl,?hy8⟩) hHeld ?iN
   case hy8=>
    rintro w5 ⟨⟨q0,q1,p0,t1⟩,_⟩;go_simp;try with_reducible rfl
   try go_frame
   refine aN (i:=9) (v:=?hv9) rfl (by kernel_rfl) (λ_ _ _ h=>h) (Or.inl ⟨by rfl,?hy9⟩) hHeld ?nE
   case hy9=>
    rintro w5 ⟨⟨q0,q1,p0,t1⟩,_⟩;go_simp;try with_reducible rfl
   try go_frame
   refine aN (i:=10) (v:=?aeS) rfl (by kernel_rfl) (λ_ _ _ h=>h) (Or.inl ⟨by rfl,?aaK⟩) hHeld ?ae5
   case aaK=>
    rintro w5 ⟨⟨q0,q1,p0,t1⟩,_⟩;go_simp;try with_reducible rfl
   try go_frame
   refine aN (i:=11) (v:=?acT) rfl (by kernel_rfl) (λ_ _ _ h=>h) (Or.inl ⟨by rfl,?Tf⟩) hHeld ?ac7
   case Tf=>
    rintro w5 ⟨⟨q0,q1,p0,t1⟩,_⟩;go_simp;try with_reducible rfl
   try go_frame
   refine aN (i:=12) (v:=?acS) rfl (by kernel_rfl) (λ_ _ _ h=>h) (Or.inl ⟨by rfl,?Te⟩) hHeld ?ac5
   case Te=>
    rintro w5 ⟨⟨q0,q1,p0,t1⟩,_⟩;go_simp;try with_reducible rfl
   try go_frame
   refine aN (i:=13) (v:=?acR) rfl (by kernel_rfl) (λ_ _ _ h=>h) (Or.inl ⟨by rfl,?Td⟩) hHeld ?ac2
   case Td=>
    rintro w5 ⟨⟨q0,q1,p0,t1⟩,_⟩;go_simp;try with_reducible rfl
   try go_frame
   refine aN (i:=14) (v:=?aeR) rfl (by kernel_rfl) (λ_ _ _ h=>h) (Or.inl ⟨by rfl,?aaJ⟩) hHeld ?ae4
   case aaJ=>
    rintro w5 ⟨⟨q0,q1,p0,t1⟩,_⟩;go_simp;try with_reducible rfl
   try go_frame
   refine cK (i:=15) (by kernel_rfl) rfl (λK2 hK2=> ?_);go_simp;go_at_call 37;refine HB2.out.mono ?_;rintro e w4 ⟨aK,bP,bQ,y2,hS2,rfl,hor,hsz,Cb,VE⟩;have Vq:=Fz Cb hdk aK bP bQ w2.heap.size hor hsz;rw[VE.G]at Vq;go_simp;refine hK2.out _ _ (λ_=>hS2) ?_;clear hK2 K2 HB2;refine cK (i:=16) (by kernel_rfl) rfl (λK3 hK3=> ?_);replace Vq:=hide Vq;replace VE:=hide VE;replace hdk:=hide hdk;clear hor Cb hS2 hHeld hS;go_simp;go_at_call 36;refine Vq.out.mono ?_;rintro e w6 ⟨v,L,rfl,hL,hev,y3,ED,hu6⟩;have hfin:=HF.out (.returned v) w6 (by rw[<-er];exact⟨v,L,rfl,hL,hev,y3,ED,VE.out.trans hu6⟩);have hk:=(E9 hdk.out).up (show κ+100000<=κ+1000000 by omega) (Nat.le_succ q);rw[er]at hk;have O8:=hide (And.intro hfin hk);clear hL hev ED hu6 Vq VE hdk HF hfin hk er;go_simp;refine hK3.out _ _ (λh=>(h (by decide)).elim) ?_;clear hK3 K3;refine cK (i:=17) (by kernel_rfl) rfl (λK4 hK4=> ?_);go_simp;refine hK4.out _ _ (λh=>(h (by decide)).elim) ?_;clear hK4 K4;refine jZ (by kernel_rfl) ?_ _;go_wp2;go_ret;exact O8.out
  ·have er:=(hstep.out (m,[]) (by rw[aM d1,aM d2,aM d3,aM d4,aM d8,aM d9,aM d10,aM d11])).symm;have Jo:m=r.1:=congrArg Prod.fst er;have ZC:=(show []=r.2 from congrArg Prod.snd er);have hfin:=HE.out w2 ZC (by rw[<-Jo];exact MP.refl hm2);have hk:=HQ.out _ hok;rw[Jo]at hk;have O8:=hide (And.intro hfin hk);have d41:¬dX=4:=λe=>d4 (.inl e);have d42:¬dX=5:=λe=>d4 (.inr (.inl e));have d43:¬dX=6:=λe=>d4 (.inr (.inr (.inl e)));have d44:¬dX=7:=λe=>d4 (.inr (.inr (.inr e)));clear hmay hstep hok hfl hbt hm2 HF HQ HE er Jo ZC d4 hk hfin;go_wp2;go_ret;exact O8.out
variable{κ:Int}{xs:List Int}{q:Nat}{s:bJ}
theorem OG(q own:Int)(f:Int->Option Int)(A:List Rt)(h:own<q):0<(bL q own f A).2.length:=by
 have h1:∀(A:List Rt) (st:(Int->Option Int)×List (Bool×Int×Int)),0<st.2.length->0<(A.foldl jG st).2.length:=by
  intro A
  induction A with
  |nil=>intro st hs;exact hs
  |cons y A ih=>
   intro st hs;rw[gH];refine ih _ ?_;unfold jG;split
   ·simp
   ·exact hs
 refine h1 A _ ?_;unfold pM;rw[aQ h];exact Nat.succ_pos 0
theorem abE{s:Int}(h:bB s):0<gr s:=by unfold bB gr at *;omega
theorem Rn{me now:Int}(hbd:qx (jl xs)):0<(St.raw me xs now).write.bA.length:=by
 show 0<(([]:List (Bool×Int×Int))++(bL (gr ((qF (jl xs)).getD 0)) 0 _ _).2).length;rw[List.nil_append];exact OG _ _ _ _ (abE (Gv hbd))
theorem acJ{me now:Int}(hbd:qx (jl xs)):(∀y∈(St.raw me xs now).A,y.Ok)∧(St.raw me xs now).A.length<=8:=by
 have hc:=Nl hbd;have e:(St.raw me xs now).A=uH me ((cmpL (jl xs)).take (cmpL (jl xs)).length):=by rw[List.take_length];rfl
 rw[e];refine⟨λy hy=> ?_,Mh _ _ _⟩;obtain⟨j,x,_,hj,hp,rfl⟩:=El _ _ _ y hy;have hx1:x.1=false:=by
  unfold BK at hp;simp only[fF,Bool.not_eq_true']at hp;exact hp.1
 obtain⟨h1,h2⟩:=R4 hbd hc (gG hj) hx1;exact Mg h1 h2
theorem aax{now:Int}(h:Cj κ q now s)(Hu:1<=κ)(fK:0<=now∧now<=4611686018427387904):Y0 κ q now {s with nd:=some (St.new s.addr s.bn now)} (St.new s.addr s.bn now):=by
 have hbd:=SK h.jb;have hm:=LZ h.addr hbd fK;obtain⟨hA,hl⟩:=acJ (me:=s.addr) (now:=now) hbd;have hi:=Am hm (by omega) rfl hA hl;have e:=aP (St.raw s.addr s.bn now);rw[St.uh];refine⟨SV hi (by omega),λa ha=> ?_,e.me,by rw[e.now];exact eY _,by rw[e.Q];exact dh _,by rw[e.A];exact hA,by rw[e.A];exact hl⟩;rw[e.Q]at ha;cases ha
theorem En{now:Int}(h:Cj κ q now s)(Hu:1<=κ)(fK:0<=now∧now<=4611686018427387904):IW κ q now {s with nd:=some (St.new s.addr s.bn now)} (St.new s.addr s.bn now):=by
 have hbd:=SK h.jb;have hn:=Rn (me:=s.addr) (now:=now) hbd;have hc:Lc 0 (St.new s.addr s.bn now):=by
  rw[St.uh];exact A8 (s:=St.raw s.addr s.bn now) rfl (.inr ⟨rfl,hn⟩)
 have hnw:0<(St.new s.addr s.bn now).bA.length:=by
  rw[St.uh];unfold St.finish;split
  ·show 0<(St.cmp _).length;rw[zi];exact Nat.succ_pos _
  ·exact hn
 refine⟨h.addr,h.a0,h.jb,h.jl,h.wh,rfl,aax h Hu fK,λhr=> ?_,λhr=>(hc.yes hr).1,?_⟩
 ·have hx:s.bn=[]:=by
   rw[St.uh]at hr;unfold St.finish at hr;split at hr
   ·cases hr
   ·have h5:decide (s.bn≠ [])=false:=hr;simpa using h5
  have:=hc.no hr;show 13 * (St.new s.addr s.bn now).cnt=((s.bn.length:Nat):Int)+_;rw[hx]at this ⊢;simp only[List.length_nil];omega
 ·cases hr:(St.new s.addr s.bn now).bC with
  |false=>
   have:=hc.no hr;omega
  |true=>
   have:=hc.yes hr;omega
theorem UO{m:aS}(hok:iT κ q m)(Hu:1<=κ){i:Nat}(hi:i<m.S.length)(hfw:Y3 (jl (m.at' i).bn)):FJ (m.at' i) m.now∧Cq κ q (m.put i {m.at' i with nd:=some (St.new (m.at' i).addr (m.at' i).bn m.now)}) i (St.new (m.at' i).addr (m.at' i).bn m.now):=by
 have hS:m.S[i]?=some (m.at' i):=by
  have h1:=cZ hi;rw[eX h1];exact h1
 have hs:=hok.at hS;refine⟨⟨hs.addr,hs.a0,hs.jb,by have:=hs.jl;omega,hfw,hok.now⟩,⟨by rw[(ic _ _ _).1,List.length_set];exact hok.n,hok.bO,hok.now,λj u hu hne=> ?_,⟨{m.at' i with nd:=some (St.new (m.at' i).addr (m.at' i).bn m.now)},by rw[(ic _ _ _).1,List.getElem?_set_self hi],En hs Hu hok.now⟩⟩⟩;rw[(ic _ _ _).1,List.getElem?_set_ne (Ne.symm hne)]at hu;exact hok.at hu
theorem Vo(ao:Option Addr)(g n c:Nat)(hao:0<n->ao=some ⟨g,0,none⟩)(L:List Int)(d:Int)(w:World)(hn:n<=100)(hc:∀k,k<n->w.cell? ⟨g,k,none⟩=some (.int .u32 (L.getD k 0)))(hd:∀k,k<n->L.getD k 0≠d):
  Calls Tryz.prog 136 #[.slice ao n c,.int .u32 d] w λe w'=>e=.returned (.int .i64 (-1))∧w'=w:=by
 go_enter Tryz.func136,Tryz.ntmps136;go_wp2_with fail;go_loopw [8] (λi wr=>∃(j:Nat),j<=n∧i=.int .i64 j∧wr=w) (λi _=>n - (intOf i).toNat)
 case atStart=>exact⟨0,dh _,rfl,rfl⟩
 case round=>
  obtain⟨j,hj,rfl,rfl⟩:=hrel;by_cases hlt:j<n
  ·have hix:(j:Int)<(n:Int):=by omega
   have hne:(d==L.getD j 0)=false:=by
    rw[beq_eq_false_iff_ne];exact λe=>hd j hlt e.symm
   have h0:=hc j hlt;obtain⟨x,hx⟩:∃x,L.getD j 0=x:=⟨_,rfl⟩;rw[hx]at h0 hne;cases hao (by omega);clear hc hd hx hao;go_wp2;go_roundw
   case rel=>exact⟨j+1,by omega,by go_num,by trivial⟩
   case measure=>simp[intOf];omega
  ·obtain rfl:j=n:=by omega
   clear hc hd hao;go_wp2;go_ret;exact⟨rfl,rfl⟩
theorem Jc(ao:Option Addr)(g n c:Nat)(hao:0<n->ao=some ⟨g,0,none⟩)(L:List Int)(d:Int)(w:World)(hn:n<=100)(hc:∀k,k<n->w.cell? ⟨g,k,none⟩=some (.int .u32 (L.getD k 0)))(hd:∀k,k<n->L.getD k 0≠d):
  Calls Tryz.prog 97 #[.slice ao n c,.int .u32 d] w λe w'=>e=.returned (.bool false)∧w'=w:=by
 have HI:=hide (Vo ao g n c hao L d w hn hc hd);clear hc hd hao;go_enter Tryz.func97,Tryz.ntmps97;go_wp2_with(go_at_call 136;refine HI.out.mono ?_;rintro e w2 ⟨rfl,hw⟩;replace hw:=hide hw);go_ret;exact⟨rfl,hw.out⟩
theorem Yq(g n c:Nat)(L:List Int)(w:World)(hn:0<n∧n<=6)(hcap:n<=c)(hc:∀k,k<n->w.cell? ⟨g,k,none⟩=some (.int .u32 (L.getD k 0)))(h0:∀k,k<n->L.getD k 0≠0)(hd:∀j k,j<k->k<n->L.getD j 0≠L.getD k 0):
  Calls Tryz.prog 61 #[.slice (some ⟨g,0,none⟩) n c] w λe w'=>e=.returned (.bool true)∧w'=w:=by
 have hz:((n:Int)==0)=false:=by
  rw[beq_eq_false_iff_ne];omega
 have hs:decide ((n:Int)>6)=false:=fA (by omega);have hs':decide (6<(n:Int))=false:=fA (by omega);have hz':decide ((n:Int)=0)=false:=fA (by omega);have HC:=hide λ(k:Nat) (hk:k<n)=>Jc (some ⟨g,0,none⟩) g k c (λ_=>rfl) L (L.getD k 0) w (by omega) (λj hj=>hc j (by omega)) (λj hj=>hd j k hj hk);replace hc:=hide hc;replace h0:=hide h0;clear hd;go_enter Tryz.func61,Tryz.ntmps61;go_wp2_with fail;go_loopw [15] (λi wr=>∃(j:Nat),j<=n∧i=.int .i64 j∧wr=w) (λi _=>n - (intOf i).toNat)
 case atStart=>exact⟨0,dh _,rfl,rfl⟩
 case round=>
  obtain⟨j,hj,rfl,rfl⟩:=hrel;by_cases hlt:j<n
  ·have hix:(j:Int)<(n:Int):=by omega
   have hjc:(j:Int)<=(c:Int):=by omega
   have hne:(L.getD j 0==0)=false:=by
    rw[beq_eq_false_iff_ne];exact h0.out j hlt
   have k0:=hc.out j hlt;have HX:=hide (HC.out j hlt);obtain⟨x,hx⟩:∃x,L.getD j 0=x:=⟨_,rfl⟩;rw[hx]at k0 hne HX;clear hc h0 HC hx;go_wp2_with(go_at_call 97;refine HX.out.mono ?_;rintro e w2 ⟨rfl,hw⟩;obtain rfl:=hw);go_roundw
   case rel=>exact⟨j+1,by omega,by go_num,by trivial⟩
   case measure=>simp[intOf];omega
  ·obtain rfl:j=n:=by omega
   clear hc h0 HC;go_wp2;go_ret;exact⟨rfl,rfl⟩
variable{j:Nat}{α:Type}
theorem dV{L:List α}{a b:α}(h:(L++ [a])[j]?=some b):L[j]?=some b∨(j=L.length∧b=a):=by
 by_cases hj:j<L.length
 ·rw[List.getElem?_append_left hj]at h;exact .inl h
 ·rw[List.getElem?_append_right (by omega)]at h;obtain⟨h1,h2⟩:=eB.1 h;have h3:j - L.length=0:=by simpa using h1
  refine .inr ⟨by omega,?_⟩;simp only[h3,List.getElem_cons_zero]at h2;exact h2.symm
theorem lt_of_some{L:List α}{b:α}(h:L[j]?=some b):j<L.length:=(eB.1 h).1
theorem MM.add{y:MG}{m:aS}{W:World}(h:MM y m W){x:SG}{s:bJ}(hx:mZ x s W)(hap:∀k,lF x s k->¬oZ y m k){v7:Value}{w7:World}(ho:w7.ownsRow 0 94 1 v7 (m.S.length+1) (KU y.L++KU [x]))(hg:W.grownBy w7 y.sv.ownBlock)(hv:v7.ownBlock=y.sv.ownBlock∨v7.ownBlock=some W.heap.size):
  (w7.cell? ⟨y.G,1,none⟩=some y.sv∧w7.frozen? ⟨y.G,1,none⟩=false)∧MM {y with L:=y.L++ [x],sv:=v7} {m with S:=m.S++ [s]} (w7.setCell ⟨y.G,1,none⟩ v7)∧∀k,oZ {y with L:=y.L++ [x],sv:=v7} {m with S:=m.S++ [s]} k->oZ y m k∨lF x s k∨(W.heap.size<=k∧k<(w7.setCell ⟨y.G,1,none⟩ v7).heap.size):=by
 have hne:y.sv.ownBlock≠some y.G:=aB h.zF h.blk (λc e=>(by cases e));have hblk:=hg.block _ (aG h.blk) λe=>hne e.symm;obtain⟨_,c1,_,fz⟩:=h.cell;have Ig:=hblk.trans h.blk;have hg2:w7.grownBy (w7.setCell ⟨y.G,1,none⟩ v7) (some y.G):=ah (aC _ (some y.G)) 1 _;have hsz:=hg.size;have hkeep:∀k,k<W.heap.size->k≠y.G->y.sv.ownBlock≠some k->(w7.setCell ⟨y.G,1,none⟩ v7).heap[k]?=W.heap[k]?:=λk hk h1 h2=>(hg2.block k (by omega) λe=>h1 (Option.some.inj e)).trans (hg.block k hk λe=>h2 e.symm);have hst:∀(i:Nat) z u,y.L[i]?=some z->m.S[i]?=some u->mZ z u (w7.setCell ⟨y.G,1,none⟩ v7):=λi z u h1 h2=>(h.st i z u h1 h2).kept λk hk=>by
  obtain⟨q1,q2,_⟩:=h.own h1 h2 hk;exact hkeep k ((h.st i z u h1 h2).lt hk) q1 q2
 have hxs:mZ x s (w7.setCell ⟨y.G,1,none⟩ v7):=hx.kept λk hk=>hkeep k (hx.lt hk) (λe=>hap k hk (.inl e)) λe=>hap k hk (.inr (.inl e));have hll:=h.len;refine⟨⟨(World.cell?_of_block (a:=⟨y.G,1,none⟩) hblk).trans c1,(World.frozen?_of_block (a:=⟨y.G,1,none⟩) hblk).trans (fz 1)⟩,⟨?_,?_,?_,?_,λi z u h1 h2=> ?_,λi j z u z' u' hij h1 h2 h3 h4 k hk hk'=> ?_⟩,λk hk=> ?_⟩
 ·simp[World.setCell,Array.getElem?_modify,Ig]
 ·have hr:=ho.kept hg2 (.inr (aB ho Ig (λc e=>(by cases e))));show World.ownsRow _ 0 _ 1 v7 (m.S++ [s]).length (KU (y.L++ [x]));rw[dw,show KU (y.L++ [x])=KU y.L++KU [x]from List.map_append];exact hr
 ·refine bK h.bO λk hk=>hkeep k (h.bO.lt k hk).2 (λe=> ?_) λe=> ?_
  ·subst e;exact aB h.bO h.blk (λc e=>(by cases e)) hk
  ·rcases bX h.zF h.bO (by decide)with q|q
   ·rw[q]at e;cases e
   ·exact q (e.trans hk.symm)
 ·show(y.L++ [x]).length=(m.S++ [s]).length;rw[dw,dw,hll];rfl
 ·rcases dV h1 with h1|⟨e1,rfl⟩
  ·rcases dV h2 with h2|⟨e2,_⟩
   ·exact hst i z u h1 h2
   ·have:=lt_of_some h1;omega
  ·rcases dV h2 with h2|⟨_,rfl⟩
   ·have:=lt_of_some h2;omega
   ·exact hxs
 ·rcases dV h1 with p1|⟨e1,rfl⟩
  ·rcases dV h2 with p2|⟨e2,_⟩
   ·rcases dV h3 with h3|⟨e3,rfl⟩
    ·rcases dV h4 with h4|⟨e4,_⟩
     ·exact h.ap i j z u z' u' hij p1 p2 h3 h4 k hk hk'
     ·have:=lt_of_some h3;omega
    ·rcases dV h4 with h4|⟨_,rfl⟩
     ·have:=lt_of_some h4;omega
     ·exact hap k hk' (.inr (.inr (.inr ⟨i,z,u,p1,p2,hk⟩)))
   ·have:=lt_of_some p1;omega
  ·rcases dV h2 with h2|⟨_,rfl⟩
   ·have:=lt_of_some h2;omega
   ·rcases dV h3 with h3|⟨e3,_⟩
    ·rcases dV h4 with h4|⟨e4,_⟩
     ·exact hap k hk (.inr (.inr (.inr ⟨j,z',u',h3,h4,hk'⟩)))
     ·have:=lt_of_some h3;omega
    ·exact absurd (e1.trans e3.symm) hij
 ·rcases hk with hk|hk|hk|⟨i,z,u,h1,h2,hk⟩
  ·exact .inl (.inl hk)
  ·rcases hv with e|e
   ·exact .inl (.inr (.inl (by rw[<-e];exact hk)))
   ·have h1:=(ho.lt k hk).2;rw[show({y with L:=y.L++ [x],sv:=v7}:MG).sv=v7 from rfl,e]at hk;cases hk;exact .inr (.inr ⟨aD _,by simpa using h1⟩)
  ·exact .inl (.inr (.inr (.inl hk)))
  ·rcases dV h1 with h1|⟨e1,rfl⟩
   ·rcases dV h2 with h2|⟨e2,_⟩
    ·exact .inl (.inr (.inr (.inr ⟨i,z,u,h1,h2,hk⟩)))
    ·have:=lt_of_some h1;omega
   ·rcases dV h2 with h2|⟨_,rfl⟩
    ·have:=lt_of_some h2;omega
    ·exact .inr (.inl hk)
theorem Sb:Nonempty bI:=⟨by repeat' (first|exact Value.slice none 0 0|exact(0:Nat)|exact(0:Int)|exact false|exact(⟨#[]⟩:ByteArray)|exact []|exact none|constructor|intro)⟩
def mR(a:Int):Obj:=.cells #[.int .u32 a,.slice none 0 0,.pointer none,.bool false,.bool false,.bool false,.bool false,.bool false,.bool false,.bool false,.int .i64 0] 102
def F4(a:Int):bJ:=⟨a,bE (St.new a [] 0).bA,some (St.new a [] 0),List.replicate 6 false,false,0⟩
theorem Z_(wr:World)(a:Int)(hU:bB a)(h0:a≠0):Calls Tryz.prog 37 #[.pointer (some ⟨wr.heap.size,0,none⟩),.int .u64 0] (wr.alloc (mR a)) λe W3=>∃aK bP bQ,e=.returned (iY (St.new a [] 0).bn (St.new a [] 0).bC aK bP bQ)∧Hid (Calls Tryz.prog 62 #[.pointer (some ⟨wr.heap.size,0,none⟩),iY (St.new a [] 0).bn (St.new a [] 0).bC aK bP bQ] W3 λe W4=>e=.returned (.bool true)∧∃x2:SG,x2.B=wr.heap.size∧mZ x2 (F4 a) W4∧Fx (λk=>k=wr.heap.size) (wr.alloc (mR a)) W4∧∀k,lF x2 (F4 a) k->wr.heap.size<=k):=by
 obtain⟨g0⟩:=Sb;have hx:mZ ⟨wr.heap.size,.slice none 0 0,0,g0,[]⟩ ⟨a,[],none,List.replicate 6 false,false,0⟩ (wr.alloc (mR a)):=
  ⟨bS _ _,rfl,⟨rfl,.inl ⟨rfl,rfl⟩⟩,λz hz=>(by cases hz)⟩
 have hs:Cj 1 0 0 ⟨a,[],none,List.replicate 6 false,false,0⟩:=⟨hU,h0,λx h=>(by cases h),dh _,eY _,λz hz=>(by cases hz),λz hz=>(by cases hz)⟩;have hp:=En hs (eY _) ⟨eY _,by decide⟩;have hsz:(wr.alloc (mR a)).heap.size=wr.heap.size+1:=by simp
 have hin:∀k,lF ⟨wr.heap.size,.slice none 0 0,0,g0,[]⟩ ⟨a,[],none,List.replicate 6 false,false,0⟩ k->k=wr.heap.size:=by
  intro k hk;rcases hk with hk|hk|⟨z,hz,_⟩
  ·exact hk
  ·cases hk
  ·cases hz
 refine(Nv hx rfl 0 ⟨hU,h0,λx h=>(by cases h),dh _,⟨[],dh _,λa h=>(by cases h)⟩,⟨eY _,by decide⟩⟩).mono ?_;rintro e W3 ⟨aK,bP,bQ,rfl,⟨x1,hB1,hm1,hf1,hu1⟩,_⟩;refine⟨aK,bP,bQ,rfl,hide ?_⟩;dsimp only at hB1 hm1 hu1;have hnw:=hp.nwl;have hcn:=hp.nd.inv.bd;have HW:=IU hm1 (St.new a [] 0).ot aK bP bQ hcn (by show(St.new a [] 0).bA.length<=_;dsimp only at hnw;omega) (dh _) (eY _);rw[hB1]at HW;have hne:(St.new a [] 0).ot.bA≠ []∨(St.new a [] 0).ot.bC=true:=by
  refine .inl λe=> ?_;have h1:=hp.no;have h2:=hp.yes;have h3:=hp.pos;have e':(St.new a [] 0).bA=[]:=e;dsimp only at h1 h2 h3;rw[e']at h1 h2;cases hr:(St.new a [] 0).bC with
  |false=>
   have h4:=h1 hr;simp only[List.length_nil]at h4;omega
  |true=>
   have h4:=h2 hr;simp only[List.length_nil]at h4;omega
 have hwe:=bJ.jY (s:=⟨a,[],some (St.new a [] 0),List.replicate 6 false,false,0⟩) hne rfl;have hs2:(bJ.write ⟨a,[],some (St.new a [] 0),List.replicate 6 false,false,0⟩ (St.new a [] 0).ot).1=F4 a:=by
  rw[hwe];unfold F4;dsimp only;split<;>rfl
 have hs3:(bJ.write ⟨a,[],some (St.new a [] 0),List.replicate 6 false,false,0⟩ (St.new a [] 0).ot).2=true:=by rw[hwe]
 rw[hs2,hs3]at HW;refine HW.mono ?_;rintro e W4 ⟨rfl,x2,hB2,hm2,hf2,hu2⟩;have hz1:=hf1.size;refine⟨rfl,x2,hB2.trans hB1,hm2,(hf1.mono hin).trans hf2 λi hi hk=> ?_,λk hk=> ?_⟩
 ·rcases hu1 i hk with h|h
  ·exact hin i h
  ·omega
 ·rcases hu2 k hk with h|h
  ·rcases hu1 k h with h|h
   ·exact Nat.le_of_eq (hin k h).symm
   ·omega
  ·omega
end Go.Proofs.YtakaadcpaeiccabGreat
