import Derived.Test.YtakaadcpaeiccabGreatV15
import Derived.Lib.SliceRun
import Derived.Lib.UnsafeStr
import Derived.Laws.MakeOwn
import Derived.Lib.Strings
import Derived.Lib.BufferWrite
set_option maxHeartbeats 8000000
set_option maxRecDepth 100000
namespace Go.Proofs.YtakaadcpaeiccabGreat
open Go.RowKit Go.Maps
variable{B N:Nat}{s:St}
theorem NI(L:List Int)(k:Nat):L++List.replicate k (5:Int)++ [5]=L++List.replicate (k+1) 5:=by
 rw[List.append_assoc,List.replicate_succ',]
theorem Nd.jU{g:bI}{TL:List Hp.Tm}{W:World}(n:Nd N B g s TL W){q:Sr}(hq:q∈s.Q){Bq:Nat}(hB:g.h q.dest=some Bq):qm Bq q (g.u q.dest) W:=by
 obtain⟨B',h1,h2⟩:=n.nn.rs.sr.ln q hq;rw[hB]at h1;cases h1;exact h2
theorem UB{g:bI}{TL:List Hp.Tm}{w:World}(n:Nd N B g s TL w)(hdl:s.aP.length<=900000)(q:Sr)(hq:q∈s.Q)(Bq:Nat)(hB:g.h q.dest=some Bq)(hl:TL.length<=900000):
  Calls Tryz.prog 158 #[.pointer (some ⟨Bq,0,none⟩),.pointer (some ⟨N,0,none⟩),.pointer (some ⟨B,0,none⟩)] w λe w'=>e=.returned (.tuple #[])∧∃dX,FQ N B g s (({s with aP:=s.aP++List.replicate q.txt.length 5}:St).XK q.dest) dX (λz=>z=q.dest) w w'∧Fh q.id TL dX:=by
 have hok:=n.nn.rs.sr.ok q hq;have hrow:=n.nn.rs.sr.row q hq;obtain⟨ao,c,hv,_⟩:=ax hrow;obtain⟨k0,k1,k2,k3,k4⟩:=(n.jU hq hB).cell;rw[hv]at k1;have hln:=hok.txt;obtain⟨s2,hs2⟩:∃z,({s with aP:=s.aP++List.replicate q.txt.length 5}:St).XK q.dest=z:=⟨_,rfl⟩;rw[hs2];replace hs2:=hide hs2;have hb0:Hid (({s with aP:=s.aP++List.replicate 0 5}:St)=s):=by
  show _=_;simp
 have n0:=hide n;clear hrow hv n;go_enter Tryz.func158,Tryz.ntmps158;go_wp2_with fail;clear k0 k1 k2 k3 k4;go_loopw [11] (λi wr=>∃(k:Nat) (st:St) (g':bI),k<=q.txt.length∧i=.int .i64 k∧Hid (({s with aP:=s.aP++List.replicate k 5}:St)=st)∧Nd N B g' st TL wr∧Up B (Ft N g s) (Ft N g' st) w wr∧Hid (g'.x.T=g.x.T)∧Hid (g'.h=g.h∧g'.u=g.u)) (λi _=>q.txt.length - (intOf i).toNat)
 case atStart=>exact⟨0,s,g,dm _,rfl,hb0,n0.out,Up.refl _ _ _,rfl,rfl,rfl⟩
 case round=>
  obtain⟨k,st,g',hk,rfl,hst,nk,uk,tk,yk⟩:=hrel;by_cases hlt:k<q.txt.length
  ·have hki:(k:Int)<(q.txt.length:Int):=by omega
   have hd1:st.aP.length<=1000000:=by
    rw[<-hst.out];show(s.aP++List.replicate k (5:Int)).length<=_;rw[bU,List.length_replicate];omega
   have HX:=hide (Fw nk 5 hd1);have Z5:Hid (({s with aP:=s.aP++List.replicate (k+1) 5}:St)=st.drop 5):=by
    show _=_;rw[<-hst.out];unfold St.drop;dsimp only;rw[NI]
   have Aq:Hid (q.txt.length - (intOf (.int .i64 ((k:Int)+1))).toNat<q.txt.length - (intOf (.int .i64 (k:Int))).toNat):=by
    show q.txt.length - ((k:Int)+1).toNat<q.txt.length - (k:Int).toNat;omega
   clear nk hst hd1;go_wp2_with fail;refine aU HX.out ?_;rintro e w4 ⟨rfl,g4,n4,u4,t4,y4⟩;have hfin:Hid (Nd N B g4 (st.drop 5) TL w4∧Up B (Ft N g s) (Ft N g4 (st.drop 5)) w w4∧Hid (g4.x.T=g.x.T)∧Hid (g4.h=g.h∧g4.u=g.u)):=⟨n4,uk.trans u4,t4.out.trans tk.out,y4.out.1.trans yk.out.1,y4.out.2.trans yk.out.2⟩;have hn1:k+1<=q.txt.length:=hlt;clear n4 u4 t4 y4 HX uk;go_wp2;exact⟨⟨k+1,_,g4,hn1,by go_num,Z5,hfin.out⟩,Aq.out⟩
  ·obtain rfl:k=q.txt.length:=by omega
   have hq':q∈st.Q:=by rw[<-hst.out];exact hq
   have HE:=hide (yF nk q hq' Bq (by rw[yk.out.1];exact hB) (by omega));have hs3:Hid (({st with Q:=st.Q.filter λz=>!decide (z.dest=q.dest)}:St)=s2):=by
    show _=_;rw[<-hs2.out,<-hst.out];rfl
   rw[hs3.out]at HE;clear nk hq';go_wp2_with fail;refine aU HE.out ?_;rintro e w5 ⟨rfl,dX,⟨g5,n5,u5,t5,y5⟩,h6⟩;have hfin:Hid (∃dX,FQ N B g s s2 dX (λz=>z=q.dest) w w5∧Fh q.id TL dX):=⟨dX,⟨g5,n5,uk.trans u5,t5.out.trans tk.out,λz hz=>(y5.out z hz).trans (by rw[yk.out.1])⟩,h6⟩;clear n5 u5 t5 y5 h6 HE uk;go_wp2;go_returns;exact⟨rfl,hfin.out⟩
variable{B:Nat}{q:Sr}{fn v:Value}{W:World}
def TmR(q:Sr)(s:St)(TL:List Hp.Tm)(s2:St)(dX:List Hp.Tm):Prop:=
 (∃q2:Sr,q2.dest=q.dest∧q2.id=s.tl+1∧s2.tl=s.tl+1∧s2.Q=St.dh s.Q q2∧dX=TL++ [kR q2])∨(s2.tl=s.tl∧s2.Q=(s.Q.filter λz=>!decide (z.dest=q.dest))∧Fh q.id TL dX)
theorem MV(s:St)(q:Sr):∃o,(s.ask q).Q=St.dh s.Q {q with due:=s.lg q,id:=s.tl+1,out:=o}∧(s.ask q).tl=s.tl+1:=by
 rw[A9];unfold St.lg;cases s.holds with
 |some r=>exact⟨false,rfl,rfl⟩
 |none=>exact⟨true,rfl,rfl⟩
theorem MS(s:St)(q q':Sr)(TL:List Hp.Tm)(h:q'.dest=q.dest):TmR q s TL (s.ask q') (TL++ [(s.lg q',s.tl+1,q'.dest)]):=by
 obtain⟨o,h1,h2⟩:=MV s q';exact .inl ⟨{q' with due:=s.lg q',id:=s.tl+1,out:=o},h,rfl,h2,h1,rfl⟩
theorem X7(s:St)(q':Sr)(X:List Sr)(hX:X=St.dh s.Q q'):({s with Q:=X}:St).ask q'=s.ask q'∧({s with Q:=X}:St).lg q'=s.lg q':=by
 refine⟨?_,rfl⟩;rw[A9,A9];have hh:({s with Q:=X}:St).holds=s.holds:=rfl;rw[hh,hX];cases s.holds with
 |some r=>
  dsimp only;unfold St.waits;have:=tO s.Q (a:=q') (b:={q' with due:=s.now+1000,id:=s.tl+1,out:=false}) rfl;show({s.drop r with tl:=s.tl+1,Q:=St.dh (St.dh s.Q q') {q' with due:=s.now+1000,id:=s.tl+1,out:=false}}:St)={s.drop r with tl:=s.tl+1,Q:=St.dh s.Q {q' with due:=s.now+1000,id:=s.tl+1,out:=false}};rw[this]
 |none=>
  dsimp only;unfold St.waits;have:=tO s.Q (a:=q') (b:={q' with due:=s.now+80 * (q'.ttl+2)* 2 ^ q'.ret,id:=s.tl+1,out:=true}) rfl;show({s.request q'.dest q'.ttl with tl:=s.tl+1,Q:=St.dh (St.dh s.Q q') {q' with due:=s.now+80 * (q'.ttl+2)* 2 ^ q'.ret,id:=s.tl+1,out:=true}}:St)={s.request q'.dest q'.ttl with tl:=s.tl+1,Q:=St.dh s.Q {q' with due:=s.now+80 * (q'.ttl+2)* 2 ^ q'.ret,id:=s.tl+1,out:=true}};rw[this]
theorem sJ.o6(h:sJ B q v fn W)(i:Int):sJ B {q with ttl:=i} v fn (W.setCell ⟨B,2,none⟩ (.int .i64 i)):=by
 unfold sJ at h ⊢;simp[World.setCell,d_,h]
theorem sJ.Jt(h:sJ B q v fn W)(i:Nat):sJ B {q with ret:=i} v fn (W.setCell ⟨B,3,none⟩ (.int .i64 i)):=by
 unfold sJ at h ⊢;simp[World.setCell,d_,h]
theorem qm.frees(h:qm B q v W)(i:Nat):W.frozen? ⟨B,i,none⟩=false:=by
 obtain⟨fn,h1,_⟩:=h;exact h1.free i
theorem qm.o6(h:qm B q v W)(i:Int):qm B {q with ttl:=i} v (W.setCell ⟨B,2,none⟩ (.int .i64 i)):=by
 obtain⟨fn,h1,h2⟩:=h;exact⟨fn,h1.o6 i,h2⟩
theorem qm.Jt(h:qm B q v W)(i:Nat):qm B {q with ret:=i} v (W.setCell ⟨B,3,none⟩ (.int .i64 i)):=by
 obtain⟨fn,h1,h2⟩:=h;exact⟨fn,h1.Jt i,h2⟩
def Us(N B:Nat)(g:bI)(s s2:St)(TL:List Hp.Tm)(q:Sr)(w w':World):Prop:=∃dX,FQ N B g s s2 dX (λz=>z=q.dest) w w'∧TmR q s TL s2 dX
theorem Yf{N:Nat}{g:bI}{s:St}{TL:List Hp.Tm}{w:World}(n:Nd N B g s TL w)(hR:s.Rdy)(hdl:s.aP.length<=800000)(q:Sr)(hq:q∈s.Q)(Bq:Nat)(hB:g.h q.dest=some Bq)(hl:TL.length<=900000)(htl:0<=s.tl∧s.tl<=4000000000000000000)(hid:∀x∈TL,x.2.1<=s.tl):
  Calls Tryz.prog 124 #[.pointer (some ⟨Bq,0,none⟩),.pointer (some ⟨N,0,none⟩),.pointer (some ⟨B,0,none⟩)] w λe w'=>e=.returned (.tuple #[])∧Us N B g s (s.widen q) TL q w w':=by
 have hok:=n.nn.rs.sr.ok q hq;have hL:=n.jU hq hB;obtain⟨k0,k1,k2,k3,k4⟩:=hL.cell;have f2:=hL.frees 2;have f3:=hL.frees 3;have J9:∀(q':Sr) (W':World),q'.dest=q.dest->q'.Ok->q'.txt=q.txt->qm Bq q' (g.u q.dest) W'->Fx (λk=>k=Bq) w W'->Calls Tryz.prog 83 #[.pointer (some ⟨Bq,0,none⟩),.pointer (some ⟨N,0,none⟩),.pointer (some ⟨B,0,none⟩)] W' λe w'=>e=.returned (.tuple #[])∧Us N B g s (s.ask q') TL q w w':=by
  intro q' W' hd ok' ht hL' hf;obtain⟨n1,u1⟩:=n.VW hq hd ok' ht hB hL' hf;obtain⟨e1,e2⟩:=X7 s q' _ rfl;refine(UE n1 ⟨hR.me,hR.seq,hR.now,hR.mem,⟨hR.dom.mb,hR.dom.on,hR.dom.own⟩,hR.cnt,hR.bg,hR.aF,hR.tn,hR.BG,hR.z_,hR.Aa⟩ (by dsimp only;omega) q' ((mR hq).1 hd.symm) Bq (by rw[hd];exact hB) hl htl hid).mono ?_;rintro e w9 ⟨rfl,g9,n9,u9,t9,y9⟩;rw[e1]at n9 u9;rw[e2]at n9;exact⟨rfl,_,⟨g9,n9,u1.trans u9,t9,λz _=>by rw[y9.out.1]⟩,MS s q q' TL hd⟩
 have H_:Calls Tryz.prog 158 #[.pointer (some ⟨Bq,0,none⟩),.pointer (some ⟨N,0,none⟩),.pointer (some ⟨B,0,none⟩)] w λe w'=>e=.returned (.tuple #[])∧Us N B g s (({s with aP:=s.aP++List.replicate q.txt.length 5}:St).XK q.dest) TL q w w':=by
  refine(UB n (by omega) q hq Bq hB hl).mono ?_;rintro e w9 ⟨rfl,dX,h1,h2⟩;exact⟨rfl,dX,h1,.inr ⟨rfl,rfl,h2⟩⟩
 obtain⟨s2,hs2⟩:∃z,s.widen q=z:=⟨_,rfl⟩;rw[hs2];unfold St.widen at hs2;by_cases h5:q.ttl+2<=5
 ·rw[aI h5]at hs2;have d5:decide (q.ttl+2<=5)=true:=f_ h5;have HX:=hide (J9 {q with ttl:=q.ttl+2} _ rfl ⟨hok.dest,by have:=hok.ttl;dsimp only;omega,hok.ret,hok.txt,hok.I_,hok.id⟩ rfl (hL.o6 _) (Fx.grown (ah (aC _ (some Bq)) 2 _) λk e=>by cases e;rfl));rw[hs2]at HX;have htt:=hok.ttl;replace hs2:=hide hs2;clear J9 H_ n hL hok;go_enter Tryz.func124,Tryz.ntmps124;go_wp2_with fail;refine aU HX.out ?_;rintro e w9 ⟨rfl,hN⟩;replace hN:=hide hN;clear HX;go_wp2;go_returns;exact⟨rfl,hN.out⟩
 ·rw[ay h5]at hs2;have d5:decide (q.ttl+2<=5)=false:=eU h5;by_cases h8:q.ttl<8
  ·rw[aI h8]at hs2;have d8:decide (q.ttl<8)=true:=f_ h8;have HX:=hide (J9 {q with ttl:=8} _ rfl ⟨hok.dest,by dsimp only;omega,hok.ret,hok.txt,hok.I_,hok.id⟩ rfl (hL.o6 _) (Fx.grown (ah (aC _ (some Bq)) 2 _) λk e=>by cases e;rfl));rw[hs2]at HX;have htt:=hok.ttl;replace hs2:=hide hs2;clear J9 H_ n hL hok;go_enter Tryz.func124,Tryz.ntmps124;go_wp2_with fail;refine aU HX.out ?_;rintro e w9 ⟨rfl,hN⟩;replace hN:=hide hN;clear HX;go_wp2;go_returns;exact⟨rfl,hN.out⟩
  ·rw[ay h8]at hs2;have d8:decide (q.ttl<8)=false:=eU h8;by_cases h2:q.ret<2
   ·rw[aI h2]at hs2;have d2:decide (q.ret<2)=true:=f_ h2;have d2':decide ((q.ret:Int)<2)=true:=f_ (by omega);have HX:=hide (J9 {q with ret:=q.ret+1} _ rfl ⟨hok.dest,hok.ttl,by dsimp only;omega,hok.txt,hok.I_,hok.id⟩ rfl (hL.Jt _) (Fx.grown (ah (aC _ (some Bq)) 3 _) λk e=>by cases e;rfl));rw[hs2]at HX;rw[Int.natCast_add]at HX;have htt:=hok.ttl;replace hs2:=hide hs2;clear J9 H_ n hL hok;go_enter Tryz.func124,Tryz.ntmps124;go_wp2_with fail;refine aU HX.out ?_;rintro e w9 ⟨rfl,hN⟩;replace hN:=hide hN;clear HX;go_wp2;go_returns;exact⟨rfl,hN.out⟩
   ·rw[ay h2]at hs2;have d2:decide (q.ret<2)=false:=eU h2;have d2':decide ((q.ret:Int)<2)=false:=eU (by omega);have HX:=hide H_;rw[hs2]at HX;have htt:=hok.ttl;replace hs2:=hide hs2;clear J9 H_ n hL hok;go_enter Tryz.func124,Tryz.ntmps124;go_wp2_with fail;refine aU HX.out ?_;rintro e w9 ⟨rfl,hN⟩;replace hN:=hide hN;clear HX;go_wp2;go_returns;exact⟨rfl,hN.out⟩
end Go.Proofs.YtakaadcpaeiccabGreat
namespace Go.Proofs.YtakaadcpaeiccabGreat.DS
open Go.RowKit Go.Maps
variable{cap e m:Nat}
theorem kT{base g size:Nat}:∀(vs:List Value) (o:Nat) (xs:List Value) (W:World),W.ownsRow base e size (.slice (some ⟨g,0,none⟩) m cap) m xs->o+vs.length<=m * size->
  (W.setCells g o vs).ownsRow base e size (.slice (some ⟨g,0,none⟩) m cap) m (xs.take o++vs++xs.drop (o+vs.length))∧W.grownBy (W.setCells g o vs) (some g)
 | [],o,xs,W,h,_=>by
  simp only[World.setCells,fw,List.length_nil,Nat.add_zero,List.take_append_drop];exact⟨h,aC _ _⟩
 |v::r,o,xs,W,h,hl=>by
  simp only[dZ]at hl;have hx:xs.length=m * size:=h.1;obtain⟨h1,g1⟩:=h.stored o v;obtain⟨h2,g2⟩:=kT r (o+1) (xs.set o v) (W.setCell ⟨g,o,none⟩ v) h1 (by omega);refine⟨?_,⟨g2.os.trans g1.os,g2.tape.trans g1.tape,g2.output.trans g1.output,dN g1.size g2.size,λk hk hn=>(g2.block k (fZ hk g1.size) hn).trans (g1.block k hk hn)⟩⟩;have e1:(xs.set o v).take (o+1)=xs.take o++ [v]:=by
   rw[List.take_succ_eq_append_getElem (by simp;omega),List.take_set_of_le (aB o)];simp
  have e2:(xs.set o v).drop (o+1+r.length)=xs.drop (o+(r.length+1)):=by
   rw[List.drop_set_of_lt (by omega),show o+1+r.length=o+(r.length+1)by omega]
  rw[e1,e2]at h2;show((W.setCell ⟨g,o,none⟩ v).setCells g (o+1) r).ownsRow _ _ _ _ _ _;simpa using h2
theorem wR{base g n size:Nat}{W:World}{xs:List Value}(h:W.ownsRow base e size (.slice (some ⟨g,0,none⟩) n cap) n xs)(hm:m<=n):
  W.ownsRow base e size (.slice (some ⟨g,0,none⟩) m cap) m (xs.take (m * size)):=by
 rcases h.2 with⟨he,_⟩|⟨g',cap',cur,he,hb,hg,h1,h2,h3,h4⟩
 ·cases he
 ·cases he;have hx:=h.1;have hms:m * size<=n * size:=Nat.mul_le_mul_right _ hm;refine⟨by rw[List.length_take,hx];omega,.inr ⟨g,cap,cur,rfl,hb,hg,by omega,h2,h3,?_⟩⟩;rw[<-h4,List.take_take,Nat.min_eq_left hms]
theorem DU(a:Option Addr)(n c k:Nat)(hk:k<=c)(W:World):(Instr.slice 80 (.slice a n c) none (some (.int .i64 k)) none).run Tryz.prog W=.ok (.slice a k c) W:=by
 have ht:Tryz.prog.underlying 80=some (.slice (Tryz.prog.elem 80)):=by simp[Program.elem,Tryz.underlying80]
 have hz:∀w,(Go.sizeOf (Tryz.prog.elem 80)).run Tryz.prog w=.ok 1 w:=by
  intro w;simp[go_sem,Program.elem,Tryz.underlying80]
 rw[run_slice_h W 80 _ _ _ ht .i64 _ (by omega) (by omega),hz];simp only[Result.andThen,sliced];rw[Nat.sub_zero,Nat.sub_zero,iU];cases a<;>(split<;>simp[Addr.add])
theorem DT(g n c k:Nat)(hk:k<=n):∃ad:Addr,(∀W,(Instr.slice 80 (.slice (some ⟨g,0,none⟩) n c) (some (.int .i64 k)) none none).run Tryz.prog W=.ok (.slice (some ad) (n - k) (c - k)) W)∧(k<c->ad=⟨g,k * 1,none⟩):=by
 have ht:Tryz.prog.underlying 80=some (.slice (Tryz.prog.elem 80)):=by simp[Program.elem,Tryz.underlying80]
 have hz:∀w,(Go.sizeOf (Tryz.prog.elem 80)).run Tryz.prog w=.ok 1 w:=by
  intro w;simp[go_sem,Program.elem,Tryz.underlying80]
 refine⟨if c=k then⟨g,0,none⟩else⟨g,k * 1,none⟩,λW=> ?_,λh=>by rw[ay (by omega)]⟩;rw[run_slice_l W 80 _ _ _ ht .i64 _ (by omega) (by omega),hz];simp only[Result.andThen,sliced];rw[iU];split<;>simp[Addr.add_lit]
theorem zN(g n c k m:Nat)(hk:k<m)(hm:m<=c)(W:World):(Instr.slice 80 (.slice (some ⟨g,0,none⟩) n c) (some (.int .i64 k)) (some (.int .i64 m)) none).run Tryz.prog W=.ok (.slice (some ⟨g,k * 1,none⟩) (m - k) (c - k)) W:=by
 have ht:Tryz.prog.underlying 80=some (.slice (Tryz.prog.elem 80)):=by simp[Program.elem,Tryz.underlying80]
 have hz:∀w,(Go.sizeOf (Tryz.prog.elem 80)).run Tryz.prog w=.ok 1 w:=by
  intro w;simp[go_sem,Program.elem,Tryz.underlying80]
 rw[run_slice_lh W 80 _ _ _ ht .i64 .i64 _ _ (by omega) (by omega) (by omega),hz];simp only[Result.andThen,sliced];rw[iU,iU,ay (by omega)];simp[Addr.add_lit]
theorem wM(a:Option Addr)(n c k m l:Nat)(hk:k<=m)(hm:m<=l)(hl:l<=c):∃v,∀W,(Instr.slice 80 (.slice a n c) (some (.int .i64 k)) (some (.int .i64 m)) (some (.int .i64 l))).run Tryz.prog W=.ok v W:=by
 have ht:Tryz.prog.underlying 80=some (.slice (Tryz.prog.elem 80)):=by simp[Program.elem,Tryz.underlying80]
 have hz:∀w,(Go.sizeOf (Tryz.prog.elem 80)).run Tryz.prog w=.ok 1 w:=by
  intro w;simp[go_sem,Program.elem,Tryz.underlying80]
 refine⟨sliced a k m l 1,λW=> ?_⟩;rw[run_slice_lhm W 80 _ _ _ ht .i64 .i64 .i64 _ _ _ (by omega) (by omega) (by omega) (by omega),hz];simp only[Result.andThen,iU]
theorem tX(w:World)(ty:TypeId)(b o c:Nat)(hc:∀j,j<1->(w.cell? ⟨b,o+j,none⟩).isSome=true)(hf:∀j,j<1->w.frozen? ⟨b,o+j,none⟩=false):
  (Builtin.clear_ #[80] ty #[.slice (some ⟨b,o,none⟩) 1 c]).run Tryz.prog w=.ok (.tuple #[]) (w.setCells b o ([.string ⟨#[]⟩]:List Value)):=by
 have hzc:(Builtin.zeroCells (.string ⟨#[]⟩:Value).cells 1).toList=([.string ⟨#[]⟩]:List Value):=by kernel_rfl
 have hst:=run_storeCells_cells (P:=Tryz.prog) b o ([.string ⟨#[]⟩]:List Value) 0 w (λj hj=>by rw[Nat.add_zero];exact hc j hj) (λj hj=>by rw[Nat.add_zero];exact hf j hj) (by intro v hv;simp at hv;rcases hv with rfl<;>rfl);simp only[Nat.add_zero]at hst;simp[Builtin.clear_,run_underlying Tryz.underlying80,hzc,hst]
theorem JU:(Tryz.prog.info? 9).map (λi=>(i.zero,i.size,i.bytes))=some (some (.string ⟨#[]⟩),1,16):=by kernel_rfl
theorem uJ(base g n cap i:Nat)(xs:List Value)(w:World)(h:w.ownsRow base 9 1 (.slice (some ⟨g,0,none⟩) n cap) n xs)(hi:i<n)(hn:n<=1000000)(h1c:∀u∈xs,u.oneCell'=true):
  Calls Tryz.prog 118 #[.slice (some ⟨g,0,none⟩) n cap,.int .i64 i,.int .i64 ((i:Int)+1)] w λe w'=>e=.returned (.slice (some ⟨g,0,none⟩) (n - 1) cap)∧w'.ownsRow base 9 1 (.slice (some ⟨g,0,none⟩) (n - 1) cap) (n - 1) (xs.take (i)++xs.drop (i+1))∧w.grownBy w' (some g):=by
 obtain⟨i0,hii,hz0,hz1,hz2⟩:=info_parts JU;have hcap:n<=cap:=by
  rcases h.2 with⟨he,_⟩|⟨g',cap',cur,he,hb,hg,h1,h2,h3,h4⟩
  ·cases he
  ·cases he;exact h1
 have hx:=h.1;obtain⟨v13,Z_⟩:=wM (some ⟨g,0,none⟩) n cap i (i+1) n (by omega) (by omega) hcap;have adU:=DU (some ⟨g,0,none⟩) n cap i (by omega);obtain⟨ad,Z9,had⟩:=DT g n cap (i+1) (by omega);have hd:w.drew.ownsRow base 9 1 (.slice (some ⟨g,0,none⟩) n cap) n xs:=h;have hnl:(xs.drop ((i+1)* 1)).length=(n - (i+1))* 1:=by
  rw[List.length_drop,hx,Nat.sub_mul]
 have hcell:∀ {W:World} {ys:List Value},W.ownsRow base 9 1 (.slice (some ⟨g,0,none⟩) n cap) n ys->∀j,j<n * 1->(W.cell? ⟨g,j,none⟩).isSome=true:=λhW j hj=>by
  rw[hW.cellAt j hj,bS (by rw[hW.1];exact hj)];rfl
 have hjl:∀j,j<(n - (i+1))* 1->(i+1)* 1+j<n * 1∧i * 1+j<n * 1:=λj hj=>by
  rw[Nat.sub_mul]at hj;have:(i+1)* 1<=n * 1:=Nat.mul_le_mul_right _ (by omega);rw[Nat.add_mul]at hj this ⊢;try omega
 have hcA:Hid (∀j u,(xs.drop ((i+1)* 1))[j]?=some u->w.drew.cell? (ad.add j)=some u):=λj u hj=>by
  have hl:=(fO.1 hj).1;rw[hnl]at hl;rw[had (by omega),Addr.add_lit];rw[List.getElem?_drop]at hj;exact(hd.cellAt _ (hjl j hl).1).trans hj
 have Z7:Hid (∀j,j<(xs.drop ((i+1)* 1)).length->(w.drew.cell? ⟨g,0+i * 1+j,none⟩).isSome=true∧w.drew.frozen? ⟨g,0+i * 1+j,none⟩=false):=λj hj=>by
  rw[hnl]at hj;rw[Nat.zero_add];exact⟨hcell hd _ (hjl j hj).2,hd.frozenAt _⟩
 have hE1:Hid (i+(n - (i+1))=n - 1):=by show _=_;omega
 have hE2:Hid (0+i * 1=i * 1):=Nat.zero_add _;have aai:=(show Hid _ from hnl);have aaO:Hid (∀u∈xs.drop ((i+1)* 1),u.oneCell'=true):=λu hu=>h1c u (List.mem_of_mem_drop hu);obtain⟨h1,g1⟩:=kT (xs.drop ((i+1)* 1)) (i * 1) xs _ hd (by
  rw[hnl,<-Nat.add_mul];exact Nat.mul_le_mul_right _ (by omega))
 have Sw:=zN g (n - 1) cap (n - 1) n (by omega) hcap;rw[show n - (n - 1)=1 by omega]at Sw;have hlast:(n - 1)* 1+1=n * 1:=by
  rw[<-Nat.succ_mul,show(n - 1).succ=n by omega]
 have hcl:∀ty,(Builtin.clear_ #[80] ty #[.slice (some ⟨g,(n - 1)* 1,none⟩) 1 (cap - (n - 1))]).run Tryz.prog (w.drew.setCells g (i * 1) (xs.drop ((i+1)* 1)))=.ok (.tuple #[]) ((w.drew.setCells g (i * 1) (xs.drop ((i+1)* 1))).setCells g ((n - 1)* 1) ([.string ⟨#[]⟩]:List Value)):=λty=>
  tX _ ty g _ _ (λj hj=>hcell h1 _ (by omega)) (λj hj=>h1.frozenAt _)
 obtain⟨h2,g2⟩:=kT ([.string ⟨#[]⟩]:List Value) ((n - 1)* 1) _ _ h1 (by simp only[dZ,List.length_nil];omega);have h3:=wR h2 (m:=n - 1) (by omega);have hgg:w.grownBy ((w.drew.setCells g (i * 1) (xs.drop ((i+1)* 1))).setCells g ((n - 1)* 1) ([.string ⟨#[]⟩]:List Value)) (some g):=⟨g2.os.trans g1.os,g2.tape.trans g1.tape,g2.output.trans g1.output,dN g1.size g2.size,λk hk hn=>(g2.block k (fZ hk g1.size) hn).trans (g1.block k hk hn)⟩;have jV:((xs.take (i * 1)++xs.drop ((i+1)* 1)++xs.drop (i * 1+(xs.drop ((i+1)* 1)).length)).take ((n - 1)* 1)++([.string ⟨#[]⟩]:List Value)++(xs.take (i * 1)++xs.drop ((i+1)* 1)++xs.drop (i * 1+(xs.drop ((i+1)* 1)).length)).drop ((n - 1)* 1+([.string ⟨#[]⟩]:List Value).length)).take ((n - 1)* 1)=xs.take (i * 1)++xs.drop ((i+1)* 1):=by
  have hl:(xs.take (i * 1)++xs.drop ((i+1)* 1)).length=(n - 1)* 1:=by
   have:i * 1<=n * 1:=Nat.mul_le_mul_right _ (by omega);rw[bU,hnl,List.length_take,hx,Nat.min_eq_left this,<-Nat.add_mul]
   congr 1
   all_goals omega
  rw[List.take_left' hl,List.append_assoc,List.take_left' hl]
 rw[jV]at h3;clear h1 g1 h2 g2 hcell hd h hnl hlast hx had h1c hjl;have hfin:=(show Hid _ from And.intro h3 hgg);clear h3 hgg jV;have hne:((i:Int)==(i:Int)+1)=false:=by
  have:¬((i:Int)=(i:Int)+1):=by omega
  simpa using this
 rw[show((i+1:Nat):Int)=(i:Int)+1 from rfl]at Z_ Z9;try simp only[Nat.mul_one]at hcl Sw hfin
 go_enter Tryz.func118,Tryz.ntmps118;go_wp2_with fail;go_region_law (refine step_append_room rfl (.tmp 22) (.tmp 25) 80 rfl 9 i0 1 Tryz.underlying80 hii hz1 g 0 i cap rfl ad (n - (i+1)) (cap - (i+1)) (xs.drop ((i+1)* 1)) rfl aai.out hcA.out aaO.out (by omega) Z7.out ?_;rw[hE1.out,hE2.out])
 all_goals
  generalize (w.drew.setCells g (i) (xs.drop (i+1)))=X at hcl hfin ⊢;go_wp2;go_returns;exact⟨rfl,hfin.out⟩
end Go.Proofs.YtakaadcpaeiccabGreat.DS
namespace Go.Proofs.YtakaadcpaeiccabGreat
open Go.RowKit
theorem WZ:(Tryz.prog.info? 5).map (λi=>(i.zero,i.size,i.bytes))=some (some (.int .u8 0),1,1):=by kernel_rfl
theorem uU(s:ByteArray)(w:World)(hlim:s.size<=1000000):
  Calls Tryz.prog 152 #[.string s] w λe w'=>e=.returned (.string s)∧Below w.heap.size w w':=by
 by_cases h0:s.size=0
 ·have hs:s=⟨#[]⟩:=by
   apply ByteArray.ext;exact Array.eq_empty_of_size_eq_zero h0
  subst hs;go_enter Tryz.func152,Tryz.ntmps152;go_wp2;go_ret;exact⟨rfl,aV _ _⟩
 ·obtain⟨i0,hi,hz0,hz1,hz2⟩:=info_parts WZ;have hinfo:(Tryz.prog.info? 5).map (·.size)=some 1:=by rw[hi];simp[hz1]
  have hco:Tryz.prog.cellsOf 5=1:=by simp[Program.cellsOf,hi,hz1]
  obtain⟨M,hM⟩:∃M,M=madeCells (Value.int .u8 0).cells (((s.size:Nat):Int).toNat * i0.size):=⟨_,rfl⟩;have hMs:M.size=s.size:=by rw[hM,size_madeCells,hz1];simp
  have hmk:∀W:World,(Instr.makeSlice 58 (.int .i64 (s.size:Int)) (.int .i64 (s.size:Int))).run Tryz.prog W=.ok (.slice (some ⟨W.heap.size,0,none⟩) s.size s.size) (W.alloc (.cells M 5)):=λW=>by
   have h:=run_make (P:=Tryz.prog) W 58 5 i0 (.int .u8 0) Tryz.underlying58 hi hz0 .i64 .i64 (s.size:Int) (s.size:Int) (by omega) (by omega) (by rw[hz2];omega) (by omega);rw[<-hM]at h;simpa using h
  clear hM;have hcp:=Lib.run_copy_row_string (P:=Tryz.prog) (w.alloc (.cells M 5)) 58 9 3 5 w.heap.size 0 s.size s.size s M 5 Tryz.underlying58 hinfo (bV w _) (aB _) (by omega);obtain⟨Y,hY⟩:∃Y,Y=(M.toList.take 0++Lib.byteCells s.data.toList++M.toList.drop (0+s.size)).toArray:=⟨_,rfl⟩;rw[<-hY]at hcp;have hYl:Y.toList=Lib.byteCells s.data.toList:=by
   rw[hY,List.toList_toArray,List.take_zero,List.nil_append,List.drop_of_length_le (by rw[Array.length_toList];omega),fw]
  have hYs:Y.size=s.size:=by rw[<-Array.length_toList,hYl,Lib.byteCells_length,<-Lib.size_eq]
  have hgY:((w.alloc (.cells M 5)).setRow w.heap.size Y).heap[w.heap.size]?=some (.cells Y 5 (0,0)):=setRow_heap _ _ M _ 5 (0,0) (bV w _);have hne:s.data.toList≠ []:=λe=>h0 (by rw[Lib.size_eq,e];rfl);have hUS:=Lib.run_unsafeString_row (P:=Tryz.prog) ((w.alloc (.cells M 5)).setRow w.heap.size Y) 274 3 9 5 Tryz.underlying274 hco w.heap.size Y.size (by unfold World.shape?;rw[hgY]) s.data.toList hne (by rw[<-Lib.size_eq];omega) (by rw[<-Lib.size_eq];omega)
   (λj x hx=>Lib.cells_of_row hgY Y.size j _ (by rw[kN (by rw[Array.length_toList];exact aB _),hYl];simp[Lib.byteCells,hx]))
  rw[<-Lib.size_eq]at hUS;clear hY;go_enter Tryz.func152,Tryz.ntmps152;go_wp2;go_ret;have hb1:Below w.heap.size w (w.alloc (.cells M 5)):=(aV _ w).alloc (aB _) _;have hb2:Below w.heap.size (w.alloc (.cells M 5)) ((w.alloc (.cells M 5)).setRow w.heap.size Y):=⟨rfl,rfl,rfl,by simp,λk hk=>setRow_other _ _ _ _ (by omega)⟩;exact⟨rfl,Lib.below_freeze (hb1.trans hb2) (p:=⟨w.heap.size,0,none⟩) (aB _) _⟩
theorem Pg(s:ByteArray)(w:World)(hlim:s.size<=1000000):
  Calls Tryz.prog 119 #[.string s] w λe w'=>e=.returned (.string s)∧Below w.heap.size w w':=by
 go_enter Tryz.func119,Tryz.ntmps119;go_wp2_with fail;refine(uU s w hlim).mono ?_;rintro e w' ⟨rfl,hb⟩;go_wp2;go_ret;exact⟨rfl,hb⟩
open Go.Maps
variable{Q:List Sr}{B N:Nat}{q:Sr}{s:St}{v:Value}{W W':World}
theorem Sc:(Tryz.prog.info? 9).map (λi=>(i.zero,i.size,i.bytes))=some (some (.string ⟨#[]⟩),1,16):=by kernel_rfl
theorem Pm(W:World)(r:ByteArray):∀(j:Nat) (u:Value),([.string r]:List Value)[j]?=some u->(W.alloc (.cells #[.string r] 9)).cell? ((⟨W.heap.size,0,none⟩:Addr).add j)=some u:=by
 intro j u hj;have h:=bV W (.cells #[.string r] 9);rw[Addr.add_lit,Nat.zero_add]
 match j,hj with
 |0,hj=>cases hj;exact aJ _ _ 0 _ _ _ h
def mJ(u:Int->Value)(d:Int)(v:Value):Int->Value:=λx=>if x=d then v else u x
theorem sJ.Lc{fn:Value}(h:sJ B q v fn W)(T:List ByteArray)(v':Value):sJ B {q with txt:=T} v' fn (W.setCell ⟨B,1,none⟩ v'):=by
 unfold sJ at h ⊢;simp[World.setCell,d_,h]
theorem qm.Lc(h:qm B q v W)(T:List ByteArray)(v':Value):qm B {q with txt:=T} v' (W.setCell ⟨B,1,none⟩ v'):=by
 obtain⟨fn,h1,h2⟩:=h;exact⟨fn,h1.Lc T v',h2⟩
theorem uW(hn:Q.Pairwise λa b=>a.dest≠b.dest){z q:Sr}(hz:z∈Q)(hq:q∈Q)(e:z.dest=q.dest):z=q:=by
 induction Q with
 |nil=>cases hz
 |cons a Q ih=>
  rw[List.pairwise_cons]at hn;rcases fE.1 hz with k1|k1
  ·rcases fE.1 hq with k2|k2
   ·rw[k1,k2]
   ·exact absurd (k1▸e) (hn.1 q k2)
  ·rcases fE.1 hq with k2|k2
   ·exact absurd (k2▸e).symm (hn.1 z k1)
   ·exact ih hn.2 k1 k2
theorem xL.VU{Ms:Nat}{h:Int->Option Nat}{u:Int->Value}(r:xL Ms h u Q W){q q':Sr}(hq:q∈Q)(hd:q'.dest=q.dest)(hok:q'.Ok){Bq:Nat}(hB:h q.dest=some Bq){v':Value}(hL:qm Bq q' v' W')(hrow:W'.ownsRow 0 9 1 v' q'.txt.length (q'.txt.map Value.string))(hblk:v'.ownBlock=(u q.dest).ownBlock∨∃b,v'.ownBlock=some b∧W.heap.size<=b)(hf:Fx (λk=>k=Bq∨(u q.dest).ownBlock=some k) W W'):xL Ms h (mJ u q.dest v') (St.dh Q q') W':=by
 obtain⟨B',hb1,hb2⟩:=r.ln q hq;rw[hB]at hb1;cases hb1;obtain⟨cB,hcB⟩:=hb2.obj;have hno:∀ {k:Nat} {o:Obj},W.heap[k]?=some o->(∀c,o≠ .cells c 177 (0,0))->(∀c,o≠ .cells c 9 (0,0))->W'.heap[k]?=W.heap[k]?:=λ{k o} ho h1 h2=>hf.block k (aG ho) (by
  rintro(rfl|hk)
  ·rw[hcB]at ho;exact h1 _ (Option.some.inj ho).symm
  ·obtain⟨c,hc⟩:=aS (r.row q hq) hk;rw[hc]at ho;exact h2 _ (Option.some.inj ho).symm)
 have sO:∀z∈St.dh Q q',(z=q'∨(z∈Q∧z.dest≠q.dest)):=λz hz=>by
  rcases fI hz with h|⟨h1,h2⟩
  ·exact .inl h
  ·exact .inr ⟨h1,hd▸h2⟩
 have hu1:mJ u q.dest v' q'.dest=v':=by unfold mJ;rw[aI hd]
 have hu2:∀z:Sr,z.dest≠q.dest->mJ u q.dest v' z.dest=u z.dest:=λz hz=>by unfold mJ;rw[ay hz]
 have hap:∀z∈Q,z.dest≠q.dest->v'.ownBlock=none∨v'.ownBlock≠(u z.dest).ownBlock:=λz hz hne=>by
  rcases hblk with h1|⟨b,h1,h2⟩
  ·rw[h1];exact r.apart q hq z hz (Ne.symm hne)
  ·rw[h1];refine .inr λe=> ?_;have:=((r.row z hz).lt b e.symm).2;omega
 refine⟨by rw[oo];obtain⟨es,cl,hm⟩:=r.map.obj;exact r.map.block (hno hm (λ_ e=>by cases e) (λ_ e=>by cases e)),by rw[y_,CP,<-y_];exact r.qM,λz hz=> ?_,λd B hd' hB'=> ?_,λz hz=> ?_,λz hz=> ?_,λa ha b hb hne=> ?_,by rw[oo];exact r.len⟩
 ·rcases sO z hz with rfl|⟨h1,_⟩
  ·exact hok
  ·exact r.ok z h1
 ·obtain⟨y,hy,rfl⟩:=r.dom d B hd' hB';by_cases e:y.dest=q'.dest
  ·exact⟨q',(mR hy).1 e,e.symm⟩
  ·exact⟨y,(mR hy).2 e,rfl⟩
 ·rcases sO z hz with rfl|⟨h1,h2⟩
  ·rw[hu1,hd];exact⟨Bq,hB,hL⟩
  ·obtain⟨B',k1,k2⟩:=r.ln z h1;rw[hu2 z h2];refine⟨B',k1,k2.block (hf.block _ k2.lt ?_)⟩;rintro(rfl|hk)
   ·obtain⟨fn1,m1,_⟩:=k2;obtain⟨fn2,m2,_⟩:=hb2;unfold sJ at m1 m2;rw[m1]at m2;simp only[Lb,Option.some.injEq,Obj.cells.injEq,Array.mk.injEq,List.cons.injEq,Value.int.injEq,true_and]at m2;exact h2 m2.1.1
   ·obtain⟨c,hc⟩:=aS (r.row q hq) hk;obtain⟨c',hc'⟩:=k2.obj;rw[hc]at hc';cases hc'
 ·rcases sO z hz with rfl|⟨h1,h2⟩
  ·rw[hu1];exact hrow
  ·rw[hu2 z h2];refine bQ (r.row z h1) λk hk=>hf.block k ((r.row z h1).lt k hk).2 ?_;rintro(rfl|hk')
   ·obtain⟨c,hc⟩:=aS (r.row z h1) hk;rw[hcB]at hc;cases hc
   ·rcases r.apart q hq z h1 (Ne.symm h2)with e|e
    ·rw[e]at hk';cases hk'
    ·exact e (hk'.trans hk.symm)
 ·rcases sO a ha with rfl|⟨a1,a2⟩<;>rcases sO b hb with rfl|⟨b1,b2⟩
  ·exact absurd rfl hne
  ·rw[hu1,hu2 b b2];exact hap b b1 b2
  ·rw[hu1,hu2 a a2];rcases hap a a1 a2 with e|e
   ·by_cases hn:(u a.dest).ownBlock=none
    ·exact .inl hn
    ·exact .inr (by rw[e];exact hn)
   ·exact .inr (Ne.symm e)
  ·rw[hu2 a a2,hu2 b b2];exact r.apart a a1 b b1 hne
theorem Nd.VU{g:bI}{TL:List Hp.Tm}(n:Nd N B g s TL W){q q':Sr}(hq:q∈s.Q)(hd:q'.dest=q.dest)(hok:q'.Ok){Bq:Nat}(hB:g.h q.dest=some Bq){v':Value}(hL:qm Bq q' v' W')(hrow:W'.ownsRow 0 9 1 v' q'.txt.length (q'.txt.map Value.string))(hblk:v'.ownBlock=(g.u q.dest).ownBlock∨∃b,v'.ownBlock=some b∧W.heap.size<=b)(hf:Fx (λk=>k=Bq∨(g.u q.dest).ownBlock=some k) W W'):
  Nd N B {g with u:=mJ g.u q.dest v'} {s with Q:=St.dh s.Q q'} TL W'∧Up B (Ft N g s) (Ft N {g with u:=mJ g.u q.dest v'} {s with Q:=St.dh s.Q q'}) W W':=by
 have hr:=n.nn.rs;obtain⟨e1,e2,e3,e4,e5,e6,e7,e8,e9⟩:=n.nn.eq;obtain⟨c,hc⟩:=(n.jU hq hB).obj;have hno:∀ {k:Nat} {o:Obj},W.heap[k]?=some o->(∀c,o≠ .cells c 177 (0,0))->(∀c,o≠ .cells c 9 (0,0))->W'.heap[k]?=W.heap[k]?:=λ{k o} ho h1 h2=>hf.block k (aG ho) (by
  rintro(rfl|hk)
  ·rw[hc]at ho;exact h1 _ (Option.some.inj ho).symm
  ·obtain⟨c,hc⟩:=aS (hr.sr.row q hq) hk;rw[hc]at ho;exact h2 _ (Option.some.inj ho).symm)
 have aaN:∀k,(k=Bq∨(g.u q.dest).ownBlock=some k)->kr g.x g.h g.u g.Mt g.tv s k:=λk h=> .inr (.inl (.inr ⟨q,hq,h.imp (λe=>by rw[e];exact hB) id⟩));refine n.rest (s':={s with Q:=St.dh s.Q q'}) (dX:=TL) (x':=g.x) (h':=g.h) (u':=mJ g.u q.dest v') (Fy:=g.Mt) (hp':=g.hp) (tv':=g.tv) (n.nn.cr.nd.block (hno n.nn.cr.nd (λ_ e=>by cases e) (λ_ e=>by cases e))) rfl rfl ⟨e1,e2,e3,e4,e5,e6,e7,e8,e9⟩
  ⟨hr.sn.block (by obtain⟨es,cl,hm⟩:=hr.sn.obj;exact hno hm (λ_ e=>by cases e) (λ_ e=>by cases e)),hr.sr.VU hq hd hok hB hL hrow hblk hf,hr.tm.at (hno hr.tm.blk (λ_ e=>by cases e) (λ_ e=>by cases e)) (by
   obtain⟨f,p1,_⟩:=hr.tm.map;obtain⟨es,cl,hm⟩:=p1.obj;exact hno hm (λ_ e=>by cases e) (λ_ e=>by cases e)) (λk hk=>by
   obtain⟨c,hc⟩:=aS hr.tm.row hk;exact hno hc (λ_ e=>by cases e) (λ_ e=>by cases e)),hr.hpo,hr.pm,bQ hr.pc λk hk=>by
   obtain⟨c,hc⟩:=aS hr.pc hk;exact hno hc (λ_ e=>by cases e) (λ_ e=>by cases e)⟩
  (hf.mono λk h=> .inr (aaN k h)) (λk hk=> ?_) ⟨rfl,rfl,rfl⟩ ⟨rfl,rfl,rfl,rfl,rfl,rfl,rfl,rfl,rfl⟩
 rcases hk with h|h|h
 ·exact .inl (.inl h)
 ·rcases h with h|⟨z,hz,h⟩
  ·exact .inl (.inr (.inl (.inl h)))
  ·rcases fI hz with rfl|⟨h1,h2⟩
   ·rcases h with h|h
    ·rw[hd]at h;exact .inl (.inr (.inl (.inr ⟨q,hq,.inl h⟩)))
    ·unfold mJ at h;rw[aI hd]at h;rcases hblk with h3|⟨b,h3,h4⟩
     ·exact .inl (.inr (.inl (.inr ⟨q,hq,.inr (h3▸h)⟩)))
     ·rw[h3]at h;cases h;exact .inr ⟨h4,(hrow.lt k h3).2⟩
   ·have h2':z.dest≠q.dest:=hd▸h2;rcases h with h|h
    ·exact .inl (.inr (.inl (.inr ⟨z,h1,.inl h⟩)))
    ·unfold mJ at h;rw[ay h2']at h;exact .inl (.inr (.inl (.inr ⟨z,h1,.inr h⟩)))
 ·exact .inl (.inr (.inr h))
def HoP(N B:Nat)(g:bI)(s s2:St)(TL:List Hp.Tm)(w w':World):Prop:=∃g',Nd N B g' s2 TL w'∧Up B (Ft N g s) (Ft N g' s2) w w'∧Hid (g'.x.T=g.x.T)∧Hid (g'.h=g.h)
theorem UA{g:bI}{TL:List Hp.Tm}{w:World}(n:Nd N B g s TL w)(hdl:s.aP.length<=900000)(q:Sr)(hq:q∈s.Q)(Bq:Nat)(hB:g.h q.dest=some Bq)(t:ByteArray)(ht:t.size<=16):
  Calls Tryz.prog 82 #[.pointer (some ⟨Bq,0,none⟩),.pointer (some ⟨B,0,none⟩),.string t] w λe w'=>e=.returned (.tuple #[])∧HoP N B g s {(s.hold q t).1 with Q:=St.dh s.Q (s.hold q t).2} TL w w':=by
 obtain⟨i0,hi,hz0,hz1,hz2⟩:=info_parts Sc;have hok:=n.nn.rs.sr.ok q hq;have hrow:=n.nn.rs.sr.row q hq;have hL:=n.jU hq hB;obtain⟨s9,qV⟩:∃z,({(s.hold q t).1 with Q:=St.dh s.Q (s.hold q t).2}:St)=z:=⟨_,rfl⟩;rw[qV];have Yi:∀W0:World,Hid (∀W5,Below W0.heap.size W0 W5->Calls Tryz.prog 119 #[.string t] W5 λe w'=>e=.returned (.string t)∧Below W0.heap.size W0 w'):=by
  intro W0 W5 h5;refine(Pg t W5 (by omega)).mono ?_;rintro e w' ⟨rfl,hb⟩;exact⟨rfl,h5.trans (hb.mono h5.size)⟩
 have Xz:∀(g1:bI) (s1:St) (q1:Sr) (W1:World),Nd N B g1 s1 TL W1->q1∈s1.Q->q1.dest=q.dest->g1.h q1.dest=some Bq->q1.txt.length<=3->(∀u,Up B u (Ft N g1 s1) w W1->u=Ft N g s->Hid (g1.x.T=g.x.T)->Hid (g1.h=g.h)-> {s1 with Q:=St.dh s1.Q {q1 with txt:=q1.txt++ [t]}}=s9->
   ∃ao c,∀W5,Below W1.heap.size W1 W5->∃v,v=.slice ao q1.txt.length c∧W5.cell? ⟨Bq,1,none⟩=some v∧(W5.alloc (.cells #[.string t] 9)).cell? ⟨Bq,1,none⟩=some v∧(W5.alloc (.cells #[.string t] 9)).ownsRow 0 9 1 v q1.txt.length (q1.txt.map Value.string)∧(∀j u,([.string t]:List Value)[j]?=some u->(W5.alloc (.cells #[.string t] 9)).cell? ((⟨W5.heap.size,0,none⟩:Addr).add j)=some u)∧
    ∀v7 w7,w7.ownsRow 0 9 1 v7 (q1.txt.length+1) (q1.txt.map Value.string++ [.string t])->(W5.alloc (.cells #[.string t] 9)).grownBy w7 v.ownBlock->(v7.ownBlock=v.ownBlock∨v7.ownBlock=some (W5.alloc (.cells #[.string t] 9)).heap.size)->(∃x,w7.cell? ⟨Bq,1,none⟩=some x)∧w7.frozen? ⟨Bq,1,none⟩=false∧HoP N B g s s9 TL w (w7.setCell ⟨Bq,1,none⟩ v7)):=by
  intro g1 s1 q1 W1 n1 hq1 hd1 hB1 hl1 u up hu t1 y1 e9;obtain⟨ao,c,hv,_⟩:=ax (n1.nn.rs.sr.row q1 hq1);refine⟨ao,c,λW5 h5=> ?_⟩;subst hu;have n5:=n1.later h5;have hL5:=n5.jU hq1 hB1;have nD:=n5.nn.rs.sr.row q1 hq1;have ok1:=n5.nn.rs.sr.ok q1 hq1;have jE:Below W5.heap.size W5 (W5.alloc (.cells #[.string t] 9)):=bC;have n6:=n5.later jE;have hL6:=n6.jU hq1 hB1;have uo:=n6.nn.rs.sr.row q1 hq1;refine⟨_,hv,hL5.cell.2.1,hL6.cell.2.1,uo,Pm W5 t,λv7 w7 ho hg hv=> ?_⟩;obtain⟨cB,hcB⟩:=hL6.obj;have hne:(g1.u q1.dest).ownBlock≠some Bq:=aL uo hcB (λc e=>by cases e);have hL7:qm Bq q1 (g1.u q1.dest) w7:=hL6.block (hg.block Bq hL6.lt (λe=>hne e.symm));have hL8:=hL7.Lc (q1.txt++ [t]) v7;have hgB:w7.grownBy (w7.setCell ⟨Bq,1,none⟩ v7) (some Bq):=ah (aC _ (some Bq)) 1 _;obtain⟨c7,hc7⟩:=hL7.obj;have FL:=ho.kept hgB (.inr (aL ho hc7 (λc e=>by cases e)));have hfx:Fx (λk=>k=Bq∨(g1.u q1.dest).ownBlock=some k) (W5.alloc (.cells #[.string t] 9)) (w7.setCell ⟨Bq,1,none⟩ v7):=aW (Fx.grown hg λk e=> .inr e) hgB (λi _ e=> .inl (Option.some.inj e).symm);obtain⟨p,uu⟩:=n6.VU (q':={q1 with txt:=q1.txt++ [t]}) hq1 rfl ⟨ok1.dest,ok1.ttl,ok1.ret,by dsimp only;rw[bU,List.length_singleton];omega,λz hz=>(fu.1 hz).elim (ok1.I_ z) (λh=>by rw[fM]at h;subst h;exact ht),ok1.id⟩ hB1 hL8 (by dsimp only;rw[bU,List.map_append];exact FL) (hv.imp id λh=>⟨_,h,aB _⟩) hfx;rw[e9]at p uu;exact⟨⟨_,hL7.cell.2.1⟩,hL7.frees 1,_,p,((up.trans (.below h5)).trans (.below jE)).trans uu,t1,y1⟩
 obtain⟨ao,c,hv,_⟩:=ax hrow;obtain⟨k0,k1,k2,k3,k4⟩:=hL.cell;by_cases h4:q.txt.length=4
 ·have e9:({s.drop 6 with Q:=St.dh s.Q {q with txt:=q.txt.tail++ [t]}}:St)=s9:=by
   rw[<-qV];unfold St.hold;rw[aI h4]
  obtain⟨gb,cap,hv',_⟩:=bZ hrow (by omega);rw[hv',h4]at hrow;have HD:=DS.uJ 0 gb 4 cap 0 _ w hrow (by omega) (by omega) (λu hu=>by
   obtain⟨z,_,rfl⟩:=dW.1 hu;rfl)
  have htl:(q.txt.map Value.string).take 0++(q.txt.map Value.string).drop (0+1)=q.txt.tail.map Value.string:=by
   rw[List.take_zero,List.nil_append,Nat.zero_add,List.drop_one,List.map_tail]
  rw[htl]at HD;have HD2:Hid (Calls Tryz.prog 118 #[.slice (some ⟨gb,0,none⟩) 4 cap,.int .i64 0,.int .i64 1] w λe w'=>e=.returned (.slice (some ⟨gb,0,none⟩) 3 cap)∧(∃x,w'.cell? ⟨Bq,1,none⟩=some x)∧w'.frozen? ⟨Bq,1,none⟩=false∧∃g1,Nd N B g1 {s with Q:=St.dh s.Q {q with txt:=q.txt.tail}} TL (w'.setCell ⟨Bq,1,none⟩ (.slice (some ⟨gb,0,none⟩) 3 cap))∧Up B (Ft N g s) (Ft N g1 {s with Q:=St.dh s.Q {q with txt:=q.txt.tail}}) w (w'.setCell ⟨Bq,1,none⟩ (.slice (some ⟨gb,0,none⟩) 3 cap))∧Hid (g1.x.T=g.x.T)∧Hid (g1.h=g.h)):=by
   refine aU HD ?_;rintro e w' ⟨rfl,h1,h2⟩;obtain⟨cB,hcB⟩:=hL.obj;have hne:gb≠Bq:=by
    have:=aL hrow hcB (λc e=>by cases e);simpa[Value.ownBlock]using this
   have hL1:qm Bq q (g.u q.dest) w':=hL.block (h2.block Bq hL.lt (λe=>hne (Option.some.inj e).symm));have hL2:=hL1.Lc q.txt.tail (.slice (some ⟨gb,0,none⟩) 3 cap);have hgB:w'.grownBy (w'.setCell ⟨Bq,1,none⟩ (.slice (some ⟨gb,0,none⟩) 3 cap)) (some Bq):=ah (aC _ (some Bq)) 1 _;obtain⟨c7,hc7⟩:=hL1.obj;have FL:=h1.kept hgB (.inr (aL h1 hc7 (λc e=>by cases e)));have hfx:Fx (λk=>k=Bq∨(g.u q.dest).ownBlock=some k) w (w'.setCell ⟨Bq,1,none⟩ (.slice (some ⟨gb,0,none⟩) 3 cap)):=aW (Fx.grown h2 λk e=> .inr (by rw[hv',<-e];rfl)) hgB (λi _ e=> .inl (Option.some.inj e).symm);have hl3:q.txt.tail.length=3:=by rw[List.length_tail];omega
   obtain⟨p,uu⟩:=n.VU (q':={q with txt:=q.txt.tail}) hq rfl ⟨hok.dest,hok.ttl,hok.ret,by dsimp only;omega,λz hz=>hok.I_ z (List.mem_of_mem_tail hz),hok.id⟩ hB hL2 (by dsimp only;rw[hl3];exact FL) (.inl (by rw[hv'];rfl)) hfx;exact⟨rfl,⟨_,hL1.cell.2.1⟩,hL1.frees 1,_,p,uu,rfl,rfl⟩
  rw[hv',h4]at k1;clear hL n HD hrow;go_enter Tryz.func82,Tryz.ntmps82;go_wp2_with fail;refine aU HD2.out ?_;rintro e w1 ⟨rfl,⟨x1,j1⟩,j2,g1,n1,u1,t1,y1⟩;clear HD2 k0 k1 k2 k3 k4;have HX:=hide (Fw n1 6 (by dsimp only;omega));obtain⟨s1,hs1⟩:∃z,({s with Q:=St.dh s.Q {q with txt:=q.txt.tail}}:St).drop 6=z:=⟨_,rfl⟩;have Sy:Hid (s1.Q=St.dh s.Q {q with txt:=q.txt.tail}∧ {s1 with Q:=St.dh s1.Q {q with txt:=q.txt.tail++ [t]}}=s9):=by
   show _∧_;rw[<-hs1,<-e9];refine⟨rfl,?_⟩;show({s.drop 6 with Q:=St.dh (St.dh s.Q {q with txt:=q.txt.tail}) {q with txt:=q.txt.tail++ [t]}}:St)=_;rw[tO s.Q (a:={q with txt:=q.txt.tail}) (b:={q with txt:=q.txt.tail++ [t]}) rfl]
  rw[hs1]at HX;go_upto_region 2 with(fail);generalize World.setCell _ _ _=W2 at HX u1;clear n1 hs1;go_wp2_with fail;refine aU HX.out ?_;rintro e w3 ⟨rfl,g3,n3,u3,t3,y3⟩;have hq3:({q with txt:=q.txt.tail}:Sr)∈s1.Q:=by rw[Sy.out.1];exact(mR hq).1 rfl
  have hB3:g3.h ({q with txt:=q.txt.tail}:Sr).dest=some Bq:=by rw[y3.out.1,y1.out];exact hB
  have HK:=hide (Xz g3 s1 {q with txt:=q.txt.tail} w3 n3 hq3 rfl hB3 (by dsimp only;rw[List.length_tail];omega) _ (u1.trans u3) rfl (t3.out.trans t1.out) (y3.out.1.trans y1.out) Sy.out.2);have HCl:=Yi w3;have hlt:Hid (({q with txt:=q.txt.tail}:Sr).txt.length<=3):=by show _<=_;dsimp only;rw[List.length_tail];omega
  generalize ({q with txt:=q.txt.tail}:Sr)=q3 at HK hlt;clear Xz Yi HX n3 u3 u1 hq3 hB3 Sy e9 qV t3 y3 t1 y1 hok hv hv' j1 j2;go_wp2_with fail;obtain⟨aq,cq,HK⟩:=HK.out;replace HK:=hide HK;obtain⟨_,rfl,kk,_,_⟩:=HK.out _ (aV _ _).drew;obtain⟨_,rfl,kw,_,_⟩:=HK.out _ (aV _ _);go_region_law (first
   |(go_simp;go_at_call 119;refine(HCl.out _ (by first|exact aV _ _|exact(aV _ _).drew|exact below_drewN (aV _ _) _)).mono ?_;rintro e w5 ⟨rfl,hb5⟩;obtain⟨v5,rfl,m1,m2,m3,m4,m5⟩:=HK.out _ hb5)
   |(refine gW rfl (.tmp 26) (.tmp 29) 80 rfl 0 9 i0 (.string ⟨#[]⟩) 1 16 Tryz.underlying80 hi hz0 hz1 hz2 rfl (by decide) _ _ _ rfl m3 ⟨w5.heap.size,0,none⟩ 1 1 [.string t] rfl rfl m4 (by simp[Value.oneCell']) (by unfold maxLen;have:=hlt.out;omega) (by have:=hlt.out;omega) (dm _) ?_;intro v7 w7 ig gQ hv7;obtain⟨⟨x7,f1⟩,f2,hfin⟩:=m5 v7 w7 ig gQ hv7;obtain⟨Qc,Ua,rfl,_⟩:=ax ig;replace hfin:=hide hfin))
  all_goals (generalize World.setCell _ _ _=w8 at hfin ⊢;go_wp2;go_returns;exact⟨rfl,hfin.out⟩)
 ·have e9:({s with Q:=St.dh s.Q {q with txt:=q.txt++ [t]}}:St)=s9:=by
   rw[<-qV];unfold St.hold;rw[ay h4]
  have hlt':q.txt.length<=3:=by have:=hok.txt;omega
  have h4':((q.txt.length:Int)==4)=false:=by simp;omega
  have HK:=hide (Xz g s q w n hq rfl hB hlt' _ (Up.refl _ _ _) rfl rfl rfl e9);have HCl:=Yi w;have hlt:Hid (q.txt.length<=3):=hlt';rw[hv]at k1;go_enter Tryz.func82,Tryz.ntmps82;go_wp2_with fail;clear Xz Yi n qV e9 hrow hL hok k0 k1 k2 k3 k4 hv h4 h4' hlt' hB hq;obtain⟨aq,cq,HK⟩:=HK.out;replace HK:=hide HK;obtain⟨_,rfl,kk,_,_⟩:=HK.out _ (aV _ _).drew;obtain⟨_,rfl,kw,_,_⟩:=HK.out _ (aV _ _);go_region_law (first
   |(go_simp;go_at_call 119;refine(HCl.out _ (by first|exact aV _ _|exact(aV _ _).drew|exact below_drewN (aV _ _) _)).mono ?_;rintro e w5 ⟨rfl,hb5⟩;obtain⟨v5,rfl,m1,m2,m3,m4,m5⟩:=HK.out _ hb5)
   |(refine gW rfl (.tmp 26) (.tmp 29) 80 rfl 0 9 i0 (.string ⟨#[]⟩) 1 16 Tryz.underlying80 hi hz0 hz1 hz2 rfl (by decide) _ _ _ rfl m3 ⟨w5.heap.size,0,none⟩ 1 1 [.string t] rfl rfl m4 (by simp[Value.oneCell']) (by unfold maxLen;have:=hlt.out;omega) (by have:=hlt.out;omega) (dm _) ?_;intro v7 w7 ig gQ hv7;obtain⟨⟨x7,f1⟩,f2,hfin⟩:=m5 v7 w7 ig gQ hv7;obtain⟨Qc,Ua,rfl,_⟩:=ax ig;replace hfin:=hide hfin))
  all_goals (generalize World.setCell _ _ _=w8 at hfin ⊢;go_wp2;go_returns;exact⟨rfl,hfin.out⟩)
variable{d:Int}{Q:List Sr}{B N:Nat}{s:St}{W W':World}
theorem xL.add{Ms:Nat}{h:Int->Option Nat}{u:Int->Value}(r:xL Ms h u Q W){q:Sr}(hq:h q.dest=none)(hok:q.Ok)(ht:q.txt=[])(hl:Q.length<=4999){Bq:Nat}(hL:qm Bq q (.slice none 0 0) W')(hm:fG W' Ms (eY h q.dest (some Bq)) (Q.length+1))(he:∀k,II Ms h u Q k->k≠Ms->W'.heap[k]?=W.heap[k]?):xL Ms (eY h q.dest (some Bq)) (mJ u q.dest (.slice none 0 0)) (Q++ [q]) W':=by
 have hno:∀z∈Q,z.dest≠q.dest:=λz hz e=>by
  obtain⟨B,h1,_⟩:=r.ln z hz;rw[e,hq]at h1;cases h1
 have hu1:mJ u q.dest (.slice none 0 0) q.dest=.slice none 0 0:=by unfold mJ;rw[aI rfl]
 have hu2:∀z∈Q,mJ u q.dest (.slice none 0 0) z.dest=u z.dest:=λz hz=>by unfold mJ;rw[ay (hno z hz)]
 have hh2:∀z∈Q,eY h q.dest (some Bq) z.dest=h z.dest:=λz hz=>by unfold eY;rw[ay (hno z hz)]
 obtain⟨es,cl,hmo⟩:=r.map.obj;have hl':(Q++ [q]).length=Q.length+1:=by simp
 refine⟨by rw[hl'];exact hm,List.pairwise_append.2 ⟨r.qM,List.pairwise_singleton _ _,λa ha b hb=>by rw[fM]at hb;rw[hb];exact hno a ha⟩,λz hz=> ?_,λd B hd hB=> ?_,λz hz=> ?_,λz hz=> ?_,λa ha b hb hne=> ?_,by omega⟩
 ·rcases fu.1 hz with h1|h1
  ·exact r.ok z h1
  ·rw[fM]at h1;rw[h1];exact hok
 ·by_cases e:d=q.dest
  ·exact⟨q,List.mem_append_right _ (fM.2 rfl),e.symm⟩
  ·unfold eY at hB;rw[ay e]at hB;obtain⟨z,hz,h1⟩:=r.dom d B hd hB;exact⟨z,List.mem_append_left _ hz,h1⟩
 ·rcases fu.1 hz with h1|h1
  ·obtain⟨B,k1,k2⟩:=r.ln z h1;rw[hh2 z h1,hu2 z h1];refine⟨B,k1,k2.block (he B (.inr ⟨z,h1,.inl k1⟩) ?_)⟩;rintro rfl;obtain⟨c,hc⟩:=k2.obj;rw[hmo]at hc;cases hc
  ·rw[fM]at h1;subst h1;rw[hu1];exact⟨Bq,by unfold eY;rw[aI rfl],hL⟩
 ·rcases fu.1 hz with h1|h1
  ·rw[hu2 z h1];refine bQ (r.row z h1) λk hk=>he k (.inr ⟨z,h1,.inr hk⟩) ?_;rintro rfl;obtain⟨c,hc⟩:=aS (r.row z h1) hk;rw[hmo]at hc;cases hc
  ·rw[fM]at h1;subst h1;rw[hu1,ht];exact⟨rfl,.inl ⟨rfl,rfl⟩⟩
 ·rcases fu.1 ha with a1|a1<;>rcases fu.1 hb with b1|b1
  ·rw[hu2 a a1,hu2 b b1];exact r.apart a a1 b b1 hne
  ·rw[fM]at b1;subst b1;rw[hu1,hu2 a a1];by_cases hn:(u a.dest).ownBlock=none
   ·exact .inl hn
   ·exact .inr hn
  ·rw[fM]at a1;subst a1;rw[hu1];exact .inl rfl
  ·rw[fM]at a1 b1;rw[a1,b1]at hne;exact absurd rfl hne
theorem Nd.aeZ{g:bI}{TL:List Hp.Tm}(n:Nd N B g s TL W)(q:Sr)(hq:g.h q.dest=none)(hok:q.Ok)(ht:q.txt=[])(hl:s.Q.length<=4999){Bq:Nat}(hL:qm Bq q (.slice none 0 0) W')(hBq:W.heap.size<=Bq)(hm:fG W' g.x.qy (eY g.h q.dest (some Bq)) (s.Q.length+1))(hf:Fx (λk=>k=g.x.qy) W W'):
  Nd N B {g with h:=eY g.h q.dest (some Bq),u:=mJ g.u q.dest (.slice none 0 0)} {s with Q:=s.Q++ [q]} TL W'∧Up B (Ft N g s) (Ft N {g with h:=eY g.h q.dest (some Bq),u:=mJ g.u q.dest (.slice none 0 0)} {s with Q:=s.Q++ [q]}) W W':=by
 have hr:=n.nn.rs;obtain⟨e1,e2,e3,e4,e5,e6,e7,e8,e9⟩:=n.nn.eq;have hnd:=n.nn.qM;simp only[List.nodup_cons,fE,List.not_mem_nil,or_false,not_or]at hnd;obtain⟨_,_,⟨d1,d2⟩,d3,_⟩:=hnd;have hk:∀ {k:Nat} {o:Obj},W.heap[k]?=some o->k≠g.x.qy->W'.heap[k]?=W.heap[k]?:=λho hn=>hf.block _ (aG ho) hn;have hno:∀ {k:Nat} {o:Obj},W.heap[k]?=some o->(∀es cl,o≠ .map es cl)->W'.heap[k]?=W.heap[k]?:=by
  intro k o ho hc;refine hk ho ?_;rintro rfl;obtain⟨es,cl,hm0⟩:=hr.sr.map.obj;rw[hm0]at ho;exact hc _ _ (Option.some.inj ho).symm
 have hz:∀z∈s.Q,z.dest≠q.dest:=λz hz e=>by
  obtain⟨B,h1,_⟩:=hr.sr.ln z hz;rw[e,hq]at h1;cases h1
 refine n.rest (hno n.nn.cr.nd (λ_ _ e=>by cases e)|>λh=>n.nn.cr.nd.block h) rfl rfl ⟨e1,e2,e3,e4,e5,e6,e7,e8,e9⟩ (h':=eY g.h q.dest (some Bq)) (u':=mJ g.u q.dest (.slice none 0 0)) (Fy:=g.Mt) (hp':=g.hp) (tv':=g.tv)
  ⟨hr.sn.block ?_,hr.sr.add hq hok ht hl hL hm λk hk1 hk2=>hf.block k (hr.sr.lt hk1) hk2,hr.tm.at (hno hr.tm.blk λ_ _ e=>by cases e) ?_ (λk hk1=> ?_),hr.hpo,hr.pm,bQ hr.pc λk hk1=> ?_⟩
  (hf.mono λk e=> .inr (.inr (.inl (.inl e)))) (λk hk1=> ?_) ⟨rfl,rfl,rfl⟩ ⟨rfl,rfl,rfl,rfl,rfl,rfl,rfl,rfl,rfl⟩
 ·obtain⟨es,cl,hm0⟩:=hr.sn.obj;exact hk hm0 d1
 ·obtain⟨f,p1,_⟩:=hr.tm.map;exact hf.block _ p1.lt (Ne.symm d3)
 ·obtain⟨c,hc⟩:=aS hr.tm.row hk1;exact hno hc λ_ _ e=>by cases e
 ·obtain⟨c,hc⟩:=aS hr.pc hk1;exact hno hc λ_ _ e=>by cases e
 ·rcases hk1 with h|h|h
  ·exact .inl (.inl h)
  ·rcases h with h|⟨z,hz1,h⟩
   ·exact .inl (.inr (.inl (.inl h)))
   ·rcases fu.1 hz1 with h1|h1
    ·refine .inl (.inr (.inl (.inr ⟨z,h1,h.imp (λh=> ?_) (λh=> ?_)⟩)))
     ·simpa[eY,hz z h1]using h
     ·simpa[mJ,hz z h1]using h
    ·rw[fM]at h1;subst h1;rcases h with h|h
     ·unfold eY at h;rw[aI rfl]at h;cases h;exact .inr ⟨hBq,hL.lt⟩
     ·unfold mJ at h;rw[aI rfl]at h;cases h
  ·exact .inl (.inr (.inr h))
def AwP(N B:Nat)(g:bI)(s s2:St)(TL:List Hp.Tm)(w w':World):Prop:=∃dX,lT N B g s s2 dX w w'∧(dV s TL->dV s2 dX)
theorem F5{q0 q1:Sr}(hd:q1.dest=q0.dest)(hz:∀z∈Q,z.dest≠q0.dest):St.dh (Q++ [q0]) q1=Q++ [q1]:=by
 unfold St.dh;rw[List.map_append,List.map_cons,List.map_nil,aI hd.symm]
 congr 1
 exact(List.map_congr_left λz h=>ay (by rw[hd];exact hz z h)).trans (List.map_id _)
theorem VX(hn:Q.Pairwise λa b=>a.dest≠b.dest){q q':Sr}(hq:q∈Q)(ht:kR q'=kR q):(St.dh Q q').map kR=Q.map kR:=by
 have hd:q'.dest=q.dest:=congrArg (·.2.2) ht;unfold St.dh;rw[List.map_map];refine List.map_congr_left λz hz=> ?_;show kR (if z.dest=q'.dest then q' else z)=kR z;split
 ·rename_i e;rw[ht,uW hn hz hq (by rw[e,hd])]
 ·rfl
theorem Xa(s:St)(q:Sr)(t:ByteArray):kR (s.hold q t).2=kR q:=by
 unfold St.hold;split<;>rfl
theorem Ww(hd:a_ d):(⟨d,[],1,0,0,0,false⟩:Sr).Ok:=
 ⟨hd,by dsimp only;omega,dm _,dm _,λ_ h=>(by cases h),by dsimp only;omega⟩
theorem Kl(hso:St.jU s.Q d=none){t:ByteArray}(hz:∀z∈s.Q,z.dest≠d):({({s with Q:=s.Q++ [⟨d,[],1,0,0,0,false⟩]}:St).hold ⟨d,[],1,0,0,0,false⟩ t|>.1 with Q:=St.dh (s.Q++ [⟨d,[],1,0,0,0,false⟩]) (({s with Q:=s.Q++ [⟨d,[],1,0,0,0,false⟩]}:St).hold ⟨d,[],1,0,0,0,false⟩ t).2}:St)={s with Q:=s.Q++ [St.jh d t]}∧s.await d t=({s with Q:=s.Q++ [St.jh d t]}:St).ask (St.jh d t):=by
 constructor
 ·show({s with Q:=St.dh (s.Q++ [⟨d,[],1,0,0,0,false⟩]) (St.jh d t)}:St)=_;rw[F5 (q0:=⟨d,[],1,0,0,0,false⟩) (q1:=St.jh d t) rfl hz]
 ·unfold St.await;rw[hso]
theorem aa7{t:ByteArray}{TL:List Hp.Tm}(hz:∀z∈s.Q,z.dest≠d)(h:dV s TL):dV (({s with Q:=s.Q++ [St.jh d t]}:St).ask (St.jh d t)) (TL++ [(({s with Q:=s.Q++ [St.jh d t]}:St).lg (St.jh d t),s.tl+1,d)]):=by
 obtain⟨o,h1,_⟩:=MV ({s with Q:=s.Q++ [St.jh d t]}:St) (St.jh d t);unfold dV at h ⊢;rw[h1];dsimp only;rw[F5 (by rfl) (by exact hz),List.map_append];exact h.append_right _
theorem Yg{g:bI}{TL:List Hp.Tm}{w:World}(n:Nd N B g s TL w)(hR:s.Rdy)(hdl:s.aP.length<=800000)(d:Int)(hd:a_ d)(t:ByteArray)(ht:t.size<=16)(hl:TL.length<=900000)(hQ:s.Q.length<=4999)(htl:0<=s.tl∧s.tl<=4000000000000000000)(hid:∀x∈TL,x.2.1<=s.tl):
  Calls Tryz.prog 54 #[.pointer (some ⟨N,0,none⟩),.pointer (some ⟨B,0,none⟩),.int .u32 d,.string t] w λe w'=>e=.returned (.tuple #[])∧AwP N B g s (s.await d t) TL w w':=by
 have hlk:=n.nn.rs.sr.map.GZ hd;have c13:=n.nn.cr.nd.more.2.2.1;obtain⟨so,hso⟩:∃o,St.jU s.Q d=o:=⟨_,rfl⟩;cases so with
 |some q=>
  obtain⟨h1,h2,Bq,h3,_⟩:=n.nn.rs.sr.at hso;have hB:g.h q.dest=some Bq:=by rw[h2];exact h3
  rw[h3]at hlk;have HH:=hide (UA n (by omega) q h1 Bq hB t ht);have hfin:Hid (∀w',HoP N B g s {(s.hold q t).1 with Q:=St.dh s.Q (s.hold q t).2} TL w w'->AwP N B g s (s.await d t) TL w w'):=λw' hp=>by
   obtain⟨g',p1,p2,p3,_⟩:=hp;have e:s.await d t={(s.hold q t).1 with Q:=St.dh s.Q (s.hold q t).2}:=by
    unfold St.await;rw[hso]
   rw[e];refine⟨TL,⟨g',p1,p2,p3⟩,λhT=> ?_⟩;unfold dV at hT ⊢;dsimp only;rw[VX n.nn.rs.sr.qM h1 (Xa s q t)];exact hT
  clear hso;go_enter Tryz.func54,Tryz.ntmps54;go_upto_region 4 with(fail);clear hlk c13;go_wp2_with fail;refine aU HH.out ?_;rintro e w2 ⟨rfl,hp⟩;have Mj:=hide (hfin.out w2 hp);clear hfin hp HH;go_wp2;go_returns;exact⟨rfl,Mj.out⟩
 |none=>
  have h3:=n.nn.rs.sr.off hd hso;rw[h3]at hlk;have hz:∀z∈s.Q,z.dest≠d:=λz hz e=>by
   have:=List.find?_eq_none.1 hso z hz;simp at this;exact this e
  obtain⟨e1,e2⟩:=Kl (t:=t) hso hz;have hW1:=(aV w.heap.size w).alloc (aB _) (.cells #[.int .u32 d,.slice none 0 0,.int .i64 1,.int .i64 0,.int .i64 0,.nilFunc] 177);have hL1:qm w.heap.size ⟨d,[],1,0,0,0,false⟩ (.slice none 0 0) (w.alloc (.cells #[.int .u32 d,.slice none 0 0,.int .i64 1,.int .i64 0,.int .i64 0,.nilFunc] 177)):=⟨.nilFunc,bV _ _,λh=>absurd rfl h⟩;obtain⟨W2,hp,hm2,hg2⟩:=(n.nn.rs.sr.map.block (hW1.block _ n.nn.rs.sr.map.lt)).puts (by have:=n.nn.rs.sr.len;unfold maxLen;omega) hd w.heap.size;have n1:=n.later hW1;have aeX:=n1.nn.cr.nd.more.2.2.1;have hw1:w.heap.size<(w.alloc (.cells #[.int .u32 d,.slice none 0 0,.int .i64 1,.int .i64 0,.int .i64 0,.nilFunc] 177)).heap.size:=by simp
  have hne:g.x.qy≠w.heap.size:=by have:=n.nn.rs.sr.map.lt;omega
  have hf2:Fx (λk=>k=g.x.qy) w W2:=aW (Fx.below hW1) hg2 (λi _ e=>(Option.some.inj e).symm);rw[h3]at hm2;obtain⟨n2,u2⟩:=n.aeZ ⟨d,[],1,0,0,0,false⟩ h3 (Ww hd) rfl hQ (hL1.block (hg2.block w.heap.size hw1 (λe=>hne (Option.some.inj e).symm))) (aB _) hm2 hf2;have HH:=UA n2 (by dsimp only;omega) ⟨d,[],1,0,0,0,false⟩ (List.mem_append_right _ (fM.2 rfl)) w.heap.size (by dsimp only;unfold eY;rw[aI rfl]) t ht;rw[e1]at HH;have ht2:Hid (({g with h:=eY g.h d (some w.heap.size),u:=mJ g.u d (.slice none 0 0)}:bI).x.T=g.x.T):=rfl;have hh2:Hid (({g with h:=eY g.h d (some w.heap.size),u:=mJ g.u d (.slice none 0 0)}:bI).h d=some w.heap.size):=by show _=_;dsimp only;unfold eY;rw[aI rfl]
  dsimp only at HH u2;generalize ({g with h:=eY g.h d (some w.heap.size),u:=mJ g.u d (.slice none 0 0)}:bI)=g2 at HH u2 ht2 hh2;have P8:Hid (dV s TL->dV (s.await d t) (TL++ [(({s with Q:=s.Q++ [St.jh d t]}:St).lg (St.jh d t),s.tl+1,d)])):=by
   rw[e2];exact aa7 hz
  have hak:Hid (∀(g3:bI) (w3:World),Nd N B g3 {s with Q:=s.Q++ [St.jh d t]} TL w3->g3.h d=some w.heap.size->Calls Tryz.prog 83 #[.pointer (some ⟨w.heap.size,0,none⟩),.pointer (some ⟨N,0,none⟩),.pointer (some ⟨B,0,none⟩)] w3 λe w'=>e=.returned (.tuple #[])∧AkP N B g3 {s with Q:=s.Q++ [St.jh d t]} (s.await d t) TL (TL++ [(({s with Q:=s.Q++ [St.jh d t]}:St).lg (St.jh d t),s.tl+1,d)]) w3 w'):=λg3 w3 n3 h=>by
   rw[e2];exact UE n3 ⟨hR.me,hR.seq,hR.now,hR.mem,⟨hR.dom.mb,hR.dom.on,hR.dom.own⟩,hR.cnt,hR.bg,hR.aF,hR.tn,hR.BG,hR.z_,hR.Aa⟩ (by dsimp only;omega) (St.jh d t) (List.mem_append_right _ (fM.2 rfl)) w.heap.size h hl htl hid
  replace HH:=hide HH;clear n1 n2 e1 e2 hL1 hm2 hg2 hf2 hz hso hR h3 n;generalize s.await d t=s9 at P8 hak ⊢;generalize (({s with Q:=s.Q++ [St.jh d t]}:St).lg (St.jh d t),s.tl+1,d)=tm at P8 hak;generalize ({s with Q:=s.Q++ [St.jh d t]}:St)=s3 at HH hak;go_enter Tryz.func54,Tryz.ntmps54;go_upto_region 4 with(fail);clear hp aeX c13 hlk;go_wp2_with fail;refine aU HH.out ?_;rintro e w4 ⟨rfl,g4,n4,u4,t4,y4⟩;have HA:=hide (hak.out g4 w4 n4 (by rw[y4.out];exact hh2.out));have u24:=u2.trans u4;clear HH hak n4 u2 u4;go_wp2_with fail;refine aU HA.out ?_;rintro e w5 ⟨rfl,g5,n5,u5,t5,_⟩;have hfin:Hid (AwP N B g s s9 TL w w5):=⟨_,⟨g5,n5,u24.trans u5,t5.out.trans (t4.out.trans ht2.out)⟩,P8.out⟩;clear HA n5 u5 u24;go_wp2;go_returns;exact⟨rfl,hfin.out⟩
variable{k:Int}{j:Nat}{s s':St}
theorem St.Mid.rdy(h:s.Mid k j)(hj:j<=7000)(hk:0<=k∧k<=100000000000):s.Rdy:=
 ⟨h.me,h.seq,h.now,h.mem,h.dom,by have:=h.cnt;omega,by have:=h.bg;omega,by have:=h.aF;omega,by have:=h.tn;omega,h.BG,h.z_,h.Aa⟩
structure Kp(s s':St):Prop where
 me:s'.me=s.me
 now:s'.now=s.now
 lk:s'.lk=s.lk
theorem Kp.refl(s:St):Kp s s:=⟨rfl,rfl,rfl⟩
theorem Kp.trans{a b c:St}(p:Kp a b)(q:Kp b c):Kp a c:=⟨q.me.trans p.me,q.now.trans p.now,q.lk.trans p.lk⟩
theorem Eff.kp(e:Eff j s s'):Kp s s':=⟨e.me,e.now,e.lk⟩
theorem DV{Q:List Sr}{q:Sr}{t:Int}(h:∀z∈Q,z.id<=t)(hq:q.id<=t+1):∀z∈St.dh Q q,z.id<=t+1:=λz hz=>by
 rcases fI hz with rfl|⟨h1,_⟩
 ·exact hq
 ·have:=h z h1;omega
theorem vF(h:s.Mid k j)(hA:∀y∈s.A,y.Ok)(hl:s.A.length<=8)(q:Sr):(s.ask q).Mid k (j+1)∧Kp s (s.ask q):=by
 rw[A9];have htl:=h.tl;cases s.holds with
 |some r=>
  refine⟨⟨h.me,h.seq,h.now,h.mem,⟨h.dom.mb,h.dom.on,h.dom.own⟩,by have:=h.cnt;show _∧s.cnt<=_;exact⟨this.1,by omega⟩,by have:=h.bg;show s.bg.length<=_;omega,h.bd,by have:=h.aF;show s.aF.length<=_;omega,?_,by have:=h.aO;show s.aO.length<=_;omega,by have:=h.tn;show s.tn<=_;omega,by show 0<=s.tl+1∧s.tl+1<=_;omega,h.BG,h.z_,h.Aa,DV h.D6 (gP _)⟩,rfl,rfl,rfl⟩;have:=h.aP;show(s.aP++ [r]).length<=_;rw[bU,List.length_singleton];omega
 |none=>
  have hw:({s with seq:=gr s.seq,b_:=(s.b_+1)%4294967296}:St).write.Mid k (j+1):=
   wW (s:={s with seq:=gr s.seq,b_:=(s.b_+1)%4294967296}) ⟨h.me,uz h.seq,h.now,h.mem,⟨h.dom.mb,h.dom.on,h.dom.own⟩,h.cnt,h.bg,h.bd,h.aF,h.aP,h.aO,h.tn,h.tl,h.BG,h.z_,h.Aa,h.D6⟩ hA hl
  refine⟨⟨h.me,hw.seq,h.now,λe he=>xU h.mem he,⟨hw.dom.mb,hw.dom.on,hw.dom.own⟩,hw.cnt,hw.bg,hw.bd,?_,hw.aP,hw.aO,by have:=h.tn;show s.tn+1<=_;omega,by show 0<=s.tl+1∧s.tl+1<=_;omega,NU h.BG _,(pq h.z_ h.Aa).1,(pq h.z_ h.Aa).2,DV h.D6 (gP _)⟩,rfl,rfl,rfl⟩;have:=h.aF;show(s.aF++ [_]).length<=_;rw[bU,List.length_singleton];omega
theorem RF(h:s.Mid k j):s.Mid k (j+1):=
 ⟨h.me,h.seq,h.now,h.mem,h.dom,by have:=h.cnt;omega,by have:=h.bg;omega,h.bd,by have:=h.aF;omega,by have:=h.aP;omega,by have:=h.aO;omega,by have:=h.tn;omega,by have:=h.tl;omega,h.BG,h.z_,h.Aa,h.D6⟩
theorem LW{i:Nat}(h:s.Mid k j)(e:Eff i s s')(hi:i<=10)(htn:s'.tn=s.tn):s'.Mid k (j+1)∧Kp s s':=by
 have h':=vE h e;refine⟨⟨h'.me,h'.seq,h'.now,h'.mem,h'.dom,?_,?_,h'.bd,?_,?_,?_,?_,?_,h'.BG,h'.z_,h'.Aa,h'.D6⟩,e.kp⟩
 ·rw[e.cnt];have:=h.cnt;omega
 ·rw[e.bg];have:=h.bg;omega
 ·have:=e.aF;have:=h.aF;omega
 ·have:=e.aP;have:=h.aP;omega
 ·have:=e.aO;have:=h.aO;omega
 ·rw[htn];have:=h.tn;omega
 ·rw[e.tl];have:=h.tl;omega
theorem xS(s:St)(d:Int)(t:ByteArray):(s.aZ d t).tn=s.tn:=by
 unfold St.aZ;split<;>rfl
theorem Ql(d:Int)(l:List ByteArray)(s:St):(l.foldl (λs t=>s.aZ d t) s).tn=s.tn:=by
 induction l generalizing s with
 |nil=>rfl
 |cons a l ih=>rw[gZ,ih,xS]
theorem Jv(s:St)(d:Int):(s.sendAll d).tn=s.tn:=by
 unfold St.sendAll;split
 ·rfl
 ·split
  ·exact Ql d _ s
  ·rfl
theorem Eo(h:s.Mid k j)(d:Int)(t:ByteArray):(s.aZ d t).Mid k (j+1)∧Kp s (s.aZ d t):=LW h (vT s d t) (by omega) (xS s d t)
theorem GN(h:s.Mid k j)(hQ:∀q∈s.Q,q.txt.length<=4)(d:Int):(s.sendAll d).Mid k (j+1)∧Kp s (s.sendAll d):=LW h (nS s d hQ) (by omega) (Jv s d)
theorem Om(h:s.Mid k j)(hA:∀y∈s.A,y.Ok)(hl:s.A.length<=8)(d:Int)(t:ByteArray):(s.await d t).Mid k (j+1)∧Kp s (s.await d t):=by
 unfold St.await;cases hs:St.jU s.Q d with
 |none=>
  dsimp only;obtain⟨h1,h2⟩:=vF (s:={s with Q:=s.Q++ [St.jh d t]}) (k:=k) (j:=j) ⟨h.me,h.seq,h.now,h.mem,⟨h.dom.mb,h.dom.on,h.dom.own⟩,h.cnt,h.bg,h.bd,h.aF,h.aP,h.aO,h.tn,h.tl,h.BG,h.z_,h.Aa,λz hz=>by
   rcases fu.1 hz with h1|h1
   ·exact h.D6 z h1
   ·rw[fM]at h1;rw[h1];exact h.tl.1⟩ hA hl (St.jh d t)
  exact⟨h1,h2.me,h2.now,h2.lk⟩
 |some q=>
  dsimp only;obtain⟨hq,_⟩:=jw hs;have hid:∀(q':Sr),q'.id=q.id->∀z∈St.dh s.Q q',z.id<=s.tl:=λq' e z hz=>by
   rcases fI hz with rfl|⟨h1,_⟩
   ·rw[e];exact h.D6 q hq
   ·exact h.D6 z h1
  have hu:=RF h;unfold St.hold;split
  ·refine⟨⟨h.me,h.seq,h.now,h.mem,⟨h.dom.mb,h.dom.on,h.dom.own⟩,hu.cnt,hu.bg,h.bd,hu.aF,?_,hu.aO,hu.tn,hu.tl,h.BG,h.z_,h.Aa,hid _ rfl⟩,rfl,rfl,rfl⟩;have:=h.aP;show(s.aP++ [6]).length<=_;rw[bU,List.length_singleton];omega
  ·exact⟨⟨h.me,h.seq,h.now,h.mem,⟨h.dom.mb,h.dom.on,h.dom.own⟩,hu.cnt,hu.bg,h.bd,hu.aF,hu.aP,hu.aO,hu.tn,hu.tl,h.BG,h.z_,h.Aa,hid _ rfl⟩,rfl,rfl,rfl⟩
theorem Oj(h:s.Mid k j)(hA:∀y∈s.A,y.Ok)(hl:s.A.length<=8)(q:Sr)(hq:q.txt.length<=4):(s.widen q).Mid k (j+1)∧Kp s (s.widen q):=by
 unfold St.widen;split
 ·exact vF h hA hl _
 ·split
  ·exact vF h hA hl _
  ·split
   ·exact vF h hA hl _
   ·have hu:=RF h;refine⟨⟨h.me,h.seq,h.now,h.mem,⟨h.dom.mb,h.dom.on,h.dom.own⟩,hu.cnt,hu.bg,h.bd,hu.aF,?_,hu.aO,hu.tn,hu.tl,h.BG,h.z_,h.Aa,λz hz=>h.D6 z (List.mem_filter.1 hz).1⟩,rfl,rfl,rfl⟩;have:=h.aP;show(s.aP++List.replicate q.txt.length 5).length<=_;rw[bU,List.length_replicate];omega
theorem mid_step(h:s.Mid k j)(hA:∀y∈s.A,y.Ok)(hl:s.A.length<=8)(hQ:∀q∈s.Q,q.txt.length<=4)(q:Sr)(hq:q.txt.length<=4):(s.step q).Mid k (j+1)∧Kp s (s.step q):=by
 unfold St.step;split
 ·exact GN h hQ _
 ·split
  ·exact Oj h hA hl q hq
  ·exact vF h hA hl q
variable{D Q R:List Sr}{s:St}
structure xO(Kw TL:List Hp.Tm)(D:List Sr)(now:Int):Prop where
 pm:(D.map kR++TL).Perm Kw
 srt:(D.map kR).Pairwise Hp.Le
 due:∀a∈D,a.due<=now
 low:∀a∈D,∀y∈TL,Hp.Le (kR a) y
theorem xO.nil(TL:List Hp.Tm)(now:Int):xO TL TL [] now:=⟨.refl _,List.Pairwise.nil,λ_ h=>(by cases h),λ_ h=>(by cases h)⟩
theorem xO.snoc{Kw TL dX:List Hp.Tm}{now:Int}(h:xO Kw TL D now){q:Sr}(hx:q.due<=now)(hm:∀y∈TL,Hp.Le (kR q) y)(hp:(kR q::dX).Perm TL):xO Kw dX (D++ [q]) now:=by
 refine⟨?_,?_,λa ha=> ?_,λa ha y hy=> ?_⟩
 ·rw[List.map_append,List.map_cons,List.map_nil,List.append_assoc,List.singleton_append];exact(hp.append_left _).trans h.pm
 ·rw[List.map_append,List.map_cons,List.map_nil];refine List.pairwise_append.2 ⟨h.srt,List.pairwise_singleton _ _,λa ha b hb=> ?_⟩;rw[fM]at hb;subst hb;obtain⟨z,hz,rfl⟩:=dW.1 ha;exact h.low z hz _ (hp.mem_iff.1 jT)
 ·rcases fu.1 ha with h1|h1
  ·exact h.due a h1
  ·rw[fM]at h1;rw[h1];exact hx
 ·have hy':y∈TL:=hp.mem_iff.1 (lU _ hy);rcases fu.1 ha with h1|h1
  ·exact h.low a h1 y hy'
  ·rw[fM]at h1;rw[h1];exact hm y hy'
theorem Yo(hn:Q.Pairwise λa b=>a.id≠b.id){z q:Sr}(hz:z∈Q)(hq:q∈Q)(e:z.id=q.id):z=q:=by
 induction Q with
 |nil=>cases hz
 |cons a Q ih=>
  rw[List.pairwise_cons]at hn;rcases fE.1 hz with k1|k1
  ·rcases fE.1 hq with k2|k2
   ·rw[k1,k2]
   ·exact absurd (k1▸e) (hn.1 q k2)
  ·rcases fE.1 hq with k2|k2
   ·exact absurd (k2▸e).symm (hn.1 z k1)
   ·exact ih hn.2 k1 k2
theorem Yq{TL:List Hp.Tm}(hT:dV s TL)(h:TL.Pairwise λa b=>a.2.1≠b.2.1):s.Q.Pairwise λa b=>a.id≠b.id:=by
 have h1:=hT.pairwise h λh=>Ne.symm h;rw[List.pairwise_map]at h1;exact h1
theorem t_(hn:Q.Pairwise λa b=>a.dest≠b.dest):Q.Nodup:=hn.imp λh e=>h (by rw[e])
theorem xO.qM{Kw TL:List Hp.Tm}{now:Int}(h:xO Kw TL D now)(hi:Kw.Pairwise λa b=>a.2.1≠b.2.1):D.Pairwise λa b=>a.id≠b.id:=by
 have h1:=h.pm.symm.pairwise hi λh=>Ne.symm h;have h2:=(List.pairwise_append.1 h1).1;rw[List.pairwise_map]at h2;exact h2
theorem xO.eq{Kw TL:List Hp.Tm}{now:Int}(h:xO Kw TL D now)(hT:dV s Kw)(hD:∀a∈D,a∈s.Q)(hn:s.Q.Pairwise λa b=>a.dest≠b.dest)(hi:Kw.Pairwise λa b=>a.2.1≠b.2.1)(hend:∀y∈TL,now<y.1):D=St.jA s.Q now:=by
 have hq:=Yq hT hi;have hdn:D.Nodup:=(h.qM hi).imp λh e=>h (by rw[e]);have hpm:D.Perm (s.Q.filter λq=>decide (q.due<=now)):=by
  refine(List.perm_ext_iff_of_nodup hdn ((t_ hn).filter _)).2 λa=>⟨λha=> ?_,λha=> ?_⟩
  ·exact List.mem_filter.2 ⟨hD a ha,by simpa using h.due a ha⟩
  ·obtain⟨h1,h2⟩:=List.mem_filter.1 ha;have h2':a.due<=now:=by simpa using h2
   have h3:kR a∈D.map kR++TL:=h.pm.mem_iff.2 (hT.mem_iff.2 (dW.2 ⟨a,h1,rfl⟩));rcases fu.1 h3 with h4|h4
   ·obtain⟨b,hb,e⟩:=dW.1 h4;have:b=a:=uW hn (hD b hb) h1 (congrArg (·.2.2) e);rw[<-this];exact hb
   ·have:=hend _ h4;exact absurd h2' (by show ¬(kR a).1<=now;omega)
 unfold St.jA;refine List.Perm.eq_of_pairwise (le:=λa b=>St.N8 a b=true) (λa b ha hb h1 h2=> ?_) ?_ (List.pairwise_mergeSort ?_ ?_ _) (hpm.trans (List.mergeSort_perm _ _).symm)
 ·refine Yo hq (hD a ha) ?_ ?_
  ·exact(List.mem_filter.1 ((List.mergeSort_perm _ _).mem_iff.1 hb)).1
  ·simp only[St.N8,Bool.or_eq_true,jr,qi]at h1 h2;omega
 ·have:=h.srt;rw[List.pairwise_map]at this;refine this.imp λ{a b} hab=> ?_;rw[Hp.Le.iff]at hab;simp only[St.N8,Bool.or_eq_true,jr,qi];exact hab
 ·intro a b c h1 h2;simp only[St.N8,Bool.or_eq_true,jr,qi]at h1 h2 ⊢;omega
 ·intro a b;simp only[St.N8,Bool.or_eq_true,jr,qi];omega
def sF(R:List Sr)(z:Sr):Bool:=!(R.any λa=>decide (a.dest=z.dest))
structure Bj(R:List Sr)(s:St)(TL:List Hp.Tm):Prop where
 mem:∀a∈R,a∈s.Q
 qM:R.Pairwise λa b=>a.dest≠b.dest
 ids:s.Q.Pairwise λa b=>a.id≠b.id
 le:∀a∈s.Q,a.id<=s.tl
 pos:∀a∈s.Q,0<a.id
 pm:TL.Perm ((s.Q.filter (sF R)).map kR)
theorem Ri(z:Sr):sF [] z=true:=rfl
theorem Oa(q:Sr)(R:List Sr)(z:Sr):sF (q::R) z=(sF R z&&!decide (z.dest=q.dest)):=by
 unfold sF;rw[List.any_cons,Bool.not_or,Bool.and_comm]
 congr 2
 exact decide_eq_decide.2 ⟨Eq.symm,Eq.symm⟩
theorem Ad{z:Sr}:sF R z=true ↔ ∀a∈R,a.dest≠z.dest:=by
 unfold sF;simp
theorem Bj.done{TL:List Hp.Tm}(h:Bj [] s TL):dV s TL:=by
 have:=h.pm;rw[List.filter_eq_self.2 (λz _=>Ri z)]at this;exact this
theorem Bj.first{Kw TL:List Hp.Tm}{now:Int}(h:xO Kw TL D now)(hT:dV s Kw)(hD:∀a∈D,a∈s.Q)(hn:s.Q.Pairwise λa b=>a.dest≠b.dest)(hi:Kw.Pairwise λa b=>a.2.1≠b.2.1)(hl:∀a∈s.Q,a.id<=s.tl)(hp0:∀a∈s.Q,0<a.id):Bj D s TL:=by
 have hdn:D.Nodup:=(h.qM hi).imp λh e=>h (by rw[e]);have hdd:D.Pairwise λa b=>a.dest≠b.dest:=(h.qM hi).imp_of_mem λ{a b} ha hb hab e=>hab (by rw[uW hn (hD a ha) (hD b hb) e]);refine⟨hD,hdd,Yq hT hi,hl,hp0,?_⟩;have hp:(D++s.Q.filter (sF D)).Perm s.Q:=by
  refine(List.perm_ext_iff_of_nodup (List.nodup_append.2 ⟨hdn,(t_ hn).filter _,λa ha b hb e=> ?_⟩) (t_ hn)).2 λa=>⟨λha=> ?_,λha=> ?_⟩
  ·subst e;have:=Ad.1 (List.mem_filter.1 hb).2 a ha;exact this rfl
  ·rcases fu.1 ha with h1|h1
   ·exact hD a h1
   ·exact(List.mem_filter.1 h1).1
  ·by_cases hx:sF D a=true
   ·exact List.mem_append_right _ (List.mem_filter.2 ⟨ha,hx⟩)
   ·refine List.mem_append_left _ ?_;have:∃b∈D,b.dest=a.dest:=by
     refine Classical.byContradiction λhc=>hx (Ad.2 λb hb e=>hc ⟨b,hb,e⟩)
    obtain⟨b,hb,e⟩:=this;rw[<-uW hn (hD b hb) ha e];exact hb
 have h1:=(h.pm.trans hT).trans (hp.map kR).symm;rw[List.map_append]at h1;exact(List.perm_append_left_iff _).1 h1
theorem F4(hn:Q.Pairwise λa b=>a.dest≠b.dest){q q2:Sr}(hq:q∈Q)(hd:q2.dest=q.dest)(P:Sr->Bool)(hP:P q2=true):((St.dh Q q2).filter P).Perm ((Q.filter λz=>P z&&!decide (z.dest=q.dest))++ [q2]):=by
 induction Q with
 |nil=>cases hq
 |cons a Q ih=>
  rw[List.pairwise_cons]at hn;rcases fE.1 hq with rfl|h
  ·have h1:St.dh Q q2=Q:=(List.map_congr_left λz hz=>ay (by rw[hd];exact(hn.1 z hz).symm)).trans (List.map_id _);have h2:St.dh (q::Q) q2=q2::Q:=by
    show(if q.dest=q2.dest then q2 else q)::St.dh Q q2=_;rw[aI hd.symm,h1]
   have h3:(q::Q).filter (λz=>P z&&!decide (z.dest=q.dest))=Q.filter P:=by
    rw[List.filter_cons_of_neg (by simp)];refine List.filter_congr λz hz=> ?_;have:z.dest≠q.dest:=(hn.1 z hz).symm;simp[this]
   rw[h2,h3,List.filter_cons_of_pos hP];exact(List.perm_append_singleton _ _).symm
  ·have h2:a.dest≠q.dest:=hn.1 q h;have h1:St.dh (a::Q) q2=a::St.dh Q q2:=by
    show(if a.dest=q2.dest then q2 else a)::St.dh Q q2=_;rw[ay (by rw[hd];exact h2)]
   rw[h1];by_cases hp:P a=true
   ·rw[List.filter_cons_of_pos hp,List.filter_cons_of_pos (by simp[hp,h2])];exact(ih hn.2 h).cons a
   ·rw[List.filter_cons_of_neg hp,List.filter_cons_of_neg (by simp[hp])];exact ih hn.2 h
theorem Bj.step{q:Sr}{s2:St}{TL dX:List Hp.Tm}(h:Bj (q::R) s TL)(hn:s.Q.Pairwise λa b=>a.dest≠b.dest)(ht:TmR q s TL s2 dX):Bj R s2 dX:=by
 have hq:=h.mem q jT;have hnr:=List.pairwise_cons.1 h.qM;have hpm:TL.Perm ((s.Q.filter λz=>sF R z&&!decide (z.dest=q.dest)).map kR):=by
  have:=h.pm;rw[show sF (q::R)=λz=>sF R z&&!decide (z.dest=q.dest)from funext λz=>Oa q R z]at this;exact this
 rcases ht with⟨q2,h1,h2,h3,h4,h5⟩|⟨h3,h4,h5⟩
 ·refine⟨λa ha=> ?_,hnr.2,?_,?_,λz hz=> ?_,?_⟩
  ·rw[h4];exact(mR (h.mem a (lU _ ha))).2 (by rw[h1];exact(hnr.1 a ha).symm)
  ·rw[h4];unfold St.dh;rw[List.pairwise_map];refine(List.Pairwise.and hn h.ids).imp_of_mem λ{a b} ha hb hab=> ?_;have ha':=h.le a ha;have hb':=h.le b hb;by_cases e1:a.dest=q2.dest
   ·rw[aI e1,ay (λe2=>hab.1 (e1.trans e2.symm))];omega
   ·rw[ay e1];split
    ·omega
    ·exact hab.2
  ·rw[h4,h3];exact DV h.le (by omega)
  ·rw[h4]at hz;rcases fI hz with rfl|⟨k1,_⟩
   ·have:=h.pos q hq;have:=h.le q hq;omega
   ·exact h.pos z k1
  ·rw[h4,h5];have hP:sF R q2=true:=Ad.2 λa ha e=>hnr.1 a ha (by rw[e,h1]);refine List.Perm.trans ?_ ((F4 hn hq h1 (sF R) hP).map kR).symm;rw[List.map_append];exact hpm.append_right _
 ·have hTT:dX=TL:=by
   rcases h5 with⟨x,hx,hp⟩|⟨_,e⟩
   ·have hxT:x∈TL:=hp.mem_iff.1 jT;obtain⟨z,hz,rfl⟩:=dW.1 (hpm.mem_iff.1 hxT);obtain⟨z1,z2⟩:=List.mem_filter.1 hz;have:z=q:=Yo h.ids z1 hq hx;rw[this]at z2;simp at z2
   ·exact e
  refine⟨λa ha=> ?_,hnr.2,?_,?_,λz hz=> ?_,?_⟩
  ·rw[h4];exact List.mem_filter.2 ⟨h.mem a (lU _ ha),by simpa using(hnr.1 a ha).symm⟩
  ·rw[h4];exact h.ids.filter _
  ·rw[h4,h3];exact λz hz=>h.le z (List.mem_filter.1 hz).1
  ·rw[h4]at hz;exact h.pos z (List.mem_filter.1 hz).1
  ·rw[h4,hTT,List.filter_filter];exact hpm
end Go.Proofs.YtakaadcpaeiccabGreat
