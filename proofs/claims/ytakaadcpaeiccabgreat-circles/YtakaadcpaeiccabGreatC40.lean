import Derived.Test.YtakaadcpaeiccabGreatC39
import Derived.Lib.SliceRun
import Derived.Lib.UnsafeStr
import Derived.Laws.MakeOwn
import Derived.Lib.Strings
import Derived.Lib.BufferWrite
set_option maxHeartbeats 4000000
set_option maxRecDepth 100000
namespace Go.Proofs.YtakaadcpaeiccabGreat
open Go.RowKit Go.Maps
theorem Na(L:List Int)(k:Nat):L++List.replicate k(5:Int)++ [5]=L++List.replicate(k+1)5:=by
 rw [List.append_assoc,List.PH,]
theorem Nd.jD {N B:Nat} {g:bA} {s:St} {TL:List Hp.Tm} {W:World}(n:Nd N B g s TL W) {q:Sr}(hq:q∈s.Q) {Bq:Nat}(hB:g.h q.dest=some Bq):p_ Bq q(g.u q.dest)W:=by
 obtain⟨B',h1,h2⟩:=n.nn.rs.sr.ln q hq;rw [hB]at h1;cases h1;exact h2
theorem Us {N B:Nat} {g:bA} {s:St} {TL:List Hp.Tm} {w:World}(n:Nd N B g s TL w)(hdl:s.aN.length≤900000)(q:Sr)(hq:q∈s.Q)(Bq:Nat)(hB:g.h q.dest=some Bq)(hl:TL.length≤900000):
  Calls Tryz.prog 158 #[.pointer(some⟨Bq,0,none⟩),.pointer(some⟨N,0,none⟩),.pointer(some⟨B,0,none⟩)]w fun e w'=>e=.returned(.tuple #[])∧∃dO,EI N B g s(({s with aN:=s.aN++List.replicate q.txt.length 5}:St).XH q.dest)dO(fun z=>z=q.dest)w w'∧Ej q.id TL dO:=by
 have hok:=n.nn.rs.sr.ok q hq;have hrow:=n.nn.rs.sr.row q hq;obtain⟨ao,c,hv,_⟩:=ak hrow;obtain⟨k0,k1,k2,k3,k4⟩:=(n.jD hq hB).cell;rw [hv]at k1;have hln:=hok.txt;obtain⟨s2,hs2⟩:∃z,({s with aN:=s.aN++List.replicate q.txt.length 5}:St).XH q.dest=z:=⟨_,rfl⟩;rw [hs2];replace hs2:=hide hs2;have hb0:Hid(({s with aN:=s.aN++List.replicate 0 5}:St)=s):=by
  show _=_;simp
 have n0:=hide n;clear hrow hv n;go_enter Tryz.func158,Tryz.ntmps158
 go_wp2_with fail
 clear k0 k1 k2 k3 k4;go_loopw [11](fun i wr=>∃(k:Nat)(st:St)(g':bA),k≤q.txt.length∧i=.int .i64 k∧Hid(({s with aN:=s.aN++List.replicate k 5}:St)=st)∧Nd N B g' st TL wr∧Up B(Ft N g s)(Ft N g' st)w wr∧Hid(g'.x.T=g.x.T)∧Hid(g'.h=g.h∧g'.u=g.u))(fun i _=>q.txt.length - (intOf i).toNat)
 case atStart=>exact⟨0,s,g,Nat.zero_le _,rfl,hb0,n0.out,Up.refl _ _ _,rfl,rfl,rfl⟩
 case round=>
  obtain⟨k,st,g',hk,rfl,hst,nk,uk,tk,yk⟩:=hrel;by_cases hlt:k<q.txt.length
  ·have hki:(k:Int)<(q.txt.length:Int):=by omega
   have hd1:st.aN.length≤1000000:=by
    rw [←hst.out];show(s.aN++List.replicate k(5:Int)).length≤_;rw [List.length_append,List.length_replicate];omega
   have HX:=hide(Es nk 5 hd1);have aaa:Hid(({s with aN:=s.aN++List.replicate(k+1)5}:St)=st.drop 5):=by
    show _=_;rw [←hst.out];unfold St.drop;dsimp only;rw [Na]
   have zz:Hid(q.txt.length - (intOf(.int .i64((k:Int)+1))).toNat<q.txt.length - (intOf(.int .i64(k:Int))).toNat):=by
    show q.txt.length - ((k:Int)+1).toNat<q.txt.length - (k:Int).toNat;omega
   clear nk hst hd1;go_wp2_with fail
   refine Calls.mono HX.out ?_;rintro e w4⟨rfl,g4,n4,u4,t4,y4⟩;have hfin:Hid(Nd N B g4(st.drop 5)TL w4∧Up B(Ft N g s)(Ft N g4(st.drop 5))w w4∧Hid(g4.x.T=g.x.T)∧Hid(g4.h=g.h∧g4.u=g.u)):=⟨n4,uk.trans u4,t4.out.trans tk.out,y4.out.1.trans yk.out.1,y4.out.2.trans yk.out.2⟩;have hn1:k+1≤q.txt.length:=hlt;clear n4 u4 t4 y4 HX uk;go_wp2
   exact⟨⟨k+1,_,g4,hn1,by go_num,aaa,hfin.out⟩,zz.out⟩
  ·obtain rfl:k=q.txt.length:=by omega
   have hq':q∈st.Q:=by rw [←hst.out];exact hq
   have HE:=hide(xB nk q hq' Bq(by rw [yk.out.1];exact hB)(by omega));have hs3:Hid(({st with Q:=st.Q.filter fun z=>!decide(z.dest=q.dest)}:St)=s2):=by
    show _=_;rw [←hs2.out,←hst.out];rfl
   rw [hs3.out]at HE;clear nk hq';go_wp2_with fail
   refine Calls.mono HE.out ?_;rintro e w5⟨rfl,dO,⟨g5,n5,u5,t5,y5⟩,h6⟩;have hfin:Hid(∃dO,EI N B g s s2 dO(fun z=>z=q.dest)w w5∧Ej q.id TL dO):=⟨dO,⟨g5,n5,uk.trans u5,t5.out.trans tk.out,fun z hz=>(y5.out z hz).trans(by rw [yk.out.1])⟩,h6⟩;clear n5 u5 t5 y5 h6 HE uk;go_wp2
   go_returns
   exact⟨rfl,hfin.out⟩
def TmR(q:Sr)(s:St)(TL:List Hp.Tm)(s2:St)(dO:List Hp.Tm):Prop:=
 (∃q2:Sr,q2.dest=q.dest∧q2.id=s.tl+1∧s2.tl=s.tl+1∧s2.Q=St.di s.Q q2∧dO=TL++ [ko q2])∨(s2.tl=s.tl∧s2.Q=(s.Q.filter fun z=>!decide(z.dest=q.dest))∧Ej q.id TL dO)
theorem G6(s:St)(q:Sr):∃o,(s.ask q).Q=St.di s.Q {q with due:=s.kI q,id:=s.tl+1,out:=o}∧(s.ask q).tl=s.tl+1:=by
 rw [Aa];unfold St.kI;cases s.holds with
 |some r=>exact⟨false,rfl,rfl⟩
 |none=>exact⟨true,rfl,rfl⟩
theorem Mh(s:St)(q q':Sr)(TL:List Hp.Tm)(h:q'.dest=q.dest):TmR q s TL(s.ask q')(TL++ [(s.kI q',s.tl+1,q'.dest)]):=by
 obtain⟨o,h1,h2⟩:=G6 s q';exact .inl⟨{q' with due:=s.kI q',id:=s.tl+1,out:=o},h,rfl,h2,h1,rfl⟩
theorem X3(s:St)(q':Sr)(X:List Sr)(hX:X=St.di s.Q q'):({s with Q:=X}:St).ask q'=s.ask q'∧({s with Q:=X}:St).kI q'=s.kI q':=by
 refine⟨?_,rfl⟩;rw [Aa,Aa];have hh:({s with Q:=X}:St).holds=s.holds:=rfl;rw [hh,hX];cases s.holds with
 |some r=>
  dsimp only;unfold St.waits;have:=sO s.Q(a:=q')(b:={q' with due:=s.now+1000,id:=s.tl+1,out:=false})rfl;show({s.drop r with tl:=s.tl+1,Q:=St.di(St.di s.Q q') {q' with due:=s.now+1000,id:=s.tl+1,out:=false}}:St)={s.drop r with tl:=s.tl+1,Q:=St.di s.Q {q' with due:=s.now+1000,id:=s.tl+1,out:=false}};rw [this]
 |none=>
  dsimp only;unfold St.waits;have:=sO s.Q(a:=q')(b:={q' with due:=s.now+80 * (q'.aS+2)* 2 ^ q'.ret,id:=s.tl+1,out:=true})rfl;show({s.kM q'.dest q'.aS with tl:=s.tl+1,Q:=St.di(St.di s.Q q') {q' with due:=s.now+80 * (q'.aS+2)* 2 ^ q'.ret,id:=s.tl+1,out:=true}}:St)={s.kM q'.dest q'.aS with tl:=s.tl+1,Q:=St.di s.Q {q' with due:=s.now+80 * (q'.aS+2)* 2 ^ q'.ret,id:=s.tl+1,out:=true}};rw [this]
theorem rH.oL {B:Nat} {q:Sr} {v fn:Value} {W:World}(h:rH B q v fn W)(i:Int):rH B {q with aS:=i}v fn(W.setCell⟨B,2,none⟩(.int .i64 i)):=by
 unfold rH at h ⊢;simp [World.setCell,Array.getElem?_modify,h]
theorem rH.Iz {B:Nat} {q:Sr} {v fn:Value} {W:World}(h:rH B q v fn W)(i:Nat):rH B {q with ret:=i}v fn(W.setCell⟨B,3,none⟩(.int .i64 i)):=by
 unfold rH at h ⊢;simp [World.setCell,Array.getElem?_modify,h]
theorem p_.frees {B:Nat} {q:Sr} {v:Value} {W:World}(h:p_ B q v W)(i:Nat):W.frozen?⟨B,i,none⟩=false:=by
 obtain⟨fn,h1,_⟩:=h;exact h1.free i
theorem p_.oL {B:Nat} {q:Sr} {v:Value} {W:World}(h:p_ B q v W)(i:Int):p_ B {q with aS:=i}v(W.setCell⟨B,2,none⟩(.int .i64 i)):=by
 obtain⟨fn,h1,h2⟩:=h;exact⟨fn,h1.oL i,h2⟩
theorem p_.Iz {B:Nat} {q:Sr} {v:Value} {W:World}(h:p_ B q v W)(i:Nat):p_ B {q with ret:=i}v(W.setCell⟨B,3,none⟩(.int .i64 i)):=by
 obtain⟨fn,h1,h2⟩:=h;exact⟨fn,h1.Iz i,h2⟩
def Ui(N B:Nat)(g:bA)(s s2:St)(TL:List Hp.Tm)(q:Sr)(w w':World):Prop:=∃dO,EI N B g s s2 dO(fun z=>z=q.dest)w w'∧TmR q s TL s2 dO
theorem Yc {N B:Nat} {g:bA} {s:St} {TL:List Hp.Tm} {w:World}(n:Nd N B g s TL w)(hR:s.Rdy)(hdl:s.aN.length≤800000)(q:Sr)(hq:q∈s.Q)(Bq:Nat)(hB:g.h q.dest=some Bq)(hl:TL.length≤900000)(htl:0≤s.tl∧s.tl≤4000000000000000000)(hid:∀x∈TL,x.2.1≤s.tl):
  Calls Tryz.prog 124 #[.pointer(some⟨Bq,0,none⟩),.pointer(some⟨N,0,none⟩),.pointer(some⟨B,0,none⟩)]w fun e w'=>e=.returned(.tuple #[])∧Ui N B g s(s.widen q)TL q w w':=by
 have hok:=n.nn.rs.sr.ok q hq;have hL:=n.jD hq hB;obtain⟨k0,k1,k2,k3,k4⟩:=hL.cell;have f2:=hL.frees 2;have f3:=hL.frees 3;have Jw:∀(q':Sr)(W':World),q'.dest=q.dest→q'.Ok→q'.txt=q.txt→p_ Bq q'(g.u q.dest)W'→Fx(fun k=>k=Bq)w W'→Calls Tryz.prog 83 #[.pointer(some⟨Bq,0,none⟩),.pointer(some⟨N,0,none⟩),.pointer(some⟨B,0,none⟩)]W' fun e w'=>e=.returned(.tuple #[])∧Ui N B g s(s.ask q')TL q w w':=by
  intro q' W' hd ok' ht hL' hf;obtain⟨n1,u1⟩:=n.VQ hq hd ok' ht hB hL' hf;obtain⟨e1,e2⟩:=X3 s q' _ rfl;refine(Uu n1⟨hR.me,hR.seq,hR.now,hR.mem,⟨hR.dom.mb,hR.dom.on,hR.dom.own⟩,hR.cnt,hR.a_,hR.aH,hR.tn,hR.AB,hR.y_,hR.za⟩(by dsimp only;omega)q'((l7 hq).1 hd.symm)Bq(by rw [hd];exact hB)hl htl hid).mono ?_;rintro e w9⟨rfl,g9,n9,u9,t9,y9⟩;rw [e1]at n9 u9;rw [e2]at n9;exact⟨rfl,_,⟨g9,n9,u1.trans u9,t9,fun z _=>by rw [y9.out.1]⟩,Mh s q q' TL hd⟩
 have Gy:Calls Tryz.prog 158 #[.pointer(some⟨Bq,0,none⟩),.pointer(some⟨N,0,none⟩),.pointer(some⟨B,0,none⟩)]w fun e w'=>e=.returned(.tuple #[])∧Ui N B g s(({s with aN:=s.aN++List.replicate q.txt.length 5}:St).XH q.dest)TL q w w':=by
  refine(Us n(by omega)q hq Bq hB hl).mono ?_;rintro e w9⟨rfl,dO,h1,h2⟩;exact⟨rfl,dO,h1,.inr⟨rfl,rfl,h2⟩⟩
 obtain⟨s2,hs2⟩:∃z,s.widen q=z:=⟨_,rfl⟩;rw [hs2];unfold St.widen at hs2;by_cases h5:q.aS+2≤5
 ·rw [if_pos h5]at hs2;have d5:decide(q.aS+2≤5)=true:=decide_eq_true h5;have HX:=hide(Jw {q with aS:=q.aS+2}_ rfl⟨hok.dest,by have:=hok.aS;dsimp only;omega,hok.ret,hok.txt,hok.H_,hok.id⟩rfl(hL.oL _)(Fx.grown(aa(aC _(some Bq))2 _)fun k e=>by cases e;rfl));rw [hs2]at HX;have htt:=hok.aS;replace hs2:=hide hs2;clear Jw Gy n hL hok;go_enter Tryz.func124,Tryz.ntmps124
  go_wp2_with fail
  refine Calls.mono HX.out ?_;rintro e w9⟨rfl,hN⟩;replace hN:=hide hN;clear HX;go_wp2
  go_returns
  exact⟨rfl,hN.out⟩
 ·rw [if_neg h5]at hs2;have d5:decide(q.aS+2≤5)=false:=decide_eq_false h5;by_cases h8:q.aS<8
  ·rw [if_pos h8]at hs2;have d8:decide(q.aS<8)=true:=decide_eq_true h8;have HX:=hide(Jw {q with aS:=8}_ rfl⟨hok.dest,by dsimp only;omega,hok.ret,hok.txt,hok.H_,hok.id⟩rfl(hL.oL _)(Fx.grown(aa(aC _(some Bq))2 _)fun k e=>by cases e;rfl));rw [hs2]at HX;have htt:=hok.aS;replace hs2:=hide hs2;clear Jw Gy n hL hok;go_enter Tryz.func124,Tryz.ntmps124
   go_wp2_with fail
   refine Calls.mono HX.out ?_;rintro e w9⟨rfl,hN⟩;replace hN:=hide hN;clear HX;go_wp2
   go_returns
   exact⟨rfl,hN.out⟩
  ·rw [if_neg h8]at hs2;have d8:decide(q.aS<8)=false:=decide_eq_false h8;by_cases h2:q.ret<2
   ·rw [if_pos h2]at hs2;have d2:decide(q.ret<2)=true:=decide_eq_true h2;have d2':decide((q.ret:Int)<2)=true:=decide_eq_true(by omega);have HX:=hide(Jw {q with ret:=q.ret+1}_ rfl⟨hok.dest,hok.aS,by dsimp only;omega,hok.txt,hok.H_,hok.id⟩rfl(hL.Iz _)(Fx.grown(aa(aC _(some Bq))3 _)fun k e=>by cases e;rfl));rw [hs2]at HX;rw [Int.natCast_add]at HX;have htt:=hok.aS;replace hs2:=hide hs2;clear Jw Gy n hL hok;go_enter Tryz.func124,Tryz.ntmps124
    go_wp2_with fail
    refine Calls.mono HX.out ?_;rintro e w9⟨rfl,hN⟩;replace hN:=hide hN;clear HX;go_wp2
    go_returns
    exact⟨rfl,hN.out⟩
   ·rw [if_neg h2]at hs2;have d2:decide(q.ret<2)=false:=decide_eq_false h2;have d2':decide((q.ret:Int)<2)=false:=decide_eq_false(by omega);have HX:=hide Gy;rw [hs2]at HX;have htt:=hok.aS;replace hs2:=hide hs2;clear Jw Gy n hL hok;go_enter Tryz.func124,Tryz.ntmps124
    go_wp2_with fail
    refine Calls.mono HX.out ?_;rintro e w9⟨rfl,hN⟩;replace hN:=hide hN;clear HX;go_wp2
    go_returns
    exact⟨rfl,hN.out⟩
end Go.Proofs.YtakaadcpaeiccabGreat
namespace Go.Proofs.YtakaadcpaeiccabGreat.DS
theorem kv {base e g m cap size:Nat}:∀(vs:List Value)(o:Nat)(xs:List Value)(W:World),W.ownsRow base e size(.slice(some⟨g,0,none⟩)m cap)m xs→o+vs.length≤m * size→
  (W.setCells g o vs).ownsRow base e size(.slice(some⟨g,0,none⟩)m cap)m(xs.take o++vs++xs.drop(o+vs.length))∧W.grownBy(W.setCells g o vs)(some g)
 | [],o,xs,W,h,_=>by
  simp only [World.setCells,List.append_nil,List.length_nil,Nat.add_zero,List.take_append_drop];exact⟨h,aC _ _⟩
 |v::r,o,xs,W,h,hl=>by
  simp only [List.length_cons]at hl;have hx:xs.length=m * size:=h.1;obtain⟨h1,g1⟩:=h.stored o v;obtain⟨h2,g2⟩:=kv r(o+1)(xs.set o v)(W.setCell⟨g,o,none⟩v)h1(by omega);refine⟨?_,⟨g2.os.trans g1.os,g2.tape.trans g1.tape,g2.output.trans g1.output,Nat.le_trans g1.size g2.size,fun k hk hn=>(g2.block k(Nat.lt_of_lt_of_le hk g1.size)hn).trans(g1.block k hk hn)⟩⟩;have e1:(xs.set o v).take(o+1)=xs.take o++ [v]:=by
   rw [List.bJ(by simp;omega),List.take_set_of_le(Nat.le_refl o)];simp
  have e2:(xs.set o v).drop(o+1+r.length)=xs.drop(o+(r.length+1)):=by
   rw [List.qQ(by omega),show o+1+r.length=o+(r.length+1)by omega]
  rw [e1,e2]at h2;show((W.setCell⟨g,o,none⟩v).setCells g(o+1)r).ownsRow _ _ _ _ _ _;simpa using h2
theorem vO {base e g n m cap size:Nat} {W:World} {xs:List Value}(h:W.ownsRow base e size(.slice(some⟨g,0,none⟩)n cap)n xs)(hm:m≤n):
  W.ownsRow base e size(.slice(some⟨g,0,none⟩)m cap)m(xs.take(m * size)):=by
 rcases h.2 with⟨he,_⟩|⟨g',cap',cur,he,hb,hg,h1,h2,h3,h4⟩
 ·cases he
 ·cases he;have hx:=h.1;have hms:m * size≤n * size:=Nat.mul_le_mul_right _ hm;refine⟨by rw [List.length_take,hx];omega,.inr⟨g,cap,cur,rfl,hb,hg,by omega,h2,h3,?_⟩⟩;rw [←h4,List.take_take,Nat.min_eq_left hms]
theorem CL(a:Option Addr)(n c k:Nat)(hk:k≤c)(W:World):(Instr.slice 80(.slice a n c)none(some(.int .i64 k))none).run Tryz.prog W=.ok(.slice a k c)W:=by
 have ht:Tryz.prog.underlying 80=some(.slice(Tryz.prog.elem 80)):=by simp [Program.elem,Tryz.underlying80]
 have hz:∀w,(Go.sizeOf(Tryz.prog.elem 80)).run Tryz.prog w=.ok 1 w:=by
  intro w;simp [go_sem,Program.elem,Tryz.underlying80]
 rw [run_slice_h W 80 _ _ _ ht .i64 _(by omega)(by omega),hz];simp only [Result.andThen,sliced];rw [Nat.sub_zero,Nat.sub_zero,Int.toNat_natCast];cases a<;>(split<;>simp [Addr.add])
theorem CK(g n c k:Nat)(hk:k≤n):∃ad:Addr,(∀W,(Instr.slice 80(.slice(some⟨g,0,none⟩)n c)(some(.int .i64 k))none none).run Tryz.prog W=.ok(.slice(some ad)(n - k)(c - k))W)∧(k<c→ad=⟨g,k * 1,none⟩):=by
 have ht:Tryz.prog.underlying 80=some(.slice(Tryz.prog.elem 80)):=by simp [Program.elem,Tryz.underlying80]
 have hz:∀w,(Go.sizeOf(Tryz.prog.elem 80)).run Tryz.prog w=.ok 1 w:=by
  intro w;simp [go_sem,Program.elem,Tryz.underlying80]
 refine⟨if c=k then⟨g,0,none⟩else⟨g,k * 1,none⟩,fun W=> ?_,fun h=>by rw [if_neg(by omega)]⟩;rw [run_slice_l W 80 _ _ _ ht .i64 _(by omega)(by omega),hz];simp only [Result.andThen,sliced];rw [Int.toNat_natCast];split<;>simp [Addr.add_lit]
theorem yH(g n c k m:Nat)(hk:k<m)(hm:m≤c)(W:World):(Instr.slice 80(.slice(some⟨g,0,none⟩)n c)(some(.int .i64 k))(some(.int .i64 m))none).run Tryz.prog W=.ok(.slice(some⟨g,k * 1,none⟩)(m - k)(c - k))W:=by
 have ht:Tryz.prog.underlying 80=some(.slice(Tryz.prog.elem 80)):=by simp [Program.elem,Tryz.underlying80]
 have hz:∀w,(Go.sizeOf(Tryz.prog.elem 80)).run Tryz.prog w=.ok 1 w:=by
  intro w;simp [go_sem,Program.elem,Tryz.underlying80]
 rw [run_slice_lh W 80 _ _ _ ht .i64 .i64 _ _(by omega)(by omega)(by omega),hz];simp only [Result.andThen,sliced];rw [Int.toNat_natCast,Int.toNat_natCast,if_neg(by omega)];simp [Addr.add_lit]
theorem vJ(a:Option Addr)(n c k m l:Nat)(hk:k≤m)(hm:m≤l)(hl:l≤c):∃v,∀W,(Instr.slice 80(.slice a n c)(some(.int .i64 k))(some(.int .i64 m))(some(.int .i64 l))).run Tryz.prog W=.ok v W:=by
 have ht:Tryz.prog.underlying 80=some(.slice(Tryz.prog.elem 80)):=by simp [Program.elem,Tryz.underlying80]
 have hz:∀w,(Go.sizeOf(Tryz.prog.elem 80)).run Tryz.prog w=.ok 1 w:=by
  intro w;simp [go_sem,Program.elem,Tryz.underlying80]
 refine⟨sliced a k m l 1,fun W=> ?_⟩;rw [run_slice_lhm W 80 _ _ _ ht .i64 .i64 .i64 _ _ _(by omega)(by omega)(by omega)(by omega),hz];simp only [Result.andThen,Int.toNat_natCast]
theorem sU(w:World)(ty:TypeId)(b o c:Nat)(hc:∀j,j<1→(w.cell?⟨b,o+j,none⟩).isSome=true)(hf:∀j,j<1→w.frozen?⟨b,o+j,none⟩=false):
  (Builtin.clear_ #[80]ty #[.slice(some⟨b,o,none⟩)1 c]).run Tryz.prog w=.ok(.tuple #[])(w.setCells b o([.string⟨#[]⟩]:List Value)):=by
 have hzc:(Builtin.zeroCells(.string⟨#[]⟩:Value).cells 1).toList=([.string⟨#[]⟩]:List Value):=by kernel_rfl
 have hst:=run_storeCells_cells(P:=Tryz.prog)b o([.string⟨#[]⟩]:List Value)0 w(fun j hj=>by rw [Nat.add_zero];exact hc j hj)(fun j hj=>by rw [Nat.add_zero];exact hf j hj)(by intro v hv;simp at hv;rcases hv with rfl<;>rfl);simp only [Nat.add_zero]at hst;simp [Builtin.clear_,run_underlying Tryz.underlying80,hzc,hst]
theorem Jh:(Tryz.prog.info? 9).map(fun i=>(i.zero,i.size,i.bytes))=some(some(.string⟨#[]⟩),1,16):=by kernel_rfl
theorem tX(base g n cap i:Nat)(xs:List Value)(w:World)(h:w.ownsRow base 9 1(.slice(some⟨g,0,none⟩)n cap)n xs)(hi:i<n)(hn:n≤1000000)(h1c:∀u∈xs,u.oneCell'=true):
  Calls Tryz.prog 118 #[.slice(some⟨g,0,none⟩)n cap,.int .i64 i,.int .i64((i:Int)+1)]w fun e w'=>e=.returned(.slice(some⟨g,0,none⟩)(n - 1)cap)∧w'.ownsRow base 9 1(.slice(some⟨g,0,none⟩)(n - 1)cap)(n - 1)(xs.take(i)++xs.drop(i+1))∧w.grownBy w'(some g):=by
 obtain⟨i0,hii,hz0,hz1,hz2⟩:=info_parts Jh;have hcap:n≤cap:=by
  rcases h.2 with⟨he,_⟩|⟨g',cap',cur,he,hb,hg,h1,h2,h3,h4⟩
  ·cases he
  ·cases he;exact h1
 have hx:=h.1;obtain⟨v13,aaf⟩:=vJ(some⟨g,0,none⟩)n cap i(i+1)n(by omega)(by omega)hcap;have aeo:=CL(some⟨g,0,none⟩)n cap i(by omega);obtain⟨ad,aae,had⟩:=CK g n cap(i+1)(by omega);have hd:w.drew.ownsRow base 9 1(.slice(some⟨g,0,none⟩)n cap)n xs:=h;have hnl:(xs.drop((i+1)* 1)).length=(n - (i+1))* 1:=by
  rw [List.length_drop,hx,Nat.sub_mul]
 have hcell:∀ {W:World} {ys:List Value},W.ownsRow base 9 1(.slice(some⟨g,0,none⟩)n cap)n ys→∀j,j<n * 1→(W.cell?⟨g,j,none⟩).isSome=true:=fun hW j hj=>by
  rw [hW.cellAt j hj,List.getElem?_eq_getElem(by rw [hW.1];exact hj)];rfl
 have hjl:∀j,j<(n - (i+1))* 1→(i+1)* 1+j<n * 1∧i * 1+j<n * 1:=fun j hj=>by
  rw [Nat.sub_mul]at hj;have:(i+1)* 1≤n * 1:=Nat.mul_le_mul_right _(by omega);rw [Nat.add_mul]at hj this ⊢;try omega
 have hcA:Hid(∀j u,(xs.drop((i+1)* 1))[j]?=some u→w.drew.cell?(ad.add j)=some u):=fun j u hj=>by
  have hl:=(List.getElem?_eq_some_iff.1 hj).1;rw [hnl]at hl;rw [had(by omega),Addr.add_lit];rw [List.getElem?_drop]at hj;exact(hd.cellAt _(hjl j hl).1).trans hj
 have aac:Hid(∀j,j<(xs.drop((i+1)* 1)).length→(w.drew.cell?⟨g,0+i * 1+j,none⟩).isSome=true∧w.drew.frozen?⟨g,0+i * 1+j,none⟩=false):=fun j hj=>by
  rw [hnl]at hj;rw [Nat.zero_add];exact⟨hcell hd _(hjl j hj).2,hd.frozenAt _⟩
 have hE1:Hid(i+(n - (i+1))=n - 1):=by show _=_;omega
 have hE2:Hid(0+i * 1=i * 1):=Nat.zero_add _;have aao:=(show Hid _ from hnl);have aaW:Hid(∀u∈xs.drop((i+1)* 1),u.oneCell'=true):=fun u hu=>h1c u(List.mem_of_mem_drop hu);obtain⟨h1,g1⟩:=kv(xs.drop((i+1)* 1))(i * 1)xs _ hd(by
  rw [hnl,←Nat.add_mul];exact Nat.mul_le_mul_right _(by omega))
 have R_:=yH g(n - 1)cap(n - 1)n(by omega)hcap;rw [show n - (n - 1)=1 by omega]at R_;have hlast:(n - 1)* 1+1=n * 1:=by
  rw [←Nat.succ_mul,show(n - 1).succ=n by omega]
 have hcl:∀ty,(Builtin.clear_ #[80]ty #[.slice(some⟨g,(n - 1)* 1,none⟩)1(cap - (n - 1))]).run Tryz.prog(w.drew.setCells g(i * 1)(xs.drop((i+1)* 1)))=.ok(.tuple #[])((w.drew.setCells g(i * 1)(xs.drop((i+1)* 1))).setCells g((n - 1)* 1)([.string⟨#[]⟩]:List Value)):=fun ty=>
  sU _ ty g _ _(fun j hj=>hcell h1 _(by omega))(fun j hj=>h1.frozenAt _)
 obtain⟨h2,g2⟩:=kv([.string⟨#[]⟩]:List Value)((n - 1)* 1)_ _ h1(by simp only [List.length_cons,List.length_nil];omega);have h3:=vO h2(m:=n - 1)(by omega);have hgg:w.grownBy((w.drew.setCells g(i * 1)(xs.drop((i+1)* 1))).setCells g((n - 1)* 1)([.string⟨#[]⟩]:List Value))(some g):=⟨g2.os.trans g1.os,g2.tape.trans g1.tape,g2.output.trans g1.output,Nat.le_trans g1.size g2.size,fun k hk hn=>(g2.block k(Nat.lt_of_lt_of_le hk g1.size)hn).trans(g1.block k hk hn)⟩;have jo:((xs.take(i * 1)++xs.drop((i+1)* 1)++xs.drop(i * 1+(xs.drop((i+1)* 1)).length)).take((n - 1)* 1)++([.string⟨#[]⟩]:List Value)++(xs.take(i * 1)++xs.drop((i+1)* 1)++xs.drop(i * 1+(xs.drop((i+1)* 1)).length)).drop((n - 1)* 1+([.string⟨#[]⟩]:List Value).length)).take((n - 1)* 1)=xs.take(i * 1)++xs.drop((i+1)* 1):=by
  have hl:(xs.take(i * 1)++xs.drop((i+1)* 1)).length=(n - 1)* 1:=by
   have:i * 1≤n * 1:=Nat.mul_le_mul_right _(by omega);rw [List.length_append,hnl,List.length_take,hx,Nat.min_eq_left this,←Nat.add_mul]
   congr 1
   all_goals omega
  rw [List.take_left' hl,List.append_assoc,List.take_left' hl]
 rw [jo]at h3;clear h1 g1 h2 g2 hcell hd h hnl hlast hx had h1c hjl;have hfin:=(show Hid _ from And.intro h3 hgg);clear h3 hgg jo;have hne:((i:Int)==(i:Int)+1)=false:=by
  have:¬((i:Int)=(i:Int)+1):=by omega
  simpa using this
 rw [show((i+1:Nat):Int)=(i:Int)+1 from rfl]at aaf aae;try simp only [Nat.mul_one]at hcl R_ hfin
 go_enter Tryz.func118,Tryz.ntmps118
 go_wp2_with fail
 go_region_law(refine step_append_room rfl(.tmp 22)(.tmp 25)80 rfl 9 i0 1 Tryz.underlying80 hii hz1 g 0 i cap rfl ad(n - (i+1))(cap - (i+1))(xs.drop((i+1)* 1))rfl aao.out hcA.out aaW.out(by omega)aac.out ?_;rw [hE1.out,hE2.out])
 all_goals
  generalize(w.drew.setCells g(i)(xs.drop(i+1)))=X at hcl hfin ⊢;go_wp2
  go_returns
  exact⟨rfl,hfin.out⟩
end Go.Proofs.YtakaadcpaeiccabGreat.DS
namespace Go.Proofs.YtakaadcpaeiccabGreat
theorem WT:(Tryz.prog.info? 5).map(fun i=>(i.zero,i.size,i.bytes))=some(some(.int .u8 0),1,1):=by kernel_rfl
theorem ul(s:ByteArray)(w:World)(hlim:s.size≤1000000):
  Calls Tryz.prog 152 #[.string s]w fun e w'=>e=.returned(.string s)∧Below w.heap.size w w':=by
 by_cases h0:s.size=0
 ·have hs:s=⟨#[]⟩:=by
   apply ByteArray.ext;exact Array.eq_empty_of_size_eq_zero h0
  subst hs;go_enter Tryz.func152,Tryz.ntmps152
  go_wp2
  go_ret
  exact⟨rfl,Below.refl _ _⟩
 ·obtain⟨i0,hi,hz0,hz1,hz2⟩:=info_parts WT;have hinfo:(Tryz.prog.info? 5).map(·.size)=some 1:=by rw [hi];simp [hz1]
  have hco:Tryz.prog.cellsOf 5=1:=by simp [Program.cellsOf,hi,hz1]
  obtain⟨M,hM⟩:∃M,M=madeCells(Value.int .u8 0).cells(((s.size:Nat):Int).toNat * i0.size):=⟨_,rfl⟩;have hMs:M.size=s.size:=by rw [hM,size_madeCells,hz1];simp
  have hmk:∀W:World,(Instr.makeSlice 58(.int .i64(s.size:Int))(.int .i64(s.size:Int))).run Tryz.prog W=.ok(.slice(some⟨W.heap.size,0,none⟩)s.size s.size)(W.alloc(.cells M 5)):=fun W=>by
   have h:=run_make(P:=Tryz.prog)W 58 5 i0(.int .u8 0)Tryz.underlying58 hi hz0 .i64 .i64(s.size:Int)(s.size:Int)(by omega)(by omega)(by rw [hz2];omega)(by omega);rw [←hM]at h;simpa using h
  clear hM;have hcp:=Lib.run_copy_row_string(P:=Tryz.prog)(w.alloc(.cells M 5))58 9 3 5 w.heap.size 0 s.size s.size s M 5 Tryz.underlying58 hinfo(heap_alloc_new w _)(Nat.le_refl _)(by omega);obtain⟨Y,hY⟩:∃Y,Y=(M.toList.take 0++Lib.byteCells s.data.toList++M.toList.drop(0+s.size)).toArray:=⟨_,rfl⟩;rw [←hY]at hcp;have hYl:Y.toList=Lib.byteCells s.data.toList:=by
   rw [hY,List.toList_toArray,List.take_zero,List.nil_append,List.drop_of_length_le(by rw [Array.length_toList];omega),List.append_nil]
  have hYs:Y.size=s.size:=by rw [←Array.length_toList,hYl,Lib.byteCells_length,←Lib.size_eq]
  have hgY:((w.alloc(.cells M 5)).setRow w.heap.size Y).heap[w.heap.size]?=some(.cells Y 5(0,0)):=setRow_heap _ _ M _ 5(0,0)(heap_alloc_new w _);have hne:s.data.toList≠ []:=fun e=>h0(by rw [Lib.size_eq,e];rfl);have hUS:=Lib.run_unsafeString_row(P:=Tryz.prog)((w.alloc(.cells M 5)).setRow w.heap.size Y)274 3 9 5 Tryz.underlying274 hco w.heap.size Y.size(by unfold World.shape?;rw [hgY])s.data.toList hne(by rw [←Lib.size_eq];omega)(by rw [←Lib.size_eq];omega)
   (fun j x hx=>Lib.cells_of_row hgY Y.size j _(by rw [List.take_of_length_le(by rw [Array.length_toList];exact Nat.le_refl _),hYl];simp [Lib.byteCells,hx]))
  rw [←Lib.size_eq]at hUS;clear hY;go_enter Tryz.func152,Tryz.ntmps152
  go_wp2
  go_ret
  have hb1:Below w.heap.size w(w.alloc(.cells M 5)):=(Below.refl _ w).alloc(Nat.le_refl _)_;have hb2:Below w.heap.size(w.alloc(.cells M 5))((w.alloc(.cells M 5)).setRow w.heap.size Y):=⟨rfl,rfl,rfl,by simp,fun k hk=>setRow_other _ _ _ _(by omega)⟩;exact⟨rfl,Lib.below_freeze(hb1.trans hb2)(p:=⟨w.heap.size,0,none⟩)(Nat.le_refl _)_⟩
theorem OZ(s:ByteArray)(w:World)(hlim:s.size≤1000000):
  Calls Tryz.prog 119 #[.string s]w fun e w'=>e=.returned(.string s)∧Below w.heap.size w w':=by
 go_enter Tryz.func119,Tryz.ntmps119
 go_wp2_with fail
 refine(ul s w hlim).mono ?_;rintro e w'⟨rfl,hb⟩;go_wp2
 go_ret
 exact⟨rfl,hb⟩
end Go.Proofs.YtakaadcpaeiccabGreat
