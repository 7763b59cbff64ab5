import Derived.Test.YtakaadcpaeiccabGreatC46
import Derived.Test.YtakaadcpaeiccabGreatC44
set_option maxHeartbeats 4000000
set_option maxRecDepth 100000
namespace Go.Proofs.YtakaadcpaeiccabGreat
open Go.RowKit Go.Maps Go.MuLone
theorem XT {J:List(Bool×Int×Int)}(h:pW J):∀(f:Int→Option Int)(c:Option Int)(o:List(Bool×Int×Int)),iw f c o→iw(J.foldl gJ f)(J.foldl kQ c)(J.foldl(fun o r=>yU o(norm r))o):=by
 induction J with
 |nil=>intro f c o h;exact h
 |cons y J ih=>
  intro f c o hc;simp only [List.foldl_cons];exact ih(fun z hz=>h z(List.mem_cons_of_mem _ hz))_ _ _(hc.put y(KM h(List.mem_cons_self ..)).2.1)
theorem Me {J:List(Bool×Int×Int)}(h:pW J):iw(lU J)(qb J)(cmpL J):=XT h _ _ _ iw.nil
theorem Fw {J:List(Bool×Int×Int)}(h:pW J):bg((qb J).getD 0):=by
 have:∀(J:List(Bool×Int×Int))(c:Option Int),pW J→OB c→OB(J.foldl kQ c):=by
  intro J
  induction J with
  |nil=>intro c _ h;exact h
  |cons y J ih=>
   intro c hJ hc;rw [List.foldl_cons];exact ih _(fun z hz=>hJ z(List.mem_cons_of_mem _ hz))(hc.step(KM hJ(List.mem_cons_self ..)).2)
 exact(this J none h Ra).getD
def St.raw(me:Int)(xs:List Int)(now:Int):St:=
 ⟨me,gr((qb(jl xs)).getD 0),if xs=[]then 0 else now+2000,0,0,tY me(cmpL(jl xs)),[],0,fun _=>none,0,0,[],0,[],now,[],[],[],[],decide(xs≠ []),0⟩
theorem St.tC(me:Int)(xs:List Int)(now:Int):St.new me xs now=(St.raw me xs now).finish:=rfl
theorem Qb:bg 0:=by unfold bg;omega
theorem KN {me:Int} {xs:List Int} {now:Int}(hU:bg me)(hbd:pW(jl xs))(fq:0≤now∧now≤4611686018427387904):(St.raw me xs now).Mid 0 0:=
 ⟨hU,tK(Fw hbd),fq,fun _ h=>(by cases h),⟨fun _ _ h=>(by cases h),fun _ h=>(by cases h),Qb⟩,by dsimp only [St.raw];omega,Nat.le_refl _,fun _ h=>(by cases h),Nat.le_refl _,Nat.le_refl _,Nat.le_refl _,by dsimp only [St.raw];omega,by dsimp only [St.raw];omega,Nat.zero_le _,List.Pairwise.nil,fun _ h=>(by cases h),fun _ h=>(by cases h)⟩
theorem TR.lower {base b T M:Nat} {last:Int} {h:List Hp.Tm} {v:Value} {W:World}(r:TR base T M last h v W)(hb:b≤base):TR b T M last h v W:=
 ⟨r.blk,ownsRow_base_a r.row hb,r.map,r.ok,Nat.le_trans hb r.bT,Nat.le_trans hb r.bM⟩
theorem MT.later' {me:Int} {T M:Nat} {f:Int→Option Nat} {g:Int→Value} {A:List Rt} {W W':World}(h:MT me T M f g A W)(hb:Below W.heap.size W W'):MT me T M f g A W':=h.kept fun k hk=>hb.block k(h.lt hk)
theorem TR.later' {b T M:Nat} {last:Int} {h:List Hp.Tm} {v:Value} {W W':World}(r:TR b T M last h v W)(hb:Below W.heap.size W W'):TR b T M last h v W':=
 r.at(hb.block _ r.blk.lt)(by obtain⟨f,p1,_⟩:=r.map;exact hb.block _ p1.lt)fun k hk=>hb.block _(r.row.lt k hk).2
theorem FM(w:World):
  Calls Tryz.prog 45 #[]w fun e w'=>∃Ms,e=.returned(.agg #[.map(some Ms),.int .i64 0])∧Below w.heap.size w w'∧wI Ms 0 []w'∧w.heap.size≤Ms:=by
 have hmm:=@run_makeMap Tryz.prog;have jk:Below w.heap.size w(w.alloc(.cells #[.map(some(w.heap.size+1)),.int .i64 0]113)):=(Below.refl _ _).alloc(Nat.le_refl _)_;have hb:Below w.heap.size w((w.alloc(.cells #[.map(some(w.heap.size+1)),.int .i64 0]113)).alloc(.map #[]0)):=jk.alloc jk.size _;have hC:((w.alloc(.cells #[.map(some(w.heap.size+1)),.int .i64 0]113)).alloc(.map #[]0)).heap[w.heap.size]?=some(.cells #[.map(some(w.heap.size+1)),.int .i64 0]113):=(((Below.refl _(w.alloc(.cells #[.map(some(w.heap.size+1)),.int .i64 0]113))).alloc(Nat.le_refl _)_).block w.heap.size(by simp)).trans(heap_alloc_new _ _);have hM:=wI.made(w.alloc(.cells #[.map(some(w.heap.size+1)),.int .i64 0]113));rw [World.size_alloc]at hM;go_enter Tryz.func45,Tryz.ntmps45
 go_wp2
 generalize World.alloc(World.alloc _ _)_=W at hb hC hM ⊢;have p0:W.cell?⟨w.heap.size,0,none⟩=some(.map(some(w.heap.size+1))):=cell_of_row _ _ 0 _ _ _ hC;have p1:W.cell?⟨w.heap.size,1,none⟩=some(.int .i64 0):=cell_of_row _ _ 1 _ _ _ hC;exact bodyPost_ret(v:=.agg #[.map(some(w.heap.size+1)),.int .i64 0])(by simp [results,Tryz.results45,go_sem,p0,p1])rfl⟨_,rfl,hb,hM,Nat.le_succ _⟩
theorem Dn(w:World):
  Calls Tryz.prog 46 #[]w fun e w'=>∃Mo,e=.returned(.agg #[.int .u32 0,.map(some Mo),.int .i64 0])∧Below w.heap.size w w'∧MapU w' Mo(fun _=>none)0∧w.heap.size≤Mo:=by
 have hmm:=@run_makeMap Tryz.prog;have jk:Below w.heap.size w(w.alloc(.cells #[.int .u32 0,.map(some(w.heap.size+1)),.int .i64 0]117)):=(Below.refl _ _).alloc(Nat.le_refl _)_;have hb:Below w.heap.size w((w.alloc(.cells #[.int .u32 0,.map(some(w.heap.size+1)),.int .i64 0]117)).alloc(.map #[]0)):=jk.alloc jk.size _;have hC:((w.alloc(.cells #[.int .u32 0,.map(some(w.heap.size+1)),.int .i64 0]117)).alloc(.map #[]0)).heap[w.heap.size]?=some(.cells #[.int .u32 0,.map(some(w.heap.size+1)),.int .i64 0]117):=(((Below.refl _(w.alloc(.cells #[.int .u32 0,.map(some(w.heap.size+1)),.int .i64 0]117))).alloc(Nat.le_refl _)_).block w.heap.size(by simp)).trans(heap_alloc_new _ _);have hM:=MapU.made(w.alloc(.cells #[.int .u32 0,.map(some(w.heap.size+1)),.int .i64 0]117));rw [World.size_alloc]at hM;go_enter Tryz.func46,Tryz.ntmps46
 go_wp2
 generalize World.alloc(World.alloc _ _)_=W at hb hC hM ⊢;have p0:W.cell?⟨w.heap.size,0,none⟩=some(.int .u32 0):=cell_of_row _ _ 0 _ _ _ hC;have p1:W.cell?⟨w.heap.size,1,none⟩=some(.map(some(w.heap.size+1))):=cell_of_row _ _ 1 _ _ _ hC;have p2:W.cell?⟨w.heap.size,2,none⟩=some(.int .i64 0):=cell_of_row _ _ 2 _ _ _ hC;exact bodyPost_ret(v:=.agg #[.int .u32 0,.map(some(w.heap.size+1)),.int .i64 0])(by simp [results,Tryz.results46,go_sem,p0,p1,p2])rfl⟨_,rfl,hb,hM,Nat.le_succ _⟩
def afv(s:St)(w:World)(e:Ending)(w':World):Prop:=
 ∃N g aI bH bI,e=.returned(.tuple #[.pointer(some⟨N,0,none⟩),iE s.aY s.aZ aI bH bI,.int .i64 0])∧Nn N g s []w'∧w'.ownsRow w.heap.size 77 2 aI s.aH.length(tT s.aH)∧w'.ownsRow w.heap.size 56 2 bH s.aR.length(tT s.aR)∧w'.ownsRow w.heap.size 195 1 bI s.aN.length(Im s.aN)∧Below w.heap.size w w'∧∀k,Ft N g s k→w.heap.size≤k
theorem Wu {me q:Int} {A:List Rt} {T M Ms Mo Mr B:Nat} {ff:Int→Option Nat} {gg:Int→Value} {w9:World}(now:Int)(hMT:MT me T M ff gg A w9)(Ig:wI Ms 0 []w9)(Ox:MapU w9 Mo(fun _=>none)0)(Xh:eX w9 Mr(fun _=>none)0)(PN:TR 0(B+1)B 0 [](.slice none 0 0)w9)(h1:M<Ms)(h2:Ms<Mo)(h3:Mo<Mr)(h4:Mr<B):
  Nd w9.heap.size(w9.heap.size+1)⟨⟨0,me,q,0,T,Ms,0,0,Mo,0,0,0,Mr,B+1,.slice none 0 0⟩,EG now,M,ff,gg,0,fun _=>none,fun _=> .slice none 0 0,B,[],.slice none 0 0⟩⟨me,q,0,0,0,A,[],0,fun _=>none,0,0,[],0,[],now,[],[],[],[],false,0⟩ []((w9.alloc(nU⟨0,me,q,0,T,Ms,0,0,Mo,0,0,0,Mr,B+1,.slice none 0 0⟩)).alloc(om(EG now))):=by
 have hb1:Below w9.heap.size w9(w9.alloc(nU⟨0,me,q,0,T,Ms,0,0,Mo,0,0,0,Mr,B+1,.slice none 0 0⟩)):=(Below.refl _ _).alloc(Nat.le_refl _)_;have hn1:=heap_alloc_new w9(nU⟨0,me,q,0,T,Ms,0,0,Mo,0,0,0,Mr,B+1,.slice none 0 0⟩);have hsz:(w9.alloc(nU⟨0,me,q,0,T,Ms,0,0,Mo,0,0,0,Mr,B+1,.slice none 0 0⟩)).heap.size=w9.heap.size+1:=by simp
 generalize w9.alloc(nU⟨0,me,q,0,T,Ms,0,0,Mo,0,0,0,Mr,B+1,.slice none 0 0⟩)=W1 at hb1 hn1 hsz ⊢;have nn1:Nn w9.heap.size⟨⟨0,me,q,0,T,Ms,0,0,Mo,0,0,0,Mr,B+1,.slice none 0 0⟩,EG now,M,ff,gg,0,fun _=>none,fun _=> .slice none 0 0,B,[],.slice none 0 0⟩⟨me,q,0,0,0,A,[],0,fun _=>none,0,0,[],0,[],now,[],[],[],[],false,0⟩ []W1:=
  ⟨⟨hn1,Ox.block(hb1.block _ Ox.lt),hMT.later' hb1,by dsimp only;omega⟩,⟨rfl,rfl,rfl,rfl,rfl,rfl,rfl,rfl,rfl⟩,
  ⟨Ig.block(hb1.block _ Ig.lt),⟨Xh.block(hb1.block _ Xh.lt),List.Pairwise.nil,fun _ h=>(by cases h),fun _ _ _ h=>(by cases h),fun _ h=>(by cases h),fun _ h=>(by cases h),fun _ h=>(by cases h),Nat.zero_le _⟩,PN.later' hb1,(fun _ _ h=>absurd h(Nat.not_lt_zero _)),List.Perm.refl _,⟨rfl,.inl⟨rfl,rfl⟩⟩⟩,
  by
   have e1:M≠Mo:=by omega
   have e2:M≠Ms:=by omega
   have e3:M≠Mr:=by omega
   have e4:M≠B:=by omega
   have e5:Mo≠Ms:=by omega
   have e6:Mo≠Mr:=by omega
   have e7:Mo≠B:=by omega
   have e8:Ms≠Mr:=by omega
   have e9:Ms≠B:=by omega
   have e10:Mr≠B:=by omega
   simp [e1,e2,e3,e4,e5,e6,e7,e8,e9,e10],by dsimp only;omega⟩
 have hb2:Below W1.heap.size W1(W1.alloc(om(EG now))):=(Below.refl _ _).alloc(Nat.le_refl _)_;have ha:=jc.zero now W1;rw [hsz]at ha;exact⟨nn1.later hb2,ha,rfl,rfl⟩
theorem jc.IA {B base:Nat} {a:nK} {a_:List(Bool×Int×Int)} {aH aR:List(Int×ByteArray)} {aN:List Int} {W:World}(h:jc B base a a_ aH aR aN W)(b:Bool):
  jc B base {a with aZ:=b}a_ aH aR aN(W.setCell⟨B,3,none⟩(.bool b))∧W.grownBy(W.setCell⟨B,3,none⟩(.bool b))(some B):=by
 have hg:=aa(aC W(some B))3(.bool b);exact⟨⟨h.blk.Qq b,h.mZ.kept hg(.inr(aA h.mZ h.blk(fun c e=>(by cases e)))),h.aI.kept hg(.inr(aA h.aI h.blk(fun c e=>(by cases e)))),h.bH.kept hg(.inr(aA h.bH h.blk(fun c e=>(by cases e)))),h.bI.kept hg(.inr(aA h.bI h.blk(fun c e=>(by cases e))))⟩,hg⟩
theorem Rk {N B:Nat} {g:bA} {s:St} {W:World}(n:Nd N B g s []W)(v:Int):
  ∃g',Nd N B g' {s with bZ:=v,aZ:=true} []((W.setCell⟨N,4,none⟩(.int .u64 v)).setCell⟨B,3,none⟩(.bool true))∧Up B(Ft N g s)(Ft N g' {s with bZ:=v,aZ:=true})W((W.setCell⟨N,4,none⟩(.int .u64 v)).setCell⟨B,3,none⟩(.bool true)):=by
 have e:=n.nn.eq;obtain⟨n1,u1⟩:=n.cells(s':={s with bZ:=v})(n.nn.cr.nd.Qo v)(Fx.grown(aa(aC W(some N))4 _)fun k h=>by cases h;rfl)⟨e.self,e.seq,rfl,e.dz,e.eF,e.tn,e.own,e.cnt,e.lk⟩⟨rfl,rfl,rfl,rfl,rfl,rfl⟩⟨rfl,rfl,rfl,rfl,rfl,rfl,rfl,rfl,rfl⟩⟨rfl,rfl,rfl,rfl,rfl⟩;obtain⟨a2,hg2⟩:=n1.ac.IA true;obtain⟨n2,u2⟩:=n1.act(s':={s with bZ:=v,aZ:=true})a2(Fx.grown hg2 fun k h=>by cases h;exact .inl rfl)⟨rfl,rfl,rfl,rfl,rfl,rfl,rfl,rfl,rfl,rfl,rfl,rfl,rfl,rfl,rfl⟩n1.now rfl;exact⟨_,n2,u1.trans u2⟩
theorem Pp(me now:Int)(hU:bg me)(hself:me≠0)(v:Value)(xs:List Int)(w:World)(hv:eH w v xs)(hx1:xs.length≤100000)(hjb:pW(jl xs))(hfw:Yh(jl xs))(hjl:(jl xs).length≤50000)(fq:0≤now∧now≤4611686018427387904):
  Calls Tryz.prog 19 #[.int .u32 me,v,.int .u64 now]w fun e w'=>afv(St.new me xs now)w e w':=by
 have hs0:(me==0)=false:=by simpa using hself
 have hmm:=@run_makeMap Tryz.prog;have hb0:Below w.heap.size w(w.alloc iN):=(Below.refl _ _).alloc(Nat.le_refl _)_;have hC0:(w.alloc iN).heap[w.heap.size]?=some iN:=heap_alloc_new _ _;have hz0:w.heap.size+1≤(w.alloc iN).heap.size:=by simp
 obtain⟨av,cv,rfl⟩:∃a c,v=.slice a xs.length c:=by
  rcases hv.2 with⟨rfl,rfl⟩|⟨b,o,c,rfl,_⟩
  ·exact⟨_,_,rfl⟩
  ·exact⟨_,_,rfl⟩
 have HR:=(show Hid _ from fun W hW=>xY(.slice av xs.length cv)xs(by omega)W(hv.kept hW));have hmid:=hide(KN(xs:=xs)hU hjb fq);obtain⟨s9,qG⟩:∃z,St.raw me xs now=z:=⟨_,rfl⟩;have acj:=hide qG;rw [qG]at hmid;have hnew:St.new me xs now=s9.finish:=by rw [←qG];rfl
 rw [hnew];obtain⟨s',hs'⟩:∃z,s9.finish=z:=⟨_,rfl⟩;rw [hs'];replace hs':=hide hs';clear hnew qG;have SN:=hide(Me hjb);dsimp only [iN]at hb0 hC0 hz0;clear hv;go_enter Tryz.func19,Tryz.ntmps19
 go_upto_region 1 with(fail)
 generalize World.alloc _ _=W1 at hb0 hC0 hz0 ⊢;go_wp2_with fail
 refine Calls.mono(HR.out W1 hb0) ?_;rintro e w2⟨u,rfl,hb2,hu⟩;obtain⟨au,cu,rfl,hH⟩:=ak hu;generalize hJ:(jl xs)=J at hjb hfw hjl hH hu SN;have hJ':=hide hJ;clear hJ HR;have aaD:=hb0.trans(hb2.mono hb0.size);have hC2:=(hb2.block _(by omega:w.heap.size<W1.heap.size)).trans hC0;have hz2:=hb2.size;go_wp2_with fail
 refine Calls.mono(xS au J.length cu J rfl(by omega)hjb w2 hH) ?_;rintro e w3⟨rfl,hb3⟩;generalize hgo:(qb J).getD 0=g0;have hgo':=hide hgo;clear hgo;go_wp2_with fail
 refine Calls.mono(nZ g0 w3) ?_;rintro e w4⟨rfl,rfl⟩;have hH3:=hH.below hb3;have aaC:=aaD.trans(hb3.mono aaD.size);have jZ:=(hb3.block _(by omega:w.heap.size<w2.heap.size)).trans hC2;have hz3:=hb3.size;generalize hq:gr g0=q;have hq':=hide hq;clear hq hC0 hC2 hH hu aaD hb0 hb2 hb3;go_wp2_with fail
 refine Calls.mono(Bi me au J.length cu J rfl hjl hjb hfw w4 hH3) ?_;rintro e w5⟨T,out,rfl,hcmp,⟨M,ff,gg,hMT,hTS⟩,hb5⟩;obtain rfl:out=cmpL J:=hcmp.unique SN.out;go_wp2_with fail
 refine Calls.mono(FM w5) ?_;rintro e w6⟨Ms,rfl,hb6,Ig,hMs⟩;go_wp2_with fail
 refine Calls.mono(Dn w6) ?_;rintro e w7⟨Mo,rfl,Gw,hmo,Ox⟩;have nE:=hMT.map.lt;have hM8:=eX.made w7;have ll:Below w7.heap.size w7(w7.alloc(.map #[]0)):=(Below.refl _ _).alloc(Nat.le_refl _)_;have hz8:(w7.alloc(.map #[]0)).heap.size=w7.heap.size+1:=by simp
 go_wp2_with fail
 generalize World.alloc _ _=W8 at hM8 ll hz8 ⊢;refine Calls.mono(Bh W8) ?_;rintro e w9⟨rfl,gy,hT9⟩;have hz5:=hb5.size;have hz6:=hb6.size;have hz7:=Gw.size;have hz9:=gy.size;have aaE:=ll.trans(gy.mono ll.size);have aaF:=Gw.trans(aaE.mono Gw.size);have aaG:=hb6.trans(aaF.mono hb6.size);have aaJ:=hb5.trans(aaG.mono hb5.size);have ae4:=hmo.lt;have aaP:=Ig.lt;have hn:=Wu(q:=q)now(hMT.later' aaG)(Ig.block(aaF.block _ Ig.lt))(hmo.block(aaE.block _ hmo.lt))(hM8.block(gy.block _(by omega)))(hT9.lower(Nat.zero_le _))(by omega)(by omega)(by omega)(by omega);have hbN:Below w9.heap.size w9(w9.alloc(nU⟨0,me,q,0,T,Ms,0,0,Mo,0,0,0,w7.heap.size,W8.heap.size+1,.slice none 0 0⟩)):=(Below.refl _ _).alloc(Nat.le_refl _)_;have acT:Below w9.heap.size w9((w9.alloc(nU⟨0,me,q,0,T,Ms,0,0,Mo,0,0,0,w7.heap.size,W8.heap.size+1,.slice none 0 0⟩)).alloc(om(EG now))):=hbN.alloc hbN.size _;have Z0:((w9.alloc(nU⟨0,me,q,0,T,Ms,0,0,Mo,0,0,0,w7.heap.size,W8.heap.size+1,.slice none 0 0⟩)).alloc(om(EG now))).heap.size=w9.heap.size+2:=by simp
 have aaI:=aaJ.trans(acT.mono aaJ.size);have OD:=(aaI.block _(by omega:w.heap.size<w4.heap.size)).trans jZ;have rV:=aaC.trans(aaI.mono aaC.size);have hlow:∀k,Ft w9.heap.size⟨⟨0,me,q,0,T,Ms,0,0,Mo,0,0,0,w7.heap.size,W8.heap.size+1,.slice none 0 0⟩,EG now,M,ff,gg,0,fun _=>none,fun _=> .slice none 0 0,W8.heap.size,[],.slice none 0 0⟩⟨me,q,0,0,0,tY me(cmpL J),[],0,fun _=>none,0,0,[],0,[],now,[],[],[],[],false,0⟩k→w.heap.size<k:=by
  rintro k((rfl|rfl|hk)|(rfl|(rfl|⟨z,hz,_⟩)|rfl|rfl|hk|hk))
  ·omega
  ·omega
  ·have:=(hTS k hk).1;omega
  ·omega
  ·show _<w7.heap.size;omega
  ·cases hz
  ·show _<W8.heap.size+1;omega
  ·show _<W8.heap.size;omega
  ·cases hk
  ·cases hk
 have AO:w.heap.size<w9.heap.size:=by omega
 clear aaE aaF aaG aaJ hbN acT aaI hM8 ll gy hT9 hb5 hb6 Gw jZ aaC hMT hTS Ig hmo hH3 hcmp SN;dsimp only [nU,om,EG]at hn Z0 OD rV hlow;clear hz8 hz9;go_upto_region 6 with(fail)
 generalize World.alloc(World.alloc _ _)_=W10 at hn Z0 OD rV ⊢;generalize w9.heap.size=N at hn Z0 hlow AO ⊢;obtain⟨g,hg⟩:∃z,(⟨⟨0,me,q,0,T,Ms,0,0,Mo,0,0,0,w7.heap.size,W8.heap.size+1,.slice none 0 0⟩,⟨now,.slice none 0 0,⟨#[]⟩,false,.slice none 0 0,.slice none 0 0,.slice none 0 0⟩,M,ff,gg,0,fun _=>none,fun _=> .slice none 0 0,W8.heap.size,[],.slice none 0 0⟩:bA)=z:=⟨_,rfl⟩;rw [hg]at hn hlow;clear hg hz0 hz2 hz3 hz5 hz6 hz7 ae4 aaP nE Ox hMs;generalize w7.heap.size=n7;have hend:Hid(∀(g:bA)(W:World),Nd N(N+1)g s9 []W→Below w.heap.size w W→W.heap[w.heap.size]?=some(.cells #[.string⟨#[]⟩,.bool false,.slice none 0 0,.slice none 0 0,.slice none 0 0]52)→(∀k,Ft N g s9 k→w.heap.size<k)→
   Calls Tryz.prog 48 #[.pointer(some⟨N,0,none⟩),.pointer(some⟨N+1,0,none⟩)]W fun e w6=>∃af kf ac kc ad kd,e=.returned(.agg #[.string s9.finish.aY,.bool s9.finish.aZ,.slice af s9.finish.aH.length kf,.slice ac s9.finish.aR.length kc,.slice ad s9.finish.aN.length kd])∧w6.heap[w.heap.size]?=some(.cells #[.string⟨#[]⟩,.bool false,.slice none 0 0,.slice none 0 0,.slice none 0 0]52)∧
    ∀W7,w6.grownBy W7(some w.heap.size)→∃g,Nn N g s9.finish []W7∧W7.ownsRow w.heap.size 77 2(.slice af s9.finish.aH.length kf)s9.finish.aH.length(tT s9.finish.aH)∧W7.ownsRow w.heap.size 56 2(.slice ac s9.finish.aR.length kc)s9.finish.aR.length(tT s9.finish.aR)∧W7.ownsRow w.heap.size 195 1(.slice ad s9.finish.aN.length kd)s9.finish.aN.length(Im s9.finish.aN)∧Below w.heap.size w W7∧∀k,Ft N g s9.finish k→w.heap.size≤k):=by
  intro g W n hb hC hl;have hm:=hmid.out;refine(oq n hm.dom(by have:=hm.cnt;omega)(by have:=hm.a_;omega)hm.bd hm.seq).mono ?_;rintro e w6⟨g6,rfl,n6,u6,_⟩;obtain⟨af,kf,hf,_⟩:=ak n6.ac.aI;obtain⟨ac,kc,hc,_⟩:=ak n6.ac.bH;obtain⟨ad,kd,hd,_⟩:=ak n6.ac.bI;have hlw:w.heap.size<W.heap.size:=aD hC;have cK:=(u6.block w.heap.size _ hC(fun h=>by have:=hl _ h;omega)(.inr(by omega)));have hl6:∀k,Ft N g6 s9.finish k→w.heap.size<k:=fun k hk=>by
   rcases u6.sub k hk with h|h
   ·exact hl k h
   ·omega
  have r1:=ownsRow_base_a n6.ac.aI(show w.heap.size≤N+1+1 by omega);have r2:=ownsRow_base_a n6.ac.bH(show w.heap.size≤N+1+1 by omega);have r3:=ownsRow_base_a n6.ac.bI(show w.heap.size≤N+1+1 by omega);rw [hf]at r1;rw [hc]at r2;rw [hd]at r3;refine⟨af,kf,ac,kc,ad,kd,by rw [hf,hc,hd];rfl,cK,fun W7 hg=>⟨g6,n6.nn.kept fun k hk=>hg.block k(n6.nn.lt hk)(fun e=>by cases e;have:=hl6 _ hk;omega),r1.kept hg(.inr(aA r1 cK(fun c e=>(by cases e)))),r2.kept hg(.inr(aA r2 cK(fun c e=>(by cases e)))),r3.kept hg(.inr(aA r3 cK(fun c e=>(by cases e)))),?_,fun k hk=>by have:=hl6 k hk;omega⟩⟩;have qc:Below w.heap.size w w6:=⟨u6.os.trans hb.os,u6.tape.trans hb.tape,u6.output.trans hb.output,Nat.le_trans hb.size u6.size,fun k hk=>by
   obtain⟨o,ho⟩:∃o,W.heap[k]?=some o:=⟨_,Array.getElem?_eq_getElem(by have:=hb.size;omega)⟩;rw [u6.block k o ho(fun h=>by have:=hl _ h;omega)(.inr(by omega)),←ho];exact hb.block k hk⟩
  exact qc.grown hg qc.size(fun k e=>by cases e;exact Nat.le_refl _)
 by_cases hx:xs=[]
 ·have hs:(⟨me,q,0,0,0,tY me(cmpL J),[],0,fun _=>none,0,0,[],0,[],now,[],[],[],[],false,0⟩:St)=s9:=by
   rw [←acj.out,←hq'.out,←hgo'.out,←hJ'.out];unfold St.raw;rw [if_pos hx,decide_eq_false(fun h=>h hx)]
  rw [hs]at hn hlow;have hlen:xs.length=0:=by rw [hx];rfl
  have HF:=hide(hend.out g W10 hn rV OD hlow);clear hend hn hlow rV OD hs;rw [hlen];go_wp2_with fail
  refine Calls.mono HF.out ?_;rintro e w6⟨af,kf,ac,kc,ad,kd,rfl,cK,HE⟩;rw [hs'.out]at HE ⊢;replace HE:=hide HE;clear hs' HF;have z0:w6.cell?⟨w.heap.size,0,none⟩=some(.string⟨#[]⟩):=cell_of_row _ _ 0 _ _ _ cK;have z1:w6.cell?⟨w.heap.size,1,none⟩=some(.bool false):=cell_of_row _ _ 1 _ _ _ cK;have z2:w6.cell?⟨w.heap.size,2,none⟩=some(.slice none 0 0):=cell_of_row _ _ 2 _ _ _ cK;have z3:w6.cell?⟨w.heap.size,3,none⟩=some(.slice none 0 0):=cell_of_row _ _ 3 _ _ _ cK;have z4:w6.cell?⟨w.heap.size,4,none⟩=some(.slice none 0 0):=cell_of_row _ _ 4 _ _ _ cK;have y0:=frozen_of_row w6 w.heap.size 0 _ _ cK;have y1:=frozen_of_row w6 w.heap.size 1 _ _ cK;have y2:=frozen_of_row w6 w.heap.size 2 _ _ cK;have y3:=frozen_of_row w6 w.heap.size 3 _ _ cK;have y4:=frozen_of_row w6 w.heap.size 4 _ _ cK;generalize hjj:s'.aY=jj;replace hjj:=hide hjj;have gB:=aa(aa(aa(aa(aa(aC w6(some w.heap.size))0(.string jj))1(.bool s'.aZ))2(.slice af s'.aH.length kf))3(.slice ac s'.aR.length kc))4(.slice ad s'.aN.length kd);have dI:(((((w6.setCell⟨w.heap.size,0,none⟩(.string jj)).setCell⟨w.heap.size,1,none⟩(.bool s'.aZ)).setCell⟨w.heap.size,2,none⟩(.slice af s'.aH.length kf)).setCell⟨w.heap.size,3,none⟩(.slice ac s'.aR.length kc)).setCell⟨w.heap.size,4,none⟩(.slice ad s'.aN.length kd)).heap[w.heap.size]?=some(.cells #[.string jj,.bool s'.aZ,.slice af s'.aH.length kf,.slice ac s'.aR.length kc,.slice ad s'.aN.length kd]52):=by
   simp [World.setCell,Array.getElem?_modify,cK]
  have HE7:=hide(HE.out _ gB);clear gB HE;go_wp2
  generalize World.setCell _ _ _=W7 at dI HE7 ⊢;have p0:W7.cell?⟨w.heap.size,0,none⟩=some(.string jj):=cell_of_row _ _ 0 _ _ _ dI;have p1:W7.cell?⟨w.heap.size,1,none⟩=some(.bool s'.aZ):=cell_of_row _ _ 1 _ _ _ dI;have p2:W7.cell?⟨w.heap.size,2,none⟩=some(.slice af s'.aH.length kf):=cell_of_row _ _ 2 _ _ _ dI;have p3:W7.cell?⟨w.heap.size,3,none⟩=some(.slice ac s'.aR.length kc):=cell_of_row _ _ 3 _ _ _ dI;have p4:W7.cell?⟨w.heap.size,4,none⟩=some(.slice ad s'.aN.length kd):=cell_of_row _ _ 4 _ _ _ dI;obtain⟨gE,e1,e2,e3,e4,e5,e6⟩:=HE7.out;exact bodyPost_ret(v:=.tuple #[.pointer(some⟨N,0,none⟩),.agg #[.string jj,.bool s'.aZ,.slice af s'.aH.length kf,.slice ac s'.aR.length kc,.slice ad s'.aN.length kd],.int .i64 0])(by simp [results,Tryz.results19,go_sem,p0,p1,p2,p3,p4])rfl⟨N,gE,.slice af s'.aH.length kf,.slice ac s'.aR.length kc,.slice ad s'.aN.length kd,by rw [←hjj.out];rfl,e1,e2,e3,e4,e5,e6⟩
 ·have hs:({(⟨me,q,0,0,0,tY me(cmpL J),[],0,fun _=>none,0,0,[],0,[],now,[],[],[],[],false,0⟩:St)with bZ:=now+2000,aZ:=true}:St)=s9:=by
   rw [←acj.out,←hq'.out,←hgo'.out,←hJ'.out];unfold St.raw;rw [if_neg hx,decide_eq_true hx]
  have hlen:(0:Int)<(xs.length:Int):=by
   cases xs with
   |nil=>exact absurd rfl hx
   |cons a l=>simp only [List.length_cons];omega
  obtain⟨g2,n2,u2⟩:=Rk hn(now+2000);rw [hs]at n2 u2;have c4:=hn.nn.cr.nd.cell.2.2.2.1;have f4:=hn.nn.cr.nd.free 4;have c5:=hn.ac.blk.cell.2.2.2.1;have f5:=hn.ac.blk.free 3;have hC2:=u2.block w.heap.size _ OD(fun h=>by have:=hlow _ h;omega)(.inr(by omega));have hB2:Below w.heap.size w((W10.setCell⟨N,4,none⟩(.int .u64(now+2000))).setCell⟨N+1,3,none⟩(.bool true)):=⟨u2.os.trans rV.os,u2.tape.trans rV.tape,u2.output.trans rV.output,Nat.le_trans rV.size u2.size,fun k hk=>by
   obtain⟨o,ho⟩:∃o,W10.heap[k]?=some o:=⟨_,Array.getElem?_eq_getElem(by omega)⟩;rw [u2.block k o ho(fun h=>by have:=hlow _ h;omega)(.inr(by omega)),←ho];exact rV.block k hk⟩
  have HF:=hide(hend.out g2 _ n2 hB2 hC2(fun k hk=>(u2.sub k hk).elim(hlow k)(by omega)));clear hend hn hlow rV OD hs n2 u2 hC2 hB2;go_wp2_with fail
  refine Calls.mono HF.out ?_;rintro e w6⟨af,kf,ac,kc,ad,kd,rfl,cK,HE⟩;rw [hs'.out]at HE ⊢;replace HE:=hide HE;clear hs' HF;have z0:w6.cell?⟨w.heap.size,0,none⟩=some(.string⟨#[]⟩):=cell_of_row _ _ 0 _ _ _ cK;have z1:w6.cell?⟨w.heap.size,1,none⟩=some(.bool false):=cell_of_row _ _ 1 _ _ _ cK;have z2:w6.cell?⟨w.heap.size,2,none⟩=some(.slice none 0 0):=cell_of_row _ _ 2 _ _ _ cK;have z3:w6.cell?⟨w.heap.size,3,none⟩=some(.slice none 0 0):=cell_of_row _ _ 3 _ _ _ cK;have z4:w6.cell?⟨w.heap.size,4,none⟩=some(.slice none 0 0):=cell_of_row _ _ 4 _ _ _ cK;have y0:=frozen_of_row w6 w.heap.size 0 _ _ cK;have y1:=frozen_of_row w6 w.heap.size 1 _ _ cK;have y2:=frozen_of_row w6 w.heap.size 2 _ _ cK;have y3:=frozen_of_row w6 w.heap.size 3 _ _ cK;have y4:=frozen_of_row w6 w.heap.size 4 _ _ cK;generalize hjj:s'.aY=jj;replace hjj:=hide hjj;have gB:=aa(aa(aa(aa(aa(aC w6(some w.heap.size))0(.string jj))1(.bool s'.aZ))2(.slice af s'.aH.length kf))3(.slice ac s'.aR.length kc))4(.slice ad s'.aN.length kd);have dI:(((((w6.setCell⟨w.heap.size,0,none⟩(.string jj)).setCell⟨w.heap.size,1,none⟩(.bool s'.aZ)).setCell⟨w.heap.size,2,none⟩(.slice af s'.aH.length kf)).setCell⟨w.heap.size,3,none⟩(.slice ac s'.aR.length kc)).setCell⟨w.heap.size,4,none⟩(.slice ad s'.aN.length kd)).heap[w.heap.size]?=some(.cells #[.string jj,.bool s'.aZ,.slice af s'.aH.length kf,.slice ac s'.aR.length kc,.slice ad s'.aN.length kd]52):=by
   simp [World.setCell,Array.getElem?_modify,cK]
  have HE7:=hide(HE.out _ gB);clear gB HE;go_wp2
  generalize World.setCell _ _ _=W7 at dI HE7 ⊢;have p0:W7.cell?⟨w.heap.size,0,none⟩=some(.string jj):=cell_of_row _ _ 0 _ _ _ dI;have p1:W7.cell?⟨w.heap.size,1,none⟩=some(.bool s'.aZ):=cell_of_row _ _ 1 _ _ _ dI;have p2:W7.cell?⟨w.heap.size,2,none⟩=some(.slice af s'.aH.length kf):=cell_of_row _ _ 2 _ _ _ dI;have p3:W7.cell?⟨w.heap.size,3,none⟩=some(.slice ac s'.aR.length kc):=cell_of_row _ _ 3 _ _ _ dI;have p4:W7.cell?⟨w.heap.size,4,none⟩=some(.slice ad s'.aN.length kd):=cell_of_row _ _ 4 _ _ _ dI;obtain⟨gE,e1,e2,e3,e4,e5,e6⟩:=HE7.out;exact bodyPost_ret(v:=.tuple #[.pointer(some⟨N,0,none⟩),.agg #[.string jj,.bool s'.aZ,.slice af s'.aH.length kf,.slice ac s'.aR.length kc,.slice ad s'.aN.length kd],.int .i64 0])(by simp [results,Tryz.results19,go_sem,p0,p1,p2,p3,p4])rfl⟨N,gE,.slice af s'.aH.length kf,.slice ac s'.aR.length kc,.slice ad s'.aN.length kd,by rw [←hjj.out];rfl,e1,e2,e3,e4,e5,e6⟩
theorem Wh {x0 x1 x2 x4:Int} {r:List Int}(hb:∀x∈r,0≤x∧x≤255)(h0:0≤x0∧x0≤255)(h1:0≤x1∧x1≤255)(h4:0≤x4∧x4≤255):(fU x0 x1 x2 x4 r).Wf:=by
 have hn:=fun i=>K6 hb i;have q0:=hn 0;have q1:=hn 1;have q2:=hn 2;have q3:=hn 3;have q4:=hn 4;have hz:(⟨#[]⟩:ByteArray).size=0:=rfl;unfold fU;split
 ·constructor<;>(dsimp only;omega)
 split
 ·constructor<;>(dsimp only;omega)
 split
 ·constructor<;>(dsimp only;omega)
 split
 ·have:(strOfNums((r.drop 12).take x4.toNat)).size≤255:=by
   rw [strOfNums_size,List.length_take];omega
  constructor<;>(dsimp only;omega)
 ·constructor<;>(dsimp only;omega)
def St.Ph(s:St):Prop:=∀q∈s.Q,0<q.id
theorem uD {s:St} {q:Sr}(h:∀z∈s.Q,z.dest≠q.dest→0<z.id)(ht:0≤s.tl):(s.ask q).Ph∧0≤(s.ask q).tl:=by
 obtain⟨o,h1,h2⟩:=G6 s q;refine⟨fun z hz=> ?_,by omega⟩;rw [h1]at hz;rcases eZ hz with rfl|⟨k1,k2⟩
 ·dsimp only;omega
 ·exact h z k1 k2
theorem BH(s:St)(d:Int):(∀z∈(s.bP d).Q,z∈s.Q)∧(s.bP d).tl=s.tl:=by
 have ht:∀(l:List ByteArray)(s:St),(l.foldl(fun s t=>s.aX d t)s).tl=s.tl:=by
  intro l
  induction l with
  |nil=>intro s;rfl
  |cons a l ih=>
   intro s;rw [List.foldl_cons,ih];unfold St.aX;split<;>rfl
 unfold St.bP;split
 ·exact⟨fun _ h=>h,rfl⟩
 ·split
  ·exact⟨fun z hz=>(List.mem_filter.1 hz).1,ht _ _⟩
  ·exact⟨fun _ h=>h,rfl⟩
theorem QN {s:St}(h:s.Ph)(ht:0≤s.tl)(q:Sr):(s.step q).Ph∧0≤(s.step q).tl:=by
 unfold St.step;split
 ·obtain⟨h1,h2⟩:=BH s q.dest;exact⟨fun z hz=>h z(h1 z hz),by omega⟩
 ·split
  ·unfold St.widen;split
   ·exact uD(fun z hz _=>h z hz)ht
   ·split
    ·exact uD(fun z hz _=>h z hz)ht
    ·split
     ·exact uD(fun z hz _=>h z hz)ht
     ·exact⟨fun z hz=>h z(List.mem_filter.1 hz).1,ht⟩
  ·exact uD(fun z hz _=>h z hz)ht
theorem V_ {s:St}(h:s.Ph)(ht:0≤s.tl)(now:Int):(s.j6 now).Ph:=by
 have key:∀(D:List Sr)(z:St),z.Ph→0≤z.tl→(D.foldl St.step z).Ph:=by
  intro D
  induction D with
  |nil=>intro z h _;exact h
  |cons q D ih=>
   intro z hz htz;rw [List.foldl_cons];obtain⟨h1,h2⟩:=QN hz htz q;exact ih _ h1 h2
 have h1:=key(St.j3 s.Q now)(s.aQ.begin now)h ht;intro q hq;refine h1 q ?_;have e:=(aO((St.j3 s.Q now).foldl St.step(s.aQ.begin now))).Q;rw [←e];exact hq
theorem Wd {s:St}(h:s.Ph)(ht:0≤s.tl)(now d:Int)(t:ByteArray):(s.snd now d t).Ph:=by
 have e:=(aO(if(bF(s.aQ.begin now).A d(s.aQ.begin now).now).2 then(s.aQ.begin now).aX d t else(s.aQ.begin now).gG d t)).Q;intro q hq;have hq':q∈(if(bF(s.aQ.begin now).A d(s.aQ.begin now).now).2 then(s.aQ.begin now).aX d t else(s.aQ.begin now).gG d t).Q:=by
  rw [←e];exact hq
 split at hq'
 ·rw [(fQ _ _ _).1]at hq';exact h q hq'
 ·unfold St.gG at hq';split at hq'
  ·rename_i q0 hs;have hm:=(iL hs).1;have:∀q':Sr,q'.id=q0.id→∀z∈St.di s.Q q',0<z.id:=fun q' e z hz=>by
    rcases eZ hz with rfl|⟨k1,_⟩
    ·rw [e];exact h q0 hm
    ·exact h z k1
   unfold St.hold at hq';split at hq'
   ·exact this {q0 with txt:=q0.txt.tail++ [t]}rfl q hq'
   ·exact this {q0 with txt:=q0.txt++ [t]}rfl q hq'
  ·refine(uD(s:={s.aQ.begin now with Q:=(s.aQ.begin now).Q++ [St.iA d t]})(q:=St.iA d t)(fun z hz hne=> ?_)ht).1 q hq';rcases List.mem_append.1 hz with k|k
   ·exact h z k
   ·rw [List.mem_singleton]at k;rw [k]at hne;exact absurd rfl hne
end Go.Proofs.YtakaadcpaeiccabGreat
