import Derived.Test.YtakaadcpaeiccabGreatC52
set_option maxHeartbeats 8000000
set_option maxRecDepth 100000
namespace Go.Proofs.YtakaadcpaeiccabGreat
open Go.RowKit Go.Maps Go.MuLone
theorem XY(dX:Int) {A:List Rt}(hA:∀y∈A,y.Ok):∀x∈nG dX A,0≤x.1∧x.1<4294967296∧0≤x.2∧x.2<4294967296:=by
 intro x hx;obtain⟨y,hy,e⟩:=List.mem_filterMap.1 hx;unfold Bf at e;split at e
 ·cases e;have h1:=(hA y hy).dest;have h2:=tK(hA y hy).seq;unfold bg at h1 h2;dsimp only;omega
 ·cases e
theorem Pn {N B:Nat} {g:bA} {s:St} {TL:List Hp.Tm} {w:World}(n:Nd N B g s TL w)(dX:Int):
  Calls Tryz.prog 138 #[.pointer(some⟨g.x.T,0,none⟩),.int .u32 dX]w fun e w'=>∃ao c,e=.returned(.slice ao(nG dX s.A).length c)∧bu w' ao(nG dX s.A)∧lg N B g s {s with A:=s.A.map(bY dX 0)}TL w w':=by
 refine(Kg dX n.nn.cr.tb(S:=mg g.x.T g.M g.ff g.gg s.A)(fun _ h=>h)(fun k hk=>n.nn.cr.tb.lt hk)).mono ?_;rintro e w'⟨v,vY,rfl,h1,h2,h3,h4⟩;obtain⟨ao,c,rfl,hH⟩:=Br h1(XY dX n.nn.cr.tb.ok);exact⟨ao,c,rfl,hH,n.vH⟨g.M,g.ff,vY,by rw [←n.nn.eq.self];exact h2,fun k hk=> .inl(h3 k hk)⟩h4⟩
theorem VC(A:List Rt)(f:Rt→Rt)(hf:∀y,(f y).dest=y.dest):∀y∈A,∃z∈A.map f,z.dest=y.dest:=fun y hy=>⟨f y,List.mem_map.2⟨y,hy,rfl⟩,hf y⟩
theorem Ux {N:Nat} {g:bA} {s:St} {TL:List Hp.Tm} {w:World}(n:Nn N g s TL w) {k:Int}(hI:s.Inv k)(hT:dM s TL)(now dX:Int)(fq:s.now≤now∧now≤4611686018427387904):
  Calls Tryz.prog 100 #[.pointer(some⟨N,0,none⟩),.int .u64 now,.int .u32 dX]w fun e w'=>∃o,e=.returned o∧Hid((s.brk now dX).Inv(k+1))∧Az N g s(s.brk now dX)w o w':=by
 have hA:=n.cr.tb.ok;have hl:=n.cr.tb.len;have hb0:Below w.heap.size w(w.alloc iN):=(Below.refl _ _).alloc(Nat.le_refl _)_;have hC0:(w.alloc iN).heap[w.heap.size]?=some iN:=heap_alloc_new _ _;have jS:¬Ft N g s w.heap.size:=fun h=>by have:=n.lt h;omega
 have hs0:(w.alloc iN).heap.size=w.heap.size+1:=by simp
 have n0:=n.later hb0;have hM:=(qB hI).2 now fq hA hl;obtain⟨s3,hs3⟩:∃z,s.aQ.begin now=z:=⟨_,rfl⟩;rw [hs3]at hM;have Gq:Hid(s3.lk=1):=by show _=_;rw [←hs3];rfl
 have LW:Hid(s3.Q=s.Q):=by show _=_;rw [←hs3];rfl
 have w_:Hid(s3.now=now):=by show _=_;rw [←hs3];rfl
 have Sq:Hid(s3.me=s.me):=by show _=_;rw [←hs3];rfl
 replace hM:=hide hM;dsimp only [iN]at hb0 hC0 hs0 n0
 go_enter_defers Tryz.func100,Tryz.ntmps100
 go_upto_region 1 with(fail)
 generalize World.alloc _ _=W1 at hb0 hC0 hs0 n0 ⊢;obtain⟨c0,f0⟩:=n0.Ib;rw [hI.lk]at c0;go_wp2_with fail
 refine Calls.mono(lock_free lu⟨N,0,none⟩W1 c0 f0) ?_;rintro e w2⟨rfl,rfl⟩;obtain⟨n2,hg2⟩:=n0.j_ 1;have hf2:Fx(Ft N g s)w(W1.setCell⟨N,0,none⟩(.int .i32 1)):=aT(Fx.below hb0)hg2(fun i _ e=>by cases e;exact .inl(.inl rfl));have hC2:=(hg2.block w.heap.size(by omega)(fun e=>jS(by cases e;exact .inl(.inl rfl)))).trans hC0;have hs2:w.heap.size+1≤(W1.setCell⟨N,0,none⟩(.int .i32 1)).heap.size:=by
  have:=hg2.size;omega
 have hcn:=hI.cnt;have HB:=hide(yn n2 now⟨hI.dom.mb,hI.dom.on,hI.dom.own⟩⟨hcn.1,by dsimp only;omega⟩);rw [show({s with lk:=1}:St).begin now=s3 from hs3]at HB;have hF1:Hid(∀k,Ft N({g with x:={g.x with lk:=1}}:bA)({s with lk:=1}:St)k→Ft N g s k):=fun k h=>h;replace hs3:=hide hs3;clear n0 hC0 hs0 hb0 c0 f0 hg2 hA hl hcn;generalize({g with x:={g.x with lk:=1}}:bA)=g1 at n2 HB hF1;generalize({s with lk:=1}:St)=s1 at n2 HB hF1;generalize World.setCell _ _ _=W2 at n2 hf2 hC2 hs2 HB ⊢;go_wp2_with fail
 refine Calls.mono HB.out ?_;rintro e w3⟨g3,rfl,n3,u3,YT,t3⟩;clear t3;clear HB;have Ta:Hid(dM s3 TL):=by
  show dM _ _;unfold dM;rw [LW.out];exact hT
 have HR:=hide(Pn n3 dX);have hbl:=qR dX s3.A;have hA8:=n3.nn.cr.tb.len;obtain⟨c2,c3,c4,c7,c0⟩:=n3.cell;obtain⟨s4,hs4⟩:∃z,({s3 with A:=s3.A.map(bY dX 0)}:St)=z:=⟨_,rfl⟩;have he4:Hid(Eff 0 s3 s4):=by
  show Eff 0 s3 s4;rw [←hs4];exact pR s3(VC _ _(dZ dX 0))
 rw [hs4]at HR;replace hs4:=hide hs4;have Gr:Hid(s4.aH.length≤1000000):=by
  show _≤_;have:=he4.out.aH;have:=hM.out.aH;omega
 clear YT n2 n3;go_wp2_with fail
 refine Calls.mono HR.out ?_;rintro e w4⟨ao,c,rfl,hH,g4,n4,u4,t4⟩;have HL:=hide(Uq n4 0 ao c(nG dX s3.A)(by omega)hH Gr.out);have pI:=u3.trans u4;clear HR c2 c3 c4 c7 c0 n4 u4 hH u3;go_wp2_with fail
 refine Calls.mono HL.out ?_;rintro e w5⟨rfl,g5,n5,u5,t5⟩;obtain⟨s5,hs5⟩:∃z,s4.mi 0(nG dX s3.A)=z:=⟨_,rfl⟩;have he5:Hid(Eff 1 s4 s5):=by
  show Eff 1 s4 s5;rw [←hs5];exact qP _ _ _
 rw [hs5]at n5 u5;have Xc:Hid(dM s5 TL):=by
  show dM _ _;unfold dM;rw [←hs5,←hs4.out];exact Ta.out
 have nE:Hid(s5.Mid k 2):=uF(uF hM.out he4.out)he5.out;have DK:Hid(s5.lk=1):=(he5.out.lk.trans he4.out.lk).trans Gq.out;have xE:=pI.trans u5;replace hs5:=hide hs5;clear HL u5 pI he4 he5 Gr hbl hA8;have LX:=hide(lV nE.out(by omega)n5.nn.cr.tb.ok n5.nn.cr.tb.len);have ME:=hide(oq n5 nE.out.dom(by have:=nE.out.cnt;omega)(by have:=nE.out.a_;omega)nE.out.bd nE.out.seq);go_wp2_with fail
 refine Calls.mono ME.out ?_;rintro e w6⟨g6,rfl,n6,u6,t6⟩;obtain⟨s6,hs6⟩:∃z,s5.finish=z:=⟨_,rfl⟩;have DJ:s6.lk=1:=by rw [←hs6,(aO s5).lk];exact DK.out
 have Xb:Hid(dM s6 TL):=by
  show dM _ _;unfold dM;rw [←hs6,(aO s5).Q];exact Xc.out
 have jo:Hid(s.brk now dX=s6.freed):=by
  show _=_;rw [←hs6];unfold St.brk St.broken;rw [hs3.out];dsimp only;rw [hs4.out,hs5.out]
 rw [hs6]at n6 u6 LX ⊢;have mI:=xE.trans u6;clear ME hs6 u6 n5 xE;have DY:=mI.Qd(Nat.le_refl _);have mU:∀k,Ft N g6 s6 k→Ft N g s k∨(w.heap.size≤k∧k<w6.heap.size):=fun k hk=>(mI.sub k hk).elim(fun h=> .inl(hF1.out k h))fun h=> .inr⟨by omega,h.2⟩;have cK:=(DY.block w.heap.size(by omega)(fun h=>jS(hF1.out _ h))).trans hC2;have jY:¬Ft N g6 s6 w.heap.size:=fun h=>(mI.sub _ h).elim(fun h=>jS(hF1.out _ h))(by omega);have LP:=hf2.trans DY(fun i _ h=>hF1.out i h);have r1:=ownsRow_base_a n6.ac.aI(show w.heap.size≤W2.heap.size+1 by omega);have r2:=ownsRow_base_a n6.ac.bH(show w.heap.size≤W2.heap.size+1 by omega);have r3:=ownsRow_base_a n6.ac.bI(show w.heap.size≤W2.heap.size+1 by omega);have m6:=n6.nn;obtain⟨af,kf,hf,_⟩:=ak r1;obtain⟨ac,kc,hc,_⟩:=ak r2;obtain⟨ad,kd,hdd,_⟩:=ak r3;rw [hf]at r1;rw [hc]at r2;rw [hdd]at r3;rw [hf,hc,hdd];simp only [iE];clear n6 hf hc hdd mI DY hf2 hC2;generalize hjj:s6.aY=jj;replace hjj:=hide hjj;have z0:w6.cell?⟨w.heap.size,0,none⟩=some(.string⟨#[]⟩):=cell_of_row _ _ 0 _ _ _ cK;have z1:w6.cell?⟨w.heap.size,1,none⟩=some(.bool false):=cell_of_row _ _ 1 _ _ _ cK;have z2:w6.cell?⟨w.heap.size,2,none⟩=some(.slice none 0 0):=cell_of_row _ _ 2 _ _ _ cK;have z3:w6.cell?⟨w.heap.size,3,none⟩=some(.slice none 0 0):=cell_of_row _ _ 3 _ _ _ cK;have z4:w6.cell?⟨w.heap.size,4,none⟩=some(.slice none 0 0):=cell_of_row _ _ 4 _ _ _ cK;have y0:=frozen_of_row w6 w.heap.size 0 _ _ cK;have y1:=frozen_of_row w6 w.heap.size 1 _ _ cK;have y2:=frozen_of_row w6 w.heap.size 2 _ _ cK;have y3:=frozen_of_row w6 w.heap.size 3 _ _ cK;have y4:=frozen_of_row w6 w.heap.size 4 _ _ cK;have gB:=aa(aa(aa(aa(aa(aC w6(some w.heap.size))0(.string jj))1(.bool s6.aZ))2(.slice af s6.aH.length kf))3(.slice ac s6.aR.length kc))4(.slice ad s6.aN.length kd);have dI:(((((w6.setCell⟨w.heap.size,0,none⟩(.string jj)).setCell⟨w.heap.size,1,none⟩(.bool s6.aZ)).setCell⟨w.heap.size,2,none⟩(.slice af s6.aH.length kf)).setCell⟨w.heap.size,3,none⟩(.slice ac s6.aR.length kc)).setCell⟨w.heap.size,4,none⟩(.slice ad s6.aN.length kd)).heap[w.heap.size]?=some(.cells #[.string jj,.bool s6.aZ,.slice af s6.aH.length kf,.slice ac s6.aR.length kc,.slice ad s6.aN.length kd]52):=by
  simp [World.setCell,Array.getElem?_modify,cK]
 have r1:=r1.kept gB(.inr(aA r1 cK(fun c e=>(by cases e))));have r2:=r2.kept gB(.inr(aA r2 cK(fun c e=>(by cases e))));have r3:=r3.kept gB(.inr(aA r3 cK(fun c e=>(by cases e))));have m7:=m6.kept fun k hk=>gB.block k(m6.lt hk)(fun e=>jY(by cases e;exact hk));have pg:=aT LP gB(fun i hi e=>by cases e;omega);have jP:=fun k hk=>(mU k hk).dh fun h=>(⟨h.1,Nat.lt_of_lt_of_le h.2 gB.size⟩:w.heap.size≤k∧_);clear m6 gB LP cK mU;go_wp2_with fail
 generalize World.setCell _ _ _=W7 at dI r1 r2 r3 m7 pg jP ⊢;have p0:W7.cell?⟨w.heap.size,0,none⟩=some(.string jj):=cell_of_row _ _ 0 _ _ _ dI;have p1:W7.cell?⟨w.heap.size,1,none⟩=some(.bool s6.aZ):=cell_of_row _ _ 1 _ _ _ dI;have p2:W7.cell?⟨w.heap.size,2,none⟩=some(.slice af s6.aH.length kf):=cell_of_row _ _ 2 _ _ _ dI;have p3:W7.cell?⟨w.heap.size,3,none⟩=some(.slice ac s6.aR.length kc):=cell_of_row _ _ 3 _ _ _ dI;have p4:W7.cell?⟨w.heap.size,4,none⟩=some(.slice ad s6.aN.length kd):=cell_of_row _ _ 4 _ _ _ dI;obtain⟨c0,f0⟩:=m7.Ib;rw [DJ]at c0;refine leaves_cons(f:=50)(args:=#[.pointer(some⟨N,0,none⟩)])(by simp)(by simp [go_sem]) ?_;refine(unlock_deferred lu⟨N,0,none⟩ .returning W7 c0 f0).mono ?_;rintro e u' w''⟨rfl,rfl,rfl⟩;obtain⟨m8,jh⟩:=m7.j_ 0;have AO:N≠w.heap.size:=fun e=>jY(by rw [←e];exact .inl(.inl rfl));have bU:=(jh.block w.heap.size(aD dI)(fun e=>by cases e;exact AO rfl)).trans dI;have r1:=r1.kept jh(.inr(aA r1 m7.cr.nd(fun c e=>(by cases e))));have r2:=r2.kept jh(.inr(aA r2 m7.cr.nd(fun c e=>(by cases e))));have r3:=r3.kept jh(.inr(aA r3 m7.cr.nd(fun c e=>(by cases e))));have xc:=aT pg jh(fun i hi e=>by cases e;exact .inl(.inl rfl));have mR:=fun k hk=>(jP k hk).dh fun h=>(⟨h.1,Nat.lt_of_lt_of_le h.2 jh.size⟩:w.heap.size≤k∧_);clear p0 p1 p2 p3 p4 c0 f0 jh m7 pg jP dI;generalize World.setCell _ _ _=W8 at bU r1 r2 r3 m8 xc mR ⊢;have p0:W8.cell?⟨w.heap.size,0,none⟩=some(.string jj):=cell_of_row _ _ 0 _ _ _ bU;have p1:W8.cell?⟨w.heap.size,1,none⟩=some(.bool s6.aZ):=cell_of_row _ _ 1 _ _ _ bU;have p2:W8.cell?⟨w.heap.size,2,none⟩=some(.slice af s6.aH.length kf):=cell_of_row _ _ 2 _ _ _ bU;have p3:W8.cell?⟨w.heap.size,3,none⟩=some(.slice ac s6.aR.length kc):=cell_of_row _ _ 3 _ _ _ bU;have p4:W8.cell?⟨w.heap.size,4,none⟩=some(.slice ad s6.aN.length kd):=cell_of_row _ _ 4 _ _ _ bU;refine⟨.agg #[.string jj,.bool s6.aZ,.slice af s6.aH.length kf,.slice ac s6.aR.length kc,.slice ad s6.aN.length kd],by simp [results,Tryz.results100,go_sem,p0,p1,p2,p3,p4],_,rfl,?_⟩;rw [jo.out];refine⟨LX,_,TL,.slice af s6.aH.length kf,.slice ac s6.aR.length kc,.slice ad s6.aN.length kd,?_,m8,Xb.out,r1,r2,r3,xc,mR⟩;rw [←hjj.out];rfl
theorem sF {P:Program} {w:World} {ops:Array Oper} {rest:List Oper} {o:Oper} {a:Act} {Q:Exit→Act→World→Prop}(hg:o.guard=none)(s x:Operand)(t:TypeId)(hop:o.op=Op.call {callee:=Callee.builtin Builtin.append,args:=#[s,x],argTypes:=#[t,t]})
  (base:Nat)(e:TypeId)(i:TypeInfo)(z:Value)(size bytes:Nat)(h1:P.underlying t=some(.slice e))(h2:P.info? e=some i)(h3:i.zero=some z)(h4:i.size=size)(h5:i.bytes=bytes)(h6:z.cells.size=size)(h7:0<size)
  (v:Value)(n:Nat)(xs:List Value)(hs:a.eval s=v)(hown:w.ownsRow base e size v n xs)
  (Mg:Nat)(v2:Value)(m:Nat)(ys:List Value)(hx:a.eval x=v2)(hown2:w.ownsRow Mg e size v2 m ys)(h1c:∀u∈ys,u.oneCell'=true)
  (b1:n+m≤maxLen)(b2:(n+m)* bytes≤140737488355328)(hbase:base≤w.heap.size)
  (hK:∀v' w',w'.ownsRow base e size v'(n+m)(xs++ys)→w.grownBy w' v.ownBlock→wpList P ops Q rest(a.put o.dst v')w'):
  wpList P ops Q(o::rest)a w:=by
 refine wpList_plain hg fun K hKK=> ?_;have h:=kr(ops:=ops)(E:=True)(K:=K)(Q:=Q)hg s x t hop base e i z size bytes h1 h2 h3 h4 h5 h6 h7 v n xs hs hown Mg v2 m ys hx hown2 h1c b1 b2 hbase fun v' w' k1 k2=>hKK _ _(hK v' w' k1 k2);have hw:Region.wanted o(yielded ops a.tmps)=true:=by simp [Region.wanted,hg]
 rw [if_pos hw]at h;exact h
theorem Qa {h:Nat}(hb:h<1000000000):wrap64((h:Int)+1)=(h:Int)+1:=by unfold wrap64;omega
theorem jg {l h:Nat}(hh:h<l):l - (intOf(.int .i64((h:Int)+1))).toNat<l - (intOf(.int .i64(h:Int))).toNat:=by
 simp [intOf];omega
def iV(y:MG)(m m':aK)(evs:List Ev)(b:Nat)(w:World)(e:Ending)(w':World):Prop:=∃v L,e=.returned v∧L.map(·.1)=evs∧gH b v L w'∧MP y m m' w w'
theorem xC {y:MG} {m:aK} {w:World}(h:MM y m w)(i:Nat)(hi:i<m.S.length)(hn:m.S.length≤6)(ha:m.bG.length≤48)(f:Int×ByteArray)
  (hI:∀z,(m.at' i).nd=some z→∃k,z.Inv k∧z.now≤m.now)(fq:m.now≤4611686018427387904)
  (HD:f.1≠0→∀z,((m.bR i f).at' i).nd=some z→∀y1 w1 b aI bH bI,MM y1((m.bR i f).put i {(m.bR i f).at' i with nd:=some(z.brk m.now f.1)})w1→b≤w1.heap.size→h_ b(z.brk m.now f.1).aH(z.brk m.now f.1).aR(z.brk m.now f.1).aN aI bH bI w1→
   Calls Tryz.prog 36 #[.pointer(some⟨y1.G,0,none⟩),.int .i64 i,iE(z.brk m.now f.1).aY(z.brk m.now f.1).aZ aI bH bI]w1(iV y1((m.bR i f).put i {(m.bR i f).at' i with nd:=some(z.brk m.now f.1)})(((m.bR i f).put i {(m.bR i f).at' i with nd:=some(z.brk m.now f.1)}).Be i(z.brk m.now f.1).ot).1(((m.bR i f).put i {(m.bR i f).at' i with nd:=some(z.brk m.now f.1)}).Be i(z.brk m.now f.1).ot).2 b w1)):
  Calls Tryz.prog 67 #[.pointer(some⟨y.G,0,none⟩),.int .i64 i,.agg #[.int .u32 f.1,.string f.2]]w(iV y m(m.iO i f).1(m.iO i f).2 w.heap.size w):=by
 obtain⟨t,s⟩:=f;dsimp only at HD ⊢;have hb0:Below w.heap.size w(w.alloc(.cells #[.int .u32 t,.string s]77)):=(Below.refl _ _).alloc(Nat.le_refl _)_;have hC:=heap_alloc_new w(.cells #[.int .u32 t,.string s]77);have h1:=h.later hb0;obtain⟨xi,si,g0,c0,e1,e2,e3,e4,p0⟩:=h1.get hi;obtain⟨q0,q1,q2,fz⟩:=h1.cell;rw [e4]at q1;have hin:(i:Int)<(m.S.length:Int):=by omega
 have hlt:=fun k(hk:oz y m k)=>h.lt hk;clear h;go_enter Tryz.func67,Tryz.ntmps67
 go_upto_region 1 with(fail)
 generalize World.alloc _ _=W1 at hb0 hC h1 p0 q0 q1 q2 fz ⊢;generalize lm:w.heap.size=C at hC ⊢;have hst:Hid(∀(k:Nat)(hv:Value),True):=fun _ _=>trivial;have qH:Hid(∃y',MM y'(iP m i(t,s)0)W1∧MU y m y'(iP m i(t,s)0)w W1∧W1.heap[C]?=some(.cells #[.int .u32 t,.string s]77)):=⟨y,h1,(MU.refl _ _ _).pre hb0,hC⟩;clear q0 q2 fz;go_upto_region 4 with(fail)
 clear p0 q1 hb0 hC;go_loopw [8,23](fun hv iv wr=>∃k:Nat,k≤m.S.length∧iv=.int .i64 k∧hv=.bool(!((List.range k).filter(jq m i t)).isEmpty)∧Hid(∃y',MM y'(iP m i(t,s)k)wr∧MU y m y'(iP m i(t,s)k)w wr∧wr.heap[C]?=some(.cells #[.int .u32 t,.string s]77)))(fun _ iv _=>m.S.length - (intOf iv).toNat)
 case atStart=>exact⟨0,Nat.zero_le _,rfl,rfl,qH⟩
 case round=>
  clear qH h1;obtain⟨k,hk,rfl,rfl,hr⟩:=hrel;by_cases hkl:k<m.S.length
  ·have hki:(k:Int)<(m.S.length:Int):=by omega
   obtain⟨y',hm,hu,Ce⟩:=hr.out;have hS:=(nR m i(t,s)k).1;obtain⟨xk,sk,g,c,a1,a2,a3,a4,d0⟩:=hm.get(i:=k)(by rw [hS];exact hkl);obtain⟨xj,sj,g',c',b1,b2,b3,b4,_⟩:=hm.get(i:=i)(by rw [hS];exact hi);have hgg:g=g0:=by
    have h5:=a4;rw [hu.sv,e4]at h5;injection h5 with h5 _ _;injection h5 with h5;injection h5 with h5 _ _;exact h5.symm
   subst hgg;have hjB:xj.B=xi.B:=hu.at e1 b1;have hjs:sj=si:=by
    rw [hS,e2]at b2;exact(Option.some.inj b2).symm
   subst hjs;obtain⟨_,_,_,_,_,hh,_⟩:=(hm.st i xj sj b1 b2).cell;rw [hjB]at hh;have hhl:=(hm.st i xj sj b1 b2).hl;have YK:k<sj.hrs.length:=by omega
   have hcell:=hh k _(List.getElem?_eq_getElem YK);have hcA:=(hm.st k xk sk a1 a2).cell.1;have t0:wr.cell?⟨C,0,none⟩=some(.int .u32 t):=cell_of_row _ _ 0 _ _ _ Ce;have t1:wr.cell?⟨C,1,none⟩=some(.string s):=cell_of_row _ _ 1 _ _ _ Ce;have Td:jq m i t k=(sj.hrs[k]&&(decide(t=0)||decide(t=sk.addr))):=by
    unfold jq;rw [e3,List.getD_eq_getElem?_getD,List.getElem?_eq_getElem YK,←adC hS k,a3];rfl
   generalize sj.hrs[k]=hb at hcell Td;have afV:(k:Int)<6:=by omega
   have hL:Hid(∀q,jq m i t k=true→Calls Tryz.prog 64 #[.pointer(some⟨y.G,0,none⟩),.agg #[.int .i64 i,.int .i64 k,.string s]](wr.drewN q)fun e w'=>e=.returned(.tuple #[])∧∃y',MM y'(iP m i(t,s)(k+1))w'∧MU y m y'(iP m i(t,s)(k+1))w w'∧w'.heap[C]?=some(.cells #[.int .u32 t,.string s]77)):=fun q hp=>by
    have SI:Below wr.heap.size wr(wr.drewN q):=lM wr q;have hl:=Hq(hm.later SI)(by have:=yK m i(t,s)k ha;omega)(i,k,s);rw [hu.G]at hl;refine hl.mono ?_;rintro e w2⟨rfl,y2,hm2,hu2⟩;rw [wN,if_pos hp];have hCq:(wr.drewN q).heap[C]?=some(.cells #[.int .u32 t,.string s]77):=(SI.block C(aD Ce)).trans Ce;exact⟨rfl,y2,hm2,(hu.post SI).trans hu2,(hu2.fx.block C(aD hCq)((hm.later SI).notE(by decide)hCq)).trans hCq⟩
   have hN:Hid(∀q,jq m i t k=false→∃y',MM y'(iP m i(t,s)(k+1))(wr.drewN q)∧MU y m y'(iP m i(t,s)(k+1))w(wr.drewN q)∧(wr.drewN q).heap[C]?=some(.cells #[.int .u32 t,.string s]77)):=fun q hp=>by
    have SI:Below wr.heap.size wr(wr.drewN q):=lM wr q;rw [wN,if_neg(by rw [hp];simp)];exact⟨y',hm.later SI,hu.post SI,(SI.block C(aD Ce)).trans Ce⟩
   have hw64:wrap64((k:Int)+1)=(k:Int)+1:=by unfold wrap64;omega
   have hfl:Hid(∀b,jq m i t k=b→(!((List.range(k+1)).filter(jq m i t)).isEmpty)=(b||!((List.range k).filter(jq m i t)).isEmpty)):=by
    intro b hb;rw [List.range_succ,List.filter_append];cases b
    ·simp [hb]
    ·simp [hb]
   obtain⟨pk,hpk⟩:∃b,jq m i t k=b:=⟨_,rfl⟩;rw [hpk]at Td hL hN hfl;replace hfl:=hide(hfl.out _ rfl);clear hr hm hu Ce a1 a2 a3 a4 b1 b2 b3 b4 hjB hh hhl YK hS e2 e3 e4 hpk;generalize(!((List.range k).filter(jq m i t)).isEmpty)=hv at hfl ⊢;obtain⟨hv2,RZ⟩:∃b,(!((List.range(k+1)).filter(jq m i t)).isEmpty)=b:=⟨_,rfl⟩;rw [RZ]at hfl;replace RZ:=hide RZ;go_upto_region 6 with(fail)
   go_cut [47]from 28 to 47(fun v W=>v=.bool pk∧∃q,W=wr.drewN q)
   case first=>
    clear hL hN hfl;cases hb
    ·obtain rfl:pk=false:=by rw [Td];rfl
     clear Td hw64;go_quiet(fail)
     go_wp2_with fail
     go_meet
     exact⟨rfl,_,rfl⟩
    ·by_cases h0:t=0
     ·obtain rfl:pk=true:=by rw [Td];simp [h0]
      subst h0;clear Td hw64;go_quiet(fail)
      go_wp2_with fail
      go_meet
      exact⟨rfl,_,rfl⟩
     ·have h0':(t==0)=false:=by simpa using h0
      by_cases h2:t=sk.addr
      ·obtain rfl:pk=true:=by rw [Td];simp [h2]
       subst h2;clear Td hw64;go_quiet(fail)
       go_wp2_with fail
       go_meet
       exact⟨by simp,_,rfl⟩
      ·obtain rfl:pk=false:=by rw [Td];simp [h0,h2]
       have h2':(t==sk.addr)=false:=by simpa using h2
       clear Td hw64;go_quiet(fail)
       go_wp2_with fail
       go_meet
       exact⟨by simp [h2],_,rfl⟩
   case rest=>
    obtain⟨rfl,q,rfl⟩:=hcut;clear Td;have hk1:k+1≤m.S.length:=by omega
    have hme:=jg hkl;cases pk
    ·have hr2:=hide(hN.out q rfl);have R4:=hfl.out;rw [Bool.false_or]at R4;subst R4;clear hL hN hfl t0 t1 hcell hcA d0;generalize World.drewN _ _=W5 at hr2 ⊢;go_wp2
     go_roundw
     case rel=>exact⟨k+1,hk1,by go_num,by rw [RZ.out],hr2⟩
     case measure=>exact hme
    ·have hL2:=hide(hL.out q rfl);have R4:=hfl.out;rw [Bool.true_or]at R4;subst R4;have SI:Below wr.heap.size wr(wr.drewN q):=lM wr q;have t1':(wr.drewN q).cell?⟨C,1,none⟩=some(.string s):=(SI.cell(World.block_lt_of_cell? _ _ t1)).trans t1;clear hL hN hfl t0 t1 hcell hcA d0 SI;generalize World.drewN _ _=W5 at hL2 t1' ⊢;go_wp2_with fail
     refine Calls.mono hL2.out ?_;rintro e w2⟨rfl,hr2⟩;replace hr2:=hide hr2;clear hL2 t1';go_wp2
     go_roundw
     case rel=>exact⟨k+1,hk1,by go_num,by rw [RZ.out],hr2⟩
     case measure=>exact hme
  ·obtain rfl:k=m.S.length:=by omega
   obtain⟨y',hm,hu,Ce⟩:=hr.out;rw [oM]at hm hu;have hS:(m.bR i(t,s)).S=m.S:=(nR m i(t,s)m.S.length).1;have AO:(m.bR i(t,s)).now=m.now:=(nR m i(t,s)m.S.length).2;obtain⟨xj,sj,g',c',b1,b2,b3,b4,_⟩:=hm.get(i:=i)(by rw [hS];exact hi);have hjB:xj.B=xi.B:=hu.at e1 b1;have hc2:=(hm.st i xj sj b1 b2).cell.2.2.1;rw [hjB]at hc2;have hheard:(List.range m.S.length).filter(jq m i t)=m.heard i t:=rfl;rw [hheard];have t0:wr.cell?⟨C,0,none⟩=some(.int .u32 t):=cell_of_row _ _ 0 _ _ _ Ce;have hlow:w.heap.size≤wr.heap.size:=hu.fx.size;by_cases hh:m.heard i t≠ []∨t=0
   ·have ho:m.iO i(t,s)=(m.bR i(t,s),[]):=by
     unfold aK.iO;rw [if_pos hh]
    have hfin:iV y m(m.iO i(t,s)).1(m.iO i(t,s)).2 w.heap.size w(.returned(.slice none 0 0))wr:=by
     rw [ho];exact⟨_,[],rfl,rfl,gH.nil _ _,y',hm,hu⟩
    clear hr hm hu Ce HD ho b1 b2 b3 b4 hlow hheard;cases he:(m.heard i t).isEmpty
    ·clear t0 hc2 hh;go_wp2
     go_ret
     exact hfin
    ·obtain rfl:t=0:=by
      rcases hh with hh|hh
      ·exact absurd(List.isEmpty_iff.1 he)hh
      ·exact hh
     clear hc2 hh;go_wp2
     go_ret
     exact hfin
   ·simp only [not_or,Classical.not_not]at hh;obtain⟨hh,h0⟩:=hh;have he:(m.heard i t).isEmpty=true:=List.isEmpty_iff.2 hh;have h0':(t==0)=false:=by simpa using h0
    cases hnd:sj.nd with
    |none=>
     have ho:m.iO i(t,s)=(m.bR i(t,s),[]):=by
      unfold aK.iO;rw [if_neg(by simp [hh,h0]),b3,hnd]
     have hfin:iV y m(m.iO i(t,s)).1(m.iO i(t,s)).2 w.heap.size w(.returned(.slice none 0 0))wr:=by
      rw [ho];exact⟨_,[],rfl,rfl,gH.nil _ _,y',hm,hu⟩
     rw [hnd]at hc2;unfold Lg at hc2;clear hr hm hu Ce HD ho b1 b2 b3 b4 hlow hheard lm;rw [he];go_wp2
     go_ret
     exact hfin
    |some z=>
     have hz3:((m.bR i(t,s)).at' i).nd=some z:=by rw [b3];exact hnd
     obtain⟨k,hIk,hzn⟩:=hI z(by rw [←adC hS i];exact hz3);have ho:m.iO i(t,s)=((m.bR i(t,s)).put i {(m.bR i(t,s)).at' i with nd:=some(z.brk m.now t)}).Be i(z.brk m.now t).ot:=by
      unfold aK.iO;rw [if_neg(by simp [hh,h0]),hz3]
     rw [hnd]at hc2;unfold Lg at hc2;have HD':=HD h0 z hz3;have hd1:Below wr.heap.size wr wr.drew:=(Below.refl _ _).drew;have hm1:=hm.later hd1;obtain⟨n1,tm1⟩:=(hm1.st i xj sj b1 b2).nd z hnd;have HB:=Ux n1 hIk tm1 m.now t⟨hzn,fq⟩;have HB2:Hid(Calls Tryz.prog 100 #[.pointer(some⟨xj.N,0,none⟩),.int .u64 m.now,.int .u32 t]wr.drew fun e w2=>∃aI bH bI,e=.returned(iE(z.brk m.now t).aY(z.brk m.now t).aZ aI bH bI)∧h_ wr.heap.size(z.brk m.now t).aH(z.brk m.now t).aR(z.brk m.now t).aN aI bH bI w2∧wr.heap.size≤w2.heap.size∧∃y2,MM y2((m.bR i(t,s)).put i {(m.bR i(t,s)).at' i with nd:=some(z.brk m.now t)})w2∧MU y m y2((m.bR i(t,s)).put i {(m.bR i(t,s)).at' i with nd:=some(z.brk m.now t)})w w2):=by
      refine HB.mono ?_;rintro e w2⟨o,rfl,_,hcp⟩;obtain⟨aI,bH,bI,rfl,hor,y2,hm2,hu2⟩:=hm1.call b1 b2 hnd hcp;rw [b3];exact⟨aI,bH,bI,rfl,hor,hu2.fx.size,y2,hm2,(hu.post hd1).trans hu2⟩
     have c0:=hm.cell.1;rw [hu.G,AO]at c0;obtain⟨m2,Su⟩:∃m2,(m.bR i(t,s)).put i {(m.bR i(t,s)).at' i with nd:=some(z.brk m.now t)}=m2:=⟨_,rfl⟩;rw [Su]at HD' HB2 ho;obtain⟨zb,hzb⟩:∃zb,z.brk m.now t=zb:=⟨_,rfl⟩;rw [hzb]at HD' HB2 ho;replace ho:=hide ho;replace HD':=hide HD';obtain⟨N,Te⟩:∃N,xj.N=N:=⟨_,rfl⟩;rw [Te]at hc2 HB2;clear HD HB hm1 n1 tm1 hr hm hu Ce b1 b2 b3 b4 hheard hz3 hIk hzn Su hzb Te hd1 hS AO hjB e1 e2 e3 e4;rw [he];go_upto_region 12 with(fail)
     go_region_with(first
      |(go_at_call 36;refine Va.out.mono ?_;rintro e w3⟨v,L,rfl,hL,hev,hp3⟩)
      |(go_at_call 100;refine HB2.out.mono ?_;rintro e w2⟨aI,bH,bI,rfl,hor,hsz,y2,hm2,hu2⟩;have Va:=HD'.out _ _ _ _ _ _ hm2 hsz hor;rw [hu2.G]at Va;replace Va:=hide Va))
     all_goals
      have hfin:=hide(show iV y m(m.iO i(t,s)).1(m.iO i(t,s)).2 w.heap.size w(.returned v)w3 from by rw [ho.out];exact⟨v,L,rfl,hL,hev.lower hlow,MP.comp hu2 hp3⟩);clear Va hev hp3 hu2 hm2 hor HB2 HD';go_wp2
      go_ret
      exact hfin.out
end Go.Proofs.YtakaadcpaeiccabGreat
