import Derived.Test.YtakaadcpaeiccabGreatC41
set_option maxHeartbeats 8000000
set_option maxRecDepth 100000
namespace Go.Proofs.YtakaadcpaeiccabGreat
open Go.RowKit Go.Maps
theorem wG.add {Ms:Nat} {h:Int→Option Nat} {u:Int→Value} {Q:List Sr} {W W':World}(r:wG Ms h u Q W) {q:Sr}(hq:h q.dest=none)(hok:q.Ok)(ht:q.txt=[])(hl:Q.length≤4999) {Bq:Nat}(hL:p_ Bq q(.slice none 0 0)W')(hm:eX W' Ms(eD h q.dest(some Bq))(Q.length+1))(he:∀k,G9 Ms h u Q k→k≠Ms→W'.heap[k]?=W.heap[k]?):wG Ms(eD h q.dest(some Bq))(lX u q.dest(.slice none 0 0))(Q++ [q])W':=by
 have hno:∀z∈Q,z.dest≠q.dest:=fun z hz e=>by
  obtain⟨B,h1,_⟩:=r.ln z hz;rw [e,hq]at h1;cases h1
 have hu1:lX u q.dest(.slice none 0 0)q.dest=.slice none 0 0:=by unfold lX;rw [if_pos rfl]
 have hu2:∀z∈Q,lX u q.dest(.slice none 0 0)z.dest=u z.dest:=fun z hz=>by unfold lX;rw [if_neg(hno z hz)]
 have hh2:∀z∈Q,eD h q.dest(some Bq)z.dest=h z.dest:=fun z hz=>by unfold eD;rw [if_neg(hno z hz)]
 obtain⟨es,cl,hmo⟩:=r.map.obj;have hl':(Q++ [q]).length=Q.length+1:=by simp
 refine⟨by rw [hl'];exact hm,List.eU.2⟨r.qA,List.gV _ _,fun a ha b hb=>by rw [List.mem_singleton]at hb;rw [hb];exact hno a ha⟩,fun z hz=> ?_,fun d B hd hB=> ?_,fun z hz=> ?_,fun z hz=> ?_,fun a ha b hb hne=> ?_,by omega⟩
 ·rcases List.mem_append.1 hz with h1|h1
  ·exact r.ok z h1
  ·rw [List.mem_singleton]at h1;rw [h1];exact hok
 ·by_cases e:d=q.dest
  ·exact⟨q,List.mem_append_right _(List.mem_singleton.2 rfl),e.symm⟩
  ·unfold eD at hB;rw [if_neg e]at hB;obtain⟨z,hz,h1⟩:=r.dom d B hd hB;exact⟨z,List.mem_append_left _ hz,h1⟩
 ·rcases List.mem_append.1 hz with h1|h1
  ·obtain⟨B,k1,k2⟩:=r.ln z h1;rw [hh2 z h1,hu2 z h1];refine⟨B,k1,k2.block(he B(.inr⟨z,h1,.inl k1⟩) ?_)⟩;rintro rfl;obtain⟨c,hc⟩:=k2.obj;rw [hmo]at hc;cases hc
  ·rw [List.mem_singleton]at h1;subst h1;rw [hu1];exact⟨Bq,by unfold eD;rw [if_pos rfl],hL⟩
 ·rcases List.mem_append.1 hz with h1|h1
  ·rw [hu2 z h1];refine bD(r.row z h1)fun k hk=>he k(.inr⟨z,h1,.inr hk⟩) ?_;rintro rfl;obtain⟨c,hc⟩:=aP(r.row z h1)hk;rw [hmo]at hc;cases hc
  ·rw [List.mem_singleton]at h1;subst h1;rw [hu1,ht];exact⟨rfl,.inl⟨rfl,rfl⟩⟩
 ·rcases List.mem_append.1 ha with a1|a1<;>rcases List.mem_append.1 hb with b1|b1
  ·rw [hu2 a a1,hu2 b b1];exact r.apart a a1 b b1 hne
  ·rw [List.mem_singleton]at b1;subst b1;rw [hu1,hu2 a a1];by_cases hn:(u a.dest).ownBlock=none
   ·exact .inl hn
   ·exact .inr hn
  ·rw [List.mem_singleton]at a1;subst a1;rw [hu1];exact .inl rfl
  ·rw [List.mem_singleton]at a1 b1;rw [a1,b1]at hne;exact absurd rfl hne
theorem Nd.aft {N B:Nat} {g:bA} {s:St} {TL:List Hp.Tm} {W W':World}(n:Nd N B g s TL W)(q:Sr)(hq:g.h q.dest=none)(hok:q.Ok)(ht:q.txt=[])(hl:s.Q.length≤4999) {Bq:Nat}(hL:p_ Bq q(.slice none 0 0)W')(hBq:W.heap.size≤Bq)(hm:eX W' g.x.qf(eD g.h q.dest(some Bq))(s.Q.length+1))(hf:Fx(fun k=>k=g.x.qf)W W'):
  Nd N B {g with h:=eD g.h q.dest(some Bq),u:=lX g.u q.dest(.slice none 0 0)} {s with Q:=s.Q++ [q]}TL W'∧Up B(Ft N g s)(Ft N {g with h:=eD g.h q.dest(some Bq),u:=lX g.u q.dest(.slice none 0 0)} {s with Q:=s.Q++ [q]})W W':=by
 have hr:=n.nn.rs;obtain⟨e1,e2,e3,e4,e5,e6,e7,e8,e9⟩:=n.nn.eq;have hnd:=n.nn.qA;simp only [List.nodup_cons,List.mem_cons,List.not_mem_nil,or_false,not_or]at hnd;obtain⟨_,_,⟨d1,d2⟩,d3,_⟩:=hnd;have hk:∀ {k:Nat} {o:Obj},W.heap[k]?=some o→k≠g.x.qf→W'.heap[k]?=W.heap[k]?:=fun ho hn=>hf.block _(aD ho)hn;have hno:∀ {k:Nat} {o:Obj},W.heap[k]?=some o→(∀es cl,o≠ .map es cl)→W'.heap[k]?=W.heap[k]?:=by
  intro k o ho hc;refine hk ho ?_;rintro rfl;obtain⟨es,cl,hm0⟩:=hr.sr.map.obj;rw [hm0]at ho;exact hc _ _(Option.some.inj ho).symm
 have hz:∀z∈s.Q,z.dest≠q.dest:=fun z hz e=>by
  obtain⟨B,h1,_⟩:=hr.sr.ln z hz;rw [e,hq]at h1;cases h1
 refine n.rest(hno n.nn.cr.nd(fun _ _ e=>by cases e)|>fun h=>n.nn.cr.nd.block h)rfl rfl⟨e1,e2,e3,e4,e5,e6,e7,e8,e9⟩(h':=eD g.h q.dest(some Bq))(u':=lX g.u q.dest(.slice none 0 0))(Et:=g.Mt)(hp':=g.hp)(tv':=g.tv)
  ⟨hr.sn.block ?_,hr.sr.add hq hok ht hl hL hm fun k hk1 hk2=>hf.block k(hr.sr.lt hk1)hk2,hr.tm.at(hno hr.tm.blk fun _ _ e=>by cases e) ?_(fun k hk1=> ?_),hr.hpo,hr.pm,bD hr.pc fun k hk1=> ?_⟩
  (hf.mono fun k e=> .inr(.inr(.inl(.inl e))))(fun k hk1=> ?_)⟨rfl,rfl,rfl⟩⟨rfl,rfl,rfl,rfl,rfl,rfl,rfl,rfl,rfl⟩
 ·obtain⟨es,cl,hm0⟩:=hr.sn.obj;exact hk hm0 d1
 ·obtain⟨f,p1,_⟩:=hr.tm.map;exact hf.block _ p1.lt(Ne.symm d3)
 ·obtain⟨c,hc⟩:=aP hr.tm.row hk1;exact hno hc fun _ _ e=>by cases e
 ·obtain⟨c,hc⟩:=aP hr.pc hk1;exact hno hc fun _ _ e=>by cases e
 ·rcases hk1 with h|h|h
  ·exact .inl(.inl h)
  ·rcases h with h|⟨z,hz1,h⟩
   ·exact .inl(.inr(.inl(.inl h)))
   ·rcases List.mem_append.1 hz1 with h1|h1
    ·refine .inl(.inr(.inl(.inr⟨z,h1,h.imp(fun h=> ?_)(fun h=> ?_)⟩)))
     ·simpa [eD,hz z h1]using h
     ·simpa [lX,hz z h1]using h
    ·rw [List.mem_singleton]at h1;subst h1;rcases h with h|h
     ·unfold eD at h;rw [if_pos rfl]at h;cases h;exact .inr⟨hBq,hL.lt⟩
     ·unfold lX at h;rw [if_pos rfl]at h;cases h
  ·exact .inl(.inr(.inr h))
def AwP(N B:Nat)(g:bA)(s s2:St)(TL:List Hp.Tm)(w w':World):Prop:=∃dO,lg N B g s s2 dO w w'∧(dM s TL→dM s2 dO)
theorem EW {Q:List Sr} {q0 q1:Sr}(hd:q1.dest=q0.dest)(hz:∀z∈Q,z.dest≠q0.dest):St.di(Q++ [q0])q1=Q++ [q1]:=by
 unfold St.di;rw [List.map_append,List.map_cons,List.map_nil,if_pos hd.symm]
 congr 1
 exact(List.map_congr_left fun z h=>if_neg(by rw [hd];exact hz z h)).trans(List.map_id _)
theorem VR {Q:List Sr}(hn:Q.Pairwise fun a b=>a.dest≠b.dest) {q q':Sr}(hq:q∈Q)(ht:ko q'=ko q):(St.di Q q').map ko=Q.map ko:=by
 have hd:q'.dest=q.dest:=congrArg(·.2.2)ht;unfold St.di;rw [List.map_map];refine List.map_congr_left fun z hz=> ?_;show ko(if z.dest=q'.dest then q' else z)=ko z;split
 ·rename_i e;rw [ht,uo hn hz hq(by rw [e,hd])]
 ·rfl
theorem WV(s:St)(q:Sr)(t:ByteArray):ko(s.hold q t).2=ko q:=by
 unfold St.hold;split<;>rfl
theorem Wv {d:Int}(hd:bg d):(⟨d,[],1,0,0,0,false⟩:Sr).Ok:=
 ⟨hd,by dsimp only;omega,Nat.zero_le _,Nat.zero_le _,fun _ h=>(by cases h),by dsimp only;omega⟩
theorem JM {s:St} {d:Int}(hso:St.jD s.Q d=none) {t:ByteArray}(hz:∀z∈s.Q,z.dest≠d):({({s with Q:=s.Q++ [⟨d,[],1,0,0,0,false⟩]}:St).hold⟨d,[],1,0,0,0,false⟩t|>.1 with Q:=St.di(s.Q++ [⟨d,[],1,0,0,0,false⟩])(({s with Q:=s.Q++ [⟨d,[],1,0,0,0,false⟩]}:St).hold⟨d,[],1,0,0,0,false⟩t).2}:St)={s with Q:=s.Q++ [St.iA d t]}∧s.gG d t=({s with Q:=s.Q++ [St.iA d t]}:St).ask(St.iA d t):=by
 constructor
 ·show({s with Q:=St.di(s.Q++ [⟨d,[],1,0,0,0,false⟩])(St.iA d t)}:St)=_;rw [EW(q0:=⟨d,[],1,0,0,0,false⟩)(q1:=St.iA d t)rfl hz]
 ·unfold St.gG;rw [hso]
theorem abn {s:St} {d:Int} {t:ByteArray} {TL:List Hp.Tm}(hz:∀z∈s.Q,z.dest≠d)(h:dM s TL):dM(({s with Q:=s.Q++ [St.iA d t]}:St).ask(St.iA d t))(TL++ [(({s with Q:=s.Q++ [St.iA d t]}:St).kI(St.iA d t),s.tl+1,d)]):=by
 obtain⟨o,h1,_⟩:=G6({s with Q:=s.Q++ [St.iA d t]}:St)(St.iA d t);unfold dM at h ⊢;rw [h1];dsimp only;rw [EW(by rfl)(by exact hz),List.map_append];exact h.append_right _
theorem Yd {N B:Nat} {g:bA} {s:St} {TL:List Hp.Tm} {w:World}(n:Nd N B g s TL w)(hR:s.Rdy)(hdl:s.aN.length≤800000)(d:Int)(hd:bg d)(t:ByteArray)(ht:t.size≤16)(hl:TL.length≤900000)(hQ:s.Q.length≤4999)(htl:0≤s.tl∧s.tl≤4000000000000000000)(hid:∀x∈TL,x.2.1≤s.tl):
  Calls Tryz.prog 54 #[.pointer(some⟨N,0,none⟩),.pointer(some⟨B,0,none⟩),.int .u32 d,.string t]w fun e w'=>e=.returned(.tuple #[])∧AwP N B g s(s.gG d t)TL w w':=by
 have hlk:=n.nn.rs.sr.map.FY hd;have c13:=n.nn.cr.nd.more.2.2.1;obtain⟨so,hso⟩:∃o,St.jD s.Q d=o:=⟨_,rfl⟩;cases so with
 |some q=>
  obtain⟨h1,h2,Bq,h3,_⟩:=n.nn.rs.sr.at hso;have hB:g.h q.dest=some Bq:=by rw [h2];exact h3
  rw [h3]at hlk;have HH:=hide(Ur n(by omega)q h1 Bq hB t ht);have hfin:Hid(∀w',HoP N B g s {(s.hold q t).1 with Q:=St.di s.Q(s.hold q t).2}TL w w'→AwP N B g s(s.gG d t)TL w w'):=fun w' hp=>by
   obtain⟨g',p1,p2,p3,_⟩:=hp;have e:s.gG d t={(s.hold q t).1 with Q:=St.di s.Q(s.hold q t).2}:=by
    unfold St.gG;rw [hso]
   rw [e];refine⟨TL,⟨g',p1,p2,p3⟩,fun hT=> ?_⟩;unfold dM at hT ⊢;dsimp only;rw [VR n.nn.rs.sr.qA h1(WV s q t)];exact hT
  clear hso;go_enter Tryz.func54,Tryz.ntmps54
  go_upto_region 4 with(fail)
  clear hlk c13;go_wp2_with fail
  refine Calls.mono HH.out ?_;rintro e w2⟨rfl,hp⟩;have LM:=hide(hfin.out w2 hp);clear hfin hp HH;go_wp2
  go_returns
  exact⟨rfl,LM.out⟩
 |none=>
  have h3:=n.nn.rs.sr.off hd hso;rw [h3]at hlk;have hz:∀z∈s.Q,z.dest≠d:=fun z hz e=>by
   have:=List.find?_eq_none.1 hso z hz;simp at this;exact this e
  obtain⟨e1,e2⟩:=JM(t:=t)hso hz;have hW1:=(Below.refl w.heap.size w).alloc(Nat.le_refl _)(.cells #[.int .u32 d,.slice none 0 0,.int .i64 1,.int .i64 0,.int .i64 0,.nilFunc]177);have hL1:p_ w.heap.size⟨d,[],1,0,0,0,false⟩(.slice none 0 0)(w.alloc(.cells #[.int .u32 d,.slice none 0 0,.int .i64 1,.int .i64 0,.int .i64 0,.nilFunc]177)):=⟨.nilFunc,heap_alloc_new _ _,fun h=>absurd rfl h⟩;obtain⟨W2,hp,hm2,hg2⟩:=(n.nn.rs.sr.map.block(hW1.block _ n.nn.rs.sr.map.lt)).puts(by have:=n.nn.rs.sr.len;unfold maxLen;omega)hd w.heap.size;have n1:=n.later hW1;have afs:=n1.nn.cr.nd.more.2.2.1;have hw1:w.heap.size<(w.alloc(.cells #[.int .u32 d,.slice none 0 0,.int .i64 1,.int .i64 0,.int .i64 0,.nilFunc]177)).heap.size:=by simp
  have hne:g.x.qf≠w.heap.size:=by have:=n.nn.rs.sr.map.lt;omega
  have hf2:Fx(fun k=>k=g.x.qf)w W2:=aT(Fx.below hW1)hg2(fun i _ e=>(Option.some.inj e).symm);rw [h3]at hm2;obtain⟨n2,u2⟩:=n.aft⟨d,[],1,0,0,0,false⟩h3(Wv hd)rfl hQ(hL1.block(hg2.block w.heap.size hw1(fun e=>hne(Option.some.inj e).symm)))(Nat.le_refl _)hm2 hf2;have HH:=Ur n2(by dsimp only;omega)⟨d,[],1,0,0,0,false⟩(List.mem_append_right _(List.mem_singleton.2 rfl))w.heap.size(by dsimp only;unfold eD;rw [if_pos rfl])t ht;rw [e1]at HH;have ht2:Hid(({g with h:=eD g.h d(some w.heap.size),u:=lX g.u d(.slice none 0 0)}:bA).x.T=g.x.T):=rfl;have hh2:Hid(({g with h:=eD g.h d(some w.heap.size),u:=lX g.u d(.slice none 0 0)}:bA).h d=some w.heap.size):=by show _=_;dsimp only;unfold eD;rw [if_pos rfl]
  dsimp only at HH u2;generalize({g with h:=eD g.h d(some w.heap.size),u:=lX g.u d(.slice none 0 0)}:bA)=g2 at HH u2 ht2 hh2;have PN:Hid(dM s TL→dM(s.gG d t)(TL++ [(({s with Q:=s.Q++ [St.iA d t]}:St).kI(St.iA d t),s.tl+1,d)])):=by
   rw [e2];exact abn hz
  have hak:Hid(∀(g3:bA)(w3:World),Nd N B g3 {s with Q:=s.Q++ [St.iA d t]}TL w3→g3.h d=some w.heap.size→Calls Tryz.prog 83 #[.pointer(some⟨w.heap.size,0,none⟩),.pointer(some⟨N,0,none⟩),.pointer(some⟨B,0,none⟩)]w3 fun e w'=>e=.returned(.tuple #[])∧AkP N B g3 {s with Q:=s.Q++ [St.iA d t]}(s.gG d t)TL(TL++ [(({s with Q:=s.Q++ [St.iA d t]}:St).kI(St.iA d t),s.tl+1,d)])w3 w'):=fun g3 w3 n3 h=>by
   rw [e2];exact Uu n3⟨hR.me,hR.seq,hR.now,hR.mem,⟨hR.dom.mb,hR.dom.on,hR.dom.own⟩,hR.cnt,hR.a_,hR.aH,hR.tn,hR.AB,hR.y_,hR.za⟩(by dsimp only;omega)(St.iA d t)(List.mem_append_right _(List.mem_singleton.2 rfl))w.heap.size h hl htl hid
  replace HH:=hide HH;clear n1 n2 e1 e2 hL1 hm2 hg2 hf2 hz hso hR h3 n;generalize s.gG d t=s9 at PN hak ⊢;generalize(({s with Q:=s.Q++ [St.iA d t]}:St).kI(St.iA d t),s.tl+1,d)=tm at PN hak;generalize({s with Q:=s.Q++ [St.iA d t]}:St)=s3 at HH hak;go_enter Tryz.func54,Tryz.ntmps54
  go_upto_region 4 with(fail)
  clear hp afs c13 hlk;go_wp2_with fail
  refine Calls.mono HH.out ?_;rintro e w4⟨rfl,g4,n4,u4,t4,y4⟩;have HA:=hide(hak.out g4 w4 n4(by rw [y4.out];exact hh2.out));have u24:=u2.trans u4;clear HH hak n4 u2 u4;go_wp2_with fail
  refine Calls.mono HA.out ?_;rintro e w5⟨rfl,g5,n5,u5,t5,_⟩;have hfin:Hid(AwP N B g s s9 TL w w5):=⟨_,⟨g5,n5,u24.trans u5,t5.out.trans(t4.out.trans ht2.out)⟩,PN.out⟩;clear HA n5 u5 u24;go_wp2
  go_returns
  exact⟨rfl,hfin.out⟩
theorem St.Mid.rdy {k:Int} {j:Nat} {s:St}(h:s.Mid k j)(hj:j≤7000)(hk:0≤k∧k≤100000000000):s.Rdy:=
 ⟨h.me,h.seq,h.now,h.mem,h.dom,by have:=h.cnt;omega,by have:=h.a_;omega,by have:=h.aH;omega,by have:=h.tn;omega,h.AB,h.y_,h.za⟩
structure Kp(s s':St):Prop where
 me:s'.me=s.me
 now:s'.now=s.now
 lk:s'.lk=s.lk
theorem Kp.refl(s:St):Kp s s:=⟨rfl,rfl,rfl⟩
theorem Kp.trans {a b c:St}(p:Kp a b)(q:Kp b c):Kp a c:=⟨q.me.trans p.me,q.now.trans p.now,q.lk.trans p.lk⟩
theorem Eff.kp {j:Nat} {s s':St}(e:Eff j s s'):Kp s s':=⟨e.me,e.now,e.lk⟩
theorem CO {Q:List Sr} {q:Sr} {t:Int}(h:∀z∈Q,z.id≤t)(hq:q.id≤t+1):∀z∈St.di Q q,z.id≤t+1:=fun z hz=>by
 rcases eZ hz with rfl|⟨h1,_⟩
 ·exact hq
 ·have:=h z h1;omega
theorem uG {k:Int} {j:Nat} {s:St}(h:s.Mid k j)(hA:∀y∈s.A,y.Ok)(hl:s.A.length≤8)(q:Sr):(s.ask q).Mid k(j+1)∧Kp s(s.ask q):=by
 rw [Aa];have htl:=h.tl;cases s.holds with
 |some r=>
  refine⟨⟨h.me,h.seq,h.now,h.mem,⟨h.dom.mb,h.dom.on,h.dom.own⟩,by have:=h.cnt;show _∧s.cnt≤_;exact⟨this.1,by omega⟩,by have:=h.a_;show s.a_.length≤_;omega,h.bd,by have:=h.aH;show s.aH.length≤_;omega,?_,by have:=h.aR;show s.aR.length≤_;omega,by have:=h.tn;show s.tn≤_;omega,by show 0≤s.tl+1∧s.tl+1≤_;omega,h.AB,h.y_,h.za,CO h.CW(Int.le_refl _)⟩,rfl,rfl,rfl⟩;have:=h.aN;show(s.aN++ [r]).length≤_;rw [List.length_append,List.length_singleton];omega
 |none=>
  have hw:({s with seq:=gr s.seq,dz:=(s.dz+1)%4294967296}:St).write.Mid k(j+1):=
   vP(s:={s with seq:=gr s.seq,dz:=(s.dz+1)%4294967296})⟨h.me,tK h.seq,h.now,h.mem,⟨h.dom.mb,h.dom.on,h.dom.own⟩,h.cnt,h.a_,h.bd,h.aH,h.aN,h.aR,h.tn,h.tl,h.AB,h.y_,h.za,h.CW⟩hA hl
  refine⟨⟨h.me,hw.seq,h.now,fun e he=>wQ h.mem he,⟨hw.dom.mb,hw.dom.on,hw.dom.own⟩,hw.cnt,hw.a_,hw.bd,?_,hw.aN,hw.aR,by have:=h.tn;show s.tn+1≤_;omega,by show 0≤s.tl+1∧s.tl+1≤_;omega,Nl h.AB _,(oW h.y_ h.za).1,(oW h.y_ h.za).2,CO h.CW(Int.le_refl _)⟩,rfl,rfl,rfl⟩;have:=h.aH;show(s.aH++ [_]).length≤_;rw [List.length_append,List.length_singleton];omega
theorem Ro {k:Int} {j:Nat} {s:St}(h:s.Mid k j):s.Mid k(j+1):=
 ⟨h.me,h.seq,h.now,h.mem,h.dom,by have:=h.cnt;omega,by have:=h.a_;omega,h.bd,by have:=h.aH;omega,by have:=h.aN;omega,by have:=h.aR;omega,by have:=h.tn;omega,by have:=h.tl;omega,h.AB,h.y_,h.za,h.CW⟩
theorem Lj {k:Int} {j i:Nat} {s s':St}(h:s.Mid k j)(e:Eff i s s')(hi:i≤10)(htn:s'.tn=s.tn):s'.Mid k(j+1)∧Kp s s':=by
 have h':=uF h e;refine⟨⟨h'.me,h'.seq,h'.now,h'.mem,h'.dom,?_,?_,h'.bd,?_,?_,?_,?_,?_,h'.AB,h'.y_,h'.za,h'.CW⟩,e.kp⟩
 ·rw [e.cnt];have:=h.cnt;omega
 ·rw [e.a_];have:=h.a_;omega
 ·have:=e.aH;have:=h.aH;omega
 ·have:=e.aN;have:=h.aN;omega
 ·have:=e.aR;have:=h.aR;omega
 ·rw [htn];have:=h.tn;omega
 ·rw [e.tl];have:=h.tl;omega
theorem wO(s:St)(d:Int)(t:ByteArray):(s.aX d t).tn=s.tn:=by
 unfold St.aX;split<;>rfl
theorem Qe(d:Int)(l:List ByteArray)(s:St):(l.foldl(fun s t=>s.aX d t)s).tn=s.tn:=by
 induction l generalizing s with
 |nil=>rfl
 |cons a l ih=>rw [List.foldl_cons,ih,wO]
theorem IB(s:St)(d:Int):(s.bP d).tn=s.tn:=by
 unfold St.bP;split
 ·rfl
 ·split
  ·exact Qe d _ s
  ·rfl
theorem Dq {k:Int} {j:Nat} {s:St}(h:s.Mid k j)(d:Int)(t:ByteArray):(s.aX d t).Mid k(j+1)∧Kp s(s.aX d t):=Lj h(uW s d t)(by omega)(wO s d t)
theorem FO {k:Int} {j:Nat} {s:St}(h:s.Mid k j)(hQ:∀q∈s.Q,q.txt.length≤4)(d:Int):(s.bP d).Mid k(j+1)∧Kp s(s.bP d):=Lj h(mX s d hQ)(by omega)(IB s d)
theorem NU {k:Int} {j:Nat} {s:St}(h:s.Mid k j)(hA:∀y∈s.A,y.Ok)(hl:s.A.length≤8)(d:Int)(t:ByteArray):(s.gG d t).Mid k(j+1)∧Kp s(s.gG d t):=by
 unfold St.gG;cases hs:St.jD s.Q d with
 |none=>
  dsimp only;obtain⟨h1,h2⟩:=uG(s:={s with Q:=s.Q++ [St.iA d t]})(k:=k)(j:=j)⟨h.me,h.seq,h.now,h.mem,⟨h.dom.mb,h.dom.on,h.dom.own⟩,h.cnt,h.a_,h.bd,h.aH,h.aN,h.aR,h.tn,h.tl,h.AB,h.y_,h.za,fun z hz=>by
   rcases List.mem_append.1 hz with h1|h1
   ·exact h.CW z h1
   ·rw [List.mem_singleton]at h1;rw [h1];exact h.tl.1⟩hA hl(St.iA d t)
  exact⟨h1,h2.me,h2.now,h2.lk⟩
 |some q=>
  dsimp only;obtain⟨hq,_⟩:=iL hs;have hid:∀(q':Sr),q'.id=q.id→∀z∈St.di s.Q q',z.id≤s.tl:=fun q' e z hz=>by
   rcases eZ hz with rfl|⟨h1,_⟩
   ·rw [e];exact h.CW q hq
   ·exact h.CW z h1
  have hu:=Ro h;unfold St.hold;split
  ·refine⟨⟨h.me,h.seq,h.now,h.mem,⟨h.dom.mb,h.dom.on,h.dom.own⟩,hu.cnt,hu.a_,h.bd,hu.aH,?_,hu.aR,hu.tn,hu.tl,h.AB,h.y_,h.za,hid _ rfl⟩,rfl,rfl,rfl⟩;have:=h.aN;show(s.aN++ [6]).length≤_;rw [List.length_append,List.length_singleton];omega
  ·exact⟨⟨h.me,h.seq,h.now,h.mem,⟨h.dom.mb,h.dom.on,h.dom.own⟩,hu.cnt,hu.a_,h.bd,hu.aH,hu.aN,hu.aR,hu.tn,hu.tl,h.AB,h.y_,h.za,hid _ rfl⟩,rfl,rfl,rfl⟩
theorem NS {k:Int} {j:Nat} {s:St}(h:s.Mid k j)(hA:∀y∈s.A,y.Ok)(hl:s.A.length≤8)(q:Sr)(hq:q.txt.length≤4):(s.widen q).Mid k(j+1)∧Kp s(s.widen q):=by
 unfold St.widen;split
 ·exact uG h hA hl _
 ·split
  ·exact uG h hA hl _
  ·split
   ·exact uG h hA hl _
   ·have hu:=Ro h;refine⟨⟨h.me,h.seq,h.now,h.mem,⟨h.dom.mb,h.dom.on,h.dom.own⟩,hu.cnt,hu.a_,h.bd,hu.aH,?_,hu.aR,hu.tn,hu.tl,h.AB,h.y_,h.za,fun z hz=>h.CW z(List.mem_filter.1 hz).1⟩,rfl,rfl,rfl⟩;have:=h.aN;show(s.aN++List.replicate q.txt.length 5).length≤_;rw [List.length_append,List.length_replicate];omega
theorem mid_step {k:Int} {j:Nat} {s:St}(h:s.Mid k j)(hA:∀y∈s.A,y.Ok)(hl:s.A.length≤8)(hQ:∀q∈s.Q,q.txt.length≤4)(q:Sr)(hq:q.txt.length≤4):(s.step q).Mid k(j+1)∧Kp s(s.step q):=by
 unfold St.step;split
 ·exact FO h hQ _
 ·split
  ·exact NS h hA hl q hq
  ·exact uG h hA hl q
structure wJ(JW TL:List Hp.Tm)(D:List Sr)(now:Int):Prop where
 pm:(D.map ko++TL).Perm JW
 srt:(D.map ko).Pairwise Hp.Le
 due:∀a∈D,a.due≤now
 low:∀a∈D,∀y∈TL,Hp.Le(ko a)y
theorem wJ.nil(TL:List Hp.Tm)(now:Int):wJ TL TL []now:=⟨.refl _,List.Pairwise.nil,fun _ h=>(by cases h),fun _ h=>(by cases h)⟩
theorem wJ.snoc {JW TL dO:List Hp.Tm} {D:List Sr} {now:Int}(h:wJ JW TL D now) {q:Sr}(hx:q.due≤now)(hm:∀y∈TL,Hp.Le(ko q)y)(hp:(ko q::dO).Perm TL):wJ JW dO(D++ [q])now:=by
 refine⟨?_,?_,fun a ha=> ?_,fun a ha y hy=> ?_⟩
 ·rw [List.map_append,List.map_cons,List.map_nil,List.append_assoc,List.singleton_append];exact(hp.append_left _).trans h.pm
 ·rw [List.map_append,List.map_cons,List.map_nil];refine List.eU.2⟨h.srt,List.gV _ _,fun a ha b hb=> ?_⟩;rw [List.mem_singleton]at hb;subst hb;obtain⟨z,hz,rfl⟩:=List.mem_map.1 ha;exact h.low z hz _(hp.mem_iff.1 List.mem_cons_self)
 ·rcases List.mem_append.1 ha with h1|h1
  ·exact h.due a h1
  ·rw [List.mem_singleton]at h1;rw [h1];exact hx
 ·have hy':y∈TL:=hp.mem_iff.1(List.mem_cons_of_mem _ hy);rcases List.mem_append.1 ha with h1|h1
  ·exact h.low a h1 y hy'
  ·rw [List.mem_singleton]at h1;rw [h1];exact hm y hy'
theorem Yp {Q:List Sr}(hn:Q.Pairwise fun a b=>a.id≠b.id) {z q:Sr}(hz:z∈Q)(hq:q∈Q)(e:z.id=q.id):z=q:=by
 induction Q with
 |nil=>cases hz
 |cons a Q ih=>
  rw [List.pairwise_cons]at hn;rcases List.mem_cons.1 hz with k1|k1
  ·rcases List.mem_cons.1 hq with k2|k2
   ·rw [k1,k2]
   ·exact absurd(k1▸e)(hn.1 q k2)
  ·rcases List.mem_cons.1 hq with k2|k2
   ·exact absurd(k2▸e).symm(hn.1 z k1)
   ·exact ih hn.2 k1 k2
theorem Yr {s:St} {TL:List Hp.Tm}(hT:dM s TL)(h:TL.Pairwise fun a b=>a.2.1≠b.2.1):s.Q.Pairwise fun a b=>a.id≠b.id:=by
 have h1:=hT.pairwise h fun h=>Ne.symm h;rw [List.pairwise_map]at h1;exact h1
theorem tu {Q:List Sr}(hn:Q.Pairwise fun a b=>a.dest≠b.dest):Q.Nodup:=hn.imp fun h e=>h(by rw [e])
theorem wJ.qA {JW TL:List Hp.Tm} {D:List Sr} {now:Int}(h:wJ JW TL D now)(hi:JW.Pairwise fun a b=>a.2.1≠b.2.1):D.Pairwise fun a b=>a.id≠b.id:=by
 have h1:=h.pm.symm.pairwise hi fun h=>Ne.symm h;have h2:=(List.eU.1 h1).1;rw [List.pairwise_map]at h2;exact h2
theorem wJ.eq {s:St} {JW TL:List Hp.Tm} {D:List Sr} {now:Int}(h:wJ JW TL D now)(hT:dM s JW)(hD:∀a∈D,a∈s.Q)(hn:s.Q.Pairwise fun a b=>a.dest≠b.dest)(hi:JW.Pairwise fun a b=>a.2.1≠b.2.1)(hend:∀y∈TL,now<y.1):D=St.j3 s.Q now:=by
 have hq:=Yr hT hi;have hdn:D.Nodup:=(h.qA hi).imp fun h e=>h(by rw [e]);have hpm:D.Perm(s.Q.filter fun q=>decide(q.due≤now)):=by
  refine(List.perm_ext_iff_of_nodup hdn((tu hn).filter _)).2 fun a=>⟨fun ha=> ?_,fun ha=> ?_⟩
  ·exact List.mem_filter.2⟨hD a ha,by simpa using h.due a ha⟩
  ·obtain⟨h1,h2⟩:=List.mem_filter.1 ha;have h2':a.due≤now:=by simpa using h2
   have h3:ko a∈D.map ko++TL:=h.pm.mem_iff.2(hT.mem_iff.2(List.mem_map.2⟨a,h1,rfl⟩));rcases List.mem_append.1 h3 with h4|h4
   ·obtain⟨b,hb,e⟩:=List.mem_map.1 h4;have:b=a:=uo hn(hD b hb)h1(congrArg(·.2.2)e);rw [←this];exact hb
   ·have:=hend _ h4;exact absurd h2'(by show ¬(ko a).1≤now;omega)
 unfold St.j3;refine List.Perm.eq_of_pairwise(le:=fun a b=>St.NF a b=true)(fun a b ha hb h1 h2=> ?_) ?_(List.pairwise_mergeSort ?_ ?_ _)(hpm.trans(List.mergeSort_perm _ _).symm)
 ·refine Yp hq(hD a ha) ?_ ?_
  ·exact(List.mem_filter.1((List.mergeSort_perm _ _).mem_iff.1 hb)).1
  ·simp only [St.NF,Bool.or_eq_true,Bool.and_eq_true,decide_eq_true_eq]at h1 h2;omega
 ·have:=h.srt;rw [List.pairwise_map]at this;refine this.imp fun {a b}hab=> ?_;rw [Hp.Le.iff]at hab;simp only [St.NF,Bool.or_eq_true,Bool.and_eq_true,decide_eq_true_eq];exact hab
 ·intro a b c h1 h2;simp only [St.NF,Bool.or_eq_true,Bool.and_eq_true,decide_eq_true_eq]at h1 h2 ⊢;omega
 ·intro a b;simp only [St.NF,Bool.or_eq_true,Bool.and_eq_true,decide_eq_true_eq];omega
def rF(R:List Sr)(z:Sr):Bool:=!(R.any fun a=>decide(a.dest=z.dest))
structure Aj(R:List Sr)(s:St)(TL:List Hp.Tm):Prop where
 mem:∀a∈R,a∈s.Q
 qA:R.Pairwise fun a b=>a.dest≠b.dest
 ids:s.Q.Pairwise fun a b=>a.id≠b.id
 le:∀a∈s.Q,a.id≤s.tl
 pos:∀a∈s.Q,0<a.id
 pm:TL.Perm((s.Q.filter(rF R)).map ko)
theorem Q_(z:Sr):rF []z=true:=rfl
theorem NI(q:Sr)(R:List Sr)(z:Sr):rF(q::R)z=(rF R z&&!decide(z.dest=q.dest)):=by
 unfold rF;rw [List.any_cons,Bool.not_or,Bool.and_comm]
 congr 2
 exact decide_eq_decide.2⟨Eq.symm,Eq.symm⟩
theorem zh {R:List Sr} {z:Sr}:rF R z=true ↔ ∀a∈R,a.dest≠z.dest:=by
 unfold rF;simp
theorem Aj.done {s:St} {TL:List Hp.Tm}(h:Aj []s TL):dM s TL:=by
 have:=h.pm;rw [List.filter_eq_self.2(fun z _=>Q_ z)]at this;exact this
theorem Aj.first {s:St} {JW TL:List Hp.Tm} {D:List Sr} {now:Int}(h:wJ JW TL D now)(hT:dM s JW)(hD:∀a∈D,a∈s.Q)(hn:s.Q.Pairwise fun a b=>a.dest≠b.dest)(hi:JW.Pairwise fun a b=>a.2.1≠b.2.1)(hl:∀a∈s.Q,a.id≤s.tl)(hp0:∀a∈s.Q,0<a.id):Aj D s TL:=by
 have hdn:D.Nodup:=(h.qA hi).imp fun h e=>h(by rw [e]);have hdd:D.Pairwise fun a b=>a.dest≠b.dest:=(h.qA hi).imp_of_mem fun {a b}ha hb hab e=>hab(by rw [uo hn(hD a ha)(hD b hb)e]);refine⟨hD,hdd,Yr hT hi,hl,hp0,?_⟩;have hp:(D++s.Q.filter(rF D)).Perm s.Q:=by
  refine(List.perm_ext_iff_of_nodup(List.nodup_append.2⟨hdn,(tu hn).filter _,fun a ha b hb e=> ?_⟩)(tu hn)).2 fun a=>⟨fun ha=> ?_,fun ha=> ?_⟩
  ·subst e;have:=zh.1(List.mem_filter.1 hb).2 a ha;exact this rfl
  ·rcases List.mem_append.1 ha with h1|h1
   ·exact hD a h1
   ·exact(List.mem_filter.1 h1).1
  ·by_cases hx:rF D a=true
   ·exact List.mem_append_right _(List.mem_filter.2⟨ha,hx⟩)
   ·refine List.mem_append_left _ ?_;have:∃b∈D,b.dest=a.dest:=by
     refine Classical.byContradiction fun hc=>hx(zh.2 fun b hb e=>hc⟨b,hb,e⟩)
    obtain⟨b,hb,e⟩:=this;rw [←uo hn(hD b hb)ha e];exact hb
 have h1:=(h.pm.trans hT).trans(hp.map ko).symm;rw [List.map_append]at h1;exact(List.Fq _).1 h1
theorem EU {Q:List Sr}(hn:Q.Pairwise fun a b=>a.dest≠b.dest) {q q2:Sr}(hq:q∈Q)(hd:q2.dest=q.dest)(P:Sr→Bool)(hP:P q2=true):((St.di Q q2).filter P).Perm((Q.filter fun z=>P z&&!decide(z.dest=q.dest))++ [q2]):=by
 induction Q with
 |nil=>cases hq
 |cons a Q ih=>
  rw [List.pairwise_cons]at hn;rcases List.mem_cons.1 hq with rfl|h
  ·have h1:St.di Q q2=Q:=(List.map_congr_left fun z hz=>if_neg(by rw [hd];exact(hn.1 z hz).symm)).trans(List.map_id _);have h2:St.di(q::Q)q2=q2::Q:=by
    show(if q.dest=q2.dest then q2 else q)::St.di Q q2=_;rw [if_pos hd.symm,h1]
   have h3:(q::Q).filter(fun z=>P z&&!decide(z.dest=q.dest))=Q.filter P:=by
    rw [List.filter_cons_of_neg(by simp)];refine List.filter_congr fun z hz=> ?_;have:z.dest≠q.dest:=(hn.1 z hz).symm;simp [this]
   rw [h2,h3,List.filter_cons_of_pos hP];exact(List.perm_append_singleton _ _).symm
  ·have h2:a.dest≠q.dest:=hn.1 q h;have h1:St.di(a::Q)q2=a::St.di Q q2:=by
    show(if a.dest=q2.dest then q2 else a)::St.di Q q2=_;rw [if_neg(by rw [hd];exact h2)]
   rw [h1];by_cases hp:P a=true
   ·rw [List.filter_cons_of_pos hp,List.filter_cons_of_pos(by simp [hp,h2])];exact(ih hn.2 h).cons a
   ·rw [List.filter_cons_of_neg hp,List.filter_cons_of_neg(by simp [hp])];exact ih hn.2 h
theorem Aj.step {q:Sr} {R:List Sr} {s s2:St} {TL dO:List Hp.Tm}(h:Aj(q::R)s TL)(hn:s.Q.Pairwise fun a b=>a.dest≠b.dest)(ht:TmR q s TL s2 dO):Aj R s2 dO:=by
 have hq:=h.mem q List.mem_cons_self;have hnr:=List.pairwise_cons.1 h.qA;have hpm:TL.Perm((s.Q.filter fun z=>rF R z&&!decide(z.dest=q.dest)).map ko):=by
  have:=h.pm;rw [show rF(q::R)=fun z=>rF R z&&!decide(z.dest=q.dest)from funext fun z=>NI q R z]at this;exact this
 rcases ht with⟨q2,h1,h2,h3,h4,h5⟩|⟨h3,h4,h5⟩
 ·refine⟨fun a ha=> ?_,hnr.2,?_,?_,fun z hz=> ?_,?_⟩
  ·rw [h4];exact(l7(h.mem a(List.mem_cons_of_mem _ ha))).2(by rw [h1];exact(hnr.1 a ha).symm)
  ·rw [h4];unfold St.di;rw [List.pairwise_map];refine(List.Pairwise.and hn h.ids).imp_of_mem fun {a b}ha hb hab=> ?_;have ha':=h.le a ha;have hb':=h.le b hb;by_cases e1:a.dest=q2.dest
   ·rw [if_pos e1,if_neg(fun e2=>hab.1(e1.trans e2.symm))];omega
   ·rw [if_neg e1];split
    ·omega
    ·exact hab.2
  ·rw [h4,h3];exact CO h.le(by omega)
  ·rw [h4]at hz;rcases eZ hz with rfl|⟨k1,_⟩
   ·have:=h.pos q hq;have:=h.le q hq;omega
   ·exact h.pos z k1
  ·rw [h4,h5];have hP:rF R q2=true:=zh.2 fun a ha e=>hnr.1 a ha(by rw [e,h1]);refine List.Perm.trans ?_((EU hn hq h1(rF R)hP).map ko).symm;rw [List.map_append];exact hpm.append_right _
 ·have hTT:dO=TL:=by
   rcases h5 with⟨x,hx,hp⟩|⟨_,e⟩
   ·have hxT:x∈TL:=hp.mem_iff.1 List.mem_cons_self;obtain⟨z,hz,rfl⟩:=List.mem_map.1(hpm.mem_iff.1 hxT);obtain⟨z1,z2⟩:=List.mem_filter.1 hz;have:z=q:=Yp h.ids z1 hq hx;rw [this]at z2;simp at z2
   ·exact e
  refine⟨fun a ha=> ?_,hnr.2,?_,?_,fun z hz=> ?_,?_⟩
  ·rw [h4];exact List.mem_filter.2⟨h.mem a(List.mem_cons_of_mem _ ha),by simpa using(hnr.1 a ha).symm⟩
  ·rw [h4];exact h.ids.filter _
  ·rw [h4,h3];exact fun z hz=>h.le z(List.mem_filter.1 hz).1
  ·rw [h4]at hz;exact h.pos z(List.mem_filter.1 hz).1
  ·rw [h4,hTT,List.filter_filter];exact hpm
end Go.Proofs.YtakaadcpaeiccabGreat
