import Derived.Test.YtakaadcpaeiccabGreatC21
set_option maxHeartbeats 8000000
set_option maxRecDepth 100000
namespace Go.Proofs.YtakaadcpaeiccabGreat
open Go.RowKit Go.Maps
variable{Q:List Sr}{B N:Nat}{q:Sr}{s:St}{v:Value}{W W':World}
theorem TK:(Tryz.prog.info? 9).map (λi=>(i.zero,i.size,i.bytes))=some (some (.string ⟨#[]⟩),1,16):=by kernel_rfl
theorem Qy(W:World)(r:ByteArray):∀(j:Nat) (u:Value),([.string r]:List Value)[j]?=some u->(W.alloc (.cells #[.string r] 9)).cell? ((⟨W.heap.size,0,none⟩:Addr).add j)=some u:=by
 intro j u hj;have h:=bS W (.cells #[.string r] 9);rw[Addr.add_lit,Nat.zero_add]
 match j,hj with
 |0,hj=>cases hj;exact aG _ _ 0 _ _ _ h
def mJ(u:Int->Value)(d:Int)(v:Value):Int->Value:=λx=>if x=d then v else u x
theorem sK.Mx{fn:Value}(h:sK B q v fn W)(T:List ByteArray)(v':Value):sK B {q with txt:=T} v' fn (W.setCell ⟨B,1,none⟩ v'):=by
 unfold sK at h ⊢;simp[World.setCell,Array.getElem?_modify,h]
theorem qG.Mx(h:qG B q v W)(T:List ByteArray)(v':Value):qG B {q with txt:=T} v' (W.setCell ⟨B,1,none⟩ v'):=by
 obtain⟨fn,h1,h2⟩:=h;exact⟨fn,h1.Mx T v',h2⟩
theorem vo(hn:Q.Pairwise λa b=>a.dest≠b.dest){z q:Sr}(hz:z∈Q)(hq:q∈Q)(e:z.dest=q.dest):z=q:=by
 induction Q with
 |nil=>cases hz
 |cons a Q ih=>
  rw[List.pairwise_cons]at hn;rcases eD.1 hz with k1|k1
  ·rcases eD.1 hq with k2|k2
   ·rw[k1,k2]
   ·exact absurd (k1▸e) (hn.1 q k2)
  ·rcases eD.1 hq with k2|k2
   ·exact absurd (k2▸e).symm (hn.1 z k1)
   ·exact ih hn.2 k1 k2
theorem yh.Xd{Ms:Nat}{h:Int->Option Nat}{u:Int->Value}(r:yh Ms h u Q W){q q':Sr}(hq:q∈Q)(hd:q'.dest=q.dest)(hok:q'.Ok){Bq:Nat}(hB:h q.dest=some Bq){v':Value}(hL:qG Bq q' v' W')(hrow:W'.ownsRow 0 9 1 v' q'.txt.length (q'.txt.map Value.string))(hblk:v'.ownBlock=(u q.dest).ownBlock∨∃b,v'.ownBlock=some b∧W.heap.size<=b)(hf:Fx (λk=>k=Bq∨(u q.dest).ownBlock=some k) W W'):yh Ms h (mJ u q.dest v') (St.bR Q q') W':=by
 obtain⟨B',hb1,hb2⟩:=r.ln q hq;rw[hB]at hb1;cases hb1;obtain⟨cB,hcB⟩:=hb2.obj;have hno:∀ {k:Nat} {o:Obj},W.heap[k]?=some o->(∀c,o≠ .cells c 177 (0,0))->(∀c,o≠ .cells c 9 (0,0))->W'.heap[k]?=W.heap[k]?:=λ{k o} ho h1 h2=>hf.block k (aF ho) (by
  rintro(rfl|hk)
  ·rw[hcB]at ho;exact h1 _ (Option.some.inj ho).symm
  ·obtain⟨c,hc⟩:=aS (r.row q hq) hk;rw[hc]at ho;exact h2 _ (Option.some.inj ho).symm)
 have sV:∀z∈St.bR Q q',(z=q'∨(z∈Q∧z.dest≠q.dest)):=λz hz=>by
  rcases fB hz with h|⟨h1,h2⟩
  ·exact .inl h
  ·exact .inr ⟨h1,hd▸h2⟩
 have hu1:mJ u q.dest v' q'.dest=v':=by unfold mJ;rw[aM hd]
 have hu2:∀z:Sr,z.dest≠q.dest->mJ u q.dest v' z.dest=u z.dest:=λz hz=>by unfold mJ;rw[aH hz]
 have hap:∀z∈Q,z.dest≠q.dest->v'.ownBlock=none∨v'.ownBlock≠(u z.dest).ownBlock:=λz hz hne=>by
  rcases hblk with h1|⟨b,h1,h2⟩
  ·rw[h1];exact r.apart q hq z hz (Ne.symm hne)
  ·rw[h1];refine .inr λe=> ?_;have:=((r.row z hz).lt b e.symm).2;omega
 refine⟨by rw[oq];obtain⟨es,cl,hm⟩:=r.map.obj;exact r.map.block (hno hm (λ_ e=>by cases e) (λ_ e=>by cases e)),by rw[zN,Dx,<-zN];exact r.qY,λz hz=> ?_,λd B hd' hB'=> ?_,λz hz=> ?_,λz hz=> ?_,λa ha b hb hne=> ?_,by rw[oq];exact r.len⟩
 ·rcases sV z hz with rfl|⟨h1,_⟩
  ·exact hok
  ·exact r.ok z h1
 ·obtain⟨y,hy,rfl⟩:=r.dom d B hd' hB';by_cases e:y.dest=q'.dest
  ·exact⟨q',(mP hy).1 e,e.symm⟩
  ·exact⟨y,(mP hy).2 e,rfl⟩
 ·rcases sV z hz with rfl|⟨h1,h2⟩
  ·rw[hu1,hd];exact⟨Bq,hB,hL⟩
  ·obtain⟨B',k1,k2⟩:=r.ln z h1;rw[hu2 z h2];refine⟨B',k1,k2.block (hf.block _ k2.lt ?_)⟩;rintro(rfl|hk)
   ·obtain⟨fn1,m1,_⟩:=k2;obtain⟨fn2,m2,_⟩:=hb2;unfold sK at m1 m2;rw[m1]at m2;simp only[Mw,Option.some.injEq,Obj.cells.injEq,Array.mk.injEq,List.cons.injEq,Value.int.injEq,true_and]at m2;exact h2 m2.1.1
   ·obtain⟨c,hc⟩:=aS (r.row q hq) hk;obtain⟨c',hc'⟩:=k2.obj;rw[hc]at hc';cases hc'
 ·rcases sV z hz with rfl|⟨h1,h2⟩
  ·rw[hu1];exact hrow
  ·rw[hu2 z h2];refine bP (r.row z h1) λk hk=>hf.block k ((r.row z h1).lt k hk).2 ?_;rintro(rfl|hk')
   ·obtain⟨c,hc⟩:=aS (r.row z h1) hk;rw[hcB]at hc;cases hc
   ·rcases r.apart q hq z h1 (Ne.symm h2)with e|e
    ·rw[e]at hk';cases hk'
    ·exact e (hk'.trans hk.symm)
 ·rcases sV a ha with rfl|⟨a1,a2⟩<;>rcases sV b hb with rfl|⟨b1,b2⟩
  ·exact absurd rfl hne
  ·rw[hu1,hu2 b b2];exact hap b b1 b2
  ·rw[hu1,hu2 a a2];rcases hap a a1 a2 with e|e
   ·by_cases hn:(u a.dest).ownBlock=none
    ·exact .inl hn
    ·exact .inr (by rw[e];exact hn)
   ·exact .inr (Ne.symm e)
  ·rw[hu2 a a2,hu2 b b2];exact r.apart a a1 b b1 hne
theorem Nd.Xd{g:bI}{TL:List Hp.Tm}(n:Nd N B g s TL W){q q':Sr}(hq:q∈s.Q)(hd:q'.dest=q.dest)(hok:q'.Ok){Bq:Nat}(hB:g.h q.dest=some Bq){v':Value}(hL:qG Bq q' v' W')(hrow:W'.ownsRow 0 9 1 v' q'.txt.length (q'.txt.map Value.string))(hblk:v'.ownBlock=(g.u q.dest).ownBlock∨∃b,v'.ownBlock=some b∧W.heap.size<=b)(hf:Fx (λk=>k=Bq∨(g.u q.dest).ownBlock=some k) W W'):
  Nd N B {g with u:=mJ g.u q.dest v'} {s with Q:=St.bR s.Q q'} TL W'∧Up B (Ft N g s) (Ft N {g with u:=mJ g.u q.dest v'} {s with Q:=St.bR s.Q q'}) W W':=by
 have hr:=n.nn.rs;obtain⟨e1,e2,e3,e4,e5,e6,e7,e8,e9⟩:=n.nn.eq;obtain⟨c,hc⟩:=(n.j6 hq hB).obj;have hno:∀ {k:Nat} {o:Obj},W.heap[k]?=some o->(∀c,o≠ .cells c 177 (0,0))->(∀c,o≠ .cells c 9 (0,0))->W'.heap[k]?=W.heap[k]?:=λ{k o} ho h1 h2=>hf.block k (aF ho) (by
  rintro(rfl|hk)
  ·rw[hc]at ho;exact h1 _ (Option.some.inj ho).symm
  ·obtain⟨c,hc⟩:=aS (hr.sr.row q hq) hk;rw[hc]at ho;exact h2 _ (Option.some.inj ho).symm)
 have abT:∀k,(k=Bq∨(g.u q.dest).ownBlock=some k)->kg g.x g.h g.u g.Mt g.tv s k:=λk h=> .inr (.inl (.inr ⟨q,hq,h.imp (λe=>by rw[e];exact hB) id⟩));refine n.rest (s':={s with Q:=St.bR s.Q q'}) (dW:=TL) (x':=g.x) (h':=g.h) (u':=mJ g.u q.dest v') (Gf:=g.Mt) (hp':=g.hp) (tv':=g.tv) (n.nn.cr.nd.block (hno n.nn.cr.nd (λ_ e=>by cases e) (λ_ e=>by cases e))) rfl rfl ⟨e1,e2,e3,e4,e5,e6,e7,e8,e9⟩
  ⟨hr.sn.block (by obtain⟨es,cl,hm⟩:=hr.sn.obj;exact hno hm (λ_ e=>by cases e) (λ_ e=>by cases e)),hr.sr.Xd hq hd hok hB hL hrow hblk hf,hr.tm.at (hno hr.tm.blk (λ_ e=>by cases e) (λ_ e=>by cases e)) (by
   obtain⟨f,p1,_⟩:=hr.tm.map;obtain⟨es,cl,hm⟩:=p1.obj;exact hno hm (λ_ e=>by cases e) (λ_ e=>by cases e)) (λk hk=>by
   obtain⟨c,hc⟩:=aS hr.tm.row hk;exact hno hc (λ_ e=>by cases e) (λ_ e=>by cases e)),hr.hpo,hr.pm,bP hr.pc λk hk=>by
   obtain⟨c,hc⟩:=aS hr.pc hk;exact hno hc (λ_ e=>by cases e) (λ_ e=>by cases e)⟩
  (hf.mono λk h=> .inr (abT k h)) (λk hk=> ?_) ⟨rfl,rfl,rfl⟩ ⟨rfl,rfl,rfl,rfl,rfl,rfl,rfl,rfl,rfl⟩
 rcases hk with h|h|h
 ·exact .inl (.inl h)
 ·rcases h with h|⟨z,hz,h⟩
  ·exact .inl (.inr (.inl (.inl h)))
  ·rcases fB hz with rfl|⟨h1,h2⟩
   ·rcases h with h|h
    ·rw[hd]at h;exact .inl (.inr (.inl (.inr ⟨q,hq,.inl h⟩)))
    ·unfold mJ at h;rw[aM hd]at h;rcases hblk with h3|⟨b,h3,h4⟩
     ·exact .inl (.inr (.inl (.inr ⟨q,hq,.inr (h3▸h)⟩)))
     ·rw[h3]at h;cases h;exact .inr ⟨h4,(hrow.lt k h3).2⟩
   ·have h2':z.dest≠q.dest:=hd▸h2;rcases h with h|h
    ·exact .inl (.inr (.inl (.inr ⟨z,h1,.inl h⟩)))
    ·unfold mJ at h;rw[aH h2']at h;exact .inl (.inr (.inl (.inr ⟨z,h1,.inr h⟩)))
 ·exact .inl (.inr (.inr h))
def HoP(N B:Nat)(g:bI)(s s2:St)(TL:List Hp.Tm)(w w':World):Prop:=∃g',Nd N B g' s2 TL w'∧Up B (Ft N g s) (Ft N g' s2) w w'∧Hid (g'.x.T=g.x.T)∧Hid (g'.h=g.h)
theorem Vy{g:bI}{TL:List Hp.Tm}{w:World}(n:Nd N B g s TL w)(hdl:s.aQ.length<=900000)(q:Sr)(hq:q∈s.Q)(Bq:Nat)(hB:g.h q.dest=some Bq)(t:ByteArray)(ht:t.size<=16):
  Calls Tryz.prog 82 #[.pointer (some ⟨Bq,0,none⟩),.pointer (some ⟨B,0,none⟩),.string t] w λe w'=>e=.returned (.tuple #[])∧HoP N B g s {(s.hold q t).1 with Q:=St.bR s.Q (s.hold q t).2} TL w w':=by
 obtain⟨i0,hi,hz0,hz1,hz2⟩:=info_parts TK;have hok:=n.nn.rs.sr.ok q hq;have hrow:=n.nn.rs.sr.row q hq;have hL:=n.j6 hq hB;obtain⟨s9,rz⟩:∃z,({(s.hold q t).1 with Q:=St.bR s.Q (s.hold q t).2}:St)=z:=⟨_,rfl⟩;rw[rz];have Zo:∀W0:World,Hid (∀W5,Below W0.heap.size W0 W5->Calls Tryz.prog 119 #[.string t] W5 λe w'=>e=.returned (.string t)∧Below W0.heap.size W0 w'):=by
  intro W0 W5 h5;refine(Qv t W5 (by omega)).mono ?_;rintro e w' ⟨rfl,hb⟩;exact⟨rfl,h5.trans (hb.mono h5.size)⟩
 have YC:∀(g1:bI) (s1:St) (q1:Sr) (W1:World),Nd N B g1 s1 TL W1->q1∈s1.Q->q1.dest=q.dest->g1.h q1.dest=some Bq->q1.txt.length<=3->(∀u,Up B u (Ft N g1 s1) w W1->u=Ft N g s->Hid (g1.x.T=g.x.T)->Hid (g1.h=g.h)-> {s1 with Q:=St.bR s1.Q {q1 with txt:=q1.txt++ [t]}}=s9->
   ∃ao c,∀W5,Below W1.heap.size W1 W5->∃v,v=.slice ao q1.txt.length c∧W5.cell? ⟨Bq,1,none⟩=some v∧(W5.alloc (.cells #[.string t] 9)).cell? ⟨Bq,1,none⟩=some v∧(W5.alloc (.cells #[.string t] 9)).ownsRow 0 9 1 v q1.txt.length (q1.txt.map Value.string)∧(∀j u,([.string t]:List Value)[j]?=some u->(W5.alloc (.cells #[.string t] 9)).cell? ((⟨W5.heap.size,0,none⟩:Addr).add j)=some u)∧
    ∀v7 w7,w7.ownsRow 0 9 1 v7 (q1.txt.length+1) (q1.txt.map Value.string++ [.string t])->(W5.alloc (.cells #[.string t] 9)).grownBy w7 v.ownBlock->(v7.ownBlock=v.ownBlock∨v7.ownBlock=some (W5.alloc (.cells #[.string t] 9)).heap.size)->(∃x,w7.cell? ⟨Bq,1,none⟩=some x)∧w7.frozen? ⟨Bq,1,none⟩=false∧HoP N B g s s9 TL w (w7.setCell ⟨Bq,1,none⟩ v7)):=by
  intro g1 s1 q1 W1 n1 hq1 hd1 hB1 hl1 u up hu t1 y1 e9;obtain⟨ao,c,hv,_⟩:=ay (n1.nn.rs.sr.row q1 hq1);refine⟨ao,c,λW5 h5=> ?_⟩;subst hu;have n5:=n1.later h5;have hL5:=n5.j6 hq1 hB1;have nO:=n5.nn.rs.sr.row q1 hq1;have ok1:=n5.nn.rs.sr.ok q1 hq1;have jM:Below W5.heap.size W5 (W5.alloc (.cells #[.string t] 9)):=bC;have n6:=n5.later jM;have hL6:=n6.j6 hq1 hB1;have uz:=n6.nn.rs.sr.row q1 hq1;refine⟨_,hv,hL5.cell.2.1,hL6.cell.2.1,uz,Qy W5 t,λv7 w7 ho hg hv=> ?_⟩;obtain⟨cB,hcB⟩:=hL6.obj;have hne:(g1.u q1.dest).ownBlock≠some Bq:=aA uz hcB (λc e=>by cases e);have hL7:qG Bq q1 (g1.u q1.dest) w7:=hL6.block (hg.block Bq hL6.lt (λe=>hne e.symm));have hL8:=hL7.Mx (q1.txt++ [t]) v7;have hgB:w7.grownBy (w7.setCell ⟨Bq,1,none⟩ v7) (some Bq):=ah (aC _ (some Bq)) 1 _;obtain⟨c7,hc7⟩:=hL7.obj;have Gq:=ho.kept hgB (.inr (aA ho hc7 (λc e=>by cases e)));have hfx:Fx (λk=>k=Bq∨(g1.u q1.dest).ownBlock=some k) (W5.alloc (.cells #[.string t] 9)) (w7.setCell ⟨Bq,1,none⟩ v7):=aV (Fx.grown hg λk e=> .inr e) hgB (λi _ e=> .inl (Option.some.inj e).symm);obtain⟨p,uu⟩:=n6.Xd (q':={q1 with txt:=q1.txt++ [t]}) hq1 rfl ⟨ok1.dest,ok1.ttl,ok1.ret,by dsimp only;rw[dx,List.length_singleton];omega,λz hz=>(dG.1 hz).elim (ok1.JS z) (λh=>by rw[dO]at h;subst h;exact ht),ok1.id⟩ hB1 hL8 (by dsimp only;rw[dx,List.map_append];exact Gq) (hv.imp id λh=>⟨_,h,aB _⟩) hfx;rw[e9]at p uu;exact⟨⟨_,hL7.cell.2.1⟩,hL7.frees 1,_,p,((up.trans (.below h5)).trans (.below jM)).trans uu,t1,y1⟩
 obtain⟨ao,c,hv,_⟩:=ay hrow;obtain⟨k0,k1,k2,k3,k4⟩:=hL.cell;by_cases h4:q.txt.length=4
 ·have e9:({s.drop 6 with Q:=St.bR s.Q {q with txt:=q.txt.tail++ [t]}}:St)=s9:=by
   rw[<-rz];unfold St.hold;rw[aM h4]
  obtain⟨gb,cap,hv',_⟩:=bY hrow (by omega);rw[hv',h4]at hrow;have HD:=DS.uN 0 gb 4 cap 0 _ w hrow (by omega) (by omega) (λu hu=>by
   obtain⟨z,_,rfl⟩:=dh.1 hu;rfl)
  have htl:(q.txt.map Value.string).take 0++(q.txt.map Value.string).drop (0+1)=q.txt.tail.map Value.string:=by
   rw[List.take_zero,List.nil_append,Nat.zero_add,List.drop_one,List.map_tail]
  rw[htl]at HD;have HD2:Hid (Calls Tryz.prog 118 #[.slice (some ⟨gb,0,none⟩) 4 cap,.int .i64 0,.int .i64 1] w λe w'=>e=.returned (.slice (some ⟨gb,0,none⟩) 3 cap)∧(∃x,w'.cell? ⟨Bq,1,none⟩=some x)∧w'.frozen? ⟨Bq,1,none⟩=false∧∃g1,Nd N B g1 {s with Q:=St.bR s.Q {q with txt:=q.txt.tail}} TL (w'.setCell ⟨Bq,1,none⟩ (.slice (some ⟨gb,0,none⟩) 3 cap))∧Up B (Ft N g s) (Ft N g1 {s with Q:=St.bR s.Q {q with txt:=q.txt.tail}}) w (w'.setCell ⟨Bq,1,none⟩ (.slice (some ⟨gb,0,none⟩) 3 cap))∧Hid (g1.x.T=g.x.T)∧Hid (g1.h=g.h)):=by
   refine aT HD ?_;rintro e w' ⟨rfl,h1,h2⟩;obtain⟨cB,hcB⟩:=hL.obj;have hne:gb≠Bq:=by
    have:=aA hrow hcB (λc e=>by cases e);simpa[Value.ownBlock]using this
   have hL1:qG Bq q (g.u q.dest) w':=hL.block (h2.block Bq hL.lt (λe=>hne (Option.some.inj e).symm));have hL2:=hL1.Mx q.txt.tail (.slice (some ⟨gb,0,none⟩) 3 cap);have hgB:w'.grownBy (w'.setCell ⟨Bq,1,none⟩ (.slice (some ⟨gb,0,none⟩) 3 cap)) (some Bq):=ah (aC _ (some Bq)) 1 _;obtain⟨c7,hc7⟩:=hL1.obj;have Gq:=h1.kept hgB (.inr (aA h1 hc7 (λc e=>by cases e)));have hfx:Fx (λk=>k=Bq∨(g.u q.dest).ownBlock=some k) w (w'.setCell ⟨Bq,1,none⟩ (.slice (some ⟨gb,0,none⟩) 3 cap)):=aV (Fx.grown h2 λk e=> .inr (by rw[hv',<-e];rfl)) hgB (λi _ e=> .inl (Option.some.inj e).symm);have hl3:q.txt.tail.length=3:=by rw[List.length_tail];omega
   obtain⟨p,uu⟩:=n.Xd (q':={q with txt:=q.txt.tail}) hq rfl ⟨hok.dest,hok.ttl,hok.ret,by dsimp only;omega,λz hz=>hok.JS z (List.mem_of_mem_tail hz),hok.id⟩ hB hL2 (by dsimp only;rw[hl3];exact Gq) (.inl (by rw[hv'];rfl)) hfx;exact⟨rfl,⟨_,hL1.cell.2.1⟩,hL1.frees 1,_,p,uu,rfl,rfl⟩
  rw[hv',h4]at k1;clear hL n HD hrow;go_enter Tryz.func82,Tryz.ntmps82;go_wp2_with fail;refine aT HD2.out ?_;rintro e w1 ⟨rfl,⟨x1,j1⟩,j2,g1,n1,u1,t1,y1⟩;clear HD2 k0 k1 k2 k3 k4;have HX:=hide (Gd n1 6 (by dsimp only;omega));obtain⟨s1,hs1⟩:∃z,({s with Q:=St.bR s.Q {q with txt:=q.txt.tail}}:St).drop 6=z:=⟨_,rfl⟩;have T9:Hid (s1.Q=St.bR s.Q {q with txt:=q.txt.tail}∧ {s1 with Q:=St.bR s1.Q {q with txt:=q.txt.tail++ [t]}}=s9):=by
   show _∧_;rw[<-hs1,<-e9];refine⟨rfl,?_⟩;show({s.drop 6 with Q:=St.bR (St.bR s.Q {q with txt:=q.txt.tail}) {q with txt:=q.txt.tail++ [t]}}:St)=_;rw[tY s.Q (a:={q with txt:=q.txt.tail}) (b:={q with txt:=q.txt.tail++ [t]}) rfl]
  rw[hs1]at HX;go_upto_region 2 with(fail);generalize World.setCell _ _ _=W2 at HX u1;clear n1 hs1;go_wp2_with fail;refine aT HX.out ?_;rintro e w3 ⟨rfl,g3,n3,u3,t3,y3⟩;have hq3:({q with txt:=q.txt.tail}:Sr)∈s1.Q:=by rw[T9.out.1];exact(mP hq).1 rfl
  have hB3:g3.h ({q with txt:=q.txt.tail}:Sr).dest=some Bq:=by rw[y3.out.1,y1.out];exact hB
  have HK:=hide (YC g3 s1 {q with txt:=q.txt.tail} w3 n3 hq3 rfl hB3 (by dsimp only;rw[List.length_tail];omega) _ (u1.trans u3) rfl (t3.out.trans t1.out) (y3.out.1.trans y1.out) T9.out.2);have HCl:=Zo w3;have hlt:Hid (({q with txt:=q.txt.tail}:Sr).txt.length<=3):=by show _<=_;dsimp only;rw[List.length_tail];omega
  generalize ({q with txt:=q.txt.tail}:Sr)=q3 at HK hlt;clear YC Zo HX n3 u3 u1 hq3 hB3 T9 e9 rz t3 y3 t1 y1 hok hv hv' j1 j2;go_wp2_with fail;obtain⟨aq,cq,HK⟩:=HK.out;replace HK:=hide HK;obtain⟨_,rfl,kk,_,_⟩:=HK.out _ (aU _ _).drew;obtain⟨_,rfl,kw,_,_⟩:=HK.out _ (aU _ _);go_region_law (first
   |(go_simp;go_at_call 119;refine(HCl.out _ (by first|exact aU _ _|exact(aU _ _).drew|exact below_drewN (aU _ _) _)).mono ?_;rintro e w5 ⟨rfl,hb5⟩;obtain⟨v5,rfl,m1,m2,m3,m4,m5⟩:=HK.out _ hb5)
   |(refine gY rfl (.tmp 26) (.tmp 29) 80 rfl 0 9 i0 (.string ⟨#[]⟩) 1 16 Tryz.underlying80 hi hz0 hz1 hz2 rfl (by decide) _ _ _ rfl m3 ⟨w5.heap.size,0,none⟩ 1 1 [.string t] rfl rfl m4 (by simp[Value.oneCell']) (by unfold maxLen;have:=hlt.out;omega) (by have:=hlt.out;omega) (b_ _) ?_;intro v7 w7 iy gW hv7;obtain⟨⟨x7,f1⟩,f2,hfin⟩:=m5 v7 w7 iy gW hv7;obtain⟨Rf,U_,rfl,_⟩:=ay iy;replace hfin:=hide hfin))
  all_goals (generalize World.setCell _ _ _=w8 at hfin ⊢;go_wp2;go_returns;exact⟨rfl,hfin.out⟩)
 ·have e9:({s with Q:=St.bR s.Q {q with txt:=q.txt++ [t]}}:St)=s9:=by
   rw[<-rz];unfold St.hold;rw[aH h4]
  have hlt':q.txt.length<=3:=by have:=hok.txt;omega
  have h4':((q.txt.length:Int)==4)=false:=by simp;omega
  have HK:=hide (YC g s q w n hq rfl hB hlt' _ (Up.refl _ _ _) rfl rfl rfl e9);have HCl:=Zo w;have hlt:Hid (q.txt.length<=3):=hlt';rw[hv]at k1;go_enter Tryz.func82,Tryz.ntmps82;go_wp2_with fail;clear YC Zo n rz e9 hrow hL hok k0 k1 k2 k3 k4 hv h4 h4' hlt' hB hq;obtain⟨aq,cq,HK⟩:=HK.out;replace HK:=hide HK;obtain⟨_,rfl,kk,_,_⟩:=HK.out _ (aU _ _).drew;obtain⟨_,rfl,kw,_,_⟩:=HK.out _ (aU _ _);go_region_law (first
   |(go_simp;go_at_call 119;refine(HCl.out _ (by first|exact aU _ _|exact(aU _ _).drew|exact below_drewN (aU _ _) _)).mono ?_;rintro e w5 ⟨rfl,hb5⟩;obtain⟨v5,rfl,m1,m2,m3,m4,m5⟩:=HK.out _ hb5)
   |(refine gY rfl (.tmp 26) (.tmp 29) 80 rfl 0 9 i0 (.string ⟨#[]⟩) 1 16 Tryz.underlying80 hi hz0 hz1 hz2 rfl (by decide) _ _ _ rfl m3 ⟨w5.heap.size,0,none⟩ 1 1 [.string t] rfl rfl m4 (by simp[Value.oneCell']) (by unfold maxLen;have:=hlt.out;omega) (by have:=hlt.out;omega) (b_ _) ?_;intro v7 w7 iy gW hv7;obtain⟨⟨x7,f1⟩,f2,hfin⟩:=m5 v7 w7 iy gW hv7;obtain⟨Rf,U_,rfl,_⟩:=ay iy;replace hfin:=hide hfin))
  all_goals (generalize World.setCell _ _ _=w8 at hfin ⊢;go_wp2;go_returns;exact⟨rfl,hfin.out⟩)
variable{d:Int}{Q:List Sr}{B N:Nat}{s:St}{W W':World}
theorem yh.add{Ms:Nat}{h:Int->Option Nat}{u:Int->Value}(r:yh Ms h u Q W){q:Sr}(hq:h q.dest=none)(hok:q.Ok)(ht:q.txt=[])(hl:Q.length<=4999){Bq:Nat}(hL:qG Bq q (.slice none 0 0) W')(hm:fH W' Ms (fA h q.dest (some Bq)) (Q.length+1))(he:∀k,JB Ms h u Q k->k≠Ms->W'.heap[k]?=W.heap[k]?):yh Ms (fA h q.dest (some Bq)) (mJ u q.dest (.slice none 0 0)) (Q++ [q]) W':=by
 have hno:∀z∈Q,z.dest≠q.dest:=λz hz e=>by
  obtain⟨B,h1,_⟩:=r.ln z hz;rw[e,hq]at h1;cases h1
 have hu1:mJ u q.dest (.slice none 0 0) q.dest=.slice none 0 0:=by unfold mJ;rw[aM rfl]
 have hu2:∀z∈Q,mJ u q.dest (.slice none 0 0) z.dest=u z.dest:=λz hz=>by unfold mJ;rw[aH (hno z hz)]
 have hh2:∀z∈Q,fA h q.dest (some Bq) z.dest=h z.dest:=λz hz=>by unfold fA;rw[aH (hno z hz)]
 obtain⟨es,cl,hmo⟩:=r.map.obj;have hl':(Q++ [q]).length=Q.length+1:=by simp
 refine⟨by rw[hl'];exact hm,List.pairwise_append.2 ⟨r.qY,List.pairwise_singleton _ _,λa ha b hb=>by rw[dO]at hb;rw[hb];exact hno a ha⟩,λz hz=> ?_,λd B hd hB=> ?_,λz hz=> ?_,λz hz=> ?_,λa ha b hb hne=> ?_,by omega⟩
 ·rcases dG.1 hz with h1|h1
  ·exact r.ok z h1
  ·rw[dO]at h1;rw[h1];exact hok
 ·by_cases e:d=q.dest
  ·exact⟨q,List.mem_append_right _ (dO.2 rfl),e.symm⟩
  ·unfold fA at hB;rw[aH e]at hB;obtain⟨z,hz,h1⟩:=r.dom d B hd hB;exact⟨z,List.mem_append_left _ hz,h1⟩
 ·rcases dG.1 hz with h1|h1
  ·obtain⟨B,k1,k2⟩:=r.ln z h1;rw[hh2 z h1,hu2 z h1];refine⟨B,k1,k2.block (he B (.inr ⟨z,h1,.inl k1⟩) ?_)⟩;rintro rfl;obtain⟨c,hc⟩:=k2.obj;rw[hmo]at hc;cases hc
  ·rw[dO]at h1;subst h1;rw[hu1];exact⟨Bq,by unfold fA;rw[aM rfl],hL⟩
 ·rcases dG.1 hz with h1|h1
  ·rw[hu2 z h1];refine bP (r.row z h1) λk hk=>he k (.inr ⟨z,h1,.inr hk⟩) ?_;rintro rfl;obtain⟨c,hc⟩:=aS (r.row z h1) hk;rw[hmo]at hc;cases hc
  ·rw[dO]at h1;subst h1;rw[hu1,ht];exact⟨rfl,.inl ⟨rfl,rfl⟩⟩
 ·rcases dG.1 ha with a1|a1<;>rcases dG.1 hb with b1|b1
  ·rw[hu2 a a1,hu2 b b1];exact r.apart a a1 b b1 hne
  ·rw[dO]at b1;subst b1;rw[hu1,hu2 a a1];by_cases hn:(u a.dest).ownBlock=none
   ·exact .inl hn
   ·exact .inr hn
  ·rw[dO]at a1;subst a1;rw[hu1];exact .inl rfl
  ·rw[dO]at a1 b1;rw[a1,b1]at hne;exact absurd rfl hne
theorem Nd.aga{g:bI}{TL:List Hp.Tm}(n:Nd N B g s TL W)(q:Sr)(hq:g.h q.dest=none)(hok:q.Ok)(ht:q.txt=[])(hl:s.Q.length<=4999){Bq:Nat}(hL:qG Bq q (.slice none 0 0) W')(hBq:W.heap.size<=Bq)(hm:fH W' g.x.qK (fA g.h q.dest (some Bq)) (s.Q.length+1))(hf:Fx (λk=>k=g.x.qK) W W'):
  Nd N B {g with h:=fA g.h q.dest (some Bq),u:=mJ g.u q.dest (.slice none 0 0)} {s with Q:=s.Q++ [q]} TL W'∧Up B (Ft N g s) (Ft N {g with h:=fA g.h q.dest (some Bq),u:=mJ g.u q.dest (.slice none 0 0)} {s with Q:=s.Q++ [q]}) W W':=by
 have hr:=n.nn.rs;obtain⟨e1,e2,e3,e4,e5,e6,e7,e8,e9⟩:=n.nn.eq;have hnd:=n.nn.qY;simp only[List.nodup_cons,eD,List.not_mem_nil,or_false,not_or]at hnd;obtain⟨_,_,⟨d1,d2⟩,d3,_⟩:=hnd;have hk:∀ {k:Nat} {o:Obj},W.heap[k]?=some o->k≠g.x.qK->W'.heap[k]?=W.heap[k]?:=λho hn=>hf.block _ (aF ho) hn;have hno:∀ {k:Nat} {o:Obj},W.heap[k]?=some o->(∀es cl,o≠ .map es cl)->W'.heap[k]?=W.heap[k]?:=by
  intro k o ho hc;refine hk ho ?_;rintro rfl;obtain⟨es,cl,hm0⟩:=hr.sr.map.obj;rw[hm0]at ho;exact hc _ _ (Option.some.inj ho).symm
 have hz:∀z∈s.Q,z.dest≠q.dest:=λz hz e=>by
  obtain⟨B,h1,_⟩:=hr.sr.ln z hz;rw[e,hq]at h1;cases h1
 refine n.rest (hno n.nn.cr.nd (λ_ _ e=>by cases e)|>λh=>n.nn.cr.nd.block h) rfl rfl ⟨e1,e2,e3,e4,e5,e6,e7,e8,e9⟩ (h':=fA g.h q.dest (some Bq)) (u':=mJ g.u q.dest (.slice none 0 0)) (Gf:=g.Mt) (hp':=g.hp) (tv':=g.tv)
  ⟨hr.sn.block ?_,hr.sr.add hq hok ht hl hL hm λk hk1 hk2=>hf.block k (hr.sr.lt hk1) hk2,hr.tm.at (hno hr.tm.blk λ_ _ e=>by cases e) ?_ (λk hk1=> ?_),hr.hpo,hr.pm,bP hr.pc λk hk1=> ?_⟩
  (hf.mono λk e=> .inr (.inr (.inl (.inl e)))) (λk hk1=> ?_) ⟨rfl,rfl,rfl⟩ ⟨rfl,rfl,rfl,rfl,rfl,rfl,rfl,rfl,rfl⟩
 ·obtain⟨es,cl,hm0⟩:=hr.sn.obj;exact hk hm0 d1
 ·obtain⟨f,p1,_⟩:=hr.tm.map;exact hf.block _ p1.lt (Ne.symm d3)
 ·obtain⟨c,hc⟩:=aS hr.tm.row hk1;exact hno hc λ_ _ e=>by cases e
 ·obtain⟨c,hc⟩:=aS hr.pc hk1;exact hno hc λ_ _ e=>by cases e
 ·rcases hk1 with h|h|h
  ·exact .inl (.inl h)
  ·rcases h with h|⟨z,hz1,h⟩
   ·exact .inl (.inr (.inl (.inl h)))
   ·rcases dG.1 hz1 with h1|h1
    ·refine .inl (.inr (.inl (.inr ⟨z,h1,h.imp (λh=> ?_) (λh=> ?_)⟩)))
     ·simpa[fA,hz z h1]using h
     ·simpa[mJ,hz z h1]using h
    ·rw[dO]at h1;subst h1;rcases h with h|h
     ·unfold fA at h;rw[aM rfl]at h;cases h;exact .inr ⟨hBq,hL.lt⟩
     ·unfold mJ at h;rw[aM rfl]at h;cases h
  ·exact .inl (.inr (.inr h))
def AwP(N B:Nat)(g:bI)(s s2:St)(TL:List Hp.Tm)(w w':World):Prop:=∃dW,lV N B g s s2 dW w w'∧(dV s TL->dV s2 dW)
theorem GN{q0 q1:Sr}(hd:q1.dest=q0.dest)(hz:∀z∈Q,z.dest≠q0.dest):St.bR (Q++ [q0]) q1=Q++ [q1]:=by
 unfold St.bR;rw[List.map_append,List.map_cons,List.map_nil,aM hd.symm]
 congr 1
 exact(List.map_congr_left λz h=>aH (by rw[hd];exact hz z h)).trans (List.map_id _)
theorem Xf(hn:Q.Pairwise λa b=>a.dest≠b.dest){q q':Sr}(hq:q∈Q)(ht:kT q'=kT q):(St.bR Q q').map kT=Q.map kT:=by
 have hd:q'.dest=q.dest:=congrArg (·.2.2) ht;unfold St.bR;rw[List.map_map];refine List.map_congr_left λz hz=> ?_;show kT (if z.dest=q'.dest then q' else z)=kT z;split
 ·rename_i e;rw[ht,vo hn hz hq (by rw[e,hd])]
 ·rfl
theorem Ya(s:St)(q:Sr)(t:ByteArray):kT (s.hold q t).2=kT q:=by
 unfold St.hold;split<;>rfl
theorem XK(hd:a_ d):(⟨d,[],1,0,0,0,false⟩:Sr).Ok:=
 ⟨hd,by dsimp only;omega,b_ _,b_ _,λ_ h=>(by cases h),by dsimp only;omega⟩
theorem Lj(hso:St.j6 s.Q d=none){t:ByteArray}(hz:∀z∈s.Q,z.dest≠d):({({s with Q:=s.Q++ [⟨d,[],1,0,0,0,false⟩]}:St).hold ⟨d,[],1,0,0,0,false⟩ t|>.1 with Q:=St.bR (s.Q++ [⟨d,[],1,0,0,0,false⟩]) (({s with Q:=s.Q++ [⟨d,[],1,0,0,0,false⟩]}:St).hold ⟨d,[],1,0,0,0,false⟩ t).2}:St)={s with Q:=s.Q++ [St.ic d t]}∧s.await d t=({s with Q:=s.Q++ [St.ic d t]}:St).ask (St.ic d t):=by
 constructor
 ·show({s with Q:=St.bR (s.Q++ [⟨d,[],1,0,0,0,false⟩]) (St.ic d t)}:St)=_;rw[GN (q0:=⟨d,[],1,0,0,0,false⟩) (q1:=St.ic d t) rfl hz]
 ·unfold St.await;rw[hso]
theorem acn{t:ByteArray}{TL:List Hp.Tm}(hz:∀z∈s.Q,z.dest≠d)(h:dV s TL):dV (({s with Q:=s.Q++ [St.ic d t]}:St).ask (St.ic d t)) (TL++ [(({s with Q:=s.Q++ [St.ic d t]}:St).lu (St.ic d t),s.tl+1,d)]):=by
 obtain⟨o,h1,_⟩:=Ef ({s with Q:=s.Q++ [St.ic d t]}:St) (St.ic d t);unfold dV at h ⊢;rw[h1];dsimp only;rw[GN (by rfl) (by exact hz),List.map_append];exact h.append_right _
theorem Zm{g:bI}{TL:List Hp.Tm}{w:World}(n:Nd N B g s TL w)(hR:s.Rdy)(hdl:s.aQ.length<=800000)(d:Int)(hd:a_ d)(t:ByteArray)(ht:t.size<=16)(hl:TL.length<=900000)(hQ:s.Q.length<=4999)(htl:0<=s.tl∧s.tl<=4000000000000000000)(hid:∀x∈TL,x.2.1<=s.tl):
  Calls Tryz.prog 54 #[.pointer (some ⟨N,0,none⟩),.pointer (some ⟨B,0,none⟩),.int .u32 d,.string t] w λe w'=>e=.returned (.tuple #[])∧AwP N B g s (s.await d t) TL w w':=by
 have hlk:=n.nn.rs.sr.map.Iu hd;have c13:=n.nn.cr.nd.more.2.2.1;obtain⟨so,hso⟩:∃o,St.j6 s.Q d=o:=⟨_,rfl⟩;cases so with
 |some q=>
  obtain⟨h1,h2,Bq,h3,_⟩:=n.nn.rs.sr.at hso;have hB:g.h q.dest=some Bq:=by rw[h2];exact h3
  rw[h3]at hlk;have HH:=hide (Vy n (by omega) q h1 Bq hB t ht);have hfin:Hid (∀w',HoP N B g s {(s.hold q t).1 with Q:=St.bR s.Q (s.hold q t).2} TL w w'->AwP N B g s (s.await d t) TL w w'):=λw' hp=>by
   obtain⟨g',p1,p2,p3,_⟩:=hp;have e:s.await d t={(s.hold q t).1 with Q:=St.bR s.Q (s.hold q t).2}:=by
    unfold St.await;rw[hso]
   rw[e];refine⟨TL,⟨g',p1,p2,p3⟩,λhT=> ?_⟩;unfold dV at hT ⊢;dsimp only;rw[Xf n.nn.rs.sr.qY h1 (Ya s q t)];exact hT
  clear hso;go_enter Tryz.func54,Tryz.ntmps54;go_upto_region 4 with(fail);clear hlk c13;go_wp2_with fail;refine aT HH.out ?_;rintro e w2 ⟨rfl,hp⟩;have NA:=hide (hfin.out w2 hp);clear hfin hp HH;go_wp2;go_returns;exact⟨rfl,NA.out⟩
 |none=>
  have h3:=n.nn.rs.sr.off hd hso;rw[h3]at hlk;have hz:∀z∈s.Q,z.dest≠d:=λz hz e=>by
   have:=List.find?_eq_none.1 hso z hz;simp at this;exact this e
  obtain⟨e1,e2⟩:=Lj (t:=t) hso hz;have hW1:=(aU w.heap.size w).alloc (aB _) (.cells #[.int .u32 d,.slice none 0 0,.int .i64 1,.int .i64 0,.int .i64 0,.nilFunc] 177);have hL1:qG w.heap.size ⟨d,[],1,0,0,0,false⟩ (.slice none 0 0) (w.alloc (.cells #[.int .u32 d,.slice none 0 0,.int .i64 1,.int .i64 0,.int .i64 0,.nilFunc] 177)):=⟨.nilFunc,bS _ _,λh=>absurd rfl h⟩;obtain⟨W2,hp,hm2,hg2⟩:=(n.nn.rs.sr.map.block (hW1.block _ n.nn.rs.sr.map.lt)).puts (by have:=n.nn.rs.sr.len;unfold maxLen;omega) hd w.heap.size;have n1:=n.later hW1;have af9:=n1.nn.cr.nd.more.2.2.1;have hw1:w.heap.size<(w.alloc (.cells #[.int .u32 d,.slice none 0 0,.int .i64 1,.int .i64 0,.int .i64 0,.nilFunc] 177)).heap.size:=by simp
  have hne:g.x.qK≠w.heap.size:=by have:=n.nn.rs.sr.map.lt;omega
  have hf2:Fx (λk=>k=g.x.qK) w W2:=aV (Fx.below hW1) hg2 (λi _ e=>(Option.some.inj e).symm);rw[h3]at hm2;obtain⟨n2,u2⟩:=n.aga ⟨d,[],1,0,0,0,false⟩ h3 (XK hd) rfl hQ (hL1.block (hg2.block w.heap.size hw1 (λe=>hne (Option.some.inj e).symm))) (aB _) hm2 hf2;have HH:=Vy n2 (by dsimp only;omega) ⟨d,[],1,0,0,0,false⟩ (List.mem_append_right _ (dO.2 rfl)) w.heap.size (by dsimp only;unfold fA;rw[aM rfl]) t ht;rw[e1]at HH;have ht2:Hid (({g with h:=fA g.h d (some w.heap.size),u:=mJ g.u d (.slice none 0 0)}:bI).x.T=g.x.T):=rfl;have hh2:Hid (({g with h:=fA g.h d (some w.heap.size),u:=mJ g.u d (.slice none 0 0)}:bI).h d=some w.heap.size):=by show _=_;dsimp only;unfold fA;rw[aM rfl]
  dsimp only at HH u2;generalize ({g with h:=fA g.h d (some w.heap.size),u:=mJ g.u d (.slice none 0 0)}:bI)=g2 at HH u2 ht2 hh2;have Q9:Hid (dV s TL->dV (s.await d t) (TL++ [(({s with Q:=s.Q++ [St.ic d t]}:St).lu (St.ic d t),s.tl+1,d)])):=by
   rw[e2];exact acn hz
  have hak:Hid (∀(g3:bI) (w3:World),Nd N B g3 {s with Q:=s.Q++ [St.ic d t]} TL w3->g3.h d=some w.heap.size->Calls Tryz.prog 83 #[.pointer (some ⟨w.heap.size,0,none⟩),.pointer (some ⟨N,0,none⟩),.pointer (some ⟨B,0,none⟩)] w3 λe w'=>e=.returned (.tuple #[])∧AkP N B g3 {s with Q:=s.Q++ [St.ic d t]} (s.await d t) TL (TL++ [(({s with Q:=s.Q++ [St.ic d t]}:St).lu (St.ic d t),s.tl+1,d)]) w3 w'):=λg3 w3 n3 h=>by
   rw[e2];exact VD n3 ⟨hR.me,hR.seq,hR.now,hR.mem,⟨hR.dom.mb,hR.dom.on,hR.dom.own⟩,hR.cnt,hR.bg,hR.aI,hR.tn,hR.Cv,hR.AR,hR.AU⟩ (by dsimp only;omega) (St.ic d t) (List.mem_append_right _ (dO.2 rfl)) w.heap.size h hl htl hid
  replace HH:=hide HH;clear n1 n2 e1 e2 hL1 hm2 hg2 hf2 hz hso hR h3 n;generalize s.await d t=s9 at Q9 hak ⊢;generalize (({s with Q:=s.Q++ [St.ic d t]}:St).lu (St.ic d t),s.tl+1,d)=tm at Q9 hak;generalize ({s with Q:=s.Q++ [St.ic d t]}:St)=s3 at HH hak;go_enter Tryz.func54,Tryz.ntmps54;go_upto_region 4 with(fail);clear hp af9 c13 hlk;go_wp2_with fail;refine aT HH.out ?_;rintro e w4 ⟨rfl,g4,n4,u4,t4,y4⟩;have HA:=hide (hak.out g4 w4 n4 (by rw[y4.out];exact hh2.out));have u24:=u2.trans u4;clear HH hak n4 u2 u4;go_wp2_with fail;refine aT HA.out ?_;rintro e w5 ⟨rfl,g5,n5,u5,t5,_⟩;have hfin:Hid (AwP N B g s s9 TL w w5):=⟨_,⟨g5,n5,u24.trans u5,t5.out.trans (t4.out.trans ht2.out)⟩,Q9.out⟩;clear HA n5 u5 u24;go_wp2;go_returns;exact⟨rfl,hfin.out⟩
variable{k:Int}{j:Nat}{s s':St}
theorem St.Mid.rdy(h:s.Mid k j)(hj:j<=7000)(hk:0<=k∧k<=100000000000):s.Rdy:=
 ⟨h.me,h.seq,h.now,h.mem,h.dom,by have:=h.cnt;omega,by have:=h.bg;omega,by have:=h.aI;omega,by have:=h.tn;omega,h.Cv,h.AR,h.AU⟩
structure Kp(s s':St):Prop where
 me:s'.me=s.me
 now:s'.now=s.now
 lk:s'.lk=s.lk
theorem Kp.refl(s:St):Kp s s:=⟨rfl,rfl,rfl⟩
theorem Kp.trans{a b c:St}(p:Kp a b)(q:Kp b c):Kp a c:=⟨q.me.trans p.me,q.now.trans p.now,q.lk.trans p.lk⟩
theorem Eff.kp(e:Eff j s s'):Kp s s':=⟨e.me,e.now,e.lk⟩
theorem Ew{Q:List Sr}{q:Sr}{t:Int}(h:∀z∈Q,z.id<=t)(hq:q.id<=t+1):∀z∈St.bR Q q,z.id<=t+1:=λz hz=>by
 rcases fB hz with rfl|⟨h1,_⟩
 ·exact hq
 ·have:=h z h1;omega
theorem vL(h:s.Mid k j)(hA:∀y∈s.A,y.Ok)(hl:s.A.length<=8)(q:Sr):(s.ask q).Mid k (j+1)∧Kp s (s.ask q):=by
 rw[BR];have htl:=h.tl;cases s.holds with
 |some r=>
  refine⟨⟨h.me,h.seq,h.now,h.mem,⟨h.dom.mb,h.dom.on,h.dom.own⟩,by have:=h.cnt;show _∧s.cnt<=_;exact⟨this.1,by omega⟩,by have:=h.bg;show s.bg.length<=_;omega,h.bd,by have:=h.aI;show s.aI.length<=_;omega,?_,by have:=h.aR;show s.aR.length<=_;omega,by have:=h.tn;show s.tn<=_;omega,by show 0<=s.tl+1∧s.tl+1<=_;omega,h.Cv,h.AR,h.AU,Ew h.EF (fo _)⟩,rfl,rfl,rfl⟩;have:=h.aQ;show(s.aQ++ [r]).length<=_;rw[dx,List.length_singleton];omega
 |none=>
  have hw:({s with seq:=gr s.seq,dm:=(s.dm+1)%4294967296}:St).write.Mid k (j+1):=
   xI (s:={s with seq:=gr s.seq,dm:=(s.dm+1)%4294967296}) ⟨h.me,uG h.seq,h.now,h.mem,⟨h.dom.mb,h.dom.on,h.dom.own⟩,h.cnt,h.bg,h.bd,h.aI,h.aQ,h.aR,h.tn,h.tl,h.Cv,h.AR,h.AU,h.EF⟩ hA hl
  refine⟨⟨h.me,hw.seq,h.now,λe he=>yC h.mem he,⟨hw.dom.mb,hw.dom.on,hw.dom.own⟩,hw.cnt,hw.bg,hw.bd,?_,hw.aQ,hw.aR,by have:=h.tn;show s.tn+1<=_;omega,by show 0<=s.tl+1∧s.tl+1<=_;omega,O3 h.Cv _,(pJ h.AR h.AU).1,(pJ h.AR h.AU).2,Ew h.EF (fo _)⟩,rfl,rfl,rfl⟩;have:=h.aI;show(s.aI++ [_]).length<=_;rw[dx,List.length_singleton];omega
theorem Td(h:s.Mid k j):s.Mid k (j+1):=
 ⟨h.me,h.seq,h.now,h.mem,h.dom,by have:=h.cnt;omega,by have:=h.bg;omega,h.bd,by have:=h.aI;omega,by have:=h.aQ;omega,by have:=h.aR;omega,by have:=h.tn;omega,by have:=h.tl;omega,h.Cv,h.AR,h.AU,h.EF⟩
theorem Ng{i:Nat}(h:s.Mid k j)(e:Eff i s s')(hi:i<=10)(htn:s'.tn=s.tn):s'.Mid k (j+1)∧Kp s s':=by
 have h':=vK h e;refine⟨⟨h'.me,h'.seq,h'.now,h'.mem,h'.dom,?_,?_,h'.bd,?_,?_,?_,?_,?_,h'.Cv,h'.AR,h'.AU,h'.EF⟩,e.kp⟩
 ·rw[e.cnt];have:=h.cnt;omega
 ·rw[e.bg];have:=h.bg;omega
 ·have:=e.aI;have:=h.aI;omega
 ·have:=e.aQ;have:=h.aQ;omega
 ·have:=e.aR;have:=h.aR;omega
 ·rw[htn];have:=h.tn;omega
 ·rw[e.tl];have:=h.tl;omega
theorem yB(s:St)(d:Int)(t:ByteArray):(s.aN d t).tn=s.tn:=by
 unfold St.aN;split<;>rfl
theorem Ru(d:Int)(l:List ByteArray)(s:St):(l.foldl (λs t=>s.aN d t) s).tn=s.tn:=by
 induction l generalizing s with
 |nil=>rfl
 |cons a l ih=>rw[fP,ih,yB]
theorem Kj(s:St)(d:Int):(s.sendAll d).tn=s.tn:=by
 unfold St.sendAll;split
 ·rfl
 ·split
  ·exact Ru d _ s
  ·rfl
theorem E_(h:s.Mid k j)(d:Int)(t:ByteArray):(s.aN d t).Mid k (j+1)∧Kp s (s.aN d t):=Ng h (vX s d t) (by omega) (yB s d t)
theorem Il(h:s.Mid k j)(hQ:∀q∈s.Q,q.txt.length<=4)(d:Int):(s.sendAll d).Mid k (j+1)∧Kp s (s.sendAll d):=Ng h (nR s d hQ) (by omega) (Kj s d)
theorem Po(h:s.Mid k j)(hA:∀y∈s.A,y.Ok)(hl:s.A.length<=8)(d:Int)(t:ByteArray):(s.await d t).Mid k (j+1)∧Kp s (s.await d t):=by
 unfold St.await;cases hs:St.j6 s.Q d with
 |none=>
  dsimp only;obtain⟨h1,h2⟩:=vL (s:={s with Q:=s.Q++ [St.ic d t]}) (k:=k) (j:=j) ⟨h.me,h.seq,h.now,h.mem,⟨h.dom.mb,h.dom.on,h.dom.own⟩,h.cnt,h.bg,h.bd,h.aI,h.aQ,h.aR,h.tn,h.tl,h.Cv,h.AR,h.AU,λz hz=>by
   rcases dG.1 hz with h1|h1
   ·exact h.EF z h1
   ·rw[dO]at h1;rw[h1];exact h.tl.1⟩ hA hl (St.ic d t)
  exact⟨h1,h2.me,h2.now,h2.lk⟩
 |some q=>
  dsimp only;obtain⟨hq,_⟩:=gZ hs;have hid:∀(q':Sr),q'.id=q.id->∀z∈St.bR s.Q q',z.id<=s.tl:=λq' e z hz=>by
   rcases fB hz with rfl|⟨h1,_⟩
   ·rw[e];exact h.EF q hq
   ·exact h.EF z h1
  have hu:=Td h;unfold St.hold;split
  ·refine⟨⟨h.me,h.seq,h.now,h.mem,⟨h.dom.mb,h.dom.on,h.dom.own⟩,hu.cnt,hu.bg,h.bd,hu.aI,?_,hu.aR,hu.tn,hu.tl,h.Cv,h.AR,h.AU,hid _ rfl⟩,rfl,rfl,rfl⟩;have:=h.aQ;show(s.aQ++ [6]).length<=_;rw[dx,List.length_singleton];omega
  ·exact⟨⟨h.me,h.seq,h.now,h.mem,⟨h.dom.mb,h.dom.on,h.dom.own⟩,hu.cnt,hu.bg,h.bd,hu.aI,hu.aQ,hu.aR,hu.tn,hu.tl,h.Cv,h.AR,h.AU,hid _ rfl⟩,rfl,rfl,rfl⟩
theorem Pm(h:s.Mid k j)(hA:∀y∈s.A,y.Ok)(hl:s.A.length<=8)(q:Sr)(hq:q.txt.length<=4):(s.widen q).Mid k (j+1)∧Kp s (s.widen q):=by
 unfold St.widen;split
 ·exact vL h hA hl _
 ·split
  ·exact vL h hA hl _
  ·split
   ·exact vL h hA hl _
   ·have hu:=Td h;refine⟨⟨h.me,h.seq,h.now,h.mem,⟨h.dom.mb,h.dom.on,h.dom.own⟩,hu.cnt,hu.bg,h.bd,hu.aI,?_,hu.aR,hu.tn,hu.tl,h.Cv,h.AR,h.AU,λz hz=>h.EF z (List.mem_filter.1 hz).1⟩,rfl,rfl,rfl⟩;have:=h.aQ;show(s.aQ++List.replicate q.txt.length 5).length<=_;rw[dx,List.length_replicate];omega
theorem mid_step(h:s.Mid k j)(hA:∀y∈s.A,y.Ok)(hl:s.A.length<=8)(hQ:∀q∈s.Q,q.txt.length<=4)(q:Sr)(hq:q.txt.length<=4):(s.step q).Mid k (j+1)∧Kp s (s.step q):=by
 unfold St.step;split
 ·exact Il h hQ _
 ·split
  ·exact Pm h hA hl q hq
  ·exact vL h hA hl q
variable{Q R:List Sr}{s:St}
structure yt(LD TL:List Hp.Tm)(D:List Sr)(now:Int):Prop where
 pm:(D.map kT++TL).Perm LD
 srt:(D.map kT).Pairwise Hp.Le
 due:∀a∈D,a.due<=now
 low:∀a∈D,∀y∈TL,Hp.Le (kT a) y
theorem yt.nil(TL:List Hp.Tm)(now:Int):yt TL TL [] now:=⟨.refl _,List.Pairwise.nil,λ_ h=>(by cases h),λ_ h=>(by cases h)⟩
theorem yt.snoc{LD TL dW:List Hp.Tm}{D:List Sr}{now:Int}(h:yt LD TL D now){q:Sr}(hx:q.due<=now)(hm:∀y∈TL,Hp.Le (kT q) y)(hp:(kT q::dW).Perm TL):yt LD dW (D++ [q]) now:=by
 refine⟨?_,?_,λa ha=> ?_,λa ha y hy=> ?_⟩
 ·rw[List.map_append,List.map_cons,List.map_nil,List.append_assoc,List.singleton_append];exact(hp.append_left _).trans h.pm
 ·rw[List.map_append,List.map_cons,List.map_nil];refine List.pairwise_append.2 ⟨h.srt,List.pairwise_singleton _ _,λa ha b hb=> ?_⟩;rw[dO]at hb;subst hb;obtain⟨z,hz,rfl⟩:=dh.1 ha;exact h.low z hz _ (hp.mem_iff.1 gm)
 ·rcases dG.1 ha with h1|h1
  ·exact h.due a h1
  ·rw[dO]at h1;rw[h1];exact hx
 ·have hy':y∈TL:=hp.mem_iff.1 (iJ _ hy);rcases dG.1 ha with h1|h1
  ·exact h.low a h1 y hy'
  ·rw[dO]at h1;rw[h1];exact hm y hy'
theorem Zu(hn:Q.Pairwise λa b=>a.id≠b.id){z q:Sr}(hz:z∈Q)(hq:q∈Q)(e:z.id=q.id):z=q:=by
 induction Q with
 |nil=>cases hz
 |cons a Q ih=>
  rw[List.pairwise_cons]at hn;rcases eD.1 hz with k1|k1
  ·rcases eD.1 hq with k2|k2
   ·rw[k1,k2]
   ·exact absurd (k1▸e) (hn.1 q k2)
  ·rcases eD.1 hq with k2|k2
   ·exact absurd (k2▸e).symm (hn.1 z k1)
   ·exact ih hn.2 k1 k2
theorem Zw{TL:List Hp.Tm}(hT:dV s TL)(h:TL.Pairwise λa b=>a.2.1≠b.2.1):s.Q.Pairwise λa b=>a.id≠b.id:=by
 have h1:=hT.pairwise h λh=>Ne.symm h;rw[List.pairwise_map]at h1;exact h1
theorem uo(hn:Q.Pairwise λa b=>a.dest≠b.dest):Q.Nodup:=hn.imp λh e=>h (by rw[e])
theorem yt.qY{LD TL:List Hp.Tm}{D:List Sr}{now:Int}(h:yt LD TL D now)(hi:LD.Pairwise λa b=>a.2.1≠b.2.1):D.Pairwise λa b=>a.id≠b.id:=by
 have h1:=h.pm.symm.pairwise hi λh=>Ne.symm h;have h2:=(List.pairwise_append.1 h1).1;rw[List.pairwise_map]at h2;exact h2
theorem yt.eq{LD TL:List Hp.Tm}{D:List Sr}{now:Int}(h:yt LD TL D now)(hT:dV s LD)(hD:∀a∈D,a∈s.Q)(hn:s.Q.Pairwise λa b=>a.dest≠b.dest)(hi:LD.Pairwise λa b=>a.2.1≠b.2.1)(hend:∀y∈TL,now<y.1):D=St.j_ s.Q now:=by
 have hq:=Zw hT hi;have hdn:D.Nodup:=(h.qY hi).imp λh e=>h (by rw[e]);have hpm:D.Perm (s.Q.filter λq=>decide (q.due<=now)):=by
  refine(List.perm_ext_iff_of_nodup hdn ((uo hn).filter _)).2 λa=>⟨λha=> ?_,λha=> ?_⟩
  ·exact List.mem_filter.2 ⟨hD a ha,by simpa using h.due a ha⟩
  ·obtain⟨h1,h2⟩:=List.mem_filter.1 ha;have h2':a.due<=now:=by simpa using h2
   have h3:kT a∈D.map kT++TL:=h.pm.mem_iff.2 (hT.mem_iff.2 (dh.2 ⟨a,h1,rfl⟩));rcases dG.1 h3 with h4|h4
   ·obtain⟨b,hb,e⟩:=dh.1 h4;have:b=a:=vo hn (hD b hb) h1 (congrArg (·.2.2) e);rw[<-this];exact hb
   ·have:=hend _ h4;exact absurd h2' (by show ¬(kT a).1<=now;omega)
 unfold St.j_;refine List.Perm.eq_of_pairwise (le:=λa b=>St.KA a b=true) (λa b ha hb h1 h2=> ?_) ?_ (List.pairwise_mergeSort ?_ ?_ _) (hpm.trans (List.mergeSort_perm _ _).symm)
 ·refine Zu hq (hD a ha) ?_ ?_
  ·exact(List.mem_filter.1 ((List.mergeSort_perm _ _).mem_iff.1 hb)).1
  ·simp only[St.KA,Bool.or_eq_true,eF,iM]at h1 h2;omega
 ·have:=h.srt;rw[List.pairwise_map]at this;refine this.imp λ{a b} hab=> ?_;rw[Hp.Le.iff]at hab;simp only[St.KA,Bool.or_eq_true,eF,iM];exact hab
 ·intro a b c h1 h2;simp only[St.KA,Bool.or_eq_true,eF,iM]at h1 h2 ⊢;omega
 ·intro a b;simp only[St.KA,Bool.or_eq_true,eF,iM];omega
def sJ(R:List Sr)(z:Sr):Bool:=!(R.any λa=>decide (a.dest=z.dest))
structure Ce(R:List Sr)(s:St)(TL:List Hp.Tm):Prop where
 mem:∀a∈R,a∈s.Q
 qY:R.Pairwise λa b=>a.dest≠b.dest
 ids:s.Q.Pairwise λa b=>a.id≠b.id
 le:∀a∈s.Q,a.id<=s.tl
 pos:∀a∈s.Q,0<a.id
 pm:TL.Perm ((s.Q.filter (sJ R)).map kT)
theorem SH(z:Sr):sJ [] z=true:=rfl
theorem Pb(q:Sr)(R:List Sr)(z:Sr):sJ (q::R) z=(sJ R z&&!decide (z.dest=q.dest)):=by
 unfold sJ;rw[List.any_cons,Bool.not_or,Bool.and_comm]
 congr 2
 exact decide_eq_decide.2 ⟨Eq.symm,Eq.symm⟩
theorem AX{z:Sr}:sJ R z=true ↔ ∀a∈R,a.dest≠z.dest:=by
 unfold sJ;simp
theorem Ce.done{TL:List Hp.Tm}(h:Ce [] s TL):dV s TL:=by
 have:=h.pm;rw[List.filter_eq_self.2 (λz _=>SH z)]at this;exact this
theorem Ce.first{LD TL:List Hp.Tm}{D:List Sr}{now:Int}(h:yt LD TL D now)(hT:dV s LD)(hD:∀a∈D,a∈s.Q)(hn:s.Q.Pairwise λa b=>a.dest≠b.dest)(hi:LD.Pairwise λa b=>a.2.1≠b.2.1)(hl:∀a∈s.Q,a.id<=s.tl)(hp0:∀a∈s.Q,0<a.id):Ce D s TL:=by
 have hdn:D.Nodup:=(h.qY hi).imp λh e=>h (by rw[e]);have hdd:D.Pairwise λa b=>a.dest≠b.dest:=(h.qY hi).imp_of_mem λ{a b} ha hb hab e=>hab (by rw[vo hn (hD a ha) (hD b hb) e]);refine⟨hD,hdd,Zw hT hi,hl,hp0,?_⟩;have hp:(D++s.Q.filter (sJ D)).Perm s.Q:=by
  refine(List.perm_ext_iff_of_nodup (List.nodup_append.2 ⟨hdn,(uo hn).filter _,λa ha b hb e=> ?_⟩) (uo hn)).2 λa=>⟨λha=> ?_,λha=> ?_⟩
  ·subst e;have:=AX.1 (List.mem_filter.1 hb).2 a ha;exact this rfl
  ·rcases dG.1 ha with h1|h1
   ·exact hD a h1
   ·exact(List.mem_filter.1 h1).1
  ·by_cases hx:sJ D a=true
   ·exact List.mem_append_right _ (List.mem_filter.2 ⟨ha,hx⟩)
   ·refine List.mem_append_left _ ?_;have:∃b∈D,b.dest=a.dest:=by
     refine Classical.byContradiction λhc=>hx (AX.2 λb hb e=>hc ⟨b,hb,e⟩)
    obtain⟨b,hb,e⟩:=this;rw[<-vo hn (hD b hb) ha e];exact hb
 have h1:=(h.pm.trans hT).trans (hp.map kT).symm;rw[List.map_append]at h1;exact(List.perm_append_left_iff _).1 h1
theorem GL(hn:Q.Pairwise λa b=>a.dest≠b.dest){q q2:Sr}(hq:q∈Q)(hd:q2.dest=q.dest)(P:Sr->Bool)(hP:P q2=true):((St.bR Q q2).filter P).Perm ((Q.filter λz=>P z&&!decide (z.dest=q.dest))++ [q2]):=by
 induction Q with
 |nil=>cases hq
 |cons a Q ih=>
  rw[List.pairwise_cons]at hn;rcases eD.1 hq with rfl|h
  ·have h1:St.bR Q q2=Q:=(List.map_congr_left λz hz=>aH (by rw[hd];exact(hn.1 z hz).symm)).trans (List.map_id _);have h2:St.bR (q::Q) q2=q2::Q:=by
    show(if q.dest=q2.dest then q2 else q)::St.bR Q q2=_;rw[aM hd.symm,h1]
   have h3:(q::Q).filter (λz=>P z&&!decide (z.dest=q.dest))=Q.filter P:=by
    rw[List.filter_cons_of_neg (by simp)];refine List.filter_congr λz hz=> ?_;have:z.dest≠q.dest:=(hn.1 z hz).symm;simp[this]
   rw[h2,h3,List.filter_cons_of_pos hP];exact(List.perm_append_singleton _ _).symm
  ·have h2:a.dest≠q.dest:=hn.1 q h;have h1:St.bR (a::Q) q2=a::St.bR Q q2:=by
    show(if a.dest=q2.dest then q2 else a)::St.bR Q q2=_;rw[aH (by rw[hd];exact h2)]
   rw[h1];by_cases hp:P a=true
   ·rw[List.filter_cons_of_pos hp,List.filter_cons_of_pos (by simp[hp,h2])];exact(ih hn.2 h).cons a
   ·rw[List.filter_cons_of_neg hp,List.filter_cons_of_neg (by simp[hp])];exact ih hn.2 h
theorem Ce.step{q:Sr}{s2:St}{TL dW:List Hp.Tm}(h:Ce (q::R) s TL)(hn:s.Q.Pairwise λa b=>a.dest≠b.dest)(ht:TmR q s TL s2 dW):Ce R s2 dW:=by
 have hq:=h.mem q gm;have hnr:=List.pairwise_cons.1 h.qY;have hpm:TL.Perm ((s.Q.filter λz=>sJ R z&&!decide (z.dest=q.dest)).map kT):=by
  have:=h.pm;rw[show sJ (q::R)=λz=>sJ R z&&!decide (z.dest=q.dest)from funext λz=>Pb q R z]at this;exact this
 rcases ht with⟨q2,h1,h2,h3,h4,h5⟩|⟨h3,h4,h5⟩
 ·refine⟨λa ha=> ?_,hnr.2,?_,?_,λz hz=> ?_,?_⟩
  ·rw[h4];exact(mP (h.mem a (iJ _ ha))).2 (by rw[h1];exact(hnr.1 a ha).symm)
  ·rw[h4];unfold St.bR;rw[List.pairwise_map];refine(List.Pairwise.and hn h.ids).imp_of_mem λ{a b} ha hb hab=> ?_;have ha':=h.le a ha;have hb':=h.le b hb;by_cases e1:a.dest=q2.dest
   ·rw[aM e1,aH (λe2=>hab.1 (e1.trans e2.symm))];omega
   ·rw[aH e1];split
    ·omega
    ·exact hab.2
  ·rw[h4,h3];exact Ew h.le (by omega)
  ·rw[h4]at hz;rcases fB hz with rfl|⟨k1,_⟩
   ·have:=h.pos q hq;have:=h.le q hq;omega
   ·exact h.pos z k1
  ·rw[h4,h5];have hP:sJ R q2=true:=AX.2 λa ha e=>hnr.1 a ha (by rw[e,h1]);refine List.Perm.trans ?_ ((GL hn hq h1 (sJ R) hP).map kT).symm;rw[List.map_append];exact hpm.append_right _
 ·have hTT:dW=TL:=by
   rcases h5 with⟨x,hx,hp⟩|⟨_,e⟩
   ·have hxT:x∈TL:=hp.mem_iff.1 gm;obtain⟨z,hz,rfl⟩:=dh.1 (hpm.mem_iff.1 hxT);obtain⟨z1,z2⟩:=List.mem_filter.1 hz;have:z=q:=Zu h.ids z1 hq hx;rw[this]at z2;simp at z2
   ·exact e
  refine⟨λa ha=> ?_,hnr.2,?_,?_,λz hz=> ?_,?_⟩
  ·rw[h4];exact List.mem_filter.2 ⟨h.mem a (iJ _ ha),by simpa using(hnr.1 a ha).symm⟩
  ·rw[h4];exact h.ids.filter _
  ·rw[h4,h3];exact λz hz=>h.le z (List.mem_filter.1 hz).1
  ·rw[h4]at hz;exact h.pos z (List.mem_filter.1 hz).1
  ·rw[h4,hTT,List.filter_filter];exact hpm
theorem TM:(Tryz.prog.info? 172).map (λi=>(i.zero,i.size,i.bytes))=some (some (.pointer none),1,8):=by kernel_rfl
theorem Qz(W:World)(B:Nat):∀(j:Nat) (u:Value),([.pointer (some ⟨B,0,none⟩)]:List Value)[j]?=some u->(W.alloc (.cells #[.pointer (some ⟨B,0,none⟩)] 172)).cell? ((⟨W.heap.size,0,none⟩:Addr).add j)=some u:=by
 intro j u hj;have h:=bS W (.cells #[.pointer (some ⟨B,0,none⟩)] 172);rw[Addr.add_lit,Nat.zero_add]
 match j,hj with
 |0,hj=>cases hj;exact aG _ _ 0 _ _ _ h
def Zv(v:Value):Nat:=match v with
 | .slice _ n _=>n
 |_=>0
def aew(N B:Nat)(g:bI)(s:St)(_TL:List Hp.Tm)(D:List Sr)(w:World)(v:Value)(w':World):Prop:=∃g' dW,Nd N B g' s dW w'∧Up B (Ft N g s) (Ft N g' s) w w'∧Hid (g'.x.T=g.x.T)∧Hid (g'.h=g.h∧g'.u=g.u)∧Ce D s dW∧w'.ownsRow w.heap.size 172 1 v D.length (D.map λq=>gH (g.h q.dest))
theorem aep{N B:Nat}{g:bI}{s:St}{TL:List Hp.Tm}{w:World}(n:Nd N B g s TL w)(hT:dV s TL)(hl:TL.length<=5000)(hle:∀a∈s.Q,a.id<=s.tl)(hpos:∀a∈s.Q,0<a.id)(now:Int)(h0:0<=now∧now<=4611686018427387904):
  Calls Tryz.prog 77 #[.pointer (some ⟨N,0,none⟩),.int .u64 now] w λe w'=>∃v,e=.returned v∧aew N B g s TL (St.j_ s.Q now) w v w':=by
 obtain⟨i0,hi,hz0,hz1,hz2⟩:=info_parts TM;have PL:=hide n.nn.ids;have Fq:=hide n.nn.rs.sr.qY;have hok:=hide n.nn.rs.sr.ok;have hln:=hide (λq (hq:q∈s.Q)=>n.nn.rs.sr.ln q hq);have hT':=hide hT;have hle':=hide hle;have hpos':=hide hpos;clear hT hle hpos;go_enter Tryz.func77,Tryz.ntmps77;go_wp2_with fail;go_loopw [5] (λlv wr=>∃(D:List Sr) (g1:bI) (TL1:List Hp.Tm),Nd N B g1 s TL1 wr∧Up B (Ft N g s) (Ft N g1 s) w wr∧Hid (g1.x=g.x)∧Hid (g1.h=g.h∧g1.u=g.u)∧Hid (yt TL TL1 D now)∧Hid (∀a∈D,a∈s.Q)∧wr.ownsRow w.heap.size 172 1 lv D.length (D.map λq=>gH (g.h q.dest))) (λlv _=>5000 - Zv lv)
 case atStart=>exact⟨[],g,TL,n,Up.refl _ _ _,rfl,⟨rfl,rfl⟩,yt.nil TL now,λ_ h=>(by cases h),⟨rfl,.inl ⟨rfl,rfl⟩⟩⟩
 case round=>
  clear n;obtain⟨D,g1,TL1,n1,u1,x1,y1,d1,m1,r1⟩:=hrel;have hlen:D.length+TL1.length=TL.length:=by
   have:=d1.out.pm.length_eq;rw[dx,iL]at this;exact this
  have HN:=hide (acA n1 now h0 (by omega));obtain⟨_,_,c13,c14,_⟩:=n1.nn.cr.nd.more;obtain⟨ao,c,rfl,_⟩:=ay r1;go_wp2_with fail;refine aT HN.out ?_;rintro e w2 ⟨h',v',F9,d,b,rfl,n2,u2,hd⟩;have r2:w2.ownsRow w.heap.size 172 1 (.slice ao D.length c) D.length (D.map λq=>gH (g.h q.dest)):=bP r1 λk hk=>by
   obtain⟨cc,hc⟩:=aS r1 hk;exact(u2.block k _ hc (n1.aaP hc).1 (.inl ⟨λc e=>(by cases e),λc e=>(by cases e),λc e=>(by cases e),λc e=>(by cases e),λc e=>(by cases e)⟩)).trans hc.symm
  have VX:=u1.trans u2;clear HN c13 c14 r1 u1 u2 n1;have x2:Hid (({g1 with hp:=h',tv:=v'}:bI).x=g.x):=x1;have y2:Hid (({g1 with hp:=h',tv:=v'}:bI).h=g.h∧({g1 with hp:=h',tv:=v'}:bI).u=g.u):=y1;generalize ({g1 with hp:=h',tv:=v'}:bI)=g2 at n2 VX x2 y2;rcases hd with⟨rfl,x,hxd,hxn,hxm,hxp⟩|⟨rfl,hno,rfl⟩
  ·obtain⟨q,hq,rfl⟩:=dh.1 (hT'.out.mem_iff.1 (d1.out.pm.mem_iff.1 (List.mem_append_right _ (hxp.mem_iff.1 gm))));have aeR:q.dest=d:=hxd;subst aeR;have Nu:=(hok.out q hq).dest;obtain⟨Bq,hBq,_⟩:=hln.out q hq;have hlk:=n2.nn.rs.sr.map.looks Nu;rw[y2.out.1,hBq]at hlk;simp only[gH]at hlk;have hd3:Hid (yt TL F9 (D++ [q]) now):=d1.out.snoc hxn hxm hxp;have oJ:Hid (∀a∈D++ [q],a∈s.Q):=λa ha=>(dG.1 ha).elim (m1.out a) λh=>by rw[dO]at h;rw[h];exact hq
   have hD5:D.length+1<=5000:=by
    have:=hxp.length_eq;rw[dY]at this;omega
   clear hxd hxn hxm hxp hlen d1 m1;obtain⟨_,_,c13,c14,_⟩:=n2.nn.cr.nd.more;have hk1:Hid (D.length+1<=maxLen):=by show _<=_;unfold maxLen;omega
   have hk2:Hid ((D.length+1)* 8<=140737488355328):=by show _<=_;omega
   have hmod:q.dest%4294967296=q.dest:=by unfold a_ at Nu;omega
   have jM:Below w2.heap.size w2 (w2.alloc (.cells #[.pointer (some ⟨Bq,0,none⟩)] 172)):=bC;have h12:=VX.size;go_wp2_with(at_builtin;refine wpList_append_own_at _ rfl _ _ 170 rfl w.heap.size 172 i0 (.pointer none) 1 8 Tryz.underlying170 hi hz0 hz1 hz2 rfl (by decide) (.slice ao D.length c) D.length (D.map λq=>gH (g.h q.dest)) rfl (r2.alloc _) ⟨w2.heap.size,0,none⟩ 1 1 [.pointer (some ⟨Bq,0,none⟩)] rfl rfl (Qz w2 Bq) (by simp[Value.oneCell']) hk1.out hk2.out ?c3 ?_)
   case c3=>simp;omega
   intro v7 w7 iy gW _ _;have nA:=n2.later jM;have F7:Fx (λk=>(Value.slice ao D.length c).ownBlock=some k) (w2.alloc (.cells #[.pointer (some ⟨Bq,0,none⟩)] 172)) w7:=Fx.grown gW λk e=>e;have n7:=nA.off F7 (λk hk=>by
    obtain⟨cc,hc⟩:=aS (r2.alloc _) hk;exact nA.aaP hc)
   have hs7:=jM.size;have hs8:=F7.size;have u7:Up B (Ft N g s) (Ft N g2 s) w w7:=⟨λk hk=>(VX.sub k hk).imp_right λh=>⟨h.1,by omega⟩,F7.os.trans (jM.os.trans VX.os),F7.tape.trans (jM.tape.trans VX.tape),F7.output.trans (jM.output.trans VX.output),by omega,λk o ho hn hA=>by
    have hkw:=aF ho;have h2:=VX.block k o ho hn hA;have hk2:=aF h2;have h3:(w2.alloc (.cells #[.pointer (some ⟨Bq,0,none⟩)] 172)).heap[k]?=some o:=(jM.block k hk2).trans h2;exact(F7.block k (by omega) (λe=>by have:=(r2.lt k e).1;omega)).trans h3⟩
   have r7:w7.ownsRow w.heap.size 172 1 v7 (D++ [q]).length ((D++ [q]).map λq=>gH (g.h q.dest)):=by
    rw[dx,List.length_singleton,List.map_append,List.map_cons,List.map_nil,hBq];exact iy
   obtain⟨Rf,c7,rfl,_⟩:=ay iy;clear nA F7 hs7 hs8 jM h12 iy gW n2 VX r2 c13 c14 hlk;go_wp2;go_roundw
   case rel=>exact⟨D++ [q],g2,F9,n7,u7,x2,y2,hd3,oJ,r7⟩
   case measure=>simp[Zv];omega
  ·have hDe:=hide (d1.out.eq hT'.out m1.out Fq.out PL.out hno);have hR:=hide (Ce.first d1.out hT'.out m1.out Fq.out PL.out hle'.out hpos'.out);have hfin:Hid (aew N B g s TL (St.j_ s.Q now) w (.slice ao D.length c) w2):=by
    rw[<-hDe.out];exact⟨g2,F9,n2,VX,by rw[x2.out];exact rfl,y2.out,hR.out,r2⟩
   clear hR hDe d1 m1 hno n2 VX r2 hlen;go_wp2;go_ret;exact⟨_,rfl,hfin.out⟩
end Go.Proofs.YtakaadcpaeiccabGreat
