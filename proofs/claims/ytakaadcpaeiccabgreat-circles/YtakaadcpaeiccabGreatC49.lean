import Derived.Test.YtakaadcpaeiccabGreatC48
set_option maxHeartbeats 1000000
namespace Go.Proofs.YtakaadcpaeiccabGreat
open Go.RowKit Go.Maps
def YA:List Nat:=[97,94,149,102,5,131,158,38,34,177,9,165,254,35]
def ab3:List Nat:=[131,158,38,34,177,9,165,254,35]
def Y5(K:List Nat)(o:Obj):Prop:=(∃es cl,o=.map es cl)∨∃c t,t∈K∧o=.cells c t(0,0)
theorem Y5.mono {K K':List Nat} {o:Obj}(h:Y5 K o)(hs:∀t∈K,t∈K'):Y5 K' o:=by
 rcases h with h|⟨c,t,ht,e⟩
 ·exact .inl h
 ·exact .inr⟨c,t,hs t ht,e⟩
theorem Y5.not {K:List Nat} {c:Array Value} {t:Nat} {mk:Nat×Nat}(h:Y5 K(.cells c t mk))(ht:t ∉ K):False:=by
 rcases h with⟨es,cl,e⟩|⟨c',t',h1,e⟩
 ·cases e
 ·cases e;exact ht h1
theorem Nn.kind {N:Nat} {g:bA} {s:St} {TL:List Hp.Tm} {W:World}(n:Nn N g s TL W) {k:Nat}(hk:Ft N g s k):∃o,W.heap[k]?=some o∧Y5 ab3 o:=by
 rcases hk with(rfl|rfl|hk)|hk
 ·exact⟨_,n.cr.nd,.inr⟨_,_,by decide,rfl⟩⟩
 ·obtain⟨es,cl,hm⟩:=n.cr.mo.obj;exact⟨_,hm,.inl⟨_,_,rfl⟩⟩
 ·rcases hk with rfl|rfl|⟨y,hy,hk|hk⟩
  ·exact⟨_,n.cr.tb.blk,.inr⟨_,158,by decide,rfl⟩⟩
  ·obtain⟨es,cl,hm⟩:=n.cr.tb.map.obj;exact⟨_,hm,.inl⟨_,_,rfl⟩⟩
  ·obtain⟨B,p1,p2⟩:=n.cr.tb.ln y hy;rw [p1]at hk;cases hk;exact⟨_,p2,.inr⟨_,38,by decide,rfl⟩⟩
  ·obtain⟨c,hc⟩:=aP(n.cr.tb.row y hy)hk;exact⟨_,hc,.inr⟨_,34,by decide,rfl⟩⟩
 ·have r:=n.rs;rcases hk with rfl|hk|rfl|rfl|hk|hk
  ·obtain⟨es,cl,hm⟩:=r.sn.obj;exact⟨_,hm,.inl⟨_,_,rfl⟩⟩
  ·obtain⟨o,ho,⟨rfl,es,cl,rfl⟩|⟨c,rfl⟩|⟨c,rfl⟩⟩:=r.sr.kind hk
   ·exact⟨_,ho,.inl⟨_,_,rfl⟩⟩
   ·exact⟨_,ho,.inr⟨_,177,by decide,rfl⟩⟩
   ·exact⟨_,ho,.inr⟨_,9,by decide,rfl⟩⟩
  ·exact⟨_,r.tm.blk,.inr⟨_,165,by decide,rfl⟩⟩
  ·obtain⟨f,p1,_⟩:=r.tm.map;obtain⟨es,cl,hm⟩:=p1.obj;exact⟨_,hm,.inl⟨_,_,rfl⟩⟩
  ·obtain⟨c,hc⟩:=aP r.tm.row hk;exact⟨_,hc,.inr⟨_,254,by decide,rfl⟩⟩
  ·obtain⟨c,hc⟩:=aP r.pc hk;exact⟨_,hc,.inr⟨_,35,by decide,rfl⟩⟩
structure SG where
 B:Nat
 jv:Value
 N:Nat
 g:bA
 TL:List Hp.Tm
def Lg(N:Nat):Option St→Value
 |none=> .pointer none
 |some _=> .pointer(some⟨N,0,none⟩)
def ED(x:SG)(s:bi):List Value:=[.int .u32 s.addr,x.jv,Lg x.N s.nd]++s.hrs.map Value.bool++ [.bool s.tears,.int .i64 s.whole]
structure mf(x:SG)(s:bi)(W:World):Prop where
 blk:W.heap[x.B]?=some(.cells(ED x s).toArray 102(0,0))
 hl:s.hrs.length=6
 row:W.ownsRow 0 5 1 x.jv s.aY.length(U s.aY)
 nd:∀z,s.nd=some z→Nn x.N x.g z x.TL W∧dM z x.TL
def kJ(x:SG)(s:bi)(k:Nat):Prop:=k=x.B∨x.jv.ownBlock=some k∨∃z,s.nd=some z∧Ft x.N x.g z k
def abP:List Nat:=[102,5,131,158,38,34,177,9,165,254,35]
theorem mf.kind {x:SG} {s:bi} {W:World}(h:mf x s W) {k:Nat}(hk:kJ x s k):∃o,W.heap[k]?=some o∧Y5 abP o:=by
 rcases hk with rfl|hk|⟨z,hz,hk⟩
 ·exact⟨_,h.blk,.inr⟨_,102,by decide,rfl⟩⟩
 ·obtain⟨c,hc⟩:=aP h.row hk;exact⟨_,hc,.inr⟨_,5,by decide,rfl⟩⟩
 ·obtain⟨o,ho,hK⟩:=(h.nd z hz).1.kind hk;exact⟨o,ho,hK.mono(by decide)⟩
theorem mf.lt {x:SG} {s:bi} {W:World}(h:mf x s W) {k:Nat}(hk:kJ x s k):k<W.heap.size:=by
 obtain⟨o,ho,_⟩:=h.kind hk;exact aD ho
theorem mf.kept {x:SG} {s:bi} {W W':World}(h:mf x s W)(he:∀k,kJ x s k→W'.heap[k]?=W.heap[k]?):mf x s W':=
 ⟨(he _(.inl rfl)).trans h.blk,h.hl,bD h.row fun k hk=>he k(.inr(.inl hk)),fun z hz=>⟨(h.nd z hz).1.kept fun k hk=>he k(.inr(.inr⟨z,hz,hk⟩)),(h.nd z hz).2⟩⟩
structure MG where
 G:Nat
 sv:Value
 av:Value
 L:List SG
def J2(L:List SG):List Value:=L.map fun x=> .pointer(some⟨x.B,0,none⟩)
def oD(L:List(Nat×Nat×ByteArray)):List Value:=L.flatMap fun f=> [.int .i64 f.1,.int .i64 f.2.1,.string f.2.2]
structure MM(y:MG)(m:aK)(W:World):Prop where
 blk:W.heap[y.G]?=some(.cells #[.int .u64 m.now,y.sv,y.av]97(0,0))
 yD:W.ownsRow 0 94 1 y.sv m.S.length(J2 y.L)
 bG:W.ownsRow 0 149 3 y.av m.bG.length(oD m.bG)
 len:y.L.length=m.S.length
 st:∀(i:Nat)x s,y.L[i]?=some x→m.S[i]?=some s→mf x s W
 ap:∀(i j:Nat)x s x' s',i≠j→y.L[i]?=some x→m.S[i]?=some s→y.L[j]?=some x'→m.S[j]?=some s'→∀k,kJ x s k→¬kJ x' s' k
def oz(y:MG)(m:aK)(k:Nat):Prop:=k=y.G∨y.sv.ownBlock=some k∨y.av.ownBlock=some k∨∃(i:Nat)(x:SG)(s:bi),y.L[i]?=some x∧m.S[i]?=some s∧kJ x s k
theorem MM.kind {y:MG} {m:aK} {W:World}(h:MM y m W) {k:Nat}(hk:oz y m k):∃o,W.heap[k]?=some o∧Y5 YA o:=by
 rcases hk with rfl|hk|hk|⟨i,x,s,h1,h2,hk⟩
 ·exact⟨_,h.blk,.inr⟨_,97,by decide,rfl⟩⟩
 ·obtain⟨c,hc⟩:=aP h.yD hk;exact⟨_,hc,.inr⟨_,94,by decide,rfl⟩⟩
 ·obtain⟨c,hc⟩:=aP h.bG hk;exact⟨_,hc,.inr⟨_,149,by decide,rfl⟩⟩
 ·obtain⟨o,ho,hK⟩:=(h.st i x s h1 h2).kind hk;exact⟨o,ho,hK.mono(by decide)⟩
theorem MM.lt {y:MG} {m:aK} {W:World}(h:MM y m W) {k:Nat}(hk:oz y m k):k<W.heap.size:=by
 obtain⟨o,ho,_⟩:=h.kind hk;exact aD ho
theorem MM.not {y:MG} {m:aK} {W:World}(h:MM y m W) {k:Nat} {c:Array Value} {t:Nat} {mk:Nat×Nat}(ho:W.heap[k]?=some(.cells c t mk))(ht:t ∉ YA):¬oz y m k:=fun hk=>by
 obtain⟨o,ho',hK⟩:=h.kind hk;rw [ho]at ho';cases ho';exact hK.not ht
theorem MM.kept {y:MG} {m:aK} {W W':World}(h:MM y m W)(he:∀k,oz y m k→W'.heap[k]?=W.heap[k]?):MM y m W':=
 ⟨(he _(.inl rfl)).trans h.blk,bD h.yD fun k hk=>he k(.inr(.inl hk)),bD h.bG fun k hk=>he k(.inr(.inr(.inl hk))),h.len,fun i x s h1 h2=>(h.st i x s h1 h2).kept fun k hk=>he k(.inr(.inr(.inr⟨i,x,s,h1,h2,hk⟩))),h.ap⟩
theorem MM.later {y:MG} {m:aK} {W W':World}(h:MM y m W)(hb:Below W.heap.size W W'):MM y m W':=h.kept fun k hk=>hb.block k(h.lt hk)
theorem MM.own {y:MG} {m:aK} {W:World}(h:MM y m W) {i:Nat} {x:SG} {s:bi}(h1:y.L[i]?=some x)(h2:m.S[i]?=some s) {k:Nat}(hk:kJ x s k):k≠y.G∧y.sv.ownBlock≠some k∧y.av.ownBlock≠some k:=by
 obtain⟨o,ho,hK⟩:=(h.st i x s h1 h2).kind hk;refine⟨?_,fun e=> ?_,fun e=> ?_⟩
 ·rintro rfl;rw [h.blk]at ho;cases ho;exact hK.not(by decide)
 ·obtain⟨c,hc⟩:=aP h.yD e;rw [hc]at ho;cases ho;exact hK.not(by decide)
 ·obtain⟨c,hc⟩:=aP h.bG e;rw [hc]at ho;cases ho;exact hK.not(by decide)
structure MU(y:MG)(m:aK)(y':MG)(m':aK)(W W':World):Prop where
 fx:Fx(oz y m)W W'
 sub:∀k,oz y' m' k→oz y m k∨(W.heap.size≤k∧k<W'.heap.size)
 G:y'.G=y.G
 n:m'.S.length=m.S.length
 sv:y'.sv=y.sv
 B:y'.L.map(·.B)=y.L.map(·.B)
theorem MU.refl(y:MG)(m:aK)(W:World):MU y m y m W W:=⟨Fx.refl _ _,fun _ h=> .inl h,rfl,rfl,rfl,rfl⟩
theorem MU.trans {y y' y'':MG} {m m' m'':aK} {a b c:World}(p:MU y m y' m' a b)(q:MU y' m' y'' m'' b c):MU y m y'' m'' a c:=by
 have h1:=p.fx.size;have h2:=q.fx.size;refine⟨p.fx.trans q.fx fun i hi hk=>(p.sub i hk).elim id fun h=>by omega,fun k hk=> ?_,q.G.trans p.G,q.n.trans p.n,q.sv.trans p.sv,q.B.trans p.B⟩;rcases q.sub k hk with h|h
 ·rcases p.sub k h with h|h
  ·exact .inl h
  ·exact .inr(by omega)
 ·exact .inr(by omega)
theorem MU.below {y:MG} {m:aK} {a b:World}(h:Below a.heap.size a b):MU y m y m a b:=⟨Fx.below h,fun _ h=> .inl h,rfl,rfl,rfl,rfl⟩
theorem cZ {α:Type} {L:List α} {i j:Nat} {a b:α}(h:(L.set i a)[j]?=some b):(j=i∧b=a)∨(j≠i∧L[j]?=some b):=by
 rw [List.getElem?_set]at h;split at h
 ·rename_i e;split at h
  ·cases h;exact .inl⟨e.symm,rfl⟩
  ·cases h
 ·rename_i e;exact .inr⟨fun h=>e h.symm,h⟩
theorem MM.turn {y:MG} {m:aK} {W W':World}(h:MM y m W) {i:Nat} {x x':SG} {s s':bi}(h1:y.L[i]?=some x)(h2:m.S[i]?=some s)(hf:Fx(kJ x s)W W')(hst:mf x' s' W')(hB:x'.B=x.B)(sub:∀k,kJ x' s' k→kJ x s k∨(W.heap.size≤k∧k<W'.heap.size)):
  MM {y with L:=y.L.set i x'} {m with S:=m.S.set i s'}W'∧MU y m {y with L:=y.L.set i x'} {m with S:=m.S.set i s'}W W':=by
 have hpt:J2(y.L.set i x')=J2 y.L:=by
  unfold J2;rw [List.map_set,hB];refine List.ext_getElem? fun j=> ?_;rw [List.getElem?_set];split
  ·rename_i e;subst e;rw [List.getElem?_map,h1];split
   ·rfl
   ·rename_i hl;rw [List.length_map]at hl;exact absurd(List.getElem?_eq_some_iff.1 h1).1 hl
  ·rfl
 have hoth:∀(j:Nat)z u,j≠i→y.L[j]?=some z→m.S[j]?=some u→∀k,kJ z u k→W'.heap[k]?=W.heap[k]?:=fun j z u hj e1 e2 k hk=>
  hf.block k((h.st j z u e1 e2).lt hk)fun hc=>h.ap j i z u x s hj e1 e2 h1 h2 k hk hc
 refine⟨⟨(hf.block _(aD h.blk)fun hc=>(h.own h1 h2 hc).1 rfl).trans h.blk,?_,bD h.bG fun k hk=>hf.block k(h.bG.lt k hk).2 fun hc=>(h.own h1 h2 hc).2.2 hk,?_,?_,?_⟩,⟨hf.mono fun k hk=> .inr(.inr(.inr⟨i,x,s,h1,h2,hk⟩)),?_,rfl,List.length_set,rfl,?_⟩⟩
 ·dsimp only;rw [hpt,List.length_set];exact bD h.yD fun k hk=>hf.block k(h.yD.lt k hk).2 fun hc=>(h.own h1 h2 hc).2.1 hk
 ·simp only [List.length_set];exact h.len
 ·intro j z u e1 e2;rcases cZ e1 with⟨rfl,rfl⟩|⟨hj,e1⟩
  ·rcases cZ e2 with⟨_,rfl⟩|⟨hj,_⟩
   ·exact hst
   ·exact absurd rfl hj
  ·rcases cZ e2 with⟨e,_⟩|⟨_,e2⟩
   ·exact absurd e hj
   ·exact(h.st j z u e1 e2).kept(hoth j z u hj e1 e2)
 ·intro a b z u z' u' hab e1 e2 e3 e4 k hk hk';rcases cZ e1 with⟨rfl,rfl⟩|⟨ha,e1⟩
  ·rcases cZ e2 with⟨_,rfl⟩|⟨hj,_⟩
   ·rcases cZ e3 with⟨e,_⟩|⟨hb,e3⟩
    ·exact hab e.symm
    ·rcases cZ e4 with⟨e,_⟩|⟨_,e4⟩
     ·exact hb e
     ·rcases sub k hk with hc|hc
      ·exact h.ap _ _ _ _ _ _(Ne.symm hb)h1 h2 e3 e4 k hc hk'
      ·have:=(h.st _ _ _ e3 e4).lt hk';omega
   ·exact hj rfl
  ·rcases cZ e2 with⟨e,_⟩|⟨_,e2⟩
   ·exact ha e
   ·rcases cZ e3 with⟨rfl,rfl⟩|⟨hb,e3⟩
    ·rcases cZ e4 with⟨_,rfl⟩|⟨hj,_⟩
     ·rcases sub k hk' with hc|hc
      ·exact h.ap _ _ _ _ _ _ ha(by assumption)(by assumption)h1 h2 k hk hc
      ·have:=(h.st _ _ _(by assumption)(by assumption)).lt hk;omega
     ·exact hj rfl
    ·rcases cZ e4 with⟨e,_⟩|⟨_,e4⟩
     ·exact hb e
     ·exact h.ap _ _ _ _ _ _ hab e1 e2 e3 e4 k hk hk'
 ·rintro k(rfl|hk|hk|⟨j,z,u,e1,e2,hk⟩)
  ·exact .inl(.inl rfl)
  ·exact .inl(.inr(.inl hk))
  ·exact .inl(.inr(.inr(.inl hk)))
  ·rcases cZ e1 with⟨rfl,rfl⟩|⟨hj,e1⟩
   ·rcases cZ e2 with⟨_,rfl⟩|⟨hj,_⟩
    ·rcases sub k hk with hc|hc
     ·exact .inl(.inr(.inr(.inr⟨j,x,s,h1,h2,hc⟩)))
     ·exact .inr hc
    ·exact absurd rfl hj
   ·rcases cZ e2 with⟨e,_⟩|⟨_,e2⟩
    ·exact absurd e hj
    ·exact .inl(.inr(.inr(.inr⟨j,z,u,e1,e2,hk⟩)))
 ·dsimp only;rw [List.map_set,hB];refine List.ext_getElem? fun j=> ?_;rw [List.getElem?_set];split
  ·rename_i e;subst e;rw [List.getElem?_map,h1];split
   ·rfl
   ·rename_i hl;rw [List.length_map]at hl;exact absurd(List.getElem?_eq_some_iff.1 h1).1 hl
  ·rfl
section
variable {P:Program}(w:World)
theorem yO(base:Nat)(t tx ty e:TypeId)(i:TypeInfo)(z:Value)(size bytes:Nat)(ht:P.underlying t=some(.slice e))(hi:P.info? e=some i)(hz:i.zero=some z)
  (hsize:i.size=size)(hby:i.bytes=bytes)(hzs:z.cells.size=size)
  (v:Value)(n:Nat)(xs:List Value)(hown:w.ownsRow base e size v n xs)
  (x:Value)(m:Nat)(news:List Value)(hs:Src P size tx x m news w)
  (h63:n+m≤maxLen)(hbytes:(n+m)* bytes≤140737488355328)(hbase:base≤w.heap.size):
  ∃v' w',(Builtin.append_ #[t,tx]ty #[v,x]).run P w=.ok v' w'∧w'.ownsRow base e size v'(n+m)(xs++news)∧w.grownBy w' v.ownBlock∧(v'.ownBlock=v.ownBlock∨v'.ownBlock=some w.heap.size):=by
 subst hsize;subst hby;have hl:=hs.newsLen;have hsmall:n+m≤9223372036854775807:=by simp only [maxLen]at h63;omega
 have hlen:(xs++news).length=(n+m)* i.size:=by rw [List.length_append,hown.1,hl,Nat.add_mul]
 rcases hown.2 with⟨rfl,rfl⟩|⟨g,cap,cur,rfl,hbg,hg,hnc,hcm,hcs,htake⟩
 ·have hx0:xs=[]:=List.eq_nil_of_length_eq_zero(by have:=hown.1;simpa using this);subst hx0;by_cases hm:m=0
  ·subst hm;have hn0:news=[]:=List.eq_nil_of_length_eq_zero(by rw [hl];simp);subst hn0;have hr:(Builtin.append_ #[t,tx]ty #[.slice none 0 0,x]).run P w=.ok(.slice none 0 0)w:=by
    rcases hs.kind with⟨e',hk⟩|hk<;>simp [Builtin.append_,run_underlying ht,run_underlying hk,sizeOf,typeInfo,hi,hs.len,hs.cells]
   exact⟨_,_,hr,hown,⟨rfl,rfl,rfl,Nat.le_refl _,fun _ _ _=>rfl⟩,.inl rfl⟩
  ·have hr:=run_append_grow_src(P:=P)w t tx ty e i z ht hi hz none 0 0 [](run_firstCells_none w.drew i.size 0 0 0)x m news hs(by omega)(by omega)(growslice_fits(by omega)hbytes);have hge:=grownCap_ge w(0+m)0 e;have hcm:grownCap w(0+m)0 e≤maxLen:=grownCap_le_maxLen w(0+m)0 e h63;refine⟨_,_,hr,⟨hlen,.inr⟨w.heap.size,_,_,rfl,hbase,heap_alloc_new w.drew _,hge,hcm,?_,?_⟩⟩,⟨rfl,rfl,rfl,by simp,fun k hk _=>Go.heap_alloc_old w.drew _ hk⟩,.inr rfl⟩
   ·simp only [Array.size_append,List.size_toArray,size_zeroCells,hzs,hlen,←Nat.add_mul]
    congr 1
    omega
   ·simp only [Array.toList_append];rw [←hlen];exact List.take_left
 ·by_cases hroom:n+m≤cap
  ·have hfit:n * i.size+news.length≤cur.size:=by rw [hl,hcs,←Nat.add_mul];exact Nat.mul_le_mul_right _ hroom
   have hr:=lq(P:=P)w t tx ty e i ht hi g n cap cur hg x m news hs hroom hfit;refine⟨_,_,hr,⟨hlen,.inr⟨g,cap,_,rfl,hbg,setRow_heap w g cur _ e _ hg,hroom,hcm,?_,?_⟩⟩,⟨rfl,rfl,rfl,by simp,fun k _ hk=>setRow_other w g k _(fun e=>hk(by simp [Value.ownBlock,e]))⟩,.inl rfl⟩
   ·simp only [List.size_toArray,List.length_append,List.length_take,List.length_drop,Array.length_toList];omega
   ·rw [htake,←hlen];exact List.take_left
  ·have holds:∀j u,xs[j]?=some u→w.cell?((⟨g,0,none⟩:Addr).add j)=some u:=hown.cells(g:=g)rfl;have hfo:=run_firstCells_some(P:=P)w.drew i.size n⟨g,0,none⟩n cap xs hown.1(by simpa using holds);have hr:=run_append_grow_src(P:=P)w t tx ty e i z ht hi hz(some⟨g,0,none⟩)n cap xs hfo x m news hs(by omega)(by omega)(growslice_fits(by omega)hbytes);have hge:=grownCap_ge w(n+m)cap e;have hcm:grownCap w(n+m)cap e≤maxLen:=grownCap_le_maxLen w(n+m)cap e h63;refine⟨_,_,hr,⟨hlen,.inr⟨w.heap.size,_,_,rfl,hbase,heap_alloc_new w.drew _,hge,hcm,?_,?_⟩⟩,⟨rfl,rfl,rfl,by simp,fun k hk _=>Go.heap_alloc_old w.drew _ hk⟩,.inr rfl⟩
   ·simp only [Array.size_append,List.size_toArray,size_zeroCells,hzs,hlen,←Nat.add_mul]
    congr 1
    omega
   ·simp only [Array.toList_append];rw [←hlen];exact List.take_left
end
theorem ic {P:Program} {ops:Array Oper} {o:Oper} {a:Act} {w:World} {K:Act→World→Prop} {Q:Exit→Act→World→Prop} {E:Prop}
  (hg:o.guard=none)(s x:Operand)(t tx:TypeId)(hop:o.op=Op.call {callee:=Callee.builtin Builtin.append,args:=#[s,x],argTypes:=#[t,tx]})
  (base:Nat)(e:TypeId)(i:TypeInfo)(z:Value)(size bytes:Nat)(h1:P.underlying t=some(.slice e))(h2:P.info? e=some i)(h3:i.zero=some z)(h4:i.size=size)(h5:i.bytes=bytes)(h6:z.cells.size=size)
  (v:Value)(n:Nat)(xs:List Value)(hs:a.eval s=v)(hown:w.ownsRow base e size v n xs)
  (xv:Value)(m:Nat)(news:List Value)(hx:a.eval x=xv)(hsrc:Src P size tx xv m news w)
  (b1:n+m≤maxLen)(b2:(n+m)* bytes≤140737488355328)(hbase:base≤w.heap.size)
  (hK:∀v' w',w'.ownsRow base e size v'(n+m)(xs++news)→w.grownBy w' v.ownBlock→(v'.ownBlock=v.ownBlock∨v'.ownBlock=some w.heap.size)→K(a.put o.dst v')w'):
  if Region.wanted o(yielded ops a.tmps)=true then Oper.wp P o a w K Q else E:=by
 have hw:Region.wanted o(yielded ops a.tmps)=true:=by simp [Region.wanted,hg]
 rw [if_pos hw];obtain⟨v',w',hrun,r1,r2,r3⟩:=yO(P:=P)w base t tx o.type e i z size bytes h1 h2 h3 h4 h5 h6 v n xs hown xv m news hsrc b1 b2 hbase;unfold Oper.wp;simp [execOp,hop,resolve,invoke,builtin,hs,hx,hrun,Result.andThen];exact hK v' w' r1 r2 r3
theorem t_ {P:Program} {w:World} {ops:Array Oper} {rest:List Oper} {o:Oper} {a:Act} {Q:Exit→Act→World→Prop}(hg:o.guard=none)(s x:Operand)(t tx:TypeId)(hop:o.op=Op.call {callee:=Callee.builtin Builtin.append,args:=#[s,x],argTypes:=#[t,tx]})
  (base:Nat)(e:TypeId)(i:TypeInfo)(z:Value)(size bytes:Nat)(h1:P.underlying t=some(.slice e))(h2:P.info? e=some i)(h3:i.zero=some z)(h4:i.size=size)(h5:i.bytes=bytes)(h6:z.cells.size=size)
  (v:Value)(n:Nat)(xs:List Value)(hs:a.eval s=v)(hown:w.ownsRow base e size v n xs)
  (xv:Value)(m:Nat)(news:List Value)(hx:a.eval x=xv)(hsrc:Src P size tx xv m news w)
  (b1:n+m≤maxLen)(b2:(n+m)* bytes≤140737488355328)(hbase:base≤w.heap.size)
  (hK:∀v' w',w'.ownsRow base e size v'(n+m)(xs++news)→w.grownBy w' v.ownBlock→(v'.ownBlock=v.ownBlock∨v'.ownBlock=some w.heap.size)→wpList P ops Q rest(a.put o.dst v')w'):
  wpList P ops Q(o::rest)a w:=by
 refine wpList_plain hg fun K hKK=> ?_;have h:=ic(ops:=ops)(E:=True)(K:=K)(Q:=Q)hg s x t tx hop base e i z size bytes h1 h2 h3 h4 h5 h6 v n xs hs hown xv m news hx hsrc b1 b2 hbase fun v' w' k1 k2 k3=>hKK _ _(hK v' w' k1 k2 k3);have hw:Region.wanted o(yielded ops a.tmps)=true:=by simp [Region.wanted,hg]
 rw [if_pos hw]at h;exact h
theorem Src.ofRow {P:Program} {w:World} {base e size n:Nat} {v:Value} {xs:List Value} {tx e':TypeId}(hk:P.underlying tx=some(.slice e'))(h:w.ownsRow base e size v n xs)(h1:∀u∈xs,u.oneCell'=true):Src P size tx v n xs w:=by
 rcases h.2 with⟨rfl,rfl⟩|⟨g,cap,cur,rfl,_⟩
 ·have hx:xs=[]:=List.eq_nil_of_length_eq_zero(by have:=h.1;simpa using this);subst hx;exact Src.ofNil w hk 0
 ·exact Src.ofSlice w hk⟨g,0,none⟩n cap xs h.1(h.cells(g:=g)rfl)h1
theorem mf.cell {x:SG} {s:bi} {W:World}(h:mf x s W):
  W.cell?⟨x.B,0,none⟩=some(.int .u32 s.addr)∧W.cell?⟨x.B,1,none⟩=some x.jv∧W.cell?⟨x.B,2,none⟩=some(Lg x.N s.nd)∧W.cell?⟨x.B,9,none⟩=some(.bool s.tears)∧W.cell?⟨x.B,10,none⟩=some(.int .i64 s.whole)∧(∀(j:Nat)b,s.hrs[j]?=some b→W.cell?⟨x.B,3+j,none⟩=some(.bool b))∧∀j,W.frozen?⟨x.B,j,none⟩=false:=by
 have hl:=h.hl;have hc:∀j,W.cell?⟨x.B,j,none⟩=(ED x s)[j]?:=fun j=>by
  rw [cell_of_row _ _ j _ _ _ h.blk];simp
 refine⟨(hc 0).trans rfl,(hc 1).trans rfl,(hc 2).trans rfl,?_,?_,fun j b hj=> ?_,fun j=> ?_⟩
 ·rw [hc];simp [ED,hl]
 ·rw [hc];simp [ED,hl]
 ·have hj':=(List.getElem?_eq_some_iff.1 hj).1;rw [hc];simp only [ED,List.append_assoc];rw [List.getElem?_append_right(by simp),List.getElem?_append_left(by simp;omega)];simp [hj]
 ·simp [World.frozen?,h.blk]
def mG(x:SG)(s s':bi)(w w':World):Prop:=
 ∃x',x'.B=x.B∧mf x' s' w'∧Fx(kJ x s)w w'∧∀k,kJ x' s' k→kJ x s k∨(w.heap.size≤k∧k<w'.heap.size)
theorem mG.pre {x:SG} {s s':bi} {w w1 w':World}(hb:Below w.heap.size w w1)(h:mG x s s' w1 w'):mG x s s' w w':=by
 obtain⟨x',h1,h2,h3,h4⟩:=h;have:=hb.size;have:=h3.size;exact⟨x',h1,h2,(Fx.below hb).trans h3 fun _ _ h=>h,fun k hk=>(h4 k hk).dh fun h=>by omega⟩
theorem mG.trans {x:SG} {s s1 s':bi} {w w1 w':World}(h1:mG x s s1 w w1)(h2:∀x1,x1.B=x.B→mf x1 s1 w1→mG x1 s1 s' w1 w'):mG x s s' w w':=by
 obtain⟨x1,b1,m1,f1,u1⟩:=h1;obtain⟨x2,b2,m2,f2,u2⟩:=h2 x1 b1 m1;have:=f1.size;have:=f2.size;refine⟨x2,b2.trans b1,m2,f1.trans f2 fun k hk hs=>(u1 k hs).elim id fun h=>by omega,fun k hk=> ?_⟩;rcases u2 k hk with h|h
 ·exact(u1 k h).dh fun h=>by omega
 ·exact .inr(by omega)
theorem mG.refl {x:SG} {s:bi} {w:World}(h:mf x s w):mG x s s w w:=⟨x,rfl,h,Fx.refl _ _,fun _ h=> .inl h⟩
theorem ym {W:World} {B j:Nat} {l:List Value} {t:Nat} {v:Value}(h:W.heap[B]?=some(.cells l.toArray t(0,0))):(W.setCell⟨B,j,none⟩v).heap[B]?=some(.cells(l.set j v).toArray t(0,0)):=by
 simp [World.setCell,Array.getElem?_modify,h]
theorem mf.set {x x':SG} {s s':bi} {W:World}(h:mf x s W)(j:Nat)(v:Value)(hB:x'.B=x.B)(hc:ED x' s'=(ED x s).set j v)(hl:s'.hrs.length=6)(hj:x'.jv=x.jv∧s'.aY=s.aY)(hn:∀z,s'.nd=some z→s.nd=some z∧x'.N=x.N∧x'.g=x.g∧x'.TL=x.TL):
  mG x s s' W(W.setCell⟨x.B,j,none⟩v):=by
 have hg:W.grownBy(W.setCell⟨x.B,j,none⟩v)(some x.B):=aa(aC _(some x.B))j _;have hnd:∀z,s.nd=some z→∀k,Ft x.N x.g z k→k≠x.B:=fun z hz k hk e=>by
  obtain⟨o,ho,hK⟩:=(h.nd z hz).1.kind hk;subst e;rw [h.blk]at ho;cases ho;exact hK.not(by decide)
 obtain⟨hj1,hj2⟩:=hj;refine⟨x',hB,⟨?_,hl,?_,fun z hz=> ?_⟩,Fx.grown hg fun k e=>by cases e;exact .inl rfl,fun k hk=> .inl ?_⟩
 ·rw [hB,hc];exact ym h.blk
 ·rw [hj1,hj2];exact h.row.kept hg(.inr(aA h.row h.blk(fun c e=>(by cases e))))
 ·obtain⟨e0,e1,e2,e3⟩:=hn z hz;rw [e1,e2,e3];exact⟨(h.nd z e0).1.kept fun k hk=>hg.block k((h.nd z e0).1.lt hk)fun e=>hnd z e0 k hk(Option.some.inj e),(h.nd z e0).2⟩
 ·rcases hk with hk|hk|⟨z,hz,hk⟩
  ·exact .inl(hk.trans hB)
  ·exact .inr(.inl(by rw [←hj1];exact hk))
  ·obtain⟨e0,e1,e2,e3⟩:=hn z hz;rw [e1,e2]at hk;exact .inr(.inr⟨z,e0,hk⟩)
theorem mf.aY {x:SG} {s:bi} {W W':World}(h:mf x s W) {v:Value} {xs:List Int}(ho:W'.ownsRow 0 5 1 v xs.length(U xs))(hg:W.grownBy W' x.jv.ownBlock)(hv:v.ownBlock=x.jv.ownBlock∨v.ownBlock=some W.heap.size∨v.ownBlock=none):
  mG x s {s with aY:=xs}W(W'.setCell⟨x.B,1,none⟩v):=by
 have hne:x.jv.ownBlock≠some x.B:=aA h.row h.blk(fun c e=>(by cases e));have hB:=aD h.blk;have hsz:=hg.size;have hblk:=(hg.block _ hB fun e=>hne e.symm).trans h.blk;have hg2:W'.grownBy(W'.setCell⟨x.B,1,none⟩v)(some x.B):=aa(aC _(some x.B))1 _;have hnd:∀z,s.nd=some z→∀k,Ft x.N x.g z k→k≠x.B∧x.jv.ownBlock≠some k:=fun z hz k hk=>by
  obtain⟨o,ho,hK⟩:=(h.nd z hz).1.kind hk;refine⟨fun e=> ?_,fun e=> ?_⟩
  ·subst e;rw [h.blk]at ho;cases ho;exact hK.not(by decide)
  ·obtain⟨c,hc⟩:=aP h.row e;rw [hc]at ho;cases ho;exact hK.not(by decide)
 have hf:Fx(kJ x s)W(W'.setCell⟨x.B,1,none⟩v):=aT(Fx.grown hg fun k e=> .inr(.inl e))hg2 fun i _ e=>by cases e;exact .inl rfl
 refine⟨{x with jv:=v},rfl,⟨?_,h.hl,?_,fun z hz=> ?_⟩,hf,fun k hk=> ?_⟩
 ·rw [show ED {x with jv:=v} {s with aY:=xs}=(ED x s).set 1 v from rfl];exact ym hblk
 ·exact ho.kept hg2(.inr(aA ho hblk(fun c e=>(by cases e))))
 ·refine⟨(h.nd z hz).1.kept fun k hk=> ?_,(h.nd z hz).2⟩;have hlt:=(h.nd z hz).1.lt hk;obtain⟨e1,e2⟩:=hnd z hz k hk;exact(hg2.block k(by omega)fun e=>e1(Option.some.inj e)).trans(hg.block k hlt fun e=>e2 e.symm)
 ·rcases hk with hk|hk|hk
  ·exact .inl(.inl hk)
  ·rcases hv with e|e|e
   ·exact .inl(.inr(.inl(by rw [←e];exact hk)))
   ·rw [show({x with jv:=v}:SG).jv=v from rfl,e]at hk;cases hk;have h1:=(ho.lt _ e).2;exact .inr⟨Nat.le_refl _,by simpa using h1⟩
   ·rw [show({x with jv:=v}:SG).jv=v from rfl,e]at hk;cases hk
  ·exact .inl(.inr(.inr hk))
theorem Eo {x:SG} {s:bi} {w:World}(h:mf x s w):Calls Tryz.prog 34 #[.pointer(some⟨x.B,0,none⟩)]w fun e w'=>e=.returned(.tuple #[])∧mG x s s.stop w w':=by
 obtain⟨c0,c1,c2,c9,c10,ch,fz⟩:=h.cell;have f2:=fz 2;have f9:=fz 9;have f10:=fz 10;have hfin:mG x s s.stop w(((w.setCell⟨x.B,2,none⟩(.pointer none)).setCell⟨x.B,9,none⟩(.bool false)).setCell⟨x.B,10,none⟩(.int .i64 0)):=by
  have hl:=h.hl;refine mG.trans(s1:={s with nd:=none})(h.set(x':=x)(s':={s with nd:=none})2(.pointer none)rfl rfl hl⟨rfl,rfl⟩(fun z hz=>by cases hz))fun x1 b1 m1=> ?_;rw [show(⟨x.B,9,none⟩:Addr)=⟨x1.B,9,none⟩by rw [b1],show(⟨x.B,10,none⟩:Addr)=⟨x1.B,10,none⟩by rw [b1]];refine mG.trans(s1:={s with nd:=none,tears:=false})(m1.set(x':=x1)(s':={s with nd:=none,tears:=false})9(.bool false)rfl ?_ hl⟨rfl,rfl⟩(fun z hz=>by cases hz))fun x2 b2 m2=> ?_
  ·simp [ED,Lg,List.oK,hl]
  ·rw [show(⟨x1.B,10,none⟩:Addr)=⟨x2.B,10,none⟩by rw [b2]];refine m2.set(x':=x2)(s':=s.stop)10(.int .i64 0)rfl ?_ hl⟨rfl,rfl⟩(fun z hz=>by cases hz);simp [ED,Lg,bi.stop,List.oK,hl]
 clear h c0 c1 ch fz;go_enter Tryz.func34,Tryz.ntmps34
 go_wp2
 go_returns
 exact⟨rfl,hfin⟩
theorem X9 {x:SG} {s:bi} {w:World}(h:mf x s w)(n:Int):Calls Tryz.prog 35 #[.pointer(some⟨x.B,0,none⟩),.int .i64 n]w fun e w'=>e=.returned(.tuple #[])∧mG x s {s with tears:=true,whole:=max 0 n}w w':=by
 obtain⟨c0,c1,c2,c9,c10,ch,fz⟩:=h.cell;have f9:=fz 9;have f10:=fz 10;have hfin:∀y,y=max 0 n→mG x s {s with tears:=true,whole:=max 0 n}w((w.setCell⟨x.B,9,none⟩(.bool true)).setCell⟨x.B,10,none⟩(.int .i64 y)):=by
  rintro y rfl;have hl:=h.hl;refine mG.trans(s1:={s with tears:=true})(h.set(x':=x)(s':={s with tears:=true})9(.bool true)rfl ?_ hl⟨rfl,rfl⟩(fun z hz=>⟨hz,rfl,rfl,rfl⟩))fun x1 b1 m1=> ?_
  ·simp [ED,List.oK,hl]
  ·rw [show(⟨x.B,10,none⟩:Addr)=⟨x1.B,10,none⟩by rw [b1]];refine m1.set(x':=x1)(s':={s with tears:=true,whole:=max 0 n})10(.int .i64(max 0 n))rfl ?_ hl⟨rfl,rfl⟩(fun z hz=>⟨hz,rfl,rfl,rfl⟩);simp [ED,List.oK,hl]
 replace hfin:=hide hfin;clear h c0 c1 ch fz;go_enter Tryz.func35,Tryz.ntmps35
 go_wp2
 all_goals(go_returns;exact⟨rfl,hfin.out _(by omega)⟩)
end Go.Proofs.YtakaadcpaeiccabGreat
