import Derived.Test.YtakaadcpaeiccabGreatC37
set_option maxHeartbeats 8000000
set_option maxRecDepth 100000
namespace Go.Proofs.YtakaadcpaeiccabGreat
open Go.RowKit Go.Maps Go.MuLone
theorem Uv {N:Nat} {g:bA} {s:St} {TL:List Hp.Tm} {w:World}(n:Nn N g s TL w)(hlk:s.lk=0)(now d:Int)(t:ByteArray)(r:Int)(h:(16<t.size∧r=6)∨(t.size≤16∧(d=s.me∨d=0)∧r=2)):
  Calls Tryz.prog 21 #[.pointer(some⟨N,0,none⟩),.int .u64 now,.int .u32 d,.string t]w fun e w'=>e=.returned(.tuple #[.agg #[.string⟨#[]⟩,.bool false,.slice none 0 0,.slice none 0 0,.slice none 0 0],.int .i64 r])∧Nn N g s TL w'∧Fx(Ft N g s)w w':=by
 have hb0:Below w.heap.size w(w.alloc iN):=(Below.refl _ _).alloc(Nat.le_refl _)_;have hC0:(w.alloc iN).heap[w.heap.size]?=some iN:=heap_alloc_new _ _;have jS:¬Ft N g s w.heap.size:=fun h=>by have:=n.lt h;omega
 have hs0:(w.alloc iN).heap.size=w.heap.size+1:=by simp
 have n0:=n.later hb0;dsimp only [iN]at hb0 hC0 hs0 n0
 go_enter_defers Tryz.func21,Tryz.ntmps21
 go_upto_region 1 with(fail)
 generalize World.alloc _ _=W1 at hb0 hC0 hs0 n0 ⊢;obtain⟨c0,f0⟩:=n0.Ib;rw [hlk]at c0;go_wp2_with fail
 refine Calls.mono(lock_free lu⟨N,0,none⟩W1 c0 f0) ?_;rintro e w2⟨rfl,rfl⟩;obtain⟨n2,hg2⟩:=n0.j_ 1;have hf2:Fx(Ft N g s)w(W1.setCell⟨N,0,none⟩(.int .i32 1)):=aT(Fx.below hb0)hg2(fun i _ e=>by cases e;exact .inl(.inl rfl));have hC2:=(hg2.block w.heap.size(by omega)(fun e=>jS(by cases e;exact .inl(.inl rfl)))).trans hC0;have hs2:w.heap.size+1≤(W1.setCell⟨N,0,none⟩(.int .i32 1)).heap.size:=by
  have:=hg2.size;omega
 have c2:=n2.cr.nd.cell.2.1;rw [n2.eq.self]at c2;dsimp only at c2;have hback:Hid(∀ {W:World},Nn N {({g with x:={g.x with lk:=1}}:bA)with x:={({g with x:={g.x with lk:=1}}:bA).x with lk:=0}} {({s with lk:=1}:St)with lk:=0}TL W→Nn N g s TL W):=by
  intro W m;have e1:({({s with lk:=1}:St)with lk:=0}:St)=s:=by rw [←hlk]
  have hx:g.x.lk=0:=n.eq.lk.trans hlk;have e2:({({g with x:={g.x with lk:=1}}:bA)with x:={({g with x:={g.x with lk:=1}}:bA).x with lk:=0}}:bA)=g:=by
   obtain⟨x,a,M,ff,gg,sz,h,u,Mt,hp,tv⟩:=g;obtain⟨lk,self,seq,bZ,T,Ms,tn,own,Mo,cnt,dz,eF,qf,Tm,pc⟩:=x;dsimp only at hx;subst hx;rfl
  rw [e1,e2]at m;exact m
 have hF1:Hid(∀k,Ft N({g with x:={g.x with lk:=1}}:bA)({s with lk:=1}:St)k→Ft N g s k):=fun k h=>h;have Sw:Hid(({s with lk:=1}:St).lk=1):=rfl;clear n0 hC0 hs0 hb0 c0 f0 hg2;generalize({g with x:={g.x with lk:=1}}:bA)=g1 at n2 hF1 hback;generalize({s with lk:=1}:St)=s1 at n2 hF1 Sw hback;generalize World.setCell _ _ _=W2 at n2 hf2 c2 hC2 hs2 ⊢;have z0:W2.cell?⟨w.heap.size,0,none⟩=some(.string⟨#[]⟩):=cell_of_row _ _ 0 _ _ _ hC2;have z1:W2.cell?⟨w.heap.size,1,none⟩=some(.bool false):=cell_of_row _ _ 1 _ _ _ hC2;have z2:W2.cell?⟨w.heap.size,2,none⟩=some(.slice none 0 0):=cell_of_row _ _ 2 _ _ _ hC2;have z3:W2.cell?⟨w.heap.size,3,none⟩=some(.slice none 0 0):=cell_of_row _ _ 3 _ _ _ hC2;have z4:W2.cell?⟨w.heap.size,4,none⟩=some(.slice none 0 0):=cell_of_row _ _ 4 _ _ _ hC2;have y0:=frozen_of_row W2 w.heap.size 0 _ _ hC2;have y1:=frozen_of_row W2 w.heap.size 1 _ _ hC2;have y2:=frozen_of_row W2 w.heap.size 2 _ _ hC2;have y3:=frozen_of_row W2 w.heap.size 3 _ _ hC2;have y4:=frozen_of_row W2 w.heap.size 4 _ _ hC2;rcases h with⟨afi,rfl⟩|⟨afi,hd,rfl⟩
 ·have h16:(16:Int)<(t.size:Int):=by omega
  have gB:=aa(aa(aa(aa(aa(aC W2(some w.heap.size))0(.string⟨#[]⟩))1(.bool false))2(.slice none 0 0))3(.slice none 0 0))4(.slice none 0 0);have dI:(((((W2.setCell⟨w.heap.size,0,none⟩(.string⟨#[]⟩)).setCell⟨w.heap.size,1,none⟩(.bool false)).setCell⟨w.heap.size,2,none⟩(.slice none 0 0)).setCell⟨w.heap.size,3,none⟩(.slice none 0 0)).setCell⟨w.heap.size,4,none⟩(.slice none 0 0)).heap[w.heap.size]?=some(.cells #[.string⟨#[]⟩,.bool false,.slice none 0 0,.slice none 0 0,.slice none 0 0]52):=by
   simp [World.setCell,Array.getElem?_modify,hC2]
  have m7:=n2.kept fun k hk=>gB.block k(n2.lt hk)(fun e=>jS(by cases e;exact hF1.out _ hk));have pg:=aT hf2 gB(fun i hi e=>by cases e;omega);clear n2 gB hf2 hC2;go_wp2_with fail
  generalize World.setCell _ _ _=W7 at dI m7 pg ⊢;obtain⟨c0,f0⟩:=m7.Ib;rw [Sw.out]at c0;refine leaves_cons(f:=50)(args:=#[.pointer(some⟨N,0,none⟩)])(by simp)(by simp [go_sem]) ?_;refine(unlock_deferred lu⟨N,0,none⟩ .returning W7 c0 f0).mono ?_;rintro e u' w''⟨rfl,rfl,rfl⟩;obtain⟨m8,jh⟩:=m7.j_ 0;have AO:N≠w.heap.size:=fun e=>jS(by rw [←e];exact .inl(.inl rfl));have bU:=(jh.block w.heap.size(aD dI)(fun e=>by cases e;exact AO rfl)).trans dI;have xc:=aT pg jh(fun i hi e=>by cases e;exact .inl(.inl rfl));have ll:=hback.out m8;clear c0 f0 jh m7 m8 pg dI;generalize World.setCell _ _ _=W8 at bU xc ll ⊢;have p0:W8.cell?⟨w.heap.size,0,none⟩=some(.string⟨#[]⟩):=cell_of_row _ _ 0 _ _ _ bU;have p1:W8.cell?⟨w.heap.size,1,none⟩=some(.bool false):=cell_of_row _ _ 1 _ _ _ bU;have p2:W8.cell?⟨w.heap.size,2,none⟩=some(.slice none 0 0):=cell_of_row _ _ 2 _ _ _ bU;have p3:W8.cell?⟨w.heap.size,3,none⟩=some(.slice none 0 0):=cell_of_row _ _ 3 _ _ _ bU;have p4:W8.cell?⟨w.heap.size,4,none⟩=some(.slice none 0 0):=cell_of_row _ _ 4 _ _ _ bU;refine⟨.tuple #[.agg #[.string⟨#[]⟩,.bool false,.slice none 0 0,.slice none 0 0,.slice none 0 0],.int .i64 6],by simp [results,Tryz.results21,go_sem,p0,p1,p2,p3,p4],rfl,ll,xc⟩
 ·have h16:¬(16:Int)<(t.size:Int):=by omega
  rcases hd with rfl|rfl
  ·have Cc:(s.me==s.me)=true:=beq_self_eq_true _;have gB:=aa(aa(aa(aa(aa(aC W2(some w.heap.size))0(.string⟨#[]⟩))1(.bool false))2(.slice none 0 0))3(.slice none 0 0))4(.slice none 0 0);have dI:(((((W2.setCell⟨w.heap.size,0,none⟩(.string⟨#[]⟩)).setCell⟨w.heap.size,1,none⟩(.bool false)).setCell⟨w.heap.size,2,none⟩(.slice none 0 0)).setCell⟨w.heap.size,3,none⟩(.slice none 0 0)).setCell⟨w.heap.size,4,none⟩(.slice none 0 0)).heap[w.heap.size]?=some(.cells #[.string⟨#[]⟩,.bool false,.slice none 0 0,.slice none 0 0,.slice none 0 0]52):=by
    simp [World.setCell,Array.getElem?_modify,hC2]
   have m7:=n2.kept fun k hk=>gB.block k(n2.lt hk)(fun e=>jS(by cases e;exact hF1.out _ hk));have pg:=aT hf2 gB(fun i hi e=>by cases e;omega);clear n2 gB hf2 hC2;go_wp2_with fail
   generalize World.setCell _ _ _=W7 at dI m7 pg ⊢;obtain⟨c0,f0⟩:=m7.Ib;rw [Sw.out]at c0;refine leaves_cons(f:=50)(args:=#[.pointer(some⟨N,0,none⟩)])(by simp)(by simp [go_sem]) ?_;refine(unlock_deferred lu⟨N,0,none⟩ .returning W7 c0 f0).mono ?_;rintro e u' w''⟨rfl,rfl,rfl⟩;obtain⟨m8,jh⟩:=m7.j_ 0;have AO:N≠w.heap.size:=fun e=>jS(by rw [←e];exact .inl(.inl rfl));have bU:=(jh.block w.heap.size(aD dI)(fun e=>by cases e;exact AO rfl)).trans dI;have xc:=aT pg jh(fun i hi e=>by cases e;exact .inl(.inl rfl));have ll:=hback.out m8;clear c0 f0 jh m7 m8 pg dI;generalize World.setCell _ _ _=W8 at bU xc ll ⊢;have p0:W8.cell?⟨w.heap.size,0,none⟩=some(.string⟨#[]⟩):=cell_of_row _ _ 0 _ _ _ bU;have p1:W8.cell?⟨w.heap.size,1,none⟩=some(.bool false):=cell_of_row _ _ 1 _ _ _ bU;have p2:W8.cell?⟨w.heap.size,2,none⟩=some(.slice none 0 0):=cell_of_row _ _ 2 _ _ _ bU;have p3:W8.cell?⟨w.heap.size,3,none⟩=some(.slice none 0 0):=cell_of_row _ _ 3 _ _ _ bU;have p4:W8.cell?⟨w.heap.size,4,none⟩=some(.slice none 0 0):=cell_of_row _ _ 4 _ _ _ bU;refine⟨.tuple #[.agg #[.string⟨#[]⟩,.bool false,.slice none 0 0,.slice none 0 0,.slice none 0 0],.int .i64 2],by simp [results,Tryz.results21,go_sem,p0,p1,p2,p3,p4],rfl,ll,xc⟩
  ·have hd0:((0:Int)==0)=true:=rfl;by_cases Cc:(0:Int)=s.me
   ·have aaB:((0:Int)==s.me)=true:=by simpa using Cc
    clear Cc;have gB:=aa(aa(aa(aa(aa(aC W2(some w.heap.size))0(.string⟨#[]⟩))1(.bool false))2(.slice none 0 0))3(.slice none 0 0))4(.slice none 0 0);have dI:(((((W2.setCell⟨w.heap.size,0,none⟩(.string⟨#[]⟩)).setCell⟨w.heap.size,1,none⟩(.bool false)).setCell⟨w.heap.size,2,none⟩(.slice none 0 0)).setCell⟨w.heap.size,3,none⟩(.slice none 0 0)).setCell⟨w.heap.size,4,none⟩(.slice none 0 0)).heap[w.heap.size]?=some(.cells #[.string⟨#[]⟩,.bool false,.slice none 0 0,.slice none 0 0,.slice none 0 0]52):=by
     simp [World.setCell,Array.getElem?_modify,hC2]
    have m7:=n2.kept fun k hk=>gB.block k(n2.lt hk)(fun e=>jS(by cases e;exact hF1.out _ hk));have pg:=aT hf2 gB(fun i hi e=>by cases e;omega);clear n2 gB hf2 hC2;go_wp2_with fail
    generalize World.setCell _ _ _=W7 at dI m7 pg ⊢;obtain⟨c0,f0⟩:=m7.Ib;rw [Sw.out]at c0;refine leaves_cons(f:=50)(args:=#[.pointer(some⟨N,0,none⟩)])(by simp)(by simp [go_sem]) ?_;refine(unlock_deferred lu⟨N,0,none⟩ .returning W7 c0 f0).mono ?_;rintro e u' w''⟨rfl,rfl,rfl⟩;obtain⟨m8,jh⟩:=m7.j_ 0;have AO:N≠w.heap.size:=fun e=>jS(by rw [←e];exact .inl(.inl rfl));have bU:=(jh.block w.heap.size(aD dI)(fun e=>by cases e;exact AO rfl)).trans dI;have xc:=aT pg jh(fun i hi e=>by cases e;exact .inl(.inl rfl));have ll:=hback.out m8;clear c0 f0 jh m7 m8 pg dI;generalize World.setCell _ _ _=W8 at bU xc ll ⊢;have p0:W8.cell?⟨w.heap.size,0,none⟩=some(.string⟨#[]⟩):=cell_of_row _ _ 0 _ _ _ bU;have p1:W8.cell?⟨w.heap.size,1,none⟩=some(.bool false):=cell_of_row _ _ 1 _ _ _ bU;have p2:W8.cell?⟨w.heap.size,2,none⟩=some(.slice none 0 0):=cell_of_row _ _ 2 _ _ _ bU;have p3:W8.cell?⟨w.heap.size,3,none⟩=some(.slice none 0 0):=cell_of_row _ _ 3 _ _ _ bU;have p4:W8.cell?⟨w.heap.size,4,none⟩=some(.slice none 0 0):=cell_of_row _ _ 4 _ _ _ bU;refine⟨.tuple #[.agg #[.string⟨#[]⟩,.bool false,.slice none 0 0,.slice none 0 0,.slice none 0 0],.int .i64 2],by simp [results,Tryz.results21,go_sem,p0,p1,p2,p3,p4],rfl,ll,xc⟩
   ·have aaB:((0:Int)==s.me)=false:=by simpa using Cc
    clear Cc;have gB:=aa(aa(aa(aa(aa(aC W2(some w.heap.size))0(.string⟨#[]⟩))1(.bool false))2(.slice none 0 0))3(.slice none 0 0))4(.slice none 0 0);have dI:(((((W2.setCell⟨w.heap.size,0,none⟩(.string⟨#[]⟩)).setCell⟨w.heap.size,1,none⟩(.bool false)).setCell⟨w.heap.size,2,none⟩(.slice none 0 0)).setCell⟨w.heap.size,3,none⟩(.slice none 0 0)).setCell⟨w.heap.size,4,none⟩(.slice none 0 0)).heap[w.heap.size]?=some(.cells #[.string⟨#[]⟩,.bool false,.slice none 0 0,.slice none 0 0,.slice none 0 0]52):=by
     simp [World.setCell,Array.getElem?_modify,hC2]
    have m7:=n2.kept fun k hk=>gB.block k(n2.lt hk)(fun e=>jS(by cases e;exact hF1.out _ hk));have pg:=aT hf2 gB(fun i hi e=>by cases e;omega);clear n2 gB hf2 hC2;go_wp2_with fail
    generalize World.setCell _ _ _=W7 at dI m7 pg ⊢;obtain⟨c0,f0⟩:=m7.Ib;rw [Sw.out]at c0;refine leaves_cons(f:=50)(args:=#[.pointer(some⟨N,0,none⟩)])(by simp)(by simp [go_sem]) ?_;refine(unlock_deferred lu⟨N,0,none⟩ .returning W7 c0 f0).mono ?_;rintro e u' w''⟨rfl,rfl,rfl⟩;obtain⟨m8,jh⟩:=m7.j_ 0;have AO:N≠w.heap.size:=fun e=>jS(by rw [←e];exact .inl(.inl rfl));have bU:=(jh.block w.heap.size(aD dI)(fun e=>by cases e;exact AO rfl)).trans dI;have xc:=aT pg jh(fun i hi e=>by cases e;exact .inl(.inl rfl));have ll:=hback.out m8;clear c0 f0 jh m7 m8 pg dI;generalize World.setCell _ _ _=W8 at bU xc ll ⊢;have p0:W8.cell?⟨w.heap.size,0,none⟩=some(.string⟨#[]⟩):=cell_of_row _ _ 0 _ _ _ bU;have p1:W8.cell?⟨w.heap.size,1,none⟩=some(.bool false):=cell_of_row _ _ 1 _ _ _ bU;have p2:W8.cell?⟨w.heap.size,2,none⟩=some(.slice none 0 0):=cell_of_row _ _ 2 _ _ _ bU;have p3:W8.cell?⟨w.heap.size,3,none⟩=some(.slice none 0 0):=cell_of_row _ _ 3 _ _ _ bU;have p4:W8.cell?⟨w.heap.size,4,none⟩=some(.slice none 0 0):=cell_of_row _ _ 4 _ _ _ bU;refine⟨.tuple #[.agg #[.string⟨#[]⟩,.bool false,.slice none 0 0,.slice none 0 0,.slice none 0 0],.int .i64 2],by simp [results,Tryz.results21,go_sem,p0,p1,p2,p3,p4],rfl,ll,xc⟩
def xM(x:Bool×Int×Int):Rt:=⟨x.2.1,gr x.2.2,0,0,false,0,[]⟩
def AC(me:Int)(x:Bool×Int×Int):Bool:=!x.1&&(x.2.1 !=me)
def UT(me:Int)(A:List Rt)(x:Bool×Int×Int):List Rt:=if AC me x&&decide(A.length<8)then A++ [xM x]else A
def tY(me:Int)(out:List(Bool×Int×Int)):List Rt:=out.foldl(UT me) []
theorem zi(me:Int) {out:List(Bool×Int×Int)} {k:Nat} {x:Bool×Int×Int}(h:out[k]?=some x):tY me(out.take(k+1))=UT me(tY me(out.take k))x:=by
 rw [oH h];simp [tY]
theorem KZ(me:Int)(out:List(Bool×Int×Int)):∀k,(tY me(out.take k)).length≤8:=by
 intro k
 induction k with
 |zero=>simp [tY]
 |succ k ih=>
  cases hx:out[k]? with
  |none=>
   have hk:=List.getElem?_eq_none_iff.1 hx;rw [List.take_of_length_le(by omega)];rw [List.take_of_length_le(by omega)]at ih;exact ih
  |some x=>
   rw [zi me hx];unfold UT;split
   ·rename_i h;have h8:(tY me(out.take k)).length<8:=by
     revert h
     cases AC me x<;>simp
    simp;omega
   ·exact ih
theorem Dj(me:Int)(out:List(Bool×Int×Int)):∀k,∀z∈tY me(out.take k),∃j x,j<k∧out[j]?=some x∧AC me x=true∧z=xM x:=by
 intro k
 induction k with
 |zero=>intro z hz;simp [tY]at hz
 |succ k ih=>
  intro z hz;cases hx:out[k]? with
  |none=>
   have hk:=List.getElem?_eq_none_iff.1 hx;rw [List.take_of_length_le(by omega)]at hz;rw [List.take_of_length_le(by omega)]at ih;obtain⟨j,x,h1,h2⟩:=ih z hz;exact⟨j,x,by omega,h2⟩
  |some x=>
   rw [zi me hx]at hz;unfold UT at hz;split at hz
   ·rename_i h;rcases List.mem_append.1 hz with hz|hz
    ·obtain⟨j,y,h1,h2⟩:=ih z hz;exact⟨j,y,by omega,h2⟩
    ·simp at hz;refine⟨k,x,by omega,hx,?_,hz⟩
     revert h
     cases AC me x<;>simp
   ·obtain⟨j,y,h1,h2⟩:=ih z hz;exact⟨j,y,by omega,h2⟩
def Ris(out:List(Bool×Int×Int)):Prop:=out.Pairwise fun a b=>a.1=false→b.1=false→a.2.1<b.2.1
theorem Ris.get {out:List(Bool×Int×Int)}(h:Ris out) {j k:Nat} {x y:Bool×Int×Int}(hj:out[j]?=some x)(hk:out[k]?=some y)(hjk:j<k)(hx:x.1=false)(hy:y.1=false):x.2.1<y.2.1:=by
 obtain⟨h1,rfl⟩:=List.getElem?_eq_some_iff.1 hj;obtain⟨h2,rfl⟩:=List.getElem?_eq_some_iff.1 hk;exact List.pairwise_iff_getElem.1 h j k h1 h2 hjk hx hy
theorem Di {me:Int} {x:Bool×Int×Int}(h:AC me x=true):x.1=false:=by
 unfold AC at h
 revert h
 cases x.1<;>simp
theorem NL(me:Int) {out:List(Bool×Int×Int)}(h:Ris out) {k:Nat} {x:Bool×Int×Int}(hx:out[k]?=some x)(hp:AC me x=true):∀z∈tY me(out.take k),z.dest<x.2.1:=by
 intro z hz;obtain⟨j,y,hj,hy,hyp,rfl⟩:=Dj me out k z hz;exact h.get hy hx hj(Di hyp)(Di hp)
theorem Uc {A:List Rt}(h:Asc A) {x:Rt}(hx:∀z∈A,z.dest<x.dest):Asc(A++ [x]):=by
 unfold Asc;rw [List.eU];exact⟨h,List.gV _ _,fun a ha b hb=>by simp at hb;subst hb;exact hx a ha⟩
theorem V3 {f:Int→Option Int} {c:Option Int} {out:List(Bool×Int×Int)}(h:iw f c out):Ris out:=by
 obtain⟨ss,hp,_,rfl⟩:=h;have h2:Ris(fV f ss):=by
  unfold Ris fV;rw [List.pairwise_map];exact hp.imp(fun hab _ _=>hab)
 unfold Ris at *;cases c with
 |none=>exact h2
 |some s=>exact List.pairwise_cons.2⟨fun b _ h=>(by cases h),h2⟩
theorem ZR:∀(L:List(Bool×Int×Int))(f:Int→Option Int),MB f→pW L→MB(L.foldl gJ f):=by
 intro L
 induction L with
 |nil=>intro f hf _;exact hf
 |cons x L ih=>
  intro f hf hb;have hx:=KM hb(List.mem_cons_self ..);exact ih _(hf.step hx.1 hx.2)(fun y hy=>hb y(List.mem_cons_of_mem _ hy))
theorem Rb {L out:List(Bool×Int×Int)}(hb:pW L)(h:iw(lU L)(qb L)out) {x:Bool×Int×Int}(hx:x∈out)(ho:x.1=false):bg x.2.1∧bg x.2.2:=by
 obtain⟨ss,hp,hm,rfl⟩:=h;rcases List.mem_append.1 hx with hx|hx
 ·revert hx
  cases qb L with
  |none=>intro hx;cases hx
  |some s=>
   intro hx;simp [dw]at hx;rw [hx]at ho;cases ho
 ·obtain⟨a,ha,rfl⟩:=List.mem_map.1 hx;have hMB:MB(lU L):=ZR L _ Rp hb;obtain⟨v,hv⟩:=Option.isSome_iff_exists.1((hm a).1 ha);exact⟨(hMB a v hv).1,hMB.getD a⟩
theorem KY {x:Bool×Int×Int}(h1:bg x.2.1)(h2:bg x.2.2):(xM x).Ok:=⟨h1,tK h2,by simp [xM,oC],by simp [xM,bg],by simp [xM,Af],by simp [xM],by simp [xM],by simp [xM]⟩
theorem MT.empty {me:Int} {T M:Nat} {W:World}(hT:EH T me M W)(hM:eX W M(fun _=>none)0):MT me T M(fun _=>none)(fun _=> .slice none 0 0) []W:=
 ⟨hT,hM,List.Pairwise.nil,by simp,fun d B _ h=>(by cases h),by simp,by simp,by simp,by simp⟩
def cmpL(L:List(Bool×Int×Int)):List(Bool×Int×Int):=L.foldl(fun o r=>yU o(norm r)) []
def St.new(me:Int)(xs:List Int)(now:Int):St:=
 St.finish⟨me,gr((qb(jl xs)).getD 0),if xs=[]then 0 else now+2000,0,0,tY me(cmpL(jl xs)),[],0,fun _=>none,0,0,[],0,[],now,[],[],[],[],decide(xs≠ []),0⟩
end Go.Proofs.YtakaadcpaeiccabGreat
