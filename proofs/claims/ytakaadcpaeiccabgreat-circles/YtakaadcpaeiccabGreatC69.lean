import Derived.Test.YtakaadcpaeiccabGreatC68
import Derived.Laws.Rows
namespace Go.Proofs.YtakaadcpaeiccabGreat
open Go.RowKit Go.Maps
def PY(s:bi)(B:List Rt):Prop:=∀y∈B,y.dest≠s.addr∧sG s y.dest(rk y)y.hops=true
theorem PY.le {s s':bi} {B:List Rt}(h:PY s B)(l:kZ s s'):PY s' B:=fun y hy=>⟨by rw [l.addr];exact(h y hy).1,l.ge _ _ _(h y hy).1(h y hy).2⟩
theorem PY.nil(s:bi):PY s []:=fun _ h=>by cases h
theorem X7(a b:Rt):PT a b=!nI(rk b,b.hops)(rk a)a.hops:=by
 unfold PT nI;rw [Bool.eq_iff_iff];simp only [Bool.or_eq_true,Bool.and_eq_true,decide_eq_true_eq,Bool.not_eq_true',Bool.or_eq_false_iff,Bool.and_eq_false_iff,decide_eq_false_iff_not];omega
theorem PY.line {s:bi} {z:St} {B:List Rt}(h:PY s B)(hz:s.nd=some z) {y:Rt}(hy:y∈B):∃x,aJ z.A y.dest=some x∧PT y x=false:=by
 have h1:=(h y hy).2;unfold sG vr at h1;rw [hz]at h1;dsimp only at h1;cases hl:aJ z.A y.dest with
 |none=>rw [hl]at h1;cases h1
 |some x=>
  rw [hl]at h1;refine⟨x,rfl,?_⟩;rw [X7];have h2:nI(rk x,x.hops)(rk y)y.hops=true:=h1;rw [h2];rfl
theorem PY.own {s:bi} {z:St}(hz:s.nd=some z)(ha:Asc z.A)(hd:∀y∈z.A,y.dest≠s.addr):PY s z.A:=fun y hy=>by
 refine⟨hd y hy,?_⟩;unfold sG vr;rw [hz];dsimp only;rw [jm ha hy];exact kV _ _
structure NxF(m:aK)(n k:Nat)(x:Rt):Prop where
 dst:∃i:Nat,i<n∧i≠k∧x.dest=10 * (i:Int)+10
 nx:x.valid=true→∃j:Nat,j<n∧j≠k∧x.next=10 * (j:Int)+10∧(x.next=x.dest∨m.runs j=false∨∃y,aJ(m.tab j)x.dest=some y∧PT y x=true)
theorem KF {m:aK} {j:Nat} {s:bi}(hs:m.S[j]?=some s):m.runs j=s.nd.isSome:=by
 have hl:=(List.getElem?_eq_some_iff.1 hs).1;unfold aK.runs aK.has;rw [Int.toNat_natCast,eB hs];simp [hl]
theorem Wp {G:Int} {m:aK} {n k:Nat} {s:bi} {z:St}(h:CM G m)(Ik:m.S.map(·.addr)=ku n)(hs:m.S[k]?=some s)(hz:s.nd=some z) {x:Rt}(hx:x∈z.A):NxF m n k x:=by
 have hn:m.S.length=n:=by
  have:=congrArg List.length Ik;rw [List.length_map,l6]at this;exact this
 have hat:∀ {j:Nat} {t:bi},m.S[j]?=some t→j<n∧t.addr=10 * (j:Int)+10:=fun {j t}ht=>by
  have hj:=(List.getElem?_eq_some_iff.1 ht).1;rw [hn]at hj;have h1:(m.S.map(·.addr))[j]?=some t.addr:=by rw [List.getElem?_map,ht];rfl
  rw [Ik,jL hj]at h1;exact⟨hj,(Option.some.inj h1).symm⟩
 obtain⟨_,_,_,hA⟩:=h.ci.nd k s z hs hz;obtain⟨hl,hd⟩:=hA x hx;have hk:=hat hs;refine⟨?_,fun hv=> ?_⟩
 ·obtain⟨t,ht,e⟩:=hl.dest;obtain⟨i,hi⟩:=List.getElem?_of_mem ht;have h1:=hat hi;exact⟨i,h1.1,fun e1=>hd(by rw [←e,h1.2,hk.2,e1]),by rw [←e,h1.2]⟩
 ·obtain⟨j,t,hj,ht,e,hor⟩:=hl.nx hv;have h1:=hat ht;refine⟨j,h1.1,hj,by rw [←e,h1.2],?_⟩;rcases hor with hor|hor
  ·exact .inl hor.symm
  ·refine .inr ?_;rw [KF ht];cases hu:t.nd with
   |none=>exact .inl rfl
   |some u=>
    refine .inr ?_;have htab:m.tab j=u.A:=by unfold aK.tab;rw [eB ht,hu]
    unfold sG vr at hor;rw [hu]at hor;dsimp only at hor;rw [htab];cases hq:aJ u.A x.dest with
    |none=>rw [hq]at hor;cases hor
    |some y=>
     rw [hq]at hor;refine⟨y,rfl,?_⟩;have h2:nI(rk y,y.hops)x.seq(x.hops - 1)=true:=hor;have h3:rk x=x.seq:=by unfold rk;rw [if_pos hv]
     unfold nI at h2;unfold PT;rw [h3];simp only [Bool.or_eq_true,Bool.and_eq_true,decide_eq_true_eq]at h2 ⊢;omega
structure CB(n i:Nat)(m:aK)(Bs:List(List Rt)):Prop where
 cm:∃G,0≤G∧G≤1+2800 * (i:Int)∧CM G m
 len:Bs.length=n
 bst:∀(k:Nat)s B,m.S[k]?=some s→Bs[k]?=some B→PY s B
theorem CB.step {n i:Nat} {m:aK} {Bs:List(List Rt)}(h:CB n i m Bs)(hi:i≤4096)(hfl:∀f∈m.bG,f.2.1<m.S.length)(o:Op)(Xd:(m.step o).1.S.length=m.S.length)(ho:o.dS≠8):CB n(i+1)(m.step o).1 Bs:=by
 obtain⟨G,h0,h1,hc⟩:=h.cm;obtain⟨G',g0,g1,hc',hle⟩:=hc.step h0(by omega)hfl o ho;refine⟨⟨G',g0,by omega,hc'⟩,h.len,fun k s' B hs' hB=> ?_⟩;have hk:=(List.getElem?_eq_some_iff.1 hs').1;rw [Xd]at hk;obtain⟨s2,h2,l⟩:=hle k _(List.getElem?_eq_getElem hk);rw [hs']at h2;cases h2;exact(h.bst k _ B(List.getElem?_eq_getElem hk)hB).le l
theorem CB.put {n i:Nat} {m:aK} {Bs:List(List Rt)}(h:CB n i m Bs) {k:Nat} {s:bi} {z:St}(hs:m.S[k]?=some s)(hz:s.nd=some z):CB n i m(Bs.set k z.A):=by
 obtain⟨G,h0,h1,hc⟩:=h.cm;refine⟨⟨G,h0,h1,hc⟩,by rw [List.length_set];exact h.len,fun j t B ht hB=> ?_⟩;rcases cZ hB with⟨rfl,rfl⟩|⟨_,hB⟩
 ·rw [hs]at ht;cases ht;obtain⟨_,_,ha,hA⟩:=hc.ci.nd _ s z hs hz;exact PY.own hz ha fun y hy=>(hA y hy).2
 ·exact h.bst j t B ht hB
theorem CB.new {n:Nat}(hn:n≤6):CB n 0(aK.new(ku n))(List.replicate n []):=by
 refine⟨⟨1,by omega,by omega,abg(by rw [l6];exact hn)(fun a ha=>(kS hn a ha).1)(fun a ha=>(kS hn a ha).2)(II n)⟩,List.length_replicate,fun k s B _ hB=> ?_⟩;rw [List.getElem?_replicate]at hB;split at hB
 ·cases hB;exact PY.nil s
 ·cases hB
theorem abh {G:Int} {m:aK}(h:CM G m) {k:Nat} {s:bi}(hs:m.S[k]?=some s):Yh(jl s.aY):=by
 have hj:=h.ji k s hs;have hbd:=I_(D:=Ay m.S s.addr)(G:=G)(jl s.aY)(fun _=>none)(fun d v h=>by cases h)hj.rc;refine⟨m.S.map(·.addr),by rw [List.length_map];have:=h.ci.len;omega,fun a ha=> ?_⟩;obtain⟨v,hv⟩:=Option.isSome_iff_exists.1 ha;obtain⟨_,t,ht,e⟩:=(hbd a v hv).1;exact List.mem_map.2⟨t,ht,e⟩
def Ht(v:Value)(L:List(Rt×Value))(k:Nat):Prop:=v.ownBlock=some k∨∃p∈L,p.2.ownBlock=some k
theorem nJ.lt {b:Nat} {v:Value} {L:List(Rt×Value)} {W:World}(h:nJ b v L W) {k:Nat}(hk:Ht v L k):b≤k∧k<W.heap.size:=by
 rcases hk with hk|⟨p,hp,hk⟩
 ·exact h.row.lt k hk
 ·exact(h.bB p hp).lt k hk
theorem nJ.at' {b:Nat} {v:Value} {L:List(Rt×Value)} {W W':World}(h:nJ b v L W)(he:∀k,Ht v L k→W'.heap[k]?=W.heap[k]?):nJ b v L W':=
 ⟨bD h.row fun k hk=>he k(.inl hk),fun p hp=>bD(h.bB p hp)fun k hk=>he k(.inr⟨p,hp,hk⟩)⟩
theorem nJ.kind {b:Nat} {v:Value} {L:List(Rt×Value)} {W:World}(h:nJ b v L W) {k:Nat}(hk:Ht v L k):∃c t,t∈([38,34]:List Nat)∧W.heap[k]?=some(.cells c t(0,0)):=by
 rcases hk with hk|⟨p,hp,hk⟩
 ·obtain⟨c,hc⟩:=aP h.row hk;exact⟨c,38,by decide,hc⟩
 ·obtain⟨c,hc⟩:=aP(h.bB p hp)hk;exact⟨c,34,by decide,hc⟩
theorem nJ.lower {b b':Nat} {v:Value} {L:List(Rt×Value)} {W:World}(h:nJ b v L W)(hb:b'≤b):nJ b' v L W:=⟨ownsRow_base_a h.row hb,fun p hp=>ownsRow_base_a(h.bB p hp)hb⟩
structure BM(bb B:Nat)(Ls:List(Value×List(Rt×Value)))(y:MG)(m:aK)(W:World):Prop where
 low:bb≤B
 blk:W.heap[B]?=some(.cells(Ls.map(·.1)).toArray 31(0,0))
 rows:∀x∈Ls,nJ bb x.1 x.2 W
 out:∀x∈Ls,∀k,Ht x.1 x.2 k→¬oz y m k
theorem BM.not {bb B:Nat} {Ls:List(Value×List(Rt×Value))} {y:MG} {m:aK} {W:World}(h:BM bb B Ls y m W)(hm:MM y m W):¬oz y m B:=hm.not h.blk(by decide)
theorem BM.turn {bb B:Nat} {Ls:List(Value×List(Rt×Value))} {y y':MG} {m m':aK} {W W':World}(h:BM bb B Ls y m W)(hm:MM y m W)(u:MU y m y' m' W W'):BM bb B Ls y' m' W':=
 ⟨h.low,(u.fx.block B(aD h.blk)(h.not hm)).trans h.blk,fun x hx=>(h.rows x hx).at' fun k hk=>u.fx.block k((h.rows x hx).lt hk).2(h.out x hx k hk),fun x hx k hk hin=>(u.sub k hin).elim(h.out x hx k hk)fun e=>by have:=((h.rows x hx).lt hk).2;omega⟩
theorem BM.later {bb B:Nat} {Ls:List(Value×List(Rt×Value))} {y:MG} {m:aK} {W W':World}(h:BM bb B Ls y m W)(hb:Below W.heap.size W W'):BM bb B Ls y m W':=
 ⟨h.low,(hb.block B(aD h.blk)).trans h.blk,fun x hx=>(h.rows x hx).later hb,h.out⟩
theorem BM.ne {bb B:Nat} {Ls:List(Value×List(Rt×Value))} {y:MG} {m:aK} {W:World}(h:BM bb B Ls y m W) {b:Nat} {v:Value} {L:List(Rt×Value)}(hl:nJ b v L W) {k:Nat}(hk:Ht v L k):k≠B:=by
 rintro rfl;obtain⟨c,t,ht,hc⟩:=hl.kind hk;rw [h.blk]at hc;cases hc;exact absurd ht(by decide)
theorem BM.set {bb B:Nat} {Ls:List(Value×List(Rt×Value))} {y:MG} {m:aK} {W:World}(h:BM bb B Ls y m W)(k:Nat) {v:Value} {L:List(Rt×Value)}(hl:nJ bb v L W)(ho:∀j,Ht v L j→¬oz y m j):BM bb B(Ls.set k(v,L))y m(W.setCell⟨B,k,none⟩v):=by
 refine⟨h.low,?_,fun x hx=> ?_,fun x hx=> ?_⟩
 ·rw [heap_setCell_same W B k _ _ v h.blk];simp [List.map_set]
 ·rcases List.mem_or_eq_of_mem_set hx with hx|rfl
  ·exact(h.rows x hx).at' fun j hj=>Below.heap_setCell W⟨B,k,none⟩v j(h.ne(h.rows x hx)hj)
  ·exact hl.at' fun j hj=>Below.heap_setCell W⟨B,k,none⟩v j(h.ne hl hj)
 ·rcases List.mem_or_eq_of_mem_set hx with hx|rfl
  ·exact h.out x hx
  ·exact ho
theorem SQ.cell {w:World} {n i:Nat} {y:MG} {m:aK} {W:World}(h:SQ w n i y m W) {B:Nat}(hB:w.heap.size≤B)(hn:¬oz y m B)(k:Nat)(v:Value):SQ w n i y m(W.setCell⟨B,k,none⟩v):=
 ⟨h.mm.kept fun j hj=>Below.heap_setCell W⟨B,k,none⟩v j(fun e=>hn(show oz y m B from(show j=B from e)▸hj)),h.low,h.bl.setCell hB v,h.ok,h.fk,h.nw,h.Ik⟩
end Go.Proofs.YtakaadcpaeiccabGreat
