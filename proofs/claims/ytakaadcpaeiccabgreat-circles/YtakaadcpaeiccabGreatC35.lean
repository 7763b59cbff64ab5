import Derived.Test.YtakaadcpaeiccabGreatC34
import Derived.Laws.Rows
set_option maxHeartbeats 8000000
set_option maxRecDepth 100000
namespace Go.Proofs.YtakaadcpaeiccabGreat
open Go.RowKit Go.Maps
variable{G:Int}{Bs:List (List Rt)}{B:List Rt}{m:aS}{i n:Nat}{s:bJ}
def QF(s:bJ)(B:List Rt):Prop:=∀y∈B,y.dest≠s.addr∧tF s y.dest (rk y) y.hops=true
theorem QF.le{s':bJ}(h:QF s B)(l:lZ s s'):QF s' B:=λy hy=>⟨by rw[l.addr];exact(h y hy).1,l.ge _ _ _ (h y hy).1 (h y hy).2⟩
theorem QF.nil(s:bJ):QF s []:=λ_ h=>by cases h
theorem YR(a b:Rt):QA a b=!om (rk b,b.hops) (rk a) a.hops:=by
 unfold QA om;rw[Bool.eq_iff_iff];simp only[Bool.or_eq_true,fF,jg,Bool.not_eq_true',Bool.or_eq_false_iff,Bool.and_eq_false_iff,decide_eq_false_iff_not];omega
theorem QF.line{z:St}(h:QF s B)(hz:s.nd=some z){y:Rt}(hy:y∈B):∃x,aJ z.A y.dest=some x∧QA y x=false:=by
 have h1:=(h y hy).2;unfold tF vr at h1;rw[hz]at h1;dsimp only at h1;cases hl:aJ z.A y.dest with
 |none=>rw[hl]at h1;cases h1
 |some x=>
  rw[hl]at h1;refine⟨x,rfl,?_⟩;rw[YR];have h2:om (rk x,x.hops) (rk y) y.hops=true:=h1;rw[h2];rfl
theorem QF.own{z:St}(hz:s.nd=some z)(ha:Asc z.A)(hd:∀y∈z.A,y.dest≠s.addr):QF s z.A:=λy hy=>by
 refine⟨hd y hy,?_⟩;unfold tF vr;rw[hz];dsimp only;rw[jT ha hy];exact lV _ _
structure NxF(m:aS)(n k:Nat)(x:Rt):Prop where
 dst:∃i:Nat,i<n∧i≠k∧x.dest=10 * (i:Int)+10
 nx:x.valid=true->∃j:Nat,j<n∧j≠k∧x.next=10 * (j:Int)+10∧(x.next=x.dest∨m.runs j=false∨∃y,aJ (m.tab j) x.dest=some y∧QA y x=true)
theorem LP{j:Nat}(hs:m.S[j]?=some s):m.runs j=s.nd.isSome:=by
 have hl:=(eB.1 hs).1;unfold aS.runs aS.has;rw[iU,eX hs];simp[hl]
theorem Xk{k:Nat}{z:St}(h:CM G m)(Jp:m.S.map (·.addr)=kY n)(hs:m.S[k]?=some s)(hz:s.nd=some z){x:Rt}(hx:x∈z.A):NxF m n k x:=by
 have hn:m.S.length=n:=by
  have:=congrArg List.length Jp;rw[iK,mU]at this;exact this
 have hat:∀ {j:Nat} {t:bJ},m.S[j]?=some t->j<n∧t.addr=10 * (j:Int)+10:=λ{j t} ht=>by
  have hj:=(eB.1 ht).1;rw[hn]at hj;have h1:(m.S.map (·.addr))[j]?=some t.addr:=by rw[kr,ht];rfl
  rw[Jp,kE hj]at h1;exact⟨hj,(Option.some.inj h1).symm⟩
 obtain⟨_,_,_,hA⟩:=h.ci.nd k s z hs hz;obtain⟨hl,hd⟩:=hA x hx;have hk:=hat hs;refine⟨?_,λhv=> ?_⟩
 ·obtain⟨t,ht,e⟩:=hl.dest;obtain⟨i,hi⟩:=List.getElem?_of_mem ht;have h1:=hat hi;exact⟨i,h1.1,λe1=>hd (by rw[<-e,h1.2,hk.2,e1]),by rw[<-e,h1.2]⟩
 ·obtain⟨j,t,hj,ht,e,hor⟩:=hl.nx hv;have h1:=hat ht;refine⟨j,h1.1,hj,by rw[<-e,h1.2],?_⟩;rcases hor with hor|hor
  ·exact .inl hor.symm
  ·refine .inr ?_;rw[LP ht];cases hu:t.nd with
   |none=>exact .inl rfl
   |some u=>
    refine .inr ?_;have htab:m.tab j=u.A:=by unfold aS.tab;rw[eX ht,hu]
    unfold tF vr at hor;rw[hu]at hor;dsimp only at hor;rw[htab];cases hq:aJ u.A x.dest with
    |none=>rw[hq]at hor;cases hor
    |some y=>
     rw[hq]at hor;refine⟨y,rfl,?_⟩;have h2:om (rk y,y.hops) x.seq (x.hops - 1)=true:=hor;have h3:rk x=x.seq:=by unfold rk;rw[aQ hv]
     unfold om at h2;unfold QA;rw[h3];simp only[Bool.or_eq_true,fF,jg]at h2 ⊢;omega
structure CB(n i:Nat)(m:aS)(Bs:List (List Rt)):Prop where
 cm:∃G,0<=G∧G<=1+2800 * (i:Int)∧CM G m
 len:Bs.length=n
 bst:∀(k:Nat) s B,m.S[k]?=some s->Bs[k]?=some B->QF s B
theorem CB.step(h:CB n i m Bs)(hi:i<=4096)(hfl:∀f∈m.bO,f.2.1<m.S.length)(o:Op)(XY:(m.step o).1.S.length=m.S.length)(ho:o.dX≠8):CB n (i+1) (m.step o).1 Bs:=by
 obtain⟨G,h0,h1,hc⟩:=h.cm;obtain⟨G',g0,g1,hc',hle⟩:=hc.step h0 (by omega) hfl o ho;refine⟨⟨G',g0,by omega,hc'⟩,h.len,λk s' B hs' hB=> ?_⟩;have hk:=(eB.1 hs').1;rw[XY]at hk;obtain⟨s2,h2,l⟩:=hle k _ (cZ hk);rw[hs']at h2;cases h2;exact(h.bst k _ B (cZ hk) hB).le l
theorem CB.put(h:CB n i m Bs){k:Nat}{s:bJ}{z:St}(hs:m.S[k]?=some s)(hz:s.nd=some z):CB n i m (Bs.set k z.A):=by
 obtain⟨G,h0,h1,hc⟩:=h.cm;refine⟨⟨G,h0,h1,hc⟩,by rw[List.length_set];exact h.len,λj t B ht hB=> ?_⟩;rcases b_ hB with⟨rfl,rfl⟩|⟨_,hB⟩
 ·rw[hs]at ht;cases ht;obtain⟨_,_,ha,hA⟩:=hc.ci.nd _ s z hs hz;exact QF.own hz ha λy hy=>(hA y hy).2
 ·exact h.bst j t B ht hB
theorem CB.new(hn:n<=6):CB n 0 (aS.new (kY n)) (List.replicate n []):=by
 refine⟨⟨1,by omega,by omega,abW (by rw[mU];exact hn) (λa ha=>(lN hn a ha).1) (λa ha=>(lN hn a ha).2) (JH n)⟩,List.length_replicate,λk s B _ hB=> ?_⟩;rw[List.getElem?_replicate]at hB;split at hB
 ·cases hB;exact QF.nil s
 ·cases hB
theorem abX(h:CM G m){k:Nat}{s:bJ}(hs:m.S[k]?=some s):Y3 (jl s.bn):=by
 have hj:=h.ji k s hs;have hbd:=JY (D:=BG m.S s.addr) (G:=G) (jl s.bn) (λ_=>none) (λd v h=>by cases h) hj.rc;refine⟨m.S.map (·.addr),by rw[iK];have:=h.ci.len;omega,λa ha=> ?_⟩;obtain⟨v,hv⟩:=Option.isSome_iff_exists.1 ha;obtain⟨_,t,ht,e⟩:=(hbd a v hv).1;exact di.2 ⟨t,ht,e⟩
variable{L:List (Rt×Value)}{Ls:List (Value×List (Rt×Value))}{y:MG}{m:aS}{B b bb:Nat}{v:Value}{W W':World}
def I8(v:Value)(L:List (Rt×Value))(k:Nat):Prop:=v.ownBlock=some k∨∃p∈L,p.2.ownBlock=some k
theorem oo.lt(h:oo b v L W){k:Nat}(hk:I8 v L k):b<=k∧k<W.heap.size:=by
 rcases hk with hk|⟨p,hp,hk⟩
 ·exact h.row.lt k hk
 ·exact(h.bH p hp).lt k hk
theorem oo.at'(h:oo b v L W)(he:∀k,I8 v L k->W'.heap[k]?=W.heap[k]?):oo b v L W':=
 ⟨bK h.row λk hk=>he k (.inl hk),λp hp=>bK (h.bH p hp) λk hk=>he k (.inr ⟨p,hp,hk⟩)⟩
theorem oo.kind(h:oo b v L W){k:Nat}(hk:I8 v L k):∃c t,t∈([38,34]:List Nat)∧W.heap[k]?=some (.cells c t (0,0)):=by
 rcases hk with hk|⟨p,hp,hk⟩
 ·obtain⟨c,hc⟩:=aR h.row hk;exact⟨c,38,by decide,hc⟩
 ·obtain⟨c,hc⟩:=aR (h.bH p hp) hk;exact⟨c,34,by decide,hc⟩
theorem oo.lower{b':Nat}(h:oo b v L W)(hb:b'<=b):oo b' v L W:=⟨ownsRow_base_a h.row hb,λp hp=>ownsRow_base_a (h.bH p hp) hb⟩
structure BM(bb B:Nat)(Ls:List (Value×List (Rt×Value)))(y:MG)(m:aS)(W:World):Prop where
 low:bb<=B
 blk:W.heap[B]?=some (.cells (Ls.map (·.1)).toArray 31 (0,0))
 rows:∀x∈Ls,oo bb x.1 x.2 W
 out:∀x∈Ls,∀k,I8 x.1 x.2 k->¬oZ y m k
theorem BM.not(h:BM bb B Ls y m W)(hm:MM y m W):¬oZ y m B:=hm.not h.blk (by decide)
theorem BM.turn{y':MG}{m':aS}(h:BM bb B Ls y m W)(hm:MM y m W)(u:MU y m y' m' W W'):BM bb B Ls y' m' W':=
 ⟨h.low,(u.fx.block B (aG h.blk) (h.not hm)).trans h.blk,λx hx=>(h.rows x hx).at' λk hk=>u.fx.block k ((h.rows x hx).lt hk).2 (h.out x hx k hk),λx hx k hk hin=>(u.sub k hin).elim (h.out x hx k hk) λe=>by have:=((h.rows x hx).lt hk).2;omega⟩
theorem BM.later(h:BM bb B Ls y m W)(hb:Below W.heap.size W W'):BM bb B Ls y m W':=
 ⟨h.low,(hb.block B (aG h.blk)).trans h.blk,λx hx=>(h.rows x hx).later hb,h.out⟩
theorem BM.ne(h:BM bb B Ls y m W){b:Nat}{v:Value}{L:List (Rt×Value)}(hl:oo b v L W){k:Nat}(hk:I8 v L k):k≠B:=by
 rintro rfl;obtain⟨c,t,ht,hc⟩:=hl.kind hk;rw[h.blk]at hc;cases hc;exact absurd ht (by decide)
theorem BM.set(h:BM bb B Ls y m W)(k:Nat){v:Value}{L:List (Rt×Value)}(hl:oo bb v L W)(ho:∀j,I8 v L j->¬oZ y m j):BM bb B (Ls.set k (v,L)) y m (W.setCell ⟨B,k,none⟩ v):=by
 refine⟨h.low,?_,λx hx=> ?_,λx hx=> ?_⟩
 ·rw[heap_setCell_same W B k _ _ v h.blk];simp[List.map_set]
 ·rcases List.mem_or_eq_of_mem_set hx with hx|rfl
  ·exact(h.rows x hx).at' λj hj=>iV W ⟨B,k,none⟩ v j (h.ne (h.rows x hx) hj)
  ·exact hl.at' λj hj=>iV W ⟨B,k,none⟩ v j (h.ne hl hj)
 ·rcases List.mem_or_eq_of_mem_set hx with hx|rfl
  ·exact h.out x hx
  ·exact ho
theorem SQ.cell{w:World}{n i:Nat}(h:SQ w n i y m W){B:Nat}(hB:w.heap.size<=B)(hn:¬oZ y m B)(k:Nat)(v:Value):SQ w n i y m (W.setCell ⟨B,k,none⟩ v):=
 ⟨h.mm.kept λj hj=>iV W ⟨B,k,none⟩ v j (λe=>hn (show oZ y m B from(show j=B from e)▸hj)),h.low,h.bl.setCell hB v,h.ok,h.fk,h.nw,h.Jp⟩
variable{dd:Int}{y:MG}{m:aS}{X a c i n:Nat}{ao:Option Addr}{W W' w w0 wX:World}
theorem SQ.KH(h:SQ w n i y m W)(h1:MM y m W')(u:MU y m y m W W'):SQ w n i y m W':=by
 have hz:=h.bl.size;exact⟨h1,h.low,h.bl.trans (u.fx.DJ hz λj hj hf=>by have:=h.low j hf;omega),h.ok,h.fk,h.nw,h.Jp⟩
theorem SQ.Y8(h:SQ w n i y m W){k:Nat}(hk:k<n):∀x∈m.tab k,x.Ok:=by
 obtain⟨x,s,b,c,e1,e2,e3,_⟩:=h.mm.get (i:=k) (by rw[h.len];exact hk);have hs:=h.ok.at e2;cases hz:s.nd with
 |none=>
  have ht:m.tab k=[]:=by unfold aS.tab;rw[e3,hz]
  rw[ht];exact λx hx=>(by cases hx)
 |some z=>
  have ht:m.tab k=z.A:=by unfold aS.tab;rw[e3,hz]
  rw[ht];exact(hs.nd z hz).ok
theorem zw{P:Program}{ops:Array Oper}{Q:Exit->Act->World->Prop}{md:Region.Mode}{S:World->Prop}{U:List Nat}{j:Nat}{oi oj:Oper}{fuel:Nat}{listed:Array Bool}{a:Act}(hr:Region.ready md ops listed=[i,j])(hoi:ops[i]?=some oi)(hoj:ops[j]?=some oj)
  (h1:∀K':Act->World->Prop,Shut (∀a w,(i ∉ U->S w)->jS P md ops Q S U fuel (listed.setIfInBounds i true) a w->K' a w)->if Region.wanted oi (yielded ops a.tmps)=true then Oper.wp P oi a w K' Q else K' (a.put oi.dst undef) w)
  (h2:∀K':Act->World->Prop,Shut (∀a w,(j ∉ U->S w)->jS P md ops Q S U fuel (listed.setIfInBounds j true) a w->K' a w)->if Region.wanted oj (yielded ops a.tmps)=true then Oper.wp P oj a w K' Q else K' (a.put oj.dst undef) w):jS P md ops Q S U (fuel+1) listed a w:=by
 refine⟨λh0=>absurd (hr▸h0) (by simp),λk hk=> ?_⟩;rw[hr]at hk;rcases fe.1 hk with rfl|hk
 ·exact wpOp_step hoi (λK' hK=>h1 K' (λa w hS hW=>hK a w ⟨hS,hW⟩))
 ·rw[eZ]at hk;subst hk;exact wpOp_step hoj (λK' hK=>h2 K' (λa w hS hW=>hK a w ⟨hS,hW⟩))
theorem zL{D k:Nat}{v0 v1 v2 v3 v4 v5 v6:Value}(h:k≠D):(((((((w.setCell ⟨D,0,none⟩ v0).setCell ⟨D,1,none⟩ v1).setCell ⟨D,2,none⟩ v2).setCell ⟨D,3,none⟩ v3).setCell ⟨D,4,none⟩ v4).setCell ⟨D,5,none⟩ v5).setCell ⟨D,6,none⟩ v6).heap[k]?=w.heap[k]?:=by
 rw[iV _ _ _ _ h,iV _ _ _ _ h,iV _ _ _ _ h,iV _ _ _ _ h,iV _ _ _ _ h,iV _ _ _ _ h,iV _ _ _ _ h]
theorem MU.WN{a:World}(u:MU y m y m a w){D:Nat}(hD:a.heap.size<=D)(v0 v1 v2 v3 v4 v5 v6:Value):MU y m y m a (((((((w.setCell ⟨D,0,none⟩ v0).setCell ⟨D,1,none⟩ v1).setCell ⟨D,2,none⟩ v2).setCell ⟨D,3,none⟩ v3).setCell ⟨D,4,none⟩ v4).setCell ⟨D,5,none⟩ v5).setCell ⟨D,6,none⟩ v6):=
 have b:=qb (aV D w) (aD D) v0 v1 v2 v3 v4 v5 v6
 ⟨⟨b.os.trans u.fx.os,b.tape.trans u.fx.tape,b.output.trans u.fx.output,dH u.fx.size b.size,λk hk hn=>(b.block k (by omega)).trans (u.fx.block k hk hn)⟩,λ_ h=> .inl h,rfl,rfl,rfl,rfl⟩
def YP(z:Rt)(y:MG)(m:aS)(wX:World)(pv fv:Value)(W:World):Prop:=∃(Y:Nat) (ao:Option Addr) (a c:Nat),pv=.pointer (some ⟨Y,0,none⟩)∧fv=.bool true∧dS Y z (.slice ao a c) W∧MM y m W∧MU y m y m wX W
theorem QI{z:Rt}(hm:MM y m w)(u:MU y m y m wX w):YP z y m wX (.pointer (some ⟨w.heap.size,0,none⟩)) (.bool true) (w.alloc (.cells #[.int .u32 z.dest,.int .u32 z.seq,.int .i64 z.hops,.int .u32 z.next,.bool z.valid,.int .u64 z.exp,.slice ao a c] 38)):=
 have hb:Below w.heap.size w (w.alloc (.cells #[.int .u32 z.dest,.int .u32 z.seq,.int .i64 z.hops,.int .u32 z.next,.bool z.valid,.int .u64 z.exp,.slice ao a c] 38)):=bq
 ⟨_,ao,a,c,rfl,rfl,bS _ _,hm.later hb,u.post hb⟩
theorem QH{z x:Rt}{Y:Nat}{v:Value}(hm:MM y m w)(u:MU y m y m wX w)(hY:wX.heap.size<=Y)(hn:¬oZ y m Y)(hl:dS Y x v w):YP z y m wX (.pointer (some ⟨Y,0,none⟩)) (.bool true) (((((((w.setCell ⟨Y,0,none⟩ (.int .u32 z.dest)).setCell ⟨Y,1,none⟩ (.int .u32 z.seq)).setCell ⟨Y,2,none⟩ (.int .i64 z.hops)).setCell ⟨Y,3,none⟩ (.int .u32 z.next)).setCell ⟨Y,4,none⟩ (.bool z.valid)).setCell ⟨Y,5,none⟩ (.int .u64 z.exp)).setCell ⟨Y,6,none⟩ (.slice ao a c)):=
 ⟨Y,ao,a,c,rfl,rfl,hl.WN,hm.kept λk hk=>zL λe=>hn (by rw[<-e];exact hk),u.WN hY _ _ _ _ _ _ _⟩
theorem QU(h:SQ w0 n i y m wX){j:Nat}(hj:j<n){dd:Int}{z:Rt}(hz:aJ (m.tab j) dd=some z):∀W1,Below wX.heap.size wX W1->Calls Tryz.prog 12 #[.pointer (some ⟨y.G,0,none⟩),.int .i64 j] W1 λe w7=>∃v,e=.returned v∧MM y m w7∧MU y m y m W1 w7∧∀W2,Below w7.heap.size w7 W2->Calls Tryz.prog 14 #[v,.int .u32 dd] W2 λe w8=>∃(ao:Option Addr) (a c:Nat),e=.returned (.tuple #[.agg #[.int .u32 z.dest,.int .u32 z.seq,.int .i64 z.hops,.int .u32 z.next,.bool z.valid,.int .u64 z.exp,.slice ao a c],.bool true])∧Below W2.heap.size W2 w8:=by
 intro W1 hb;obtain⟨_,t2,t3,t4,_⟩:=h.tab hj;refine(Dz (h.mm.later hb) j (by rw[h.len];exact hj) t4).mono ?_;rintro e w7 ⟨v,L,rfl,hL,hls,hm,hu⟩;refine⟨v,rfl,hm,hu,λW2 h2=>Da (hls.later h2) (by rw[hL];exact t2) dd (by rw[hL];exact hz) ?_⟩;have:L.length<=8:=by rw[<-hL,iK]at t3;exact t3
 omega
@[reducible] def SX(X : Nat)(dd : Int)(W : World): Prop := W.cell? ⟨X, 0, none⟩ = some (.int .u32 dd)
theorem Y9(h:SX X dd W)(u:MU y m y m W W')(hX:X<W.heap.size)(hn:¬oZ y m X):SX X dd W':=by
 have e:=u.fx.block X hX hn;unfold SX World.cell? at h ⊢;simpa[e]using h
theorem LA{D:Nat}(h:SX X dd w)(hn:X≠D)(v0 v1 v2 v3 v4 v5 v6:Value):SX X dd (((((((w.setCell ⟨D,0,none⟩ v0).setCell ⟨D,1,none⟩ v1).setCell ⟨D,2,none⟩ v2).setCell ⟨D,3,none⟩ v3).setCell ⟨D,4,none⟩ v4).setCell ⟨D,5,none⟩ v5).setCell ⟨D,6,none⟩ v6):=by
 have e:=zL (w:=w) (v0:=v0) (v1:=v1) (v2:=v2) (v3:=v3) (v4:=v4) (v5:=v5) (v6:=v6) hn;unfold SX World.cell? at h ⊢;simpa only[e]using h
theorem OV(hs:SQ w0 n i y m W){k:Nat}(_:k<n)(VF:n<=6){bb:Nat}{v:Value}{L:List (Rt×Value)}(hl:oo bb v L W)(ho:∀j,I8 v L j->¬oZ y m j)(h8:L.length<=8)(hok:∀p∈L,p.1.Ok)(hnx:∀p∈L,NxF m n k p.1):
  Calls Tryz.prog 16 #[.pointer (some ⟨y.G,0,none⟩),.int .i64 n,.int .i64 k,v] W λe w'=>e=.returned (.bool true)∧MM y m w'∧MU y m y m W w':=by
 obtain⟨ao,c,rfl,_⟩:=ak hl.row;have Ih:Hid (MM y m W∧MU y m y m W W):=hide ⟨hs.mm,MU.refl _ _ _⟩;have hq:=hide hs;replace hl:=hide hl;clear hs;go_enter Tryz.func16,Tryz.ntmps16;go_wp2_with fail;go_loopw [9] (λi wr=>∃(t:Nat),t<=L.length∧i=.int .i64 t∧Hid (MM y m wr∧MU y m y m W wr)) (λi _=>L.length - (intOf i).toNat)
 case atStart=>exact⟨0,dh _,rfl,Ih⟩
 case round=>
  clear Ih;obtain⟨t,ht,rfl,hmu⟩:=hrel;by_cases htl:t<L.length
  ·have hti:(t:Int)<(L.length:Int):=by omega
   obtain⟨⟨x,u⟩,hx⟩:∃p,L[t]?=some p:=⟨_,cZ htl⟩;have hxm:=gG hx;obtain⟨g,c',hg,_⟩:=bV hl.out.row (by omega);cases hg;have hlr:oo bb (.slice (some ⟨g,0,none⟩) L.length c) L wr:=hl.out.at' λk hk=>hmu.out.2.fx.block k (hl.out.lt hk).2 (ho k hk);obtain⟨ax,cx,rfl,k0,k1,k2,k3,k4,k5,k6⟩:=vE hlr hx;have hxo:=hok _ hxm;have hxn:=hnx _ hxm;dsimp only at hxo hxn;have hsr:=hide (hq.out.KH hmu.out.1 hmu.out.2);have hgo:Hid (∀W',Below wr.heap.size wr W'->∃(t':Nat),t'<=L.length∧(.int .i64 ((t:Int)+1):Value)=.int .i64 t'∧Hid (MM y m W'∧MU y m y m W W')):=hide λW' hb=>⟨t+1,by omega,by simp,hide ⟨hmu.out.1.later hb,hmu.out.2.post hb⟩⟩;have TN:Hid (∀W1 W',Below wr.heap.size wr W1->MM y m W'->MU y m y m W1 W'->∃(t':Nat),t'<=L.length∧(.int .i64 ((t:Int)+1):Value)=.int .i64 t'∧Hid (MM y m W'∧MU y m y m W W')):=hide λW1 W' hb hm hu=>⟨t+1,by omega,by simp,hide ⟨hm,(hmu.out.2.post hb).trans hu⟩⟩;have hbX:Below wr.heap.size wr (wr.alloc (.cells #[.int .u32 x.dest,.int .u32 x.seq,.int .i64 x.hops,.int .u32 x.next,.bool x.valid,.int .u64 x.exp,.slice ax x.bH.length cx] 38)):=bq;have hX:=bS wr (.cells #[.int .u32 x.dest,.int .u32 x.seq,.int .i64 x.hops,.int .u32 x.next,.bool x.valid,.int .u64 x.exp,.slice ax x.bH.length cx] 38);clear hlr hl hmu hx hxm hok hnx ho;have hv0:Hid (∃b,x.valid=b):=⟨_,rfl⟩;obtain⟨vb,hvb⟩:=hv0.out;cases vb with
   |false=>
    have hgo':=hide (hgo.out _ hbX);rw[hvb]at hgo' k4;clear hX hbX hgo TN hsr hq hxn hxo hv0;go_wp2;go_roundw
    case rel=>exact hgo'.out
    case measure=>exact jM htl
   |true=>
    obtain⟨i1,hi1,hik,hdd⟩:=hxn.dst;obtain⟨j,hj,hjk,hnn,hor⟩:=hxn.nx hvb;have Km:=hide hor;obtain⟨nx,Tz⟩:∃nx,x.next=nx:=⟨_,rfl⟩;obtain⟨dd,TU⟩:∃dd,x.dest=dd:=⟨_,rfl⟩;rw[Tz]at k3 hX hbX hnn Km;rw[TU]at k0 hX hbX hdd Km;rw[hvb]at k4 hX hbX;have b0:0<=nx∧nx<=60:=by omega
    have b1:0<=dd∧dd<=60:=by omega
    have q1:nx / 10=(j:Int)+1:=by omega
    have q2:nx%10=0:=by omega
    have q3:dd / 10=(i1:Int)+1:=by omega
    obtain⟨b00,b01⟩:=b0;obtain⟨b10,b11⟩:=b1;have q4:((j:Int)==(k:Int))=false:=by simp;omega
    have q5:((i1:Int)==(k:Int))=false:=by simp;omega
    have q6:decide ((j:Int)<0)=false:=fA (by omega);have q7:decide (n<=j)=false:=fA (by omega);replace Tz:=hide Tz;replace TU:=hide TU;replace hvb:=hide hvb;clear hnn hdd hor hv0;obtain⟨rr,hrr⟩:∃rr,m.runs (j:Int)=rr:=⟨_,rfl⟩;have Zk:=hsr.out.later hbX;have Vp:=hide (FB Zk.mm (j:Int));rw[hrr]at Vp Km;go_upto_region 9 with fail;clear k0 k1 k2 k3 k4 k5 k6 q1 q2 q3 q4 q5 q6 q7;generalize World.alloc _ _=wX at hX hbX Zk Vp ⊢;obtain⟨X,hXe⟩:∃X,wr.heap.size=X:=⟨_,rfl⟩;rw[hXe]at hX ⊢;have aa7:=hide (hgo.out _ hbX);replace hXe:=hide hXe;clear hgo;have p0:=aH _ _ 0 _ _ _ hX;have p3:=aH _ _ 3 _ _ _ hX;simp only[List.getElem?_toArray,List.getElem?_cons_succ,List.getElem?_cons_zero]at p0 p3;by_cases hnd:nx=dd
    ·subst hnd;clear Km hbX Zk hX hxo hxn TN hrr;go_wp2_with(go_at_call 13;refine Vp.out.mono ?_;rintro e w7 ⟨rfl,hw7⟩;have hw8:=hw7.symm;subst hw8;clear hw7);go_roundw
     case rel=>exact aa7.out
     case measure=>exact jM htl
    ·have q8:(nx==dd)=false:=by simp[hnd]
     cases rr with
     |false=>
      clear Km hbX Zk hX hxo hxn TN hrr;go_wp2_with(go_at_call 13;refine Vp.out.mono ?_;rintro e w7 ⟨rfl,hw7⟩;have hw8:=hw7.symm;subst hw8;clear hw7);go_roundw
      case rel=>exact aa7.out
      case measure=>exact jM htl
     |true=>
      obtain⟨z,hz,adJ⟩:∃z,aJ (m.tab j) dd=some z∧QA z x=true:=by
       rcases Km.out with h|h|h
       ·exact absurd h hnd
       ·cases h
       ·exact h
      have hXn:¬oZ y m X:=λh=>by
       have h1:=hsr.out.mm.lt h;have h2:=hXe.out;omega
      have HT:=hide (QU Zk hj hz);have hXl:=aG hX;go_upto_region 11 with(go_at_call 13;refine Vp.out.mono ?_;rintro e w7 ⟨rfl,hw7⟩;have hw8:=hw7.symm;subst hw8;clear hw7);go_cut [13,14]from 73 to 81 (YP z y m wX)
      case first=>
       have hSX:SX X dd wX.drew:=p0;refine kz (SX X dd) [] (by kernel_rfl) hSX (λhHeld=> ?_);clear p0 p3;refine aN (i:=0) (v:=?hv0) rfl (by kernel_rfl) (λ_ _ _ h=>h) (Or.inl ⟨by rfl,?hy0⟩) hHeld ?hr0
       case hy0=>
        rintro w5 Qs;go_simp;try with_reducible rfl
       try go_frame
       refine aN (i:=1) (v:=?hv1) rfl (by kernel_rfl) (λ_ _ _ h=>h) (Or.inl ⟨by rfl,?hy1⟩) hHeld ?hr1
       case hy1=>
        rintro w5 Qs;go_simp;try with_reducible rfl
       try go_frame
       refine aN (i:=3) (v:=?hv3) rfl (by kernel_rfl) (λ_ _ _ h=>h) (Or.inl ⟨by rfl,?hy3⟩) hHeld ?hr3
       case hy3=>
        rintro w5 Qs;go_simp;try with_reducible rfl
       try go_frame
       refine aN (i:=4) (v:=?hv4) rfl (by kernel_rfl) (λ_ _ _ h=>h) (Or.inl ⟨by rfl,?hy4⟩) hHeld ?hr4
       case hy4=>
        rintro w5 Qs;go_simp;try with_reducible rfl
       try go_frame
       refine zw (i:=2) (j:=9) (by kernel_rfl) rfl rfl (λK hK=> ?_) (λK hK=> ?_)
       ·have hbd:Below wX.heap.size wX wX.drew:=(aV _ _).drew;go_simp;go_at_call 12;refine(HT.out _ (hbd)).mono ?_;rintro e w7 ⟨v,rfl,VG,hu7,HL⟩;have hu:=(MU.below (hbd)).trans hu7;have hS7:=Y9 hSX hu7 hXl hXn;have hX7:X<w7.heap.size:=by have:=hu.fx.size;omega
        go_simp;refine hK.out _ _ (λ_=>hS7) ?_;clear hK K;refine zw (i:=5) (j:=9) (by kernel_rfl) rfl rfl (λK2 hK2=> ?_) (λK2 hK2=> ?_)
        ·go_simp;go_at_call 14;refine(HL _ (aV _ _)).mono ?_;rintro e w8 ⟨ao,a,c,rfl,l7⟩;have O0:=VG.later l7;have hu8:=hu.post l7;have Az:SX X dd w8:=cell_later hS7 l7 hX7;have hX8:X<w8.heap.size:=by have:=l7.size;omega
         go_simp;refine hK2.out _ _ (λ_=>Az) ?_;clear hK2 K2;refine aN (i:=6) (v:=?acT) rfl (by kernel_rfl) (λ_ _ _ h=>h) (Or.inl ⟨by rfl,?Tf⟩) Az ?ac7
         case Tf=>
          rintro w5 Qs;go_simp;try with_reducible rfl
         try go_frame
         refine aN (i:=7) (v:=?acS) rfl (by kernel_rfl) (λ_ _ _ h=>h) (Or.inl ⟨by rfl,?Te⟩) Az ?ac5
         case Te=>
          rintro w5 Qs;go_simp;try with_reducible rfl
         try go_frame
         refine aN (i:=8) (v:=?acR) rfl (by kernel_rfl) (λ_ _ _ h=>h) (Or.inl ⟨by rfl,?Td⟩) Az ?ac2
         case Td=>
          rintro w5 Qs;go_simp;try with_reducible rfl
         try go_frame
         refine cK (i:=9) (by kernel_rfl) rfl (λK14 adZ=> ?_);have Zy:SX X dd (w8.alloc (.cells #[.int .u32 0,.int .u32 0,.int .i64 0,.int .u32 0,.bool false,.int .u64 0,.slice none 0 0] 38)):=cell_later Az (bq) hX8;go_simp;refine adZ.out _ _ (λ_=>Zy) ?_;clear adZ K14;refine cK (i:=10) (by kernel_rfl) rfl (λK15 adY=> ?_);go_simp;refine adY.out _ _ (λ_=>by first|exact Zy|exact cell_later Az (bq) hX8) ?_;clear adY K15;refine cK (i:=11) (by kernel_rfl) rfl (λK16 adX=> ?_);go_simp;refine adX.out _ _ (λ_=>cell_later Az (bq) hX8) ?_;clear adX K16;refine jZ (by kernel_rfl) ?_ _;go_wp2_with fail;go_meet;exact QI O0 hu8
        ·have hbz:Below w7.heap.size w7 (w7.alloc (.cells #[.int .u32 0,.int .u32 0,.int .i64 0,.int .u32 0,.bool false,.int .u64 0,.slice none 0 0] 38)):=bq;have hSz:SX X dd (w7.alloc (.cells #[.int .u32 0,.int .u32 0,.int .i64 0,.int .u32 0,.bool false,.int .u64 0,.slice none 0 0] 38)):=cell_later hS7 hbz hX7;have hYz:=dS.new bW (.slice none 0 0) w7;go_simp;refine hK2.out _ _ (λ_=>hSz) ?_;clear hK2 K2;refine cK (i:=5) (by kernel_rfl) rfl (λK17 adW=> ?_);go_simp;go_at_call 14;refine(HL _ (hbz)).mono ?_;rintro e w8 ⟨ao,a,c,rfl,l7⟩;have O0:=(VG.later hbz).later l7;have hu8:=(hu.post hbz).post l7;have hXz:X<(w7.alloc (.cells #[.int .u32 0,.int .u32 0,.int .i64 0,.int .u32 0,.bool false,.int .u64 0,.slice none 0 0] 38)).heap.size:=by have:=hbz.size;omega
         have Az:SX X dd w8:=cell_later hSz l7 hXz;have hX8:X<w8.heap.size:=by have:=l7.size;omega
         have abp:wX.heap.size<=w7.heap.size:=hu.fx.size;have hYn:¬oZ y m w7.heap.size:=λh=>by have:=VG.lt h;omega
         have yN:dS w7.heap.size bW (.slice none 0 0) w8:=hYz.later l7;have afv:=yN.lt;go_simp;refine adW.out _ _ (λ_=>Az) ?_;clear adW K17;refine aN (i:=6) (v:=?aeQ) rfl (by kernel_rfl) (λ_ _ _ h=>h) (Or.inl ⟨by rfl,?aaI⟩) Az ?ae3
         case aaI=>
          rintro w5 Qs;go_simp;try with_reducible rfl
         try go_frame
         refine aN (i:=7) (v:=?aeP) rfl (by kernel_rfl) (λ_ _ _ h=>h) (Or.inl ⟨by rfl,?aaH⟩) Az ?ae2
         case aaH=>
          rintro w5 Qs;go_simp;try with_reducible rfl
         try go_frame
         refine aN (i:=8) (v:=?aeO) rfl (by kernel_rfl) (λ_ _ _ h=>h) (Or.inl ⟨by rfl,?aaG⟩) Az ?ae1
         case aaG=>
          rintro w5 Qs;go_simp;try with_reducible rfl
         try go_frame
         obtain⟨d0,d1,d2,d3,d4,d5,d6⟩:=yN.cell;have q0:=yN.free 0;have q1:=yN.free 1;have q2:=yN.free 2;have q3:=yN.free 3;have q4:=yN.free 4;have q5:=yN.free 5;have q6:=yN.free 6;replace yN:=hide yN;refine cK (i:=10) (by kernel_rfl) rfl (λK21 adV=> ?_);go_simp;clear d0 d1 d2 d3 d4 d5 d6 q0 q1 q2 q3 q4 q5 q6;have Zy:=λv0 v1 v2 v3 v4 v5 v6=>LA (D:=w7.heap.size) Az (by omega) v0 v1 v2 v3 v4 v5 v6;refine adV.out _ _ (λ_=>Zy _ _ _ _ _ _ _) ?_;clear adV K21;refine cK (i:=11) (by kernel_rfl) rfl (λK22 adU=> ?_);go_simp;refine adU.out _ _ (λ_=>Zy _ _ _ _ _ _ _) ?_;clear adU K22;refine jZ (by kernel_rfl) ?_ _;go_wp2_with fail;go_meet;exact QH O0 hu8 abp hYn yN.out
       ·have hbd:Below wX.heap.size wX (wX.drew.alloc (.cells #[.int .u32 0,.int .u32 0,.int .i64 0,.int .u32 0,.bool false,.int .u64 0,.slice none 0 0] 38)):=((aV _ _).drew).alloc (by simp) _;have hSz:SX X dd (wX.drew.alloc (.cells #[.int .u32 0,.int .u32 0,.int .i64 0,.int .u32 0,.bool false,.int .u64 0,.slice none 0 0] 38)):=cell_later (W:=wX) hSX hbd hXl;have hYz:=dS.new bW (.slice none 0 0) wX.drew;have hXz:X<(wX.drew.alloc (.cells #[.int .u32 0,.int .u32 0,.int .i64 0,.int .u32 0,.bool false,.int .u64 0,.slice none 0 0] 38)).heap.size:=by have:=hbd.size;omega
        have adL:¬oZ y m wX.heap.size:=λh=>by have:=Zk.mm.lt h;omega
        go_simp;refine hK.out _ _ (λ_=>hSz) ?_;clear hK K;refine cK (i:=2) (by kernel_rfl) rfl (λK23 adT=> ?_);go_simp;go_at_call 12;refine(HT.out _ (hbd)).mono ?_;rintro e w7 ⟨v,rfl,VG,hu7,HL⟩;have hu:=(MU.below (hbd)).trans hu7;have hS7:=Y9 hSz hu7 hXz hXn;have hX7:X<w7.heap.size:=by have:=hu.fx.size;omega
        have hY7:dS wX.heap.size bW (.slice none 0 0) w7:=hYz.block (hu7.fx.block _ hYz.lt adL);go_simp;refine adT.out _ _ (λ_=>hS7) ?_;clear adT K23;refine cK (i:=5) (by kernel_rfl) rfl (λK24 adS=> ?_);go_simp;go_at_call 14;refine(HL _ (aV _ _)).mono ?_;rintro e w8 ⟨ao,a,c,rfl,l7⟩;have O0:=VG.later l7;have hu8:=hu.post l7;have Az:SX X dd w8:=cell_later hS7 l7 hX7;have hX8:X<w8.heap.size:=by have:=l7.size;omega
        have abp:wX.heap.size<=wX.heap.size:=aD _;have hYn:=adL;have yN:dS wX.heap.size bW (.slice none 0 0) w8:=hY7.later l7;have afv:=yN.lt;go_simp;refine adS.out _ _ (λ_=>Az) ?_;clear adS K24;refine aN (i:=6) (v:=?hv25) rfl (by kernel_rfl) (λ_ _ _ h=>h) (Or.inl ⟨by rfl,?hy25⟩) Az ?agr
        case hy25=>
         rintro w5 Qs;go_simp;try with_reducible rfl
        try go_frame
        refine aN (i:=7) (v:=?agf) rfl (by kernel_rfl) (λ_ _ _ h=>h) (Or.inl ⟨by rfl,?aeI⟩) Az ?agq
        case aeI=>
         rintro w5 Qs;go_simp;try with_reducible rfl
        try go_frame
        refine aN (i:=8) (v:=?hv27) rfl (by kernel_rfl) (λ_ _ _ h=>h) (Or.inl ⟨by rfl,?hy27⟩) Az ?agp
        case hy27=>
         rintro w5 Qs;go_simp;try with_reducible rfl
        try go_frame
        obtain⟨d0,d1,d2,d3,d4,d5,d6⟩:=yN.cell;have q0:=yN.free 0;have q1:=yN.free 1;have q2:=yN.free 2;have q3:=yN.free 3;have q4:=yN.free 4;have q5:=yN.free 5;have q6:=yN.free 6;replace yN:=hide yN;refine cK (i:=10) (by kernel_rfl) rfl (λK28 adR=> ?_);go_simp;clear d0 d1 d2 d3 d4 d5 d6 q0 q1 q2 q3 q4 q5 q6;have Zy:=λv0 v1 v2 v3 v4 v5 v6=>LA (D:=wX.heap.size) Az (by omega) v0 v1 v2 v3 v4 v5 v6;refine adR.out _ _ (λ_=>Zy _ _ _ _ _ _ _) ?_;clear adR K28;refine cK (i:=11) (by kernel_rfl) rfl (λK29 adQ=> ?_);go_simp;refine adQ.out _ _ (λ_=>Zy _ _ _ _ _ _ _) ?_;clear adQ K29;refine jZ (by kernel_rfl) ?_ _;go_wp2_with fail;go_meet;exact QH O0 hu8 abp hYn yN.out
      case rest=>
       obtain⟨Y,ay,ny,cy,rfl,rfl,hY,hmY,huY⟩:=hcut;have Zw:=(huY.fx.block X hXl hXn).trans hX;have hzo:=Zk.Y8 hj z (bR hz).1;have HA:=λW'=>Aj z x ay ax ny cy x.bH.length cx hzo hxo W';rw[TU.out,Tz.out,hvb.out,adJ]at HA;replace HA:=hide HA;have hfin:=hide λw9 (lT:Below wc.heap.size wc w9)=>TN.out wX w9 hbX (hmY.later lT) (huY.post lT);clear p0 p3;have p0:=aH _ _ 0 _ _ _ Zw;have p1:=aH _ _ 1 _ _ _ Zw;have p2:=aH _ _ 2 _ _ _ Zw;have p3:=aH _ _ 3 _ _ _ Zw;have p4:=aH _ _ 4 _ _ _ Zw;have p5:=aH _ _ 5 _ _ _ Zw;have p6:=aH _ _ 6 _ _ _ Zw;simp only[List.getElem?_toArray,List.getElem?_cons_succ,List.getElem?_cons_zero]at p0 p1 p2 p3 p4 p5 p6;obtain⟨y0,y1,y2,y3,y4,y5,y6⟩:=hY.cell;clear Zw hY hmY huY hX hzo hxo hxn adJ hz HT Vp Km hbX Zk TN hsr hrr Tz TU hvb hXe hXn hXl aa7 hq;go_wp2_with(go_at_call 15;refine(HA.out _).mono ?_;rintro e w9 ⟨rfl,lT⟩;have hf9:=hide (hfin.out _ lT);clear lT);go_roundw
       case rel=>exact hf9.out
       case measure=>exact jM htl
  ·obtain rfl:t=L.length:=by omega
   clear hl hq;go_wp2;go_ret;exact⟨rfl,hmu.out⟩
variable{m:aS}{B G k n:Nat}{W w:World}
theorem CM.few{G:Int}(h:CM G m):∀(i:Nat) s,m.S[i]?=some s->s.nd=none->Y3 (jl s.bn):=λ_ _ hs _=>abX h hs
def CS(w:World)(n G B k:Nat)(W:World):Prop:=∃(c:Nat) (y:MG) (m:aS) (Ls:List (Value×List (Rt×Value))),c<=k∧y.G=G∧SQ w n c y m W∧CB n c m (Ls.map λx=>x.2.map (·.1))∧BM w.heap.size B Ls y m W∧∀x∈Ls,x.2.length<=8∧∀p∈x.2,p.1.Ok
theorem CS.mono{k':Nat}(h:CS w n G B k W)(hk:k<=k'):CS w n G B k' W:=by
 obtain⟨c,y,m,Ls,h1,h2⟩:=h;exact⟨c,y,m,Ls,dH h1 hk,h2⟩
theorem CS.below(h:CS w n G B k W):Below w.heap.size w W:=by
 obtain⟨c,y,m,Ls,h1,h2,h3,_⟩:=h;exact h3.bl
theorem ab0{i:Nat}{y:MG}(h:SQ w n i y m W):BM w.heap.size W.heap.size (List.replicate n (.slice none 0 0,[])) y m (W.alloc (.cells (List.replicate n (Value.slice none 0 0)).toArray 31)):=by
 refine⟨h.bl.size,?_,λx hx=> ?_,λx hx k hk=> ?_⟩
 ·rw[List.map_replicate];exact bS _ _
 ·obtain⟨_,rfl⟩:=List.mem_replicate.1 hx;exact⟨⟨rfl,.inl ⟨rfl,rfl⟩⟩,λp hp=>by cases hp⟩
 ·obtain⟨_,rfl⟩:=List.mem_replicate.1 hx;rcases hk with hk|⟨p,hp,_⟩
  ·cases hk
  ·cases hp
theorem abS(hn:n<=6){y:MG}{W:World}(h:SQ w n 0 y (aS.new (kY n)) W):CS w n y.G W.heap.size 0 (W.alloc (.cells (List.replicate n (Value.slice none 0 0)).toArray 31)):=by
 refine⟨0,y,_,List.replicate n (.slice none 0 0,[]),aD _,rfl,h.later (bq),?_,ab0 h,λx hx=> ?_⟩
 ·rw[List.map_replicate];exact CB.new hn
 ·obtain⟨_,rfl⟩:=List.mem_replicate.1 hx;exact⟨dh _,λp hp=>by cases hp⟩
theorem Tc:(Tryz.prog.info? 31).map (λi=>(i.zero,i.size,i.bytes))=some (some (.slice none 0 0),1,24):=by kernel_rfl
theorem OQ(n:Nat)(hn:n<=6)(W:World):(Instr.makeSlice 26 (.int .i64 (n:Int)) (.int .i64 (n:Int))).run Tryz.prog W=.ok (.slice (some ⟨W.heap.size,0,none⟩) n n) (W.alloc (.cells (List.replicate n (Value.slice none 0 0)).toArray 31)):=by
 obtain⟨i0,hi,hz0,hz1,hz2⟩:=info_parts Tc;have h:=run_make (P:=Tryz.prog) W 26 31 i0 (.slice none 0 0) Tryz.underlying26 hi hz0 .i64 .i64 (n:Int) (n:Int) (by omega) (by omega) (by rw[hz2];omega) (by omega);have e:madeCells (Value.slice none 0 0).cells ((n:Int).toNat * i0.size)=(List.replicate n (Value.slice none 0 0)).toArray:=by
  rw[hz1,iU,Nat.mul_one];have h1:=toList_madeCells_one (Value.slice none 0 0) n;rw[<-h1];rfl
 rw[e]at h;simpa using h
variable{m:aS}{j:Nat}
theorem N8(h:m.runs j=true)(hj:j<m.S.length):∃s z,m.S[j]?=some s∧s.nd=some z∧m.tab j=z.A:=by
 have hs:=cZ hj;rw[LP hs]at h;obtain⟨z,hz⟩:=Option.isSome_iff_exists.1 h;exact⟨_,z,hs,hz,by unfold aS.tab;rw[eX hs,hz]⟩
def BLn(B j:Nat)(vr:Value)(Lb:List (Rt×Value))(ab:Option Addr)(cb:Nat)(W0:World):Prop:=∀wr,Below W0.heap.size W0 wr->∀t,t<Lb.length->∃(g:Nat) (x z:Rt) (ax:Option Addr) (nx cx:Nat),ab=some ⟨g,0,none⟩∧g<wr.heap.size∧B<wr.heap.size∧x.Ok∧z.Ok∧QA x z=false∧wr.cell? ⟨B,j,none⟩=some (.slice ab Lb.length cb)∧wr.cell? ⟨g,t * 7,none⟩=some (.int .u32 x.dest)∧wr.cell? ⟨g,t * 7+1,none⟩=some (.int .u32 x.seq)∧wr.cell? ⟨g,t * 7+2,none⟩=some (.int .i64 x.hops)∧wr.cell? ⟨g,t * 7+3,none⟩=some (.int .u32 x.next)∧wr.cell? ⟨g,t * 7+4,none⟩=some (.bool x.valid)∧wr.cell? ⟨g,t * 7+5,none⟩=some (.int .u64 x.exp)∧wr.cell? ⟨g,t * 7+6,none⟩=some (.slice ax nx cx)∧
 ∀w1,Below wr.heap.size wr w1->Calls Tryz.prog 14 #[vr,.int .u32 x.dest] w1 λe w'=>∃(ao:Option Addr) (a c:Nat),e=.returned (.tuple #[.agg #[.int .u32 z.dest,.int .u32 z.seq,.int .i64 z.hops,.int .u32 z.next,.bool z.valid,.int .u64 z.exp,.slice ao a c],.bool true])∧Below w1.heap.size w1 w'
theorem bln{w W:World}{B bl:Nat}{y:MG}{Ls:List (Value×List (Rt×Value))}{vr:Value}{Lr Lb:List (Rt×Value)}{ab:Option Addr}{cb:Nat}(M5:BM w.heap.size B Ls y m W)(hj:Ls[j]?=some (.slice ab Lb.length cb,Lb))(hle:Lb.length<=8)(TY:∀p∈Lb,p.1.Ok)(hls:oo bl vr Lr W)(ha:Asc (Lr.map (·.1)))(h8:Lr.length<=8)(hro:∀p∈Lr,p.1.Ok)(hkey:∀p∈Lb,∃x,aJ (Lr.map (·.1)) p.1.dest=some x∧QA p.1 x=false):BLn B j vr Lb ab cb W:=by
 intro wr hb t ht;have hbr:=M5.later hb;have hlr:=hls.later hb;have hm:=gG hj;have hrow:oo w.heap.size (.slice ab Lb.length cb) Lb wr:=hbr.rows _ hm;obtain⟨⟨x,u⟩,hx⟩:∃p,Lb[t]?=some p:=⟨_,cZ ht⟩;have hxm:=gG hx;obtain⟨g,c',hg,_⟩:=bV hrow.row (by omega);cases hg;obtain⟨ax,cx,hu,k0,k1,k2,k3,k4,k5,k6⟩:=vE hrow hx;subst hu;obtain⟨z,hz,hab⟩:=hkey _ hxm;have hcell:=aH wr B j _ _ _ hbr.blk;rw[List.getElem?_toArray,kr,hj]at hcell;have hzo:z.Ok:=by
  obtain⟨hz1,_⟩:=bR hz;obtain⟨p,hp,rfl⟩:=di.1 hz1;exact hro p hp
 exact⟨g,x,z,ax,_,cx,rfl,(hrow.row.lt g rfl).2,aG hbr.blk,TY _ hxm,hzo,hab,hcell,k0,k1,k2,k3,k4,k5,k6,λw1 h1=>Da (hlr.later h1) ha x.dest hz (by omega)⟩
@[reducible] def SLn(B j g t X nb cb : Nat)(x z : Rt)(u v : Value)(W : World): Prop := W.cell? ⟨B, j, none⟩ = some (.slice (some ⟨g, 0, none⟩) nb cb) ∧ W.cell? ⟨g, t * 7, none⟩ = some (.int .u32 x.dest) ∧ W.cell? ⟨g, t * 7 + 1, none⟩ = some (.int .u32 x.seq) ∧ W.cell? ⟨g, t * 7 + 2, none⟩ = some (.int .i64 x.hops) ∧ W.cell? ⟨g, t * 7 + 3, none⟩ = some (.int .u32 x.next) ∧ W.cell? ⟨g, t * 7 + 4, none⟩ = some (.bool x.valid) ∧ W.cell? ⟨g, t * 7 + 5, none⟩ = some (.int .u64 x.exp) ∧ W.cell? ⟨g, t * 7 + 6, none⟩ = some u ∧
 W.cell? ⟨X,0,none⟩=some (.int .u32 z.dest)∧W.cell? ⟨X,1,none⟩=some (.int .u32 z.seq)∧W.cell? ⟨X,2,none⟩=some (.int .i64 z.hops)∧W.cell? ⟨X,3,none⟩=some (.int .u32 z.next)∧W.cell? ⟨X,4,none⟩=some (.bool z.valid)∧W.cell? ⟨X,5,none⟩=some (.int .u64 z.exp)∧W.cell? ⟨X,6,none⟩=some v
theorem Jd(nodes:Int)(hn0:-9223372036854775808<=nodes∧nodes<=9223372036854775807)(ao:Option Addr)(N c:Nat)(L:List Op)(hN:L.length=N)(w:World)(hL:gM w ao (OpC L)):
  Calls Tryz.prog 3 #[.int .i64 nodes,.slice ao N c] w λe w'=>e=.returned (.bool true)∧Below w.heap.size w w':=by
 obtain⟨n,hn2,VF,hpk,hpw⟩:=acK (c:=nodes);have HP:=hide (Ry nodes 5 hn0.1 hn0.2 (by decide) (by decide) w);have HR:=hide (WT n ⟨by omega,VF⟩ w);go_enter Tryz.func3,Tryz.ntmps3;go_upto_region 2 with(go_at_call 9;refine HP.out.mono ?_;rintro e w2 ⟨rfl,hw2⟩;have hw3:=hw2.symm;subst hw3;clear hw2);clear HP hpk hpw;go_upto_region 3 with(go_at_call 10;refine HR.out.mono ?_;rintro e w3 ⟨y,rfl,hq⟩);replace hq:=hide hq;have hb3:=hq.out.bl;clear HR;by_cases h4:4096<N
 ·have e1:decide (4096<(N:Int))=true:=gm (by omega);clear hq hL;go_wp2;go_ret;exact⟨rfl,hb3⟩
 have e1:decide (4096<(N:Int))=false:=fA (by omega);have hmk:=λW=>OQ n VF W;obtain⟨G,hG⟩:∃G,y.G=G:=⟨_,rfl⟩;have Ih:=hide (abS VF hq.out);rw[hG]at Ih ⊢;simp only[List.toArray_replicate]at Ih hmk;clear hq hb3 hG;go_wp2_with fail;clear hmk;generalize World.alloc _ _=W4 at Ih ⊢;generalize w3.heap.size=B at Ih ⊢;go_loopw [8] (λi wr=>∃(k:Nat),k<=N∧i=.int .i64 k∧Hid (CS w n G B k wr)) (λi _=>N - (intOf i).toNat)
 case atStart=>exact⟨0,dh _,rfl,Ih⟩
 case round=>
  clear Ih;obtain⟨k,hk,rfl,hq⟩:=hrel;by_cases hlt:k<N
  ·have hki:(k:Int)<(N:Int):=by omega
   obtain⟨o,ho⟩:∃o,L[k]?=some o:=⟨_,cZ (by omega)⟩;obtain⟨g,f,hao,hgl,d0,d1,d2,d3,d4,d5⟩:=ab4 (hL.below hq.out.below) ho;subst hao;have hwk:=hide (QM (h:=k) (by omega));obtain⟨c1,y1,m,Ls,hck,hG,hs,hcb,M5,hle⟩:=hq.out;by_cases h8:o.dX=8
   ·have hgo:Hid (∃(k':Nat),k'<=N∧(.int .i64 ((k:Int)+1):Value)=.int .i64 k'∧Hid (CS w n G B k' wr)):=hide ⟨k+1,by omega,by simp,hide (hq.out.mono (Nat.le_succ k))⟩;have e2:(o.dX==8)=true:=by simp[h8]
    clear hs hcb M5 hle hq d1 d2 d3 d4 d5 hck hG h8;go_wp2;go_roundw
    case rel=>exact hgo.out
    case measure=>exact jM hlt
   ·have e2:(o.dX==8)=false:=by simp[h8]
    obtain⟨G1,g0,g1,hcm⟩:=id hcb.cm;have HD:=hide (af3 hs (by omega) o (λh=>absurd h h8) hcm.few);have hnext:Hid (∀y' w4,y'.G=y1.G->MU y1 m y' (m.step o).1 wr w4->SQ w n (c1+1) y' (m.step o).1 w4->CS w n G B (k+1) w4):=hide λy' w4 e1 u s=>⟨c1+1,y',_,Ls,by omega,e1.trans hG,s,hcb.step (by omega) (λf hf=>(hs.fk.1 f hf).2.1) o u.n h8,M5.turn hs.mm u,hle⟩;rw[hG]at HD;have hG1:=hide hG;obtain⟨dX,a,b,num,on,txt⟩:=o;unfold Vz at HD;dsimp only at d0 d1 d2 d3 d4 d5 e2 HD;clear hs hcb M5 hle hq hG hcm h8;go_upto_region 13 with(go_at_call 11;refine HD.out.mono ?_;rintro e w4 ⟨v,Lv,y',rfl,hLv,hev,hG',hmu,hs⟩);have hcs:=hide (hnext.out y' w4 (hG'.trans hG1.out.symm) hmu hs);clear hs hev hLv hmu HD hnext d0 d1 d2 d3 d4 d5 e2 hgl hL hG' hG1 ho;go_wp2_with fail;go_loopw [9] (λi wr=>∃(j:Nat),j<=n∧i=.int .i64 j∧Hid (CS w n G B (k+1) wr)) (λi _=>n - (intOf i).toNat)
    case atStart=>exact⟨0,dh _,rfl,hcs⟩
    case round=>
     clear hcs;obtain⟨j,hj,rfl,hq⟩:=hrel;by_cases hjn:j<n
     ·have afj:(j:Int)<(n:Int):=by omega
      obtain⟨c2,y2,m2,Ls,hc2,hG2,hs,hcb,M5,hle⟩:=hq.out;obtain⟨t1,t2,t3,t4,t5,t6⟩:=hs.tab hjn;have HT:=hide (Dz hs.mm j (by rw[hs.len];exact hjn) t4);have Vp:=hide λW (h:MM y2 m2 W)=>FB h (j:Int);rw[hG2]at HT Vp;have hwj:=hide (QM (h:=j) (by omega));have Tw:=hide (And.intro hs (And.intro hcb (And.intro M5 hle)));replace t2:=hide t2;replace t3:=hide t3;have hGh:=hide hG2;clear hs hcb M5 hle t1 t4 t5 t6 hG2 hq;go_upto_region 17 with(go_at_call 12;refine HT.out.mono ?_;rintro e w6 ⟨vr,Lr,rfl,Kl,hls,ED,hu6⟩);obtain⟨hs,hcb,M5,hle⟩:=Tw.out;have hs6:=hs.KH ED hu6;have hb6:=M5.turn hs.mm hu6;have hout:∀q,I8 vr Lr q->¬oZ y2 m2 q:=λq hq' hin=>by
       have h1:=(hls.lt hq').1;have h2:=hs.mm.lt hin;omega
      have hl0:=hls.lower hs.bl.size;obtain⟨ar,cr,hvr,_⟩:=ak hls.row;subst hvr;have acu:=hide (Vp.out w6 ED);obtain⟨rr,hrr⟩:∃rr,m2.runs (j:Int)=rr:=⟨_,rfl⟩;rw[hrr]at acu;cases rr with
      |false=>
       have hgo:Hid (∃(j':Nat),j'<=n∧(.int .i64 ((j:Int)+1):Value)=.int .i64 j'∧Hid (CS w n G B (k+1) w6)):=hide ⟨j+1,by omega,by simp,hide ⟨c2,y2,m2,Ls,hc2,hGh.out,hs6,hcb,hb6,hle⟩⟩;clear hs hcb M5 hle hs6 hb6 hout hl0 hls ED hu6 Tw HT Vp hrr Kl t2 t3;clear hn0 hN hn2 VF h4 e1 hk hki hck hj afj hc2;go_wp2_with(go_at_call 13;refine acu.out.mono ?_;rintro e w7 ⟨rfl,hw7⟩;have hw8:=hw7.symm;subst hw8;clear hw7);go_roundw
       case rel=>rw[hwj.out];exact hgo.out
       case measure=>rw[hwj.out];exact jM hjn
      |true=>
       obtain⟨s,z,hsj,hz,htab⟩:=N8 hrr (by rw[hs.len];exact hjn);rw[htab]at Kl;have hjl:j<Ls.length:=by
        have:=hcb.len;rw[iK]at this;omega
       obtain⟨⟨vb,Lb⟩,hLb⟩:∃p,Ls[j]?=some p:=⟨_,cZ hjl⟩;have hLm:=gG hLb;obtain⟨ab,cb,hvb,_⟩:=ak (hb6.rows _ hLm).row;dsimp only at hvb;subst hvb;have adD:=hcb.bst j s (Lb.map (·.1)) hsj (by rw[kr,hLb];rfl);have hkey:∀p∈Lb,∃x,aJ (Lr.map (·.1)) p.1.dest=some x∧QA p.1 x=false:=λp hp=>by
        rw[Kl];exact adD.line hz (di.2 ⟨p,hp,rfl⟩)
       obtain⟨G1,_,_,hcm⟩:=id hcb.cm;have hro:∀p∈Lr,p.1.Ok:=λp hp=>hs.Y8 hjn _ (by rw[htab,<-Kl];exact di.2 ⟨p,hp,rfl⟩);have hnx:∀p∈Lr,NxF m2 n j p.1:=λp hp=>Xk hcm hs.Jp hsj hz (by rw[<-Kl];exact di.2 ⟨p,hp,rfl⟩);have h8r:Lr.length<=8:=by
        have:=t3.out;rw[htab,<-Kl,iK]at this;exact this
       have hasc:Asc (Lr.map (·.1)):=by rw[Kl,<-htab];exact t2.out
       have hbl:=hide (bln hb6 hLb (hle _ hLm).1 (hle _ hLm).2 hls hasc h8r hro hkey);have aa1:=hide (hle _ hLm).1;dsimp only at aa1;have T9:Hid (∀W,Below w6.heap.size w6 W->W.cell? ⟨B,j,none⟩=some (.slice ab Lb.length cb)∧W.frozen? ⟨B,j,none⟩=false∧B<W.heap.size):=hide λW hb=>by
        have hbr:=hb6.later hb;have hcell:=aH W B j _ _ _ hbr.blk;rw[List.getElem?_toArray,kr,hLb]at hcell;exact⟨hcell,mM W B j _ _ hbr.blk,aG hbr.blk⟩
       have hfin:Hid (∀W,Below w6.heap.size w6 W->Calls Tryz.prog 16 #[.pointer (some ⟨G,0,none⟩),.int .i64 n,.int .i64 j,.slice ar Lr.length cr] (W.setCell ⟨B,j,none⟩ (.slice ar Lr.length cr)) λe w'=>e=.returned (.bool true)∧CS w n G B (k+1) w'):=hide λW hb=>by
        have hs7:=(hs6.later hb).cell hb6.low (hb6.not ED) j (.slice ar Lr.length cr);have Ig:=(hb6.later hb).set j (hl0.later hb) hout;have hl7:=Ig.rows _ (gG (List.getElem?_set_self hjl));have hk7:=OV hs7 hjn VF hl7 hout h8r hro hnx;rw[hGh.out]at hk7;refine hk7.mono ?_;rintro e w' ⟨rfl,hm,hu⟩;refine⟨rfl,c2,y2,m2,Ls.set j (.slice ar Lr.length cr,Lr),hc2,hGh.out,hs7.KH hm hu,?_,Ig.turn hs7.mm hu,λx hx=> ?_⟩
        ·have:=hcb.put hsj hz;rw[List.map_set];dsimp only;rw[Kl];exact this
        ·rcases List.mem_or_eq_of_mem_set hx with hx|rfl
         ·exact hle x hx
         ·exact⟨h8r,hro⟩
       clear hs hcb M5 hle hs6 hb6 hout hl0 hls ED hu6 Tw HT Vp hrr Kl t2 t3 hsj hz htab hjl hLb hLm adD hkey hcm hro hnx hasc;clear hn0 hN hn2 VF h4 e1 hk hki hck hj hc2;obtain⟨nb,hnb⟩:∃nb,Lb.length=nb:=⟨_,rfl⟩;rw[hnb]at aa1;go_wp2_with(go_at_call 13;refine acu.out.mono ?_;rintro e w7 ⟨rfl,hw7⟩;have hw8:=hw7.symm;subst hw8;clear hw7);go_loopw [12] (λi wr=>∃(t:Nat),t<=nb∧i=.int .i64 t∧Hid (Below w6.heap.size w6 wr)) (λi _=>nb - (intOf i).toNat)
       case atStart=>exact⟨0,dh _,rfl,hide (aV _ _)⟩
       case round=>
        obtain⟨t,ht,rfl,hb⟩:=hrel;obtain⟨kb,kf,hBl⟩:=T9.out wr hb.out;rw[hnb]at kb;by_cases htl:t<nb
        ·have hti:(t:Int)<(nb:Int):=by omega
         obtain⟨g',x,z',ax,nx,cx,hab,Kb,_,hx,hz',adK,_,k0,k1,k2,k3,k4,k5,k6,HLn⟩:=hbl.out wr hb.out t (by omega);subst hab;have HL:=hide (HLn wr (aV _ _));have hwt:=hide (QM (h:=t) (by have:=aa1.out;omega));have hgo:Hid (∀W',Below wr.heap.size wr W'->∃(t':Nat),t'<=nb∧(.int .i64 ((t:Int)+1):Value)=.int .i64 t'∧Hid (Below w6.heap.size w6 W')):=hide λW' hb'=>⟨t+1,by omega,by simp,hide (hb.out.trans (hb'.mono hb.out.size))⟩;clear HLn hfin T9 hbl hnb;go_upto_region 23 with(go_at_call 14;refine HL.out.mono ?_;rintro e w9 ⟨az,nz,cz,rfl,lT⟩);have hbX:Below wr.heap.size wr (w9.alloc (.cells #[.int .u32 z'.dest,.int .u32 z'.seq,.int .i64 z'.hops,.int .u32 z'.next,.bool z'.valid,.int .u64 z'.exp,.slice az nz cz] 38)):=lT.alloc lT.size _;have hX:=bS w9 (.cells #[.int .u32 z'.dest,.int .u32 z'.seq,.int .i64 z'.hops,.int .u32 z'.next,.bool z'.valid,.int .u64 z'.exp,.slice az nz cz] 38);generalize World.alloc _ _=wX at hbX hX ⊢;generalize w9.heap.size=X at hX ⊢;have hgX:=hide (hgo.out wX hbX);have HA:=hide λW'=>Aj x z' ax az nx cx nz cz hx hz' W';rw[adK]at HA;have hl:dS X z' (.slice az nz cz) wX:=hX;obtain⟨p0,p1,p2,p3,p4,p5,p6⟩:=hl.cell;have hS:SLn B j g' t X nb cb x z' (.slice ax nx cx) (.slice az nz cz) wX:=⟨cell_later kb hbX hBl,cell_later k0 hbX Kb,cell_later k1 hbX Kb,cell_later k2 hbX Kb,cell_later k3 hbX Kb,cell_later k4 hbX Kb,cell_later k5 hbX Kb,cell_later k6 hbX Kb,p0,p1,p2,p3,p4,p5,p6⟩;have hgA:Hid (∀w9,Below wX.heap.size wX w9->∃(t':Nat),t'<=nb∧(.int .i64 ((t:Int)+1):Value)=.int .i64 t'∧Hid (Below w6.heap.size w6 w9)):=hide λw9 h9=>hgo.out w9 (hbX.trans (h9.mono hbX.size));clear kb kf k0 k1 k2 k3 k4 k5 k6 p0 p1 p2 p3 p4 p5 p6 hl hX hgo hgX HL lT hb adK hbX hx hz';refine kz (SLn B j g' t X nb cb x z' (.slice ax nx cx) (.slice az nz cz)) [8,9] (by kernel_rfl) (show SLn B j g' t X nb cb x z' (.slice ax nx cx) (.slice az nz cz) wX.drew from hS) (λhHeld=> ?_);refine aN (i:=0) (v:=?hv0) rfl (by kernel_rfl) (λ_ _ _ h=>h) (Or.inl ⟨by rfl,?hy0⟩) hHeld ?hr0
         case hy0=>
          rintro w5 ⟨kb,k0,k1,k2,k3,k4,k5,k6,p0,p1,p2,p3,p4,p5,p6⟩;go_simp;try with_reducible rfl
         try go_frame
         refine aN (i:=1) (v:=?hv1) rfl (by kernel_rfl) (λ_ _ _ h=>h) (Or.inl ⟨by rfl,?hy1⟩) hHeld ?hr1
         case hy1=>
          rintro w5 ⟨kb,k0,k1,k2,k3,k4,k5,k6,p0,p1,p2,p3,p4,p5,p6⟩;go_simp;try with_reducible rfl
         try go_frame
         refine aN (i:=2) (v:=?hv2) rfl (by kernel_rfl) (λ_ _ _ h=>h) (Or.inl ⟨by rfl,?hy2⟩) hHeld ?hr2
         case hy2=>
          rintro w5 ⟨kb,k0,k1,k2,k3,k4,k5,k6,p0,p1,p2,p3,p4,p5,p6⟩;go_simp;try with_reducible rfl
         try go_frame
         refine aN (i:=3) (v:=?hv3) rfl (by kernel_rfl) (λ_ _ _ h=>h) (Or.inl ⟨by rfl,?hy3⟩) hHeld ?hr3
         case hy3=>
          rintro w5 ⟨kb,k0,k1,k2,k3,k4,k5,k6,p0,p1,p2,p3,p4,p5,p6⟩;go_simp;try with_reducible rfl
         try go_frame
         refine aN (i:=4) (v:=?hv4) rfl (by kernel_rfl) (λ_ _ _ h=>h) (Or.inl ⟨by rfl,?hy4⟩) hHeld ?hr4
         case hy4=>
          rintro w5 ⟨kb,k0,k1,k2,k3,k4,k5,k6,p0,p1,p2,p3,p4,p5,p6⟩;go_simp;try with_reducible rfl
         try go_frame
         refine aN (i:=5) (v:=?hv5) rfl (by kernel_rfl) (λ_ _ _ h=>h) (Or.inl ⟨by rfl,?hy5⟩) hHeld ?nG
         case hy5=>
          rintro w5 ⟨kb,k0,k1,k2,k3,k4,k5,k6,p0,p1,p2,p3,p4,p5,p6⟩;go_simp;try with_reducible rfl
         try go_frame
         refine aN (i:=6) (v:=?hv6) rfl (by kernel_rfl) (λ_ _ _ h=>h) (Or.inl ⟨by rfl,?hy6⟩) hHeld ?sM
         case hy6=>
          rintro w5 ⟨kb,k0,k1,k2,k3,k4,k5,k6,p0,p1,p2,p3,p4,p5,p6⟩;go_simp;try with_reducible rfl
         try go_frame
         refine aN (i:=7) (v:=?hv7) rfl (by kernel_rfl) (λ_ _ _ h=>h) (Or.inl ⟨by rfl,?hy7⟩) hHeld ?y_
         case hy7=>
          rintro w5 ⟨kb,k0,k1,k2,k3,k4,k5,k6,p0,p1,p2,p3,p4,p5,p6⟩;go_simp;try with_reducible rfl
         try go_frame
         refine cK (i:=8) (by kernel_rfl) rfl (λK8 hK8=> ?_);go_simp;go_at_call 15;refine(HA.out _).mono ?_;rintro e VU ⟨rfl,adG⟩;have hf:=hide (hgA.out VU ((show Below wX.heap.size wX wX.drew from(aV _ _).drew).trans adG));clear adG HA hgA hS hHeld;go_simp;refine hK8.out _ _ (λh=>(h (by decide)).elim) ?_;clear hK8 K8;refine cK (i:=9) (by kernel_rfl) rfl (λK9 hK9=> ?_);go_simp;refine hK9.out _ _ (λh=>(h (by decide)).elim) ?_;clear hK9 K9;refine jZ (by kernel_rfl) ?_ _;go_wp2;go_roundw
         case rel=>rw[hwt.out];exact hf.out
         case measure=>rw[hwt.out];exact jM htl
        ·obtain rfl:t=nb:=by omega
         have HN:=hide (hfin.out wr hb.out);have hgo:Hid (∀W',CS w n G B (k+1) W'->∃(j':Nat),j'<=n∧(.int .i64 ((j:Int)+1):Value)=.int .i64 j'∧Hid (CS w n G B (k+1) W')):=hide λW' h=>⟨j+1,by omega,by simp,hide h⟩;clear hbl hfin T9 hb hnb;go_wp2_with(go_at_call 16;refine HN.out.mono ?_;rintro e w8 ⟨rfl,hcs⟩;have hf:=hide (hgo.out _ hcs);clear hcs);go_roundw
         case rel=>rw[hwj.out];exact hf.out
         case measure=>rw[hwj.out];exact jM hjn
     ·obtain rfl:j=n:=by omega
      have hgo:Hid (∃(k':Nat),k'<=N∧(.int .i64 ((k:Int)+1):Value)=.int .i64 k'∧Hid (CS w j G B k' wr)):=hide ⟨k+1,by omega,by simp,hq⟩;clear hq hj hn0 hN hn2 VF h4 e1 hk hki hck;go_wp2;go_roundw
      case rel=>rw[hwk.out];exact hgo.out
      case measure=>rw[hwk.out];exact jM hlt
  ·obtain rfl:k=N:=by omega
   have hfin:=hq.out.below;clear hq hL;go_wp2;go_ret;exact⟨rfl,hfin⟩
end Go.Proofs.YtakaadcpaeiccabGreat
