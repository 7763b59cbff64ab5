import Derived.Test.YtakaadcpaeiccabGreatC12
set_option maxHeartbeats 8000000
set_option maxRecDepth 100000
namespace Go.Proofs.YtakaadcpaeiccabGreat
open Go.RowKit Go.Maps
variable{d:Int}{f h:Int->Option Nat}{u:Int->Value}{Q:List Sr}{B M Ms s:Nat}{q:Sr}{fn v:Value}{W W':World}
theorem Ll(w:World):(zeroValue 172).run Tryz.prog w=.ok (.pointer none) w:=by kernel_rfl
theorem fH.obj(h:fH W M f s):∃es cl,W.heap[M]?=some (.map es cl):=by
 obtain⟨D,⟨es,cl,hm,_⟩,_⟩:=h;exact⟨es,cl,hm⟩
theorem fH.puts(h:fH W M f s)(hs:s<maxLen){k:Int}(hk:bB k)(B:Nat):
  ∃W',(Instr.mapUpdate 119 (.map (some M)) (.int .u32 k) (.pointer (some ⟨B,0,none⟩))).run Tryz.prog W=.ok () W'∧fH W' M (fq f k (some B)) (if (f k).isSome then s else s+1)∧W.grownBy W' (some M):=by
 obtain⟨D,h1,h2,h3⟩:=h;obtain⟨W',hr,ho,ht⟩:=h1.store gy Tryz.underlying119 hs hk.key (pI (some B));have hm:=h1.isMap;have htd:=h1.tidy gy;have hkl:WideAt.IsKeyLit (.int .u32 k):=by trivial
 have hsz:Maps.size (D.put (.int .u32 k) (.lit (.int .i64 (lT (some B)))))=if (f k).isSome then s else s+1:=by
  rw[size_put htd,(h3 k hk).1,h2]
 refine⟨W',hr,⟨_,?_,hsz,λx hx=> ?_⟩,ht.grown⟩
 ·have:=fV ho;rw[hsz]at this;exact this
 ·by_cases e:x=k
  ·subst e;refine⟨by rw[has_put_same hm hkl];simp[fq],?_⟩;rw[atKey_put_same hm hkl];simp[fq]
  ·have hne:(Lit.int .u32 x)≠ .int .u32 k:=λh=>e (by cases h;rfl);refine⟨by rw[has_put_other hne];simp[fq,e,(h3 x hx).1],?_⟩;rw[atKey_put_other hne,(h3 x hx).2];simp[fq,e]
theorem fH.looks(h:fH W M f s){k:Int}(hk:bB k):
  (Instr.lookup 119 (.map (some M)) (.int .u32 k) false).run Tryz.prog W=.ok (gG (f k)) W:=by
 obtain⟨D,h1,h2,h3⟩:=h;obtain⟨v,ps,hr,hv⟩:=h1.lookup gy Tryz.underlying119 (Ll W) (pI none) hk.key;have h4:=(h3 k hk).2;simp only[lT]at hv h4;rw[h4]at hv;rw[hr,u_ (o:=f k) hv]
theorem fH.G6(h:fH W M f s){k:Int}(hk:bB k):
  (Instr.lookup 119 (.map (some M)) (.int .u32 k) true).run Tryz.prog W=.ok (.tuple #[gG (f k),.bool (f k).isSome]) W:=by
 obtain⟨D,h1,h2,h3⟩:=h;obtain⟨v,ps,hr,hv⟩:=h1.look_ok gy Tryz.underlying119 (Ll W) (pI none) hk.key;have h4:=(h3 k hk).2;simp only[lT]at hv h4;rw[h4]at hv;rw[hr,u_ (o:=f k) hv,(h3 k hk).1]
theorem fH.afX(h:fH W M f s){k:Int}(hk:bB k)(ty:TypeId)(hf:(f k).isSome=true):
  ∃W',(Builtin.delete_ #[119,34] ty #[.map (some M),.int .u32 k]).run Tryz.prog W=.ok (.tuple #[]) W'∧fH W' M (fq f k none) (s - 1)∧W.grownBy W' (some M):=by
 obtain⟨D,h1,h2,h3⟩:=h;obtain⟨W',hr,ho,ht⟩:=h1.drop gy Tryz.underlying119 hk.key ty;have htd:=h1.tidy gy;have hsz:Maps.size (D.del (.int .u32 k))=s - 1:=by
  have:=size_del (k:=.int .u32 k) htd;rw[(h3 k hk).1,hf,h2]at this;simp at this;omega
 refine⟨W',hr,⟨_,?_,hsz,λx hx=> ?_⟩,ht.grown⟩
 ·have:=fV ho;rw[hsz]at this;exact this
 ·by_cases e:x=k
  ·subst e;refine⟨by rw[has_del_same];simp[fq],?_⟩;rw[atKey_del_same];simp[fq,lT]
  ·have hne:(Lit.int .u32 x)≠ .int .u32 k:=λh=>e (by cases h;rfl);refine⟨by rw[has_del_other hne];simp[fq,e,(h3 x hx).1],?_⟩;rw[atKey_del_other hne,(h3 x hx).2];simp[fq,e]
def DU(out:Bool)(B:Nat):Value:=.func (.func (if out then 124 else 83)) #[.pointer (some ⟨B,0,none⟩)] #[]
@[reducible] def LJ(q : Sr)(v fn : Value): Obj := .cells #[.int .u32 q.dest, v, .int .i64 q.ttl, .int .i64 q.ret, .int .i64 q.id, fn] 177
def sD(B:Nat)(q:Sr)(v fn:Value)(W:World):Prop:=W.heap[B]?=some (LJ q v fn)
theorem sD.cell(h:sD B q v fn W):
  W.cell? ⟨B,0,none⟩=some (.int .u32 q.dest)∧W.cell? ⟨B,1,none⟩=some v∧W.cell? ⟨B,2,none⟩=some (.int .i64 q.ttl)∧W.cell? ⟨B,3,none⟩=some (.int .i64 q.ret)∧W.cell? ⟨B,4,none⟩=some (.int .i64 q.id)∧W.cell? ⟨B,5,none⟩=some fn:=
 ⟨aH W B 0 _ _ _ h,aH W B 1 _ _ _ h,aH W B 2 _ _ _ h,aH W B 3 _ _ _ h,aH W B 4 _ _ _ h,aH W B 5 _ _ _ h⟩
theorem sD.free(h:sD B q v fn W)(i:Nat):W.frozen? ⟨B,i,none⟩=false:=by
 unfold World.frozen?;rw[show W.heap[(⟨B,i,none⟩:Addr).block]?=some (LJ q v fn)from h];try rfl
theorem sD.lt(h:sD B q v fn W):B<W.heap.size:=(g_.1 h).1
theorem sD.block(h:sD B q v fn W)(he:W'.heap[B]?=W.heap[B]?):sD B q v fn W':=he.trans h
def qE(B:Nat)(q:Sr)(v:Value)(W:World):Prop:=∃fn,sD B q v fn W∧(q.id≠0->fn=DU q.out B)
theorem qE.cell(h:qE B q v W):
  W.cell? ⟨B,0,none⟩=some (.int .u32 q.dest)∧W.cell? ⟨B,1,none⟩=some v∧W.cell? ⟨B,2,none⟩=some (.int .i64 q.ttl)∧W.cell? ⟨B,3,none⟩=some (.int .i64 q.ret)∧W.cell? ⟨B,4,none⟩=some (.int .i64 q.id):=by
 obtain⟨fn,h1,_⟩:=h;obtain⟨c0,c1,c2,c3,c4,_⟩:=h1.cell;exact⟨c0,c1,c2,c3,c4⟩
theorem qE.lt(h:qE B q v W):B<W.heap.size:=by
 obtain⟨fn,h1,_⟩:=h;exact h1.lt
theorem qE.block(h:qE B q v W)(he:W'.heap[B]?=W.heap[B]?):qE B q v W':=by
 obtain⟨fn,h1,h2⟩:=h;exact⟨fn,h1.block he,h2⟩
theorem qE.obj(h:qE B q v W):∃c,W.heap[B]?=some (.cells c 177 (0,0)):=by
 obtain⟨fn,h1,_⟩:=h;exact⟨_,h1⟩
structure Sr.Ok(q:Sr):Prop where
 dest:bB q.dest
 ttl:1<=q.ttl∧q.ttl<=8
 ret:q.ret<=2
 txt:q.txt.length<=4
 Jh:∀t∈q.txt,t.size<=16
 id:0<=q.id∧q.id<=4611686018427387904
def IW(Ms:Nat)(h:Int->Option Nat)(u:Int->Value)(Q:List Sr)(k:Nat):Prop:=
 k=Ms∨∃q∈Q,h q.dest=some k∨(u q.dest).ownBlock=some k
structure xH(Ms:Nat)(h:Int->Option Nat)(u:Int->Value)(Q:List Sr)(W:World):Prop where
 map:fH W Ms h Q.length
 qU:Q.Pairwise λa b=>a.dest≠b.dest
 ok:∀q∈Q,q.Ok
 dom:∀d B,bB d->h d=some B->∃q∈Q,q.dest=d
 ln:∀q∈Q,∃B,h q.dest=some B∧qE B q (u q.dest) W
 row:∀q∈Q,W.ownsRow 0 9 1 (u q.dest) q.txt.length (q.txt.map Value.string)
 apart:∀a∈Q,∀b∈Q,a.dest≠b.dest->(u a.dest).ownBlock=none∨(u a.dest).ownBlock≠(u b.dest).ownBlock
 len:Q.length<=5000
theorem xH.kept(s:xH Ms h u Q W)(he:∀k,IW Ms h u Q k->W'.heap[k]?=W.heap[k]?):xH Ms h u Q W':=by
 refine⟨s.map.block (he _ (.inl rfl)),s.qU,s.ok,s.dom,λq hq=> ?_,λq hq=> ?_,s.apart,s.len⟩
 ·obtain⟨B,h1,h2⟩:=s.ln q hq;exact⟨B,h1,h2.block (he B (.inr ⟨q,hq,.inl h1⟩))⟩
 ·exact bK (s.row q hq) λk hk=>he k (.inr ⟨q,hq,.inr hk⟩)
theorem xH.lt(s:xH Ms h u Q W){k:Nat}(hk:IW Ms h u Q k):k<W.heap.size:=by
 rcases hk with rfl|⟨q,hq,hk|hk⟩
 ·exact s.map.lt
 ·obtain⟨B,h1,h2⟩:=s.ln q hq;rw[h1]at hk;cases hk;exact h2.lt
 ·exact((s.row q hq).lt k hk).2
theorem xH.kind(s:xH Ms h u Q W){k:Nat}(hk:IW Ms h u Q k):∃o,W.heap[k]?=some o∧((k=Ms∧∃es cl,o=.map es cl)∨(∃c,o=.cells c 177 (0,0))∨∃c,o=.cells c 9 (0,0)):=by
 rcases hk with rfl|⟨q,hq,hk|hk⟩
 ·obtain⟨es,cl,hm⟩:=s.map.obj;exact⟨_,hm,.inl ⟨rfl,_,_,rfl⟩⟩
 ·obtain⟨B,h1,h2⟩:=s.ln q hq;rw[h1]at hk;cases hk;obtain⟨c,hc⟩:=h2.obj;exact⟨_,hc,.inr (.inl ⟨_,rfl⟩)⟩
 ·obtain⟨c,hc⟩:=aR (s.row q hq) hk;exact⟨_,hc,.inr (.inr ⟨_,rfl⟩)⟩
theorem jk(h:St.kg Q d=some q):q∈Q∧q.dest=d:=by
 unfold St.kg at h;exact⟨List.mem_of_find?_eq_some h,by simpa using List.find?_some h⟩
theorem CK:St.kg Q d=none ↔ ∀q∈Q,q.dest≠d:=by
 unfold St.kg;simp
theorem xH.off(s:xH Ms h u Q W){d:Int}(hd:bB d)(hn:St.kg Q d=none):h d=none:=by
 cases e:h d with
 |none=>rfl
 |some B=>
  obtain⟨q,hq,Zm⟩:=s.dom d B hd e;exact absurd Zm (CK.1 hn q hq)
theorem xH.at(s:xH Ms h u Q W){d:Int}{q:Sr}(hn:St.kg Q d=some q):q∈Q∧q.dest=d∧∃B,h d=some B∧qE B q (u d) W∧W.ownsRow 0 9 1 (u d) q.txt.length (q.txt.map Value.string):=by
 obtain⟨hq,rfl⟩:=jk hn;obtain⟨B,h1,h2⟩:=s.ln q hq;exact⟨hq,rfl,B,h1,h2,s.row q hq⟩
variable{xs:List Int}
theorem GI(xs:List Int)(k:Nat){a b c d:Int}{ys:List Int}(h:xs.drop (4 * k)=a::b::c::d::ys):num xs k=n4 a b c d:=by
 have g:∀i x,(a::b::c::d::ys)[i]?=some x->xs.getD (4 * k+i) 0=x:=by
  intro i x hx;rw[<-h,List.getElem?_drop]at hx;simp[List.getD,hx]
 unfold num;rw[show 4 * k=4 * k+0 from rfl,g 0 a rfl,g 1 b rfl,g 2 c rfl,g 3 d rfl]
theorem Oh(k:Nat)(xs:List Int):qB (k+1) xs=qB k xs++ [(num xs (2 * k),num xs (2 * k+1))]:=by
 simp[qB,List.range_succ]
theorem Qj(a b:List (Int×Int)):LC (a++b)=LC a++LC b:=by simp[LC]
theorem iq(k:Nat)(xs:List Int):(qB k xs).length=k:=by simp[qB]
theorem WI(A:List Value)(u v x y:Value)(T:List Value):((A++u::v::T).set A.length x).set (A.length+1) y=A++ [x,y]++T:=by
 simp[List.set_append_right]
theorem Sm(m:Nat):∀v∈(madeCells #[Value.int .u32 0,Value.int .u32 0] m).toList,∃z,v=.int .u32 z:=by
 intro v hv;simp only[madeCells,Array.toList_map,di]at hv;obtain⟨i,_,rfl⟩:=hv;rcases Nat.mod_two_eq_zero_or_one i with h|h<;>simp[h]
def aev(R n:Nat)(xs:List Int)(W:World)(e:Ending)(w':World):Prop:=
 W.grownBy w' (some R)∧((8 * n<=xs.length∧(∃g,W.heap.size<=g∧e=.returned (.slice (some ⟨g,0,none⟩) n n)∧bF w' (some ⟨g,0,none⟩) (qB n xs))∧Rd R (xs.drop (8 * n)) w')∨(xs.length<8 * n∧e=.panicked broken))
theorem bF.Zg{W:World}{base g n cap:Nat}{L:List (Int×Int)}(h:W.ownsRow base 237 2 (.slice (some ⟨g,0,none⟩) n cap) n (LC L))(hb:∀x∈L,0<=x.1∧x.1<4294967296∧0<=x.2∧x.2<4294967296):bF W (some ⟨g,0,none⟩) L:=by
 have hl:=h.1;rw[j6]at hl;have hlt:g<W.heap.size:=by
  rcases h.2 with⟨hh,_⟩|⟨g',_,_,hh,_,hg,_⟩
  ·simp at hh
  ·simp only[Value.slice.injEq,Option.some.injEq,Addr.mk.injEq,and_true]at hh;obtain⟨rfl,_⟩:=hh;exact(g_.1 hg).1
 intro j hj;have hx:=hb _ (List.getElem_mem hj);have hg:=acu L j;rw[bZ hj]at hg;refine⟨g,0,L[j].1,L[j].2,rfl,hlt,bZ hj,hx.1,hx.2.1,hx.2.2.1,hx.2.2.2,?_,?_⟩
 ·rw[Nat.zero_add,h.cellAt (j * 2) (by omega),hg.1];rfl
 ·rw[Nat.zero_add,h.cellAt (j * 2+1) (by omega),hg.2];rfl
theorem Mk(h:∀x∈xs,0<=x∧x<=255)(i:Nat):0<=num xs i∧num xs i<4294967296:=by
 have g:∀j,0<=xs.getD j 0∧xs.getD j 0<=255:=by
  intro j;rcases Nat.lt_or_ge j xs.length with hj|hj
  ·have:=h _ (List.getElem_mem hj);simpa[List.getD,bZ hj]using this
  ·simp[List.getD,List.getElem?_eq_none hj]
 exact ul (g _) (g _) (g _) (g _)
theorem aar(h:∀x∈xs,0<=x∧x<=255)(n:Nat):∀x∈qB n xs,0<=x.1∧x.1<4294967296∧0<=x.2∧x.2<4294967296:=by
 intro x hx;simp only[qB,di]at hx;obtain⟨i,_,rfl⟩:=hx;have a:=Mk h (2 * i);have b:=Mk h (2 * i+1);exact⟨a.1,a.2,b.1,b.2⟩
theorem Sq(R n:Nat)(hn:n<=255)(xs:List Int)(W:World)(h:Rd R xs W):
  Calls Tryz.prog 88 #[.pointer (some ⟨R,0,none⟩),.int .i64 n] W λe w'=>aev R n xs W e w':=by
 obtain⟨i0,hi,hz0,hz1,hz2⟩:=info_parts OX;have hR:=h.lt;have hby:=h.bytes;go_enter Tryz.func88,Tryz.ntmps88;go_wp2_with(at_make;refine wpList_make_full _ rfl _ _ 71 rfl W.heap.size 237 i0 (.agg #[.int .u32 0,.int .u32 0]) 2 Tryz.underlying71 hi hz0 hz1 .i64 .i64 n n n rfl rfl rfl rfl ?c1 ?c2 ?c3 ?_)
 case c1=>rw[hz2];omega
 case c2=>unfold maxLen;omega
 case c3=>exact aD _
 intro w1 hown hg1;have hb1:Below W.heap.size W w1:=⟨hg1.os,hg1.tape,hg1.output,hg1.size,λk hk=>hg1.block k hk (by simp)⟩;have hr1:=h.kept hb1;have hG1:W.grownBy w1 (some R):=⟨hg1.os,hg1.tape,hg1.output,hg1.size,λk hk _=>hg1.block k hk (by simp)⟩;have hT:∀v∈(madeCells #[Value.int .u32 0,Value.int .u32 0] (n * 2)).toList,∃z,v=.int .u32 z:=Sm _;generalize (madeCells #[Value.int .u32 0,Value.int .u32 0] (n * 2)).toList=T0 at hown hT;generalize hG:W.heap.size=G at hown ⊢;clear hg1 hb1 h hi hz0 hz1 hz2;go_wp2_with fail;go_loopw [11] (λi wr=>∃(k:Nat) (T:List Value),k<=n∧i=.int .i64 k∧8 * k<=xs.length∧Rd R (xs.drop (8 * k)) wr∧wr.ownsRow G 237 2 (.slice (some ⟨G,0,none⟩) n n) n (LC (qB k xs)++T)∧W.grownBy wr (some R)∧(∀v∈T,∃z,v=.int .u32 z)) (λi _=>n - (intOf i).toNat)
 case atStart=>exact⟨0,T0,dh _,rfl,dh _,hr1,hown,hG1,hT⟩
 case round=>
  clear hr1 hown hG1 hT;obtain⟨k,T,hk,rfl,h8,hr,ho,hg,hT⟩:=hrel;by_cases hlt:k<n
  ·go_wp2_with fail;refine(dI R _ _ hr).mono ?_;rintro e w2 (⟨a,b,c,d,ys,hd1,rfl,hr2,hg2,_⟩|⟨hs,rfl,rfl⟩)
   case inr=>
    rw[List.length_drop]at hs;exact⟨rfl,hg,.inr ⟨by omega,rfl⟩⟩
   have ho2:=ho.kept hg2 (by right;simp[Value.ownBlock];omega);have hG2:=aA hg hg2;clear hr hg2 ho hg;go_wp2_with fail;refine(dI R _ _ hr2).mono ?_;rintro e w3 (⟨a',b',c',d',zs,rfl,rfl,hr3,hg3,_⟩|⟨hs,rfl,rfl⟩)
   case inr=>
    have:=congrArg List.length hd1;simp only[List.length_drop,dU]at this;exact⟨rfl,hG2,.inr ⟨by omega,rfl⟩⟩
   have ho3:=ho2.kept hg3 (by right;simp[Value.ownBlock];omega);have hG3:=aA hG2 hg3;clear hr2 hg3 ho2 hG2;have hl3:=ho3.1;rw[dw,j6,iq]at hl3;obtain⟨u,v,T',rfl⟩:∃u v T',T=u::v::T':=by
    match T,hl3 with
    | [],h=>simp at h;omega
    | [_],h=>simp at h;omega
    |u::v::T',_=>exact⟨u,v,T',rfl⟩
   obtain⟨z0,rfl⟩:=hT u (by simp);obtain⟨z1,rfl⟩:=hT v (by simp);have hT':∀v∈T',∃z,v=.int .u32 z:=λv hv=>hT v (by simp[hv]);have c0:w3.cell? ⟨G,k * 2,none⟩=some (.int .u32 z0):=by
    rw[ho3.cellAt (k * 2) (by omega),List.getElem?_append_right (by rw[j6,iq];omega),j6,iq];simp
   have c1:w3.cell? ⟨G,k * 2+1,none⟩=some (.int .u32 z1):=by
    rw[ho3.cellAt (k * 2+1) (by omega),List.getElem?_append_right (by rw[j6,iq];omega),j6,iq];simp
   have f0:=ho3.frozenAt (k * 2);have f1:=ho3.frozenAt (k * 2+1);have hkn:(k:Int)<(n:Int):=by omega
   clear hT;have n0:num xs (2 * k)=n4 a b c d:=GI xs (2 * k) (by rw[show 4 * (2 * k)=8 * k by omega];exact hd1);have n1:num xs (2 * k+1)=n4 a' b' c' d':=GI xs (2 * k+1) (ys:=zs) (by
    rw[show 4 * (2 * k+1)=8 * k+4 by omega,<-List.drop_drop,hd1];rfl)
   have hdr:xs.drop (8 * (k+1))=zs:=by
    rw[show 8 * (k+1)=8 * k+8 by omega,<-List.drop_drop,hd1];rfl
   have hle:8 * (k+1)<=xs.length:=by
    have:=congrArg List.length hd1;simp only[List.length_drop,dU]at this;omega
   have hlc:LC (qB (k+1) xs)=LC (qB k xs)++ [.int .u32 (n4 a b c d),.int .u32 (n4 a' b' c' d')]:=by
    rw[Oh,Qj,n0,n1];rfl
   have hst:=(ho3.stored (k * 2) (.int .u32 (n4 a b c d))).1.stored (k * 2+1) (.int .u32 (n4 a' b' c' d'));have hset:=WI (LC (qB k xs)) (.int .u32 z0) (.int .u32 z1) (.int .u32 (n4 a b c d)) (.int .u32 (n4 a' b' c' d')) T';rw[j6,iq]at hset;rw[hset]at hst;have hst':=hst.1;rw[<-hlc]at hst';have hrA:=hr3.setCell (B:=G) (by omega) (i:=k * 2) (.int .u32 z0) (.int .u32 (n4 a b c d)) (by simp) c0;have c1':(w3.setCell ⟨G,k * 2,none⟩ (.int .u32 (n4 a b c d))).cell? ⟨G,k * 2+1,none⟩=some (.int .u32 z1):=by
    rw[World.cell?_setCell_other _ _ _ _ (by simp)];exact c1
   have hrB:=hrA.setCell (B:=G) (by omega) (i:=k * 2+1) (.int .u32 z1) (.int .u32 (n4 a' b' c' d')) (by simp) c1';have hgB:=bD (bD hG3 (a:=⟨G,k * 2,none⟩) (by simp;omega) (.int .u32 (n4 a b c d))) (a:=⟨G,k * 2+1,none⟩) (by simp;omega) (.int .u32 (n4 a' b' c' d'));rw[<-hdr]at hrB;clear n0 n1 hdr hlc hst hset hd1 hl3 c1' hrA hr3 hG3 ho3;go_wp2;go_roundw
   case rel=>exact⟨k+1,T',by omega,by go_num,hle,hrB,hst',hgB,hT'⟩
   case measure=>simp[intOf];omega
  ·obtain rfl:k=n:=by omega
   clear hk hlt;have hl3:=ho.1;rw[dw,j6,iq]at hl3;obtain rfl:T=[]:=qA (by omega);rw[iE]at ho;clear hl3 hT;go_wp2;go_ret;exact⟨hg,.inl ⟨h8,⟨G,Nat.le_of_eq hG,rfl,bF.Zg ho (aar hby k)⟩,hr⟩⟩
variable{L:List (Int×Int)}{W:World}
theorem bF.far{g:Nat}(h:bF W (some ⟨g,0,none⟩) L){a:Addr}(ha:a.block≠g)(v:Value):bF (W.setCell a v) (some ⟨g,0,none⟩) L:=by
 intro j hj;obtain⟨lb,lo,d,s,h1,h2,h3,h4,h5,h6,h7,h8,h9⟩:=h j hj;have e:=h1;simp only[Option.some.injEq,Addr.mk.injEq,and_true]at e;obtain⟨rfl,rfl⟩:=e;exact⟨g,0,d,s,rfl,by simpa using h2,h3,h4,h5,h6,h7,(nO W a _ v (λe=>ha e.symm)).trans h8,(nO W a _ v (λe=>ha e.symm)).trans h9⟩
theorem bF.dF{g C:Nat}(h:bF W (some ⟨g,0,none⟩) L)(hC:C≠g)(p:aF):bF (dF W C p) (some ⟨g,0,none⟩) L:=
 bF.far (bF.far (bF.far (bF.far (bF.far (bF.far (bF.far (bF.far (bF.far (bF.far (bF.far (bF.far h (a:=⟨C,0,none⟩) hC _) (a:=⟨C,1,none⟩) hC _) (a:=⟨C,2,none⟩) hC _) (a:=⟨C,3,none⟩) hC _) (a:=⟨C,4,none⟩) hC _) (a:=⟨C,5,none⟩) hC _) (a:=⟨C,6,none⟩) hC _) (a:=⟨C,7,none⟩) hC _) (a:=⟨C,8,none⟩) hC _) (a:=⟨C,9,none⟩) hC _) (a:=⟨C,10,none⟩) hC _) (a:=⟨C,11,none⟩) hC _
theorem yT(C E:Nat)(hCE:C≠E)(z:aF)(x:Int)(u:TypeId)(pv:Value)(older:List PanicEntry)(w:World)(hC:PB z C w)(hE:w.heap[E]?=some (.cells #[.int .i64 x] 47 (0,0))):
  CallsD Tryz.prog 55 #[.pointer (some ⟨C,0,none⟩),.pointer (some ⟨E,0,none⟩)] (.panicking ({v:=.iface u pv,recovered:=false}::older)) w λe u' w'=>
   e=.returned (.tuple #[])∧u'=.panicking ({v:=.iface u pv,recovered:=true}::older)∧w'=(dF w C aF.zero).setCell ⟨E,0,none⟩ (.int .i64 1):=by
 obtain⟨k0,k1,k2,k3,k4,k5,k6,k7,k8,k9,k10,k11⟩:=hC.cell;have kf:=hC.free;have e0:w.cell? ⟨E,0,none⟩=some (.int .i64 x):=aH w E 0 _ _ _ hE;have ef:w.frozen? ⟨E,0,none⟩=false:=mO w E 0 _ _ hE;refine callsD_of_wpS Tryz.func55 rfl λc₀ cs hu=> ?_;apply wpS_seq;apply wpS_region;simp[wpOpsS,go_sem,recoverD,hu,Tryz.ntmps55,Exit.thenS];refine wpS_cond (t:=true) (by simp[Act.eval,Array.replicate])?_;simp only[if_true];apply wpS_region;simp[wpOpsS,go_sem,k0,k1,k2,k3,k4,k5,k6,k7,k8,k9,k10,k11,kf,e0,ef,bodyPostS,results,Tryz.results55];rfl
theorem KD(a b:Addr)(w:World):
  CallsD Tryz.prog 55 #[.pointer (some a),.pointer (some b)] .returning w λe u' w'=>e=.returned (.tuple #[])∧u'=.returning∧w'=w:=by
 refine callsD_of_wpS Tryz.func55 rfl λc₀ cs hu=> ?_;apply wpS_seq;apply wpS_region;simp[wpOpsS,go_sem,recoverD,hu,Tryz.ntmps55,Exit.thenS];refine wpS_cond (t:=false) (by simp[Act.eval,Array.replicate])?_;simp only[Bool.false_eq_true,if_false];refine wpS_of_wp (wp_skip ?_);cases c₀
 simp_all [bodyPostS,results,Tryz.results55]
variable{L:List (Int×Int)}{C N:Nat}{ao:Option Addr}{W:World}
def zu(xs:List Int)(W:World)(e:Ending)(w':World):Prop:=
 Below W.heap.size W w'∧((vH xs=true∧∃v,e=.returned (.tuple #[v,.int .i64 0])∧Reads xs v w' W.heap.size)∨(vH xs=false∧e=.returned (.tuple #[aF.zero.val,.int .i64 1])))
theorem bF.xg(h:bF W ao L)(hf:∀b,ao=some b->N<=b.block){a:Addr}(ha:a.block<N)(v:Value):bF (W.setCell a v) ao L:=by
 intro j hj;obtain⟨lb,lo,d,s,h1,h2,h3,h4,h5,h6,h7,h8,h9⟩:=h j hj;have hb:=hf _ h1;have hne:lb≠a.block:=by have:N<=lb:=hb;omega
 exact⟨lb,lo,d,s,h1,by simpa using h2,h3,h4,h5,h6,h7,(nO W a _ v hne).trans h8,(nO W a _ v hne).trans h9⟩
theorem DR(h:bF W ao L)(hf:∀b,ao=some b->N<=b.block)(hC:C<N)(p:aF):bF (dF W C p) ao L:=
 bF.xg (bF.xg (bF.xg (bF.xg (bF.xg (bF.xg (bF.xg (bF.xg (bF.xg (bF.xg (bF.xg (bF.xg h hf (a:=⟨C,0,none⟩) hC _) hf (a:=⟨C,1,none⟩) hC _) hf (a:=⟨C,2,none⟩) hC _) hf (a:=⟨C,3,none⟩) hC _) hf (a:=⟨C,4,none⟩) hC _) hf (a:=⟨C,5,none⟩) hC _) hf (a:=⟨C,6,none⟩) hC _) hf (a:=⟨C,7,none⟩) hC _) hf (a:=⟨C,8,none⟩) hC _) hf (a:=⟨C,9,none⟩) hC _) hf (a:=⟨C,10,none⟩) hC _) hf (a:=⟨C,11,none⟩) hC _
theorem vS{A B:World}(h:Below N A B)(hC:N<=C)(p:aF):Below N A (dF B C p):=
 ((((((((((((((((((((((((h).setCell (p:=⟨C,0,none⟩) hC _)).setCell (p:=⟨C,1,none⟩) hC _)).setCell (p:=⟨C,2,none⟩) hC _)).setCell (p:=⟨C,3,none⟩) hC _)).setCell (p:=⟨C,4,none⟩) hC _)).setCell (p:=⟨C,5,none⟩) hC _)).setCell (p:=⟨C,6,none⟩) hC _)).setCell (p:=⟨C,7,none⟩) hC _)).setCell (p:=⟨C,8,none⟩) hC _)).setCell (p:=⟨C,9,none⟩) hC _)).setCell (p:=⟨C,10,none⟩) hC _)).setCell (p:=⟨C,11,none⟩) hC _)
theorem Cw(W:World){C:Nat}(p:aF){k:Nat}(hk:k≠C):(dF W C p).heap[k]?=W.heap[k]?:=by
 have f:=λ(w:World) (i:Nat) (v:Value)=>iW w ⟨C,i,none⟩ v k hk;simp only[dF,f]
theorem Qp(hpk:∀(R:Nat) (xs:List Int) (W:World),Rd R xs W->Calls Tryz.prog 56 #[.pointer (some ⟨R,0,none⟩)] W λe w'=>jR R xs W e w')
  (v:Value) (xs:List Int) (W:World) (hv:fA W v xs):
  Calls Tryz.prog 22 #[v] W λe w'=>zu xs W e w':=by
 have hmf:∀(fn:Fn) (first cap:Array Value) (w:World),(Instr.makeFunc fn first cap).run Tryz.prog w=.ok (.func fn first cap) w:=λ_ _ _ _=>rfl;obtain⟨a,n,c,rfl⟩:∃a n c,v=.slice a n c:=by
  rcases hv.2 with⟨rfl,_⟩|⟨_,_,_,rfl,_⟩
  ·exact⟨_,_,_,rfl⟩
  ·exact⟨_,_,_,rfl⟩
 go_enter_defers Tryz.func22,Tryz.ntmps22
 go_wp2_with fail;have hb3:Below W.heap.size W (((W.alloc aF.zero.box).alloc (.cells #[.int .i64 0] 47)).alloc (.cells #[.slice a n c] 141)):=
  (((aV W.heap.size W).alloc (aD _) _).alloc (by simp) _).alloc (by simp;omega) _
 have hC:PB aF.zero W.heap.size (((W.alloc aF.zero.box).alloc (.cells #[.int .i64 0] 47)).alloc (.cells #[.slice a n c] 141)):=((PB.new aF.zero W).alloc _).alloc _;have hE:(((W.alloc aF.zero.box).alloc (.cells #[.int .i64 0] 47)).alloc (.cells #[.slice a n c] 141)).heap[W.heap.size+1]?=some (.cells #[.int .i64 0] 47 (0,0)):=by
  rw[Below.heap_alloc _ _ _ (by simp)];have:=bS (W.alloc aF.zero.box) (.cells #[.int .i64 0] 47)
  rwa [World.size_alloc]at this
 have hRh:(((W.alloc aF.zero.box).alloc (.cells #[.int .i64 0] 47)).alloc (.cells #[.slice a n c] 141)).heap[W.heap.size+1+1]?=some (.cells #[.slice a n c] 141 (0,0)):=by
  have:=bS ((W.alloc aF.zero.box).alloc (.cells #[.int .i64 0] 47)) (.cells #[.slice a n c] 141)
  rwa [World.size_alloc,World.size_alloc]at this
 have hrd:Rd (W.heap.size+1+1) xs (((W.alloc aF.zero.box).alloc (.cells #[.int .i64 0] 47)).alloc (.cells #[.slice a n c] 141)):=
  ⟨_,aH _ _ 0 _ _ _ hRh,mO _ _ 0 _ _ hRh,hv.kept hb3⟩
 dsimp only[aF.box,aF.zero]at hb3 hC hE hrd;generalize World.alloc _ _=W3 at hb3 hC hE hrd ⊢;clear hRh hv;have Ca:=hrd.lt;refine(hpk _ xs _ hrd).mono ?_;rintro e w1 ⟨hg,⟨hF,pv,rfl,hRd⟩|⟨hF,rfl⟩⟩
 ·obtain⟨x0,x1,x2,x3,x4,r,ao,c',hxs,hpv,hlen,hA,hfr⟩:=hRd;obtain⟨q,hq⟩:∃q:aF,q={iY x0 x1 x2 x4 r with la:=ao,lc:=c'}:=⟨_,rfl⟩;rw[<-hq]at hpv;subst hpv;have hq':=(show Hid _ from hq);clear hq;have rD:=hC.grown hg (by omega);have hE1:=(hg.block (W.heap.size+1) (g_.1 hE).1 (by simp)).trans hE;have hB1:Below W.heap.size W w1:=hb3.trans ⟨hg.os,hg.tape,hg.output,hg.size,λk hk=>hg.block k (by omega) (by simp;omega)⟩;have hF1:=rD.storeAll q;have hB2:Below W.heap.size W ((dF w1 W.heap.size q).setCell ⟨W.heap.size+1,0,none⟩ (.int .i64 0)):=
   (vS hB1 (aD _) q).setCell (p:=⟨W.heap.size+1,0,none⟩) (by simp) _
  have hF2:PB q W.heap.size ((dF w1 W.heap.size q).setCell ⟨W.heap.size+1,0,none⟩ (.int .i64 0)):=hF1.other (a:=⟨W.heap.size+1,0,none⟩) (by simp) _;obtain⟨k0,k1,k2,k3,k4,k5,k6,k7,k8,k9,k10,k11⟩:=rD.cell;dsimp only at k0 k1 k2 k3 k4 k5 k6 k7 k8 k9 k10 k11;have kf:=rD.free;have e0:w1.cell? ⟨W.heap.size+1,0,none⟩=some (.int .i64 0):=aH w1 _ 0 _ _ _ hE1;have ef:w1.frozen? ⟨W.heap.size+1,0,none⟩=false:=mO w1 _ 0 _ _ hE1;have hA2:bF ((dF w1 W.heap.size q).setCell ⟨W.heap.size+1,0,none⟩ (.int .i64 0)) ao (nD x1 x4 r):=(DR hA hfr (by omega) q).xg hfr (a:=⟨W.heap.size+1,0,none⟩) (by simp;omega) _;have hE2:((dF w1 W.heap.size q).setCell ⟨W.heap.size+1,0,none⟩ (.int .i64 0)).cell? ⟨W.heap.size+1,0,none⟩=some (.int .i64 0):=by
   have hs:(dF w1 W.heap.size q).heap[W.heap.size+1]?=w1.heap[W.heap.size+1]?:=Cw w1 q (by omega);have hpre:(dF w1 W.heap.size q).cell? ⟨W.heap.size+1,0,none⟩=some (.int .i64 0):=aH _ _ 0 _ _ _ (hs.trans hE1);exact World.cell?_setCell_same _ _ _ hpre
  clear hC hE hb3 hg hA hB1 hF1 hE1 hrd;go_wp2;dsimp only[dF]at hF2 hB2 hA2 hE2;generalize World.setCell _ _ _=wF at hF2 hB2 hA2 hE2 ⊢;clear k0 k1 k2 k3 k4 k5 k6 k7 k8 k9 k10 k11 kf e0 ef;obtain⟨k0,k1,k2,k3,k4,k5,k6,k7,k8,k9,k10,k11⟩:=hF2.cell;refine leaves_cons (f:=55) (args:=#[.pointer (some ⟨W.heap.size,0,none⟩),.pointer (some ⟨W.heap.size+1,0,none⟩)]) (by simp) (by simp[go_sem])?_;refine(KD _ _ _).mono ?_;rintro e u' w'' ⟨rfl,rfl,rfl⟩;have hpost:zu xs W (.returned (.tuple #[q.val,.int .i64 0])) w'':=
   ⟨hB2,.inl ⟨hF,_,rfl,x0,x1,x2,x3,x4,r,ao,c',hxs,by rw[hq'.out],hlen,hA2,λb hb=>dH (by omega) (hfr b hb)⟩⟩
  simp[Leaves,settle,results,Tryz.results22,go_sem,k0,k1,k2,k3,k4,k5,k6,k7,k8,k9,k10,k11,hE2];exact hpost
 ·have rD:=hC.grown hg (by omega);have hE1:=(hg.block (W.heap.size+1) (g_.1 hE).1 (by simp)).trans hE;have hB1:Below W.heap.size W w1:=hb3.trans ⟨hg.os,hg.tape,hg.output,hg.size,λk hk=>hg.block k (by omega) (by simp;omega)⟩;show bodyPostD Tryz.prog Tryz.f22 _ (Exit.panic broken) _ w1;refine leaves_cons (f:=55) (args:=#[.pointer (some ⟨W.heap.size,0,none⟩),.pointer (some ⟨W.heap.size+1,0,none⟩)]) (by simp) (by simp[go_sem])?_;refine(yT W.heap.size (W.heap.size+1) (by omega) _ 0 47 _ [] _ rD hE1).mono ?_;rintro e u' w'' ⟨rfl,rfl,rfl⟩;have hF2:PB aF.zero W.heap.size ((dF w1 W.heap.size aF.zero).setCell ⟨W.heap.size+1,0,none⟩ (.int .i64 1)):=(rD.storeAll aF.zero).other (a:=⟨W.heap.size+1,0,none⟩) (by simp) _;have hs:(dF w1 W.heap.size aF.zero).heap[W.heap.size+1]?=w1.heap[W.heap.size+1]?:=Cw w1 aF.zero (by omega);have hpre:(dF w1 W.heap.size aF.zero).cell? ⟨W.heap.size+1,0,none⟩=some (.int .i64 0):=aH _ _ 0 _ _ _ (hs.trans hE1);have hE2:=World.cell?_setCell_same _ ⟨W.heap.size+1,0,none⟩ (.int .i64 1) hpre;have hB2:Below W.heap.size W ((dF w1 W.heap.size aF.zero).setCell ⟨W.heap.size+1,0,none⟩ (.int .i64 1)):=(vS hB1 (aD _) aF.zero).setCell (p:=⟨W.heap.size+1,0,none⟩) (by simp) _;generalize (dF w1 W.heap.size aF.zero).setCell ⟨W.heap.size+1,0,none⟩ (.int .i64 1)=wF at hF2 hE2 hB2 ⊢;obtain⟨k0,k1,k2,k3,k4,k5,k6,k7,k8,k9,k10,k11⟩:=hF2.cell;have hpost:zu xs W (.returned (.tuple #[aF.zero.val,.int .i64 1])) wF:=⟨hB2,.inr ⟨hF,rfl⟩⟩;simp[Leaves,settle,results,Tryz.results22,go_sem,k0,k1,k2,k3,k4,k5,k6,k7,k8,k9,k10,k11,hE2];exact hpost
def fl:Bool->Int
 |true=>8
 |false=>0
def qf(_:Bool):Prop:=True
@[reducible] def gm{U : Bool}(_ : qf U): Bool := U
@[reducible] def EW{U : Bool}(_ : qf U): Int := fl U
theorem AP{U:Bool}(h:qf U):EW h=0∨EW h=8:=by cases U<;>simp[EW,fl]
theorem Gu(U:Bool)(R:Nat)(x0 x4:Int)(r:List Int)(W:World)(hr:Rd R (x0::1::fl U::0::x4::r) W):
  Calls Tryz.prog 56 #[.pointer (some ⟨R,0,none⟩)] W λe w'=>jR R (x0::1::fl U::0::x4::r) W e w':=by
 have hu:qf U:=trivial;cases U<;>dsimp only[fl]at hr ⊢
 all_goals
  have hby:=hr.bytes;have hR:=hr.lt;go_enter Tryz.func56,Tryz.ntmps56;go_wp2_with fail;have hC0:=PB.new aF.zero W;have h1:=hr.alloc aF.zero.box;have hg0:=kz W aF.zero.box (some R);dsimp only[aF.box,aF.zero]at hC0 h1 hg0;refine(bG R _ _ _ h1).mono ?_;rintro e w1 ⟨rfl,hr1,hg1⟩;have rD:PB aF.zero W.heap.size w1:=PB.grown hC0 hg1 (by omega);have hW1:=aA hg0 hg1;clear hr h1 hg0 hg1 hC0;go_wp2_with fail;refine(bG R _ _ _ hr1).mono ?_;rintro e w2 ⟨rfl,hr2,hg2⟩;have hC2:=rD.grown hg2 (by omega);have hW2:=aA hW1 hg2;clear hr1 hg2 rD hW1;go_wp2_with fail;have hB:=PB.new ⟨x0,1,0,false,0,0,0,0,0,0,none,0,0,⟨#[]⟩⟩ w2;have Qz:W.heap.size<w2.heap.size:=hC2.lt;have qC:=hC2.alloc (aF.box ⟨x0,1,0,false,0,0,0,0,0,0,none,0,0,⟨#[]⟩⟩);have hr3:=hr2.alloc (aF.box ⟨x0,1,0,false,0,0,0,0,0,0,none,0,0,⟨#[]⟩⟩);have hW3:=aA hW2 (kz w2 (aF.box ⟨x0,1,0,false,0,0,0,0,0,0,none,0,0,⟨#[]⟩⟩) (some R));have Kk:=hr2.lt;generalize Kq:w2.heap.size=B at hB Qz Kk ⊢;clear Kq;dsimp only[aF.box]at hB qC hr3 hW3;clear hr2 hC2 hW2;refine(bG R _ _ _ hr3).mono ?_;rintro e w4 ⟨rfl,hr4,hg4⟩;have hB4:=hB.grown hg4 (by omega);have yh:=qC.grown hg4 (by omega);have EP:=aA hW3 hg4;clear hr3 hg4 hB qC hW3;go_wp2_with(go_at_call 85;refine(require_ok _).mono ?_;rintro e w4 ⟨rfl,rfl⟩;obtain⟨_,_,_,c3,_,_,_,_,_,_,_,_⟩:=hB4.cell;have f3:=hB4.free 3);have uJ:=hB4.set ⟨x0,1,0,gm hu,0,0,0,0,0,0,none,0,0,⟨#[]⟩⟩ 3 (.bool (gm hu)) rfl;have nH:=hr4.setCell (B:=B) (by omega) (i:=3) (.bool false) (.bool (gm hu)) (by simp) c3;have rW:=yh.other (a:=⟨B,3,none⟩) (by simp;omega) (.bool (gm hu));have sQ:=bD EP (a:=⟨B,3,none⟩) (by simp;omega) (.bool (gm hu));dsimp only[gm]at uJ nH rW sQ;clear c3 f3 hr4 hB4 yh EP;generalize w4.setCell _ _=w5 at uJ nH rW sQ ⊢;refine(bG R _ _ _ nH).mono ?_;rintro e w6 ⟨rfl,sN,jr⟩;have Cg:=uJ.grown jr (by omega);have gF:=rW.grown jr (by omega);have FO:=aA sQ jr;clear nH jr uJ rW sQ;go_wp2_with(go_at_call 85;refine(require_ok _).mono ?_;rintro e w6 ⟨rfl,rfl⟩);refine(bG R _ _ _ sN).mono ?_;rintro e w7 ⟨rfl,za,gQ⟩;have jg:=Cg.grown gQ (by omega);have gK:=gF.grown gQ (by omega);have M7:=aA FO gQ;clear sN gQ Cg gF FO;go_wp2_with fail;obtain⟨_,c1,_,_,_,_,_,_,_,_,_,_⟩:=jg.cell;refine(wN B w7 c1).mono ?_;rintro e w8 ⟨rfl,hw8⟩;have iB:w8.heap[w7.heap.size]?=some (.cells #[.pointer (some ⟨B,4,none⟩),.pointer (some ⟨B,5,none⟩),.pointer (some ⟨B,6,none⟩),.pointer (some ⟨B,7,none⟩),.pointer (some ⟨B,8,none⟩)] 189 (0,0)):=by rw[hw8];exact bS w7 _
  have jQ:PB ⟨x0,1,0,gm hu,0,0,0,0,0,0,none,0,0,⟨#[]⟩⟩ B w8:=by rw[hw8];exact jg.alloc _
  have ic:PB aF.zero W.heap.size w8:=by rw[hw8];exact gK.alloc _
  have iO:Rd R r w8:=by rw[hw8];exact(za.alloc _).drew
  have jA:W.grownBy w8 (some R):=by rw[hw8];exact uw (aA M7 (kz w7 _ _))
  have hBN:B<w7.heap.size:=jg.lt;generalize w7.heap.size=N at iB hBN ⊢;clear hw8 za jg gK M7 c1;go_wp2_with fail;refine wp_loop_rounds 6 ?_;rw[rounds_succ];have Zd:=aH w8 N 0 _ _ _ iB;simp only[List.getElem?_toArray,List.getElem?_cons_zero]at Zd;go_wp2_with fail;clear Zd;refine(dI R _ _ iO).mono ?_;rintro e w9 (⟨a0,b0,e0,d0,r0,rfl,rfl,nG,fO,_⟩|⟨hshort,rfl,rfl⟩)
  case inr=>exact⟨rfl,jA,.inr ⟨fE (by rw[show dO 1 x4=20 from rfl];first|omega|(simp only[dU];omega)),rfl⟩⟩
  have rz:=(fO.block N (g_.1 iB).1 (by simp;omega)).trans iB;have jB:=jQ.grown fO (by omega);have qa:=ic.grown fO (by omega);have pY:=aA jA fO;clear iO fO jQ ic jA iB;obtain⟨_,_,_,_,c4,c5,c6,c7,c8,c9,_,_⟩:=jB.cell;dsimp only at c4 c5 c6 c7 c8 c9;have ff:=jB.free 4;have hpre:=c4;clear c5 c6 c7 c8 c9;go_wp2_with fail;have jQ:=jB.set ⟨x0,1,0,gm hu,(n4 a0 b0 e0 d0),0,0,0,0,0,none,0,0,⟨#[]⟩⟩ 4 (.int .u32 (n4 a0 b0 e0 d0)) rfl;have iO:=nG.setCell (B:=B) (by omega) (i:=4) (.int .u32 0) (.int .u32 (n4 a0 b0 e0 d0)) (by simp) hpre;have ic:=qa.other (a:=⟨B,4,none⟩) (by simp;omega) (.int .u32 (n4 a0 b0 e0 d0));have jA:=bD pY (a:=⟨B,4,none⟩) (by simp;omega) (.int .u32 (n4 a0 b0 e0 d0));have iB:=(iW w9 ⟨B,4,none⟩ (.int .u32 (n4 a0 b0 e0 d0)) N (by simp;omega)).trans rz;clear nG jB qa pY rz ff hpre c4;generalize w9.setCell _ _=w8 at jQ iO ic jA iB ⊢;rw[rounds_succ];have pc1:=aH w8 N 1 _ _ _ iB;simp only[List.getElem?_toArray,List.getElem?_cons_succ,List.getElem?_cons_zero]at pc1;go_wp2_with fail;clear pc1;refine(dI R _ _ iO).mono ?_;rintro e w9 (⟨a1,b1,e1,d1,r1,rfl,rfl,nG,fO,_⟩|⟨hshort,rfl,rfl⟩)
  case inr=>exact⟨rfl,jA,.inr ⟨fE (by rw[show dO 1 x4=20 from rfl];first|omega|(simp only[dU];omega)),rfl⟩⟩
  have rz:=(fO.block N (g_.1 iB).1 (by simp;omega)).trans iB;have jB:=jQ.grown fO (by omega);have qa:=ic.grown fO (by omega);have pY:=aA jA fO;clear iO fO jQ ic jA iB;obtain⟨_,_,_,_,c4,c5,c6,c7,c8,c9,_,_⟩:=jB.cell;dsimp only at c4 c5 c6 c7 c8 c9;have ff:=jB.free 5;have hpre:=c5;clear c4 c6 c7 c8 c9;go_wp2_with fail;have jQ:=jB.set ⟨x0,1,0,gm hu,(n4 a0 b0 e0 d0),(n4 a1 b1 e1 d1),0,0,0,0,none,0,0,⟨#[]⟩⟩ 5 (.int .u32 (n4 a1 b1 e1 d1)) rfl;have iO:=nG.setCell (B:=B) (by omega) (i:=5) (.int .u32 0) (.int .u32 (n4 a1 b1 e1 d1)) (by simp) hpre;have ic:=qa.other (a:=⟨B,5,none⟩) (by simp;omega) (.int .u32 (n4 a1 b1 e1 d1));have jA:=bD pY (a:=⟨B,5,none⟩) (by simp;omega) (.int .u32 (n4 a1 b1 e1 d1));have iB:=(iW w9 ⟨B,5,none⟩ (.int .u32 (n4 a1 b1 e1 d1)) N (by simp;omega)).trans rz;clear nG jB qa pY rz ff hpre c5;generalize w9.setCell _ _=w8 at jQ iO ic jA iB ⊢;rw[rounds_succ];have pc2:=aH w8 N 2 _ _ _ iB;simp only[List.getElem?_toArray,List.getElem?_cons_succ,List.getElem?_cons_zero]at pc2;go_wp2_with fail;clear pc2;refine(dI R _ _ iO).mono ?_;rintro e w9 (⟨a2,b2,e2,d2,r2,rfl,rfl,nG,fO,_⟩|⟨hshort,rfl,rfl⟩)
  case inr=>exact⟨rfl,jA,.inr ⟨fE (by rw[show dO 1 x4=20 from rfl];first|omega|(simp only[dU];omega)),rfl⟩⟩
  have rz:=(fO.block N (g_.1 iB).1 (by simp;omega)).trans iB;have jB:=jQ.grown fO (by omega);have qa:=ic.grown fO (by omega);have pY:=aA jA fO;clear iO fO jQ ic jA iB;obtain⟨_,_,_,_,c4,c5,c6,c7,c8,c9,_,_⟩:=jB.cell;dsimp only at c4 c5 c6 c7 c8 c9;have ff:=jB.free 6;have hpre:=c6;clear c4 c5 c7 c8 c9;go_wp2_with fail;have jQ:=jB.set ⟨x0,1,0,gm hu,(n4 a0 b0 e0 d0),(n4 a1 b1 e1 d1),(n4 a2 b2 e2 d2),0,0,0,none,0,0,⟨#[]⟩⟩ 6 (.int .u32 (n4 a2 b2 e2 d2)) rfl;have iO:=nG.setCell (B:=B) (by omega) (i:=6) (.int .u32 0) (.int .u32 (n4 a2 b2 e2 d2)) (by simp) hpre;have ic:=qa.other (a:=⟨B,6,none⟩) (by simp;omega) (.int .u32 (n4 a2 b2 e2 d2));have jA:=bD pY (a:=⟨B,6,none⟩) (by simp;omega) (.int .u32 (n4 a2 b2 e2 d2));have iB:=(iW w9 ⟨B,6,none⟩ (.int .u32 (n4 a2 b2 e2 d2)) N (by simp;omega)).trans rz;clear nG jB qa pY rz ff hpre c6;generalize w9.setCell _ _=w8 at jQ iO ic jA iB ⊢;rw[rounds_succ];have pc3:=aH w8 N 3 _ _ _ iB;simp only[List.getElem?_toArray,List.getElem?_cons_succ,List.getElem?_cons_zero]at pc3;go_wp2_with fail;clear pc3;refine(dI R _ _ iO).mono ?_;rintro e w9 (⟨a3,b3,e3,d3,r3,rfl,rfl,nG,fO,_⟩|⟨hshort,rfl,rfl⟩)
  case inr=>exact⟨rfl,jA,.inr ⟨fE (by rw[show dO 1 x4=20 from rfl];first|omega|(simp only[dU];omega)),rfl⟩⟩
  have rz:=(fO.block N (g_.1 iB).1 (by simp;omega)).trans iB;have jB:=jQ.grown fO (by omega);have qa:=ic.grown fO (by omega);have pY:=aA jA fO;clear iO fO jQ ic jA iB;obtain⟨_,_,_,_,c4,c5,c6,c7,c8,c9,_,_⟩:=jB.cell;dsimp only at c4 c5 c6 c7 c8 c9;have ff:=jB.free 7;have hpre:=c7;clear c4 c5 c6 c8 c9;go_wp2_with fail;have jQ:=jB.set ⟨x0,1,0,gm hu,(n4 a0 b0 e0 d0),(n4 a1 b1 e1 d1),(n4 a2 b2 e2 d2),(n4 a3 b3 e3 d3),0,0,none,0,0,⟨#[]⟩⟩ 7 (.int .u32 (n4 a3 b3 e3 d3)) rfl;have iO:=nG.setCell (B:=B) (by omega) (i:=7) (.int .u32 0) (.int .u32 (n4 a3 b3 e3 d3)) (by simp) hpre;have ic:=qa.other (a:=⟨B,7,none⟩) (by simp;omega) (.int .u32 (n4 a3 b3 e3 d3));have jA:=bD pY (a:=⟨B,7,none⟩) (by simp;omega) (.int .u32 (n4 a3 b3 e3 d3));have iB:=(iW w9 ⟨B,7,none⟩ (.int .u32 (n4 a3 b3 e3 d3)) N (by simp;omega)).trans rz;clear nG jB qa pY rz ff hpre c7;generalize w9.setCell _ _=w8 at jQ iO ic jA iB ⊢;rw[rounds_succ];have pc4:=aH w8 N 4 _ _ _ iB;simp only[List.getElem?_toArray,List.getElem?_cons_succ,List.getElem?_cons_zero]at pc4;go_wp2_with fail;clear pc4;refine(dI R _ _ iO).mono ?_;rintro e w9 (⟨a4,b4,e4,d4,r4,rfl,rfl,nG,fO,_⟩|⟨hshort,rfl,rfl⟩)
  case inr=>exact⟨rfl,jA,.inr ⟨fE (by rw[show dO 1 x4=20 from rfl];first|omega|(simp only[dU];omega)),rfl⟩⟩
  have rz:=(fO.block N (g_.1 iB).1 (by simp;omega)).trans iB;have jB:=jQ.grown fO (by omega);have qa:=ic.grown fO (by omega);have pY:=aA jA fO;clear iO fO jQ ic jA iB;obtain⟨_,_,_,_,c4,c5,c6,c7,c8,c9,_,_⟩:=jB.cell;dsimp only at c4 c5 c6 c7 c8 c9;have ff:=jB.free 8;have hpre:=c8;clear c4 c5 c6 c7 c9;go_wp2_with fail;have jQ:=jB.set ⟨x0,1,0,gm hu,(n4 a0 b0 e0 d0),(n4 a1 b1 e1 d1),(n4 a2 b2 e2 d2),(n4 a3 b3 e3 d3),(n4 a4 b4 e4 d4),0,none,0,0,⟨#[]⟩⟩ 8 (.int .u32 (n4 a4 b4 e4 d4)) rfl;have iO:=nG.setCell (B:=B) (by omega) (i:=8) (.int .u32 0) (.int .u32 (n4 a4 b4 e4 d4)) (by simp) hpre;have ic:=qa.other (a:=⟨B,8,none⟩) (by simp;omega) (.int .u32 (n4 a4 b4 e4 d4));have jA:=bD pY (a:=⟨B,8,none⟩) (by simp;omega) (.int .u32 (n4 a4 b4 e4 d4));have iB:=(iW w9 ⟨B,8,none⟩ (.int .u32 (n4 a4 b4 e4 d4)) N (by simp;omega)).trans rz;clear nG jB qa pY rz ff hpre c8;generalize w9.setCell _ _=w8 at jQ iO ic jA iB ⊢;rw[rounds_succ];obtain⟨v,hv,hvf,hvb,hvs⟩:=iO;have hsh:∃a c,v=.slice a r4.length c:=by
   rcases hvs with⟨rfl,h⟩|⟨_,_,_,rfl,_⟩
   ·exact⟨none,0,by rw[h];rfl⟩
   ·exact⟨_,_,rfl⟩
  obtain⟨sa,sc,rfl⟩:=hsh;clear hvs hvb hvf iB;obtain⟨c0,c1,c2,c3,c4,c5,c6,c7,c8,c9,c10,c11⟩:=jQ.cell;dsimp only at c0 c1 c2 c3 c4 c5 c6 c7 c8 c9 c10 c11;have f2:=jQ.free 2;have hBx:=jQ.set ⟨x0,1,x4,gm hu,(n4 a0 b0 e0 d0),(n4 a1 b1 e1 d1),(n4 a2 b2 e2 d2),(n4 a3 b3 e3 d3),(n4 a4 b4 e4 d4),0,none,0,0,⟨#[]⟩⟩ 2 (.int .i64 x4) rfl;have Ye:=ic.other (a:=⟨B,2,none⟩) (by simp;omega) (.int .i64 x4);have EN:=bD jA (a:=⟨B,2,none⟩) (by simp;omega) (.int .i64 x4);by_cases hrest:r4=[]
  case neg=>
   have hl0:((r4.length:Int)==0)=false:=by
    rw[beq_eq_false_iff_ne];intro h;exact hrest (qA (by omega))
   go_wp2_with(go_at_call 85;refine(eF _).mono ?_;rintro e w9 ⟨rfl,Ap⟩;rw[Ap]);have hl1:0<r4.length:=List.length_pos_iff.2 hrest;refine⟨rfl,EN,.inr ⟨?_,rfl⟩⟩;exact fE (by rw[show dO 1 x4=20 from rfl];simp only[dU];omega)
  subst hrest;have q0:=hby x0 (by simp);have q4:=hby x4 (by simp);have m0:=ul (hby a0 (by simp)) (hby b0 (by simp)) (hby e0 (by simp)) (hby d0 (by simp));have m1:=ul (hby a1 (by simp)) (hby b1 (by simp)) (hby e1 (by simp)) (hby d1 (by simp));have m2:=ul (hby a2 (by simp)) (hby b2 (by simp)) (hby e2 (by simp)) (hby d2 (by simp));have m3:=ul (hby a3 (by simp)) (hby b3 (by simp)) (hby e3 (by simp)) (hby d3 (by simp));have m4:=ul (hby a4 (by simp)) (hby b4 (by simp)) (hby e4 (by simp)) (hby d4 (by simp));have hwf:aF.Wf ⟨x0,1,x4,gm hu,(n4 a0 b0 e0 d0),(n4 a1 b1 e1 d1),(n4 a2 b2 e2 d2),(n4 a3 b3 e3 d3),(n4 a4 b4 e4 d4),0,none,0,0,⟨#[]⟩⟩:=by constructor<;>first|(dsimp only;omega)|simp[ByteArray.size]|(dsimp only;rw[strOfNums_size];omega)
  have hpk:iY x0 1 (EW hu) x4 [a0,b0,e0,d0,a1,b1,e1,d1,a2,b2,e2,d2,a3,b3,e3,d3,a4,b4,e4,d4]=⟨x0,1,x4,gm hu,(n4 a0 b0 e0 d0),(n4 a1 b1 e1 d1),(n4 a2 b2 e2 d2),(n4 a3 b3 e3 d3),(n4 a4 b4 e4 d4),0,none,0,0,⟨#[]⟩⟩:=rfl;have pV:=Am (x0:=x0) (x1:=1) (x2:=EW hu) (x4:=x4) (r:=[a0,b0,e0,d0,a1,b1,e1,d1,a2,b2,e2,d2,a3,b3,e3,d3,a4,b4,e4,d4]) (AP hu) rfl;rw[hpk]at pV;clear hby q0 q4 m0 m1 m2 m3 m4;cases hg:aF.eX ⟨x0,1,x4,gm hu,(n4 a0 b0 e0 d0),(n4 a1 b1 e1 d1),(n4 a2 b2 e2 d2),(n4 a3 b3 e3 d3),(n4 a4 b4 e4 d4),0,none,0,0,⟨#[]⟩⟩
  ·go_wp2_with(first|(go_at_call 90;refine(dN ⟨x0,1,x4,gm hu,(n4 a0 b0 e0 d0),(n4 a1 b1 e1 d1),(n4 a2 b2 e2 d2),(n4 a3 b3 e3 d3),(n4 a4 b4 e4 d4),0,none,0,0,⟨#[]⟩⟩ hwf _).mono ?_;rintro e w9 ⟨rfl,lU⟩)|(go_at_call 85;refine(eF _).mono ?_;rintro e VW ⟨rfl,Ap⟩;rw[Ap]));exact⟨rfl,fZ EN lU,.inr ⟨pV.trans hg,rfl⟩⟩
  ·go_wp2_with(first|(go_at_call 90;refine(dN ⟨x0,1,x4,gm hu,(n4 a0 b0 e0 d0),(n4 a1 b1 e1 d1),(n4 a2 b2 e2 d2),(n4 a3 b3 e3 d3),(n4 a4 b4 e4 d4),0,none,0,0,⟨#[]⟩⟩ hwf _).mono ?_;rintro e w9 ⟨rfl,lU⟩;have Nb:=hBx.below lU;have zi:=Ye.below lU;obtain⟨y0,y1,y2,y3,y4,y5,y6,y7,y8,y9,uL,uK⟩:=Nb.cell;obtain⟨k0,k1,k2,k3,k4,k5,k6,k7,k8,k9,k10,k11⟩:=zi.cell;have kf:=zi.free;dsimp only at y0 y1 y2 y3 y4 y5 y6 y7 y8 y9 uL uK;dsimp only[aF.zero]at k0 k1 k2 k3 k4 k5 k6 k7 k8 k9 k10 k11)|(go_at_call 85;refine(require_ok _).mono ?_;rintro e w9 ⟨rfl,rfl⟩));have p_:=zi.storeAll ⟨x0,1,x4,gm hu,(n4 a0 b0 e0 d0),(n4 a1 b1 e1 d1),(n4 a2 b2 e2 d2),(n4 a3 b3 e3 d3),(n4 a4 b4 e4 d4),0,none,0,0,⟨#[]⟩⟩;have EO:=lV (fZ EN lU) (C:=W.heap.size) (aD _) ⟨x0,1,x4,gm hu,(n4 a0 b0 e0 d0),(n4 a1 b1 e1 d1),(n4 a2 b2 e2 d2),(n4 a3 b3 e3 d3),(n4 a4 b4 e4 d4),0,none,0,0,⟨#[]⟩⟩;clear y0 y1 y2 y3 y4 y5 y6 y7 y8 y9 uL uK k0 k1 k2 k3 k4 k5 k6 k7 k8 k9 k10 k11 kf Nb zi;dsimp only[dF]at p_ EO;generalize World.setCell _ _ _=wF at p_ EO ⊢;obtain⟨y0,y1,y2,y3,y4,y5,y6,y7,y8,y9,uL,uK⟩:=p_.cell;dsimp only at y0 y1 y2 y3 y4 y5 y6 y7 y8 y9 uL uK;refine bodyPost_ret (v:=aF.val ⟨x0,1,x4,gm hu,(n4 a0 b0 e0 d0),(n4 a1 b1 e1 d1),(n4 a2 b2 e2 d2),(n4 a3 b3 e3 d3),(n4 a4 b4 e4 d4),0,none,0,0,⟨#[]⟩⟩) (by simp[results,Tryz.results56,go_sem,y0,y1,y2,y3,y4,y5,y6,y7,y8,y9,uL,uK]) rfl ?_;exact⟨EO,.inl ⟨pV.trans hg,_,rfl,_,_,_,_,_,_,none,0,rfl,rfl,rfl,λj hj=>absurd hj (by simp[nD]),λb hb=>by cases hb⟩⟩
end Go.Proofs.YtakaadcpaeiccabGreat
