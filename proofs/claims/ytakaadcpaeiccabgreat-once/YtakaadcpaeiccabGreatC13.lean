import Derived.Test.YtakaadcpaeiccabGreatC12
set_option maxHeartbeats 8000000
set_option maxRecDepth 100000
namespace Go.Proofs.YtakaadcpaeiccabGreat
open Go.RowKit Go.Maps
variable{d:Int}{f h:Int->Option Nat}{u:Int->Value}{Q:List Sr}{B M Ms s:Nat}{q:Sr}{fn v:Value}{W W':World}
theorem Me(w:World):(zeroValue 172).run Tryz.prog w=.ok (.pointer none) w:=by kernel_rfl
theorem fH.obj(h:fH W M f s):∃es cl,W.heap[M]?=some (.map es cl):=by
 obtain⟨D,⟨es,cl,hm,_⟩,_⟩:=h;exact⟨es,cl,hm⟩
theorem fH.puts(h:fH W M f s)(hs:s<maxLen){k:Int}(hk:a_ k)(B:Nat):
  ∃W',(Instr.mapUpdate 119 (.map (some M)) (.int .u32 k) (.pointer (some ⟨B,0,none⟩))).run Tryz.prog W=.ok () W'∧fH W' M (fA f k (some B)) (if (f k).isSome then s else s+1)∧W.grownBy W' (some M):=by
 obtain⟨D,h1,h2,h3⟩:=h;obtain⟨W',hr,ho,ht⟩:=h1.store gy Tryz.underlying119 hs hk.key (pF (some B));have hm:=h1.isMap;have htd:=h1.tidy gy;have hkl:WideAt.IsKeyLit (.int .u32 k):=by trivial
 have hsz:Maps.size (D.put (.int .u32 k) (.lit (.int .i64 (lN (some B)))))=if (f k).isSome then s else s+1:=by
  rw[size_put htd,(h3 k hk).1,h2]
 refine⟨W',hr,⟨_,?_,hsz,λx hx=> ?_⟩,ht.grown⟩
 ·have:=fV ho;rw[hsz]at this;exact this
 ·by_cases e:x=k
  ·subst e;refine⟨by rw[has_put_same hm hkl];simp[fA],?_⟩;rw[atKey_put_same hm hkl];simp[fA]
  ·have hne:(Lit.int .u32 x)≠ .int .u32 k:=λh=>e (by cases h;rfl);refine⟨by rw[has_put_other hne];simp[fA,e,(h3 x hx).1],?_⟩;rw[atKey_put_other hne,(h3 x hx).2];simp[fA,e]
theorem fH.looks(h:fH W M f s){k:Int}(hk:a_ k):
  (Instr.lookup 119 (.map (some M)) (.int .u32 k) false).run Tryz.prog W=.ok (gH (f k)) W:=by
 obtain⟨D,h1,h2,h3⟩:=h;obtain⟨v,ps,hr,hv⟩:=h1.lookup gy Tryz.underlying119 (Me W) (pF none) hk.key;have h4:=(h3 k hk).2;simp only[lN]at hv h4;rw[h4]at hv;rw[hr,vD (o:=f k) hv]
theorem fH.Iu(h:fH W M f s){k:Int}(hk:a_ k):
  (Instr.lookup 119 (.map (some M)) (.int .u32 k) true).run Tryz.prog W=.ok (.tuple #[gH (f k),.bool (f k).isSome]) W:=by
 obtain⟨D,h1,h2,h3⟩:=h;obtain⟨v,ps,hr,hv⟩:=h1.look_ok gy Tryz.underlying119 (Me W) (pF none) hk.key;have h4:=(h3 k hk).2;simp only[lN]at hv h4;rw[h4]at hv;rw[hr,vD (o:=f k) hv,(h3 k hk).1]
theorem fH.af4(h:fH W M f s){k:Int}(hk:a_ k)(ty:TypeId)(hf:(f k).isSome=true):
  ∃W',(Builtin.delete_ #[119,34] ty #[.map (some M),.int .u32 k]).run Tryz.prog W=.ok (.tuple #[]) W'∧fH W' M (fA f k none) (s - 1)∧W.grownBy W' (some M):=by
 obtain⟨D,h1,h2,h3⟩:=h;obtain⟨W',hr,ho,ht⟩:=h1.drop gy Tryz.underlying119 hk.key ty;have htd:=h1.tidy gy;have hsz:Maps.size (D.del (.int .u32 k))=s - 1:=by
  have:=size_del (k:=.int .u32 k) htd;rw[(h3 k hk).1,hf,h2]at this;simp at this;omega
 refine⟨W',hr,⟨_,?_,hsz,λx hx=> ?_⟩,ht.grown⟩
 ·have:=fV ho;rw[hsz]at this;exact this
 ·by_cases e:x=k
  ·subst e;refine⟨by rw[has_del_same];simp[fA],?_⟩;rw[atKey_del_same];simp[fA,lN]
  ·have hne:(Lit.int .u32 x)≠ .int .u32 k:=λh=>e (by cases h;rfl);refine⟨by rw[has_del_other hne];simp[fA,e,(h3 x hx).1],?_⟩;rw[atKey_del_other hne,(h3 x hx).2];simp[fA,e]
def Er(out:Bool)(B:Nat):Value:=.func (.func (if out then 124 else 83)) #[.pointer (some ⟨B,0,none⟩)] #[]
@[reducible] def Mw(q : Sr)(v fn : Value): Obj := .cells #[.int .u32 q.dest, v, .int .i64 q.ttl, .int .i64 q.ret, .int .i64 q.id, fn] 177
def sK(B:Nat)(q:Sr)(v fn:Value)(W:World):Prop:=W.heap[B]?=some (Mw q v fn)
theorem sK.cell(h:sK B q v fn W):
  W.cell? ⟨B,0,none⟩=some (.int .u32 q.dest)∧W.cell? ⟨B,1,none⟩=some v∧W.cell? ⟨B,2,none⟩=some (.int .i64 q.ttl)∧W.cell? ⟨B,3,none⟩=some (.int .i64 q.ret)∧W.cell? ⟨B,4,none⟩=some (.int .i64 q.id)∧W.cell? ⟨B,5,none⟩=some fn:=
 ⟨aG W B 0 _ _ _ h,aG W B 1 _ _ _ h,aG W B 2 _ _ _ h,aG W B 3 _ _ _ h,aG W B 4 _ _ _ h,aG W B 5 _ _ _ h⟩
theorem sK.free(h:sK B q v fn W)(i:Nat):W.frozen? ⟨B,i,none⟩=false:=by
 unfold World.frozen?;rw[show W.heap[(⟨B,i,none⟩:Addr).block]?=some (Mw q v fn)from h];try rfl
theorem sK.lt(h:sK B q v fn W):B<W.heap.size:=(iC.1 h).1
theorem sK.block(h:sK B q v fn W)(he:W'.heap[B]?=W.heap[B]?):sK B q v fn W':=he.trans h
def qG(B:Nat)(q:Sr)(v:Value)(W:World):Prop:=∃fn,sK B q v fn W∧(q.id≠0->fn=Er q.out B)
theorem qG.cell(h:qG B q v W):
  W.cell? ⟨B,0,none⟩=some (.int .u32 q.dest)∧W.cell? ⟨B,1,none⟩=some v∧W.cell? ⟨B,2,none⟩=some (.int .i64 q.ttl)∧W.cell? ⟨B,3,none⟩=some (.int .i64 q.ret)∧W.cell? ⟨B,4,none⟩=some (.int .i64 q.id):=by
 obtain⟨fn,h1,_⟩:=h;obtain⟨c0,c1,c2,c3,c4,_⟩:=h1.cell;exact⟨c0,c1,c2,c3,c4⟩
theorem qG.lt(h:qG B q v W):B<W.heap.size:=by
 obtain⟨fn,h1,_⟩:=h;exact h1.lt
theorem qG.block(h:qG B q v W)(he:W'.heap[B]?=W.heap[B]?):qG B q v W':=by
 obtain⟨fn,h1,h2⟩:=h;exact⟨fn,h1.block he,h2⟩
theorem qG.obj(h:qG B q v W):∃c,W.heap[B]?=some (.cells c 177 (0,0)):=by
 obtain⟨fn,h1,_⟩:=h;exact⟨_,h1⟩
structure Sr.Ok(q:Sr):Prop where
 dest:a_ q.dest
 ttl:1<=q.ttl∧q.ttl<=8
 ret:q.ret<=2
 txt:q.txt.length<=4
 JS:∀t∈q.txt,t.size<=16
 id:0<=q.id∧q.id<=4611686018427387904
def JB(Ms:Nat)(h:Int->Option Nat)(u:Int->Value)(Q:List Sr)(k:Nat):Prop:=
 k=Ms∨∃q∈Q,h q.dest=some k∨(u q.dest).ownBlock=some k
structure yh(Ms:Nat)(h:Int->Option Nat)(u:Int->Value)(Q:List Sr)(W:World):Prop where
 map:fH W Ms h Q.length
 qY:Q.Pairwise λa b=>a.dest≠b.dest
 ok:∀q∈Q,q.Ok
 dom:∀d B,a_ d->h d=some B->∃q∈Q,q.dest=d
 ln:∀q∈Q,∃B,h q.dest=some B∧qG B q (u q.dest) W
 row:∀q∈Q,W.ownsRow 0 9 1 (u q.dest) q.txt.length (q.txt.map Value.string)
 apart:∀a∈Q,∀b∈Q,a.dest≠b.dest->(u a.dest).ownBlock=none∨(u a.dest).ownBlock≠(u b.dest).ownBlock
 len:Q.length<=5000
theorem yh.kept(s:yh Ms h u Q W)(he:∀k,JB Ms h u Q k->W'.heap[k]?=W.heap[k]?):yh Ms h u Q W':=by
 refine⟨s.map.block (he _ (.inl rfl)),s.qY,s.ok,s.dom,λq hq=> ?_,λq hq=> ?_,s.apart,s.len⟩
 ·obtain⟨B,h1,h2⟩:=s.ln q hq;exact⟨B,h1,h2.block (he B (.inr ⟨q,hq,.inl h1⟩))⟩
 ·exact bP (s.row q hq) λk hk=>he k (.inr ⟨q,hq,.inr hk⟩)
theorem yh.lt(s:yh Ms h u Q W){k:Nat}(hk:JB Ms h u Q k):k<W.heap.size:=by
 rcases hk with rfl|⟨q,hq,hk|hk⟩
 ·exact s.map.lt
 ·obtain⟨B,h1,h2⟩:=s.ln q hq;rw[h1]at hk;cases hk;exact h2.lt
 ·exact((s.row q hq).lt k hk).2
theorem yh.kind(s:yh Ms h u Q W){k:Nat}(hk:JB Ms h u Q k):∃o,W.heap[k]?=some o∧((k=Ms∧∃es cl,o=.map es cl)∨(∃c,o=.cells c 177 (0,0))∨∃c,o=.cells c 9 (0,0)):=by
 rcases hk with rfl|⟨q,hq,hk|hk⟩
 ·obtain⟨es,cl,hm⟩:=s.map.obj;exact⟨_,hm,.inl ⟨rfl,_,_,rfl⟩⟩
 ·obtain⟨B,h1,h2⟩:=s.ln q hq;rw[h1]at hk;cases hk;obtain⟨c,hc⟩:=h2.obj;exact⟨_,hc,.inr (.inl ⟨_,rfl⟩)⟩
 ·obtain⟨c,hc⟩:=aS (s.row q hq) hk;exact⟨_,hc,.inr (.inr ⟨_,rfl⟩)⟩
theorem gZ(h:St.j6 Q d=some q):q∈Q∧q.dest=d:=by
 unfold St.j6 at h;exact⟨List.mem_of_find?_eq_some h,by simpa using List.find?_some h⟩
theorem wZ:St.j6 Q d=none ↔ ∀q∈Q,q.dest≠d:=by
 unfold St.j6;simp
theorem yh.off(s:yh Ms h u Q W){d:Int}(hd:a_ d)(hn:St.j6 Q d=none):h d=none:=by
 cases e:h d with
 |none=>rfl
 |some B=>
  obtain⟨q,hq,Nu⟩:=s.dom d B hd e;exact absurd Nu (wZ.1 hn q hq)
theorem yh.at(s:yh Ms h u Q W){d:Int}{q:Sr}(hn:St.j6 Q d=some q):q∈Q∧q.dest=d∧∃B,h d=some B∧qG B q (u d) W∧W.ownsRow 0 9 1 (u d) q.txt.length (q.txt.map Value.string):=by
 obtain⟨hq,rfl⟩:=gZ hn;obtain⟨B,h1,h2⟩:=s.ln q hq;exact⟨hq,rfl,B,h1,h2,s.row q hq⟩
variable{xs:List Int}
theorem Ie(xs:List Int)(k:Nat){a b c d:Int}{ys:List Int}(h:xs.drop (4 * k)=a::b::c::d::ys):num xs k=n4 a b c d:=by
 have g:∀i x,(a::b::c::d::ys)[i]?=some x->xs.getD (4 * k+i) 0=x:=by
  intro i x hx;rw[<-h,List.getElem?_drop]at hx;simp[List.getD,hx]
 unfold num;rw[show 4 * k=4 * k+0 from rfl,g 0 a rfl,g 1 b rfl,g 2 c rfl,g 3 d rfl]
theorem OY(k:Nat)(xs:List Int):qA (k+1) xs=qA k xs++ [(num xs (2 * k),num xs (2 * k+1))]:=by
 simp[qA,List.range_succ]
theorem QU(a b:List (Int×Int)):LC (a++b)=LC a++LC b:=by simp[LC]
theorem iq(k:Nat)(xs:List Int):(qA k xs).length=k:=by simp[qA]
theorem Xc(A:List Value)(u v x y:Value)(T:List Value):((A++u::v::T).set A.length x).set (A.length+1) y=A++ [x,y]++T:=by
 simp[List.set_append_right]
theorem Tf(m:Nat):∀v∈(madeCells #[Value.int .u32 0,Value.int .u32 0] m).toList,∃z,v=.int .u32 z:=by
 intro v hv;simp only[madeCells,Array.toList_map,dh]at hv;obtain⟨i,_,rfl⟩:=hv;rcases Nat.mod_two_eq_zero_or_one i with h|h<;>simp[h]
def aev(R n:Nat)(xs:List Int)(W:World)(e:Ending)(w':World):Prop:=
 W.grownBy w' (some R)∧((8 * n<=xs.length∧(∃g,W.heap.size<=g∧e=.returned (.slice (some ⟨g,0,none⟩) n n)∧bE w' (some ⟨g,0,none⟩) (qA n xs))∧Rd R (xs.drop (8 * n)) w')∨(xs.length<8 * n∧e=.panicked broken))
theorem bE.ZA{W:World}{base g n cap:Nat}{L:List (Int×Int)}(h:W.ownsRow base 237 2 (.slice (some ⟨g,0,none⟩) n cap) n (LC L))(hb:∀x∈L,0<=x.1∧x.1<4294967296∧0<=x.2∧x.2<4294967296):bE W (some ⟨g,0,none⟩) L:=by
 have hl:=h.1;rw[j4]at hl;have hlt:g<W.heap.size:=by
  rcases h.2 with⟨hh,_⟩|⟨g',_,_,hh,_,hg,_⟩
  ·simp at hh
  ·simp only[Value.slice.injEq,Option.some.injEq,Addr.mk.injEq,and_true]at hh;obtain⟨rfl,_⟩:=hh;exact(iC.1 hg).1
 intro j hj;have hx:=hb _ (List.getElem_mem hj);have hg:=acN L j;rw[cK hj]at hg;refine⟨g,0,L[j].1,L[j].2,rfl,hlt,cK hj,hx.1,hx.2.1,hx.2.2.1,hx.2.2.2,?_,?_⟩
 ·rw[Nat.zero_add,h.cellAt (j * 2) (by omega),hg.1];rfl
 ·rw[Nat.zero_add,h.cellAt (j * 2+1) (by omega),hg.2];rfl
theorem M6(h:∀x∈xs,0<=x∧x<=255)(i:Nat):0<=num xs i∧num xs i<4294967296:=by
 have g:∀j,0<=xs.getD j 0∧xs.getD j 0<=255:=by
  intro j;rcases Nat.lt_or_ge j xs.length with hj|hj
  ·have:=h _ (List.getElem_mem hj);simpa[List.getD,List.getElem?_eq_getElem hj]using this
  ·simp[List.getD,List.getElem?_eq_none hj]
 exact uw (g _) (g _) (g _) (g _)
theorem aaG(h:∀x∈xs,0<=x∧x<=255)(n:Nat):∀x∈qA n xs,0<=x.1∧x.1<4294967296∧0<=x.2∧x.2<4294967296:=by
 intro x hx;simp only[qA,dh]at hx;obtain⟨i,_,rfl⟩:=hx;have a:=M6 h (2 * i);have b:=M6 h (2 * i+1);exact⟨a.1,a.2,b.1,b.2⟩
theorem Tj(R n:Nat)(hn:n<=255)(xs:List Int)(W:World)(h:Rd R xs W):
  Calls Tryz.prog 88 #[.pointer (some ⟨R,0,none⟩),.int .i64 n] W λe w'=>aev R n xs W e w':=by
 obtain⟨i0,hi,hz0,hz1,hz2⟩:=info_parts Py;have hR:=h.lt;have hby:=h.bytes;go_enter Tryz.func88,Tryz.ntmps88;go_wp2_with(at_make;refine wpList_make_full _ rfl _ _ 71 rfl W.heap.size 237 i0 (.agg #[.int .u32 0,.int .u32 0]) 2 Tryz.underlying71 hi hz0 hz1 .i64 .i64 n n n rfl rfl rfl rfl ?c1 ?c2 ?c3 ?_)
 case c1=>rw[hz2];omega
 case c2=>unfold maxLen;omega
 case c3=>exact aB _
 intro w1 hown hg1;have hb1:Below W.heap.size W w1:=⟨hg1.os,hg1.tape,hg1.output,hg1.size,λk hk=>hg1.block k hk (by simp)⟩;have hr1:=h.kept hb1;have hG1:W.grownBy w1 (some R):=⟨hg1.os,hg1.tape,hg1.output,hg1.size,λk hk _=>hg1.block k hk (by simp)⟩;have hT:∀v∈(madeCells #[Value.int .u32 0,Value.int .u32 0] (n * 2)).toList,∃z,v=.int .u32 z:=Tf _;generalize (madeCells #[Value.int .u32 0,Value.int .u32 0] (n * 2)).toList=T0 at hown hT;generalize hG:W.heap.size=G at hown ⊢;clear hg1 hb1 h hi hz0 hz1 hz2;go_wp2_with fail;go_loopw [11] (λi wr=>∃(k:Nat) (T:List Value),k<=n∧i=.int .i64 k∧8 * k<=xs.length∧Rd R (xs.drop (8 * k)) wr∧wr.ownsRow G 237 2 (.slice (some ⟨G,0,none⟩) n n) n (LC (qA k xs)++T)∧W.grownBy wr (some R)∧(∀v∈T,∃z,v=.int .u32 z)) (λi _=>n - (intOf i).toNat)
 case atStart=>exact⟨0,T0,b_ _,rfl,b_ _,hr1,hown,hG1,hT⟩
 case round=>
  clear hr1 hown hG1 hT;obtain⟨k,T,hk,rfl,h8,hr,ho,hg,hT⟩:=hrel;by_cases hlt:k<n
  ·go_wp2_with fail;refine(dI R _ _ hr).mono ?_;rintro e w2 (⟨a,b,c,d,ys,hd1,rfl,hr2,hg2,_⟩|⟨hs,rfl,rfl⟩)
   case inr=>
    rw[List.length_drop]at hs;exact⟨rfl,hg,.inr ⟨by omega,rfl⟩⟩
   have ho2:=ho.kept hg2 (by right;simp[Value.ownBlock];omega);have hG2:=ax hg hg2;clear hr hg2 ho hg;go_wp2_with fail;refine(dI R _ _ hr2).mono ?_;rintro e w3 (⟨a',b',c',d',zs,rfl,rfl,hr3,hg3,_⟩|⟨hs,rfl,rfl⟩)
   case inr=>
    have:=congrArg List.length hd1;simp only[List.length_drop,dY]at this;exact⟨rfl,hG2,.inr ⟨by omega,rfl⟩⟩
   have ho3:=ho2.kept hg3 (by right;simp[Value.ownBlock];omega);have hG3:=ax hG2 hg3;clear hr2 hg3 ho2 hG2;have hl3:=ho3.1;rw[dx,j4,iq]at hl3;obtain⟨u,v,T',rfl⟩:∃u v T',T=u::v::T':=by
    match T,hl3 with
    | [],h=>simp at h;omega
    | [_],h=>simp at h;omega
    |u::v::T',_=>exact⟨u,v,T',rfl⟩
   obtain⟨z0,rfl⟩:=hT u (by simp);obtain⟨z1,rfl⟩:=hT v (by simp);have hT':∀v∈T',∃z,v=.int .u32 z:=λv hv=>hT v (by simp[hv]);have c0:w3.cell? ⟨G,k * 2,none⟩=some (.int .u32 z0):=by
    rw[ho3.cellAt (k * 2) (by omega),List.getElem?_append_right (by rw[j4,iq];omega),j4,iq];simp
   have c1:w3.cell? ⟨G,k * 2+1,none⟩=some (.int .u32 z1):=by
    rw[ho3.cellAt (k * 2+1) (by omega),List.getElem?_append_right (by rw[j4,iq];omega),j4,iq];simp
   have f0:=ho3.frozenAt (k * 2);have f1:=ho3.frozenAt (k * 2+1);have hkn:(k:Int)<(n:Int):=by omega
   clear hT;have n0:num xs (2 * k)=n4 a b c d:=Ie xs (2 * k) (by rw[show 4 * (2 * k)=8 * k by omega];exact hd1);have n1:num xs (2 * k+1)=n4 a' b' c' d':=Ie xs (2 * k+1) (ys:=zs) (by
    rw[show 4 * (2 * k+1)=8 * k+4 by omega,<-List.drop_drop,hd1];rfl)
   have hdr:xs.drop (8 * (k+1))=zs:=by
    rw[show 8 * (k+1)=8 * k+8 by omega,<-List.drop_drop,hd1];rfl
   have hle:8 * (k+1)<=xs.length:=by
    have:=congrArg List.length hd1;simp only[List.length_drop,dY]at this;omega
   have hlc:LC (qA (k+1) xs)=LC (qA k xs)++ [.int .u32 (n4 a b c d),.int .u32 (n4 a' b' c' d')]:=by
    rw[OY,QU,n0,n1];rfl
   have hst:=(ho3.stored (k * 2) (.int .u32 (n4 a b c d))).1.stored (k * 2+1) (.int .u32 (n4 a' b' c' d'));have hset:=Xc (LC (qA k xs)) (.int .u32 z0) (.int .u32 z1) (.int .u32 (n4 a b c d)) (.int .u32 (n4 a' b' c' d')) T';rw[j4,iq]at hset;rw[hset]at hst;have hst':=hst.1;rw[<-hlc]at hst';have hrA:=hr3.setCell (B:=G) (by omega) (i:=k * 2) (.int .u32 z0) (.int .u32 (n4 a b c d)) (by simp) c0;have c1':(w3.setCell ⟨G,k * 2,none⟩ (.int .u32 (n4 a b c d))).cell? ⟨G,k * 2+1,none⟩=some (.int .u32 z1):=by
    rw[World.cell?_setCell_other _ _ _ _ (by simp)];exact c1
   have hrB:=hrA.setCell (B:=G) (by omega) (i:=k * 2+1) (.int .u32 z1) (.int .u32 (n4 a' b' c' d')) (by simp) c1';have hgB:=bA (bA hG3 (a:=⟨G,k * 2,none⟩) (by simp;omega) (.int .u32 (n4 a b c d))) (a:=⟨G,k * 2+1,none⟩) (by simp;omega) (.int .u32 (n4 a' b' c' d'));rw[<-hdr]at hrB;clear n0 n1 hdr hlc hst hset hd1 hl3 c1' hrA hr3 hG3 ho3;go_wp2;go_roundw
   case rel=>exact⟨k+1,T',by omega,by go_num,hle,hrB,hst',hgB,hT'⟩
   case measure=>simp[intOf];omega
  ·obtain rfl:k=n:=by omega
   clear hk hlt;have hl3:=ho.1;rw[dx,j4,iq]at hl3;obtain rfl:T=[]:=qz (by omega);rw[gU]at ho;clear hl3 hT;go_wp2;go_ret;exact⟨hg,.inl ⟨h8,⟨G,Nat.le_of_eq hG,rfl,bE.ZA ho (aaG hby k)⟩,hr⟩⟩
variable{L:List (Int×Int)}{W:World}
theorem bE.far{g:Nat}(h:bE W (some ⟨g,0,none⟩) L){a:Addr}(ha:a.block≠g)(v:Value):bE (W.setCell a v) (some ⟨g,0,none⟩) L:=by
 intro j hj;obtain⟨lb,lo,d,s,h1,h2,h3,h4,h5,h6,h7,h8,h9⟩:=h j hj;have e:=h1;simp only[Option.some.injEq,Addr.mk.injEq,and_true]at e;obtain⟨rfl,rfl⟩:=e;exact⟨g,0,d,s,rfl,by simpa using h2,h3,h4,h5,h6,h7,(nI W a _ v (λe=>ha e.symm)).trans h8,(nI W a _ v (λe=>ha e.symm)).trans h9⟩
theorem bE.dD{g C:Nat}(h:bE W (some ⟨g,0,none⟩) L)(hC:C≠g)(p:aD):bE (dD W C p) (some ⟨g,0,none⟩) L:=
 bE.far (bE.far (bE.far (bE.far (bE.far (bE.far (bE.far (bE.far (bE.far (bE.far (bE.far (bE.far h (a:=⟨C,0,none⟩) hC _) (a:=⟨C,1,none⟩) hC _) (a:=⟨C,2,none⟩) hC _) (a:=⟨C,3,none⟩) hC _) (a:=⟨C,4,none⟩) hC _) (a:=⟨C,5,none⟩) hC _) (a:=⟨C,6,none⟩) hC _) (a:=⟨C,7,none⟩) hC _) (a:=⟨C,8,none⟩) hC _) (a:=⟨C,9,none⟩) hC _) (a:=⟨C,10,none⟩) hC _) (a:=⟨C,11,none⟩) hC _
theorem zI(C E:Nat)(hCE:C≠E)(z:aD)(x:Int)(u:TypeId)(pv:Value)(older:List PanicEntry)(w:World)(hC:PB z C w)(hE:w.heap[E]?=some (.cells #[.int .i64 x] 47 (0,0))):
  CallsD Tryz.prog 55 #[.pointer (some ⟨C,0,none⟩),.pointer (some ⟨E,0,none⟩)] (.panicking ({v:=.iface u pv,recovered:=false}::older)) w λe u' w'=>
   e=.returned (.tuple #[])∧u'=.panicking ({v:=.iface u pv,recovered:=true}::older)∧w'=(dD w C aD.zero).setCell ⟨E,0,none⟩ (.int .i64 1):=by
 obtain⟨k0,k1,k2,k3,k4,k5,k6,k7,k8,k9,k10,k11⟩:=hC.cell;have kf:=hC.free;have e0:w.cell? ⟨E,0,none⟩=some (.int .i64 x):=aG w E 0 _ _ _ hE;have ef:w.frozen? ⟨E,0,none⟩=false:=lW w E 0 _ _ hE;refine callsD_of_wpS Tryz.func55 rfl λc₀ cs hu=> ?_;apply wpS_seq;apply wpS_region;simp[wpOpsS,go_sem,recoverD,hu,Tryz.ntmps55,Exit.thenS];refine wpS_cond (t:=true) (by simp[Act.eval,Array.replicate]) ?_;simp only[if_true];apply wpS_region;simp[wpOpsS,go_sem,k0,k1,k2,k3,k4,k5,k6,k7,k8,k9,k10,k11,kf,e0,ef,bodyPostS,results,Tryz.results55];rfl
theorem Lf(a b:Addr)(w:World):
  CallsD Tryz.prog 55 #[.pointer (some a),.pointer (some b)] .returning w λe u' w'=>e=.returned (.tuple #[])∧u'=.returning∧w'=w:=by
 refine callsD_of_wpS Tryz.func55 rfl λc₀ cs hu=> ?_;apply wpS_seq;apply wpS_region;simp[wpOpsS,go_sem,recoverD,hu,Tryz.ntmps55,Exit.thenS];refine wpS_cond (t:=false) (by simp[Act.eval,Array.replicate]) ?_;simp only[Bool.false_eq_true,if_false];refine wpS_of_wp (wp_skip ?_);cases c₀
 simp_all [bodyPostS,results,Tryz.results55]
variable{L:List (Int×Int)}{C N:Nat}{ao:Option Addr}{W:World}
def z_(xs:List Int)(W:World)(e:Ending)(w':World):Prop:=
 Below W.heap.size W w'∧((qB xs=true∧∃v,e=.returned (.tuple #[v,.int .i64 0])∧Reads xs v w' W.heap.size)∨(qB xs=false∧e=.returned (.tuple #[aD.zero.val,.int .i64 1])))
theorem bE.xU(h:bE W ao L)(hf:∀b,ao=some b->N<=b.block){a:Addr}(ha:a.block<N)(v:Value):bE (W.setCell a v) ao L:=by
 intro j hj;obtain⟨lb,lo,d,s,h1,h2,h3,h4,h5,h6,h7,h8,h9⟩:=h j hj;have hb:=hf _ h1;have hne:lb≠a.block:=by have:N<=lb:=hb;omega
 exact⟨lb,lo,d,s,h1,by simpa using h2,h3,h4,h5,h6,h7,(nI W a _ v hne).trans h8,(nI W a _ v hne).trans h9⟩
theorem Eo(h:bE W ao L)(hf:∀b,ao=some b->N<=b.block)(hC:C<N)(p:aD):bE (dD W C p) ao L:=
 bE.xU (bE.xU (bE.xU (bE.xU (bE.xU (bE.xU (bE.xU (bE.xU (bE.xU (bE.xU (bE.xU (bE.xU h hf (a:=⟨C,0,none⟩) hC _) hf (a:=⟨C,1,none⟩) hC _) hf (a:=⟨C,2,none⟩) hC _) hf (a:=⟨C,3,none⟩) hC _) hf (a:=⟨C,4,none⟩) hC _) hf (a:=⟨C,5,none⟩) hC _) hf (a:=⟨C,6,none⟩) hC _) hf (a:=⟨C,7,none⟩) hC _) hf (a:=⟨C,8,none⟩) hC _) hf (a:=⟨C,9,none⟩) hC _) hf (a:=⟨C,10,none⟩) hC _) hf (a:=⟨C,11,none⟩) hC _
theorem wo{A B:World}(h:Below N A B)(hC:N<=C)(p:aD):Below N A (dD B C p):=
 ((((((((((((((((((((((((h).setCell (p:=⟨C,0,none⟩) hC _)).setCell (p:=⟨C,1,none⟩) hC _)).setCell (p:=⟨C,2,none⟩) hC _)).setCell (p:=⟨C,3,none⟩) hC _)).setCell (p:=⟨C,4,none⟩) hC _)).setCell (p:=⟨C,5,none⟩) hC _)).setCell (p:=⟨C,6,none⟩) hC _)).setCell (p:=⟨C,7,none⟩) hC _)).setCell (p:=⟨C,8,none⟩) hC _)).setCell (p:=⟨C,9,none⟩) hC _)).setCell (p:=⟨C,10,none⟩) hC _)).setCell (p:=⟨C,11,none⟩) hC _)
theorem Dn(W:World){C:Nat}(p:aD){k:Nat}(hk:k≠C):(dD W C p).heap[k]?=W.heap[k]?:=by
 have f:=λ(w:World) (i:Nat) (v:Value)=>kS w ⟨C,i,none⟩ v k hk;simp only[dD,f]
theorem Q0(hpk:∀(R:Nat) (xs:List Int) (W:World),Rd R xs W->Calls Tryz.prog 56 #[.pointer (some ⟨R,0,none⟩)] W λe w'=>jO R xs W e w')
  (v:Value) (xs:List Int) (W:World) (hv:fe W v xs):
  Calls Tryz.prog 22 #[v] W λe w'=>z_ xs W e w':=by
 have hmf:∀(fn:Fn) (first cap:Array Value) (w:World),(Instr.makeFunc fn first cap).run Tryz.prog w=.ok (.func fn first cap) w:=λ_ _ _ _=>rfl;obtain⟨a,n,c,rfl⟩:∃a n c,v=.slice a n c:=by
  rcases hv.2 with⟨rfl,_⟩|⟨_,_,_,rfl,_⟩
  ·exact⟨_,_,_,rfl⟩
  ·exact⟨_,_,_,rfl⟩
 go_enter_defers Tryz.func22,Tryz.ntmps22
 go_wp2_with fail;have hb3:Below W.heap.size W (((W.alloc aD.zero.box).alloc (.cells #[.int .i64 0] 47)).alloc (.cells #[.slice a n c] 141)):=
  (((aU W.heap.size W).alloc (aB _) _).alloc (by simp) _).alloc (by simp;omega) _
 have hC:PB aD.zero W.heap.size (((W.alloc aD.zero.box).alloc (.cells #[.int .i64 0] 47)).alloc (.cells #[.slice a n c] 141)):=((PB.new aD.zero W).alloc _).alloc _;have hE:(((W.alloc aD.zero.box).alloc (.cells #[.int .i64 0] 47)).alloc (.cells #[.slice a n c] 141)).heap[W.heap.size+1]?=some (.cells #[.int .i64 0] 47 (0,0)):=by
  rw[Below.heap_alloc _ _ _ (by simp)];have:=bS (W.alloc aD.zero.box) (.cells #[.int .i64 0] 47)
  rwa [World.size_alloc]at this
 have hRh:(((W.alloc aD.zero.box).alloc (.cells #[.int .i64 0] 47)).alloc (.cells #[.slice a n c] 141)).heap[W.heap.size+1+1]?=some (.cells #[.slice a n c] 141 (0,0)):=by
  have:=bS ((W.alloc aD.zero.box).alloc (.cells #[.int .i64 0] 47)) (.cells #[.slice a n c] 141)
  rwa [World.size_alloc,World.size_alloc]at this
 have hrd:Rd (W.heap.size+1+1) xs (((W.alloc aD.zero.box).alloc (.cells #[.int .i64 0] 47)).alloc (.cells #[.slice a n c] 141)):=
  ⟨_,aG _ _ 0 _ _ _ hRh,lW _ _ 0 _ _ hRh,hv.kept hb3⟩
 dsimp only[aD.box,aD.zero]at hb3 hC hE hrd;generalize World.alloc _ _=W3 at hb3 hC hE hrd ⊢;clear hRh hv;have CR:=hrd.lt;refine(hpk _ xs _ hrd).mono ?_;rintro e w1 ⟨hg,⟨hF,pv,rfl,hRd⟩|⟨hF,rfl⟩⟩
 ·obtain⟨x0,x1,x2,x3,x4,r,ao,c',hxs,hpv,hlen,hA,hfr⟩:=hRd;obtain⟨q,hq⟩:∃q:aD,q={iY x0 x1 x2 x4 r with la:=ao,lc:=c'}:=⟨_,rfl⟩;rw[<-hq]at hpv;subst hpv;have hq':=(show Hid _ from hq);clear hq;have rG:=hC.grown hg (by omega);have hE1:=(hg.block (W.heap.size+1) (iC.1 hE).1 (by simp)).trans hE;have hB1:Below W.heap.size W w1:=hb3.trans ⟨hg.os,hg.tape,hg.output,hg.size,λk hk=>hg.block k (by omega) (by simp;omega)⟩;have hF1:=rG.storeAll q;have hB2:Below W.heap.size W ((dD w1 W.heap.size q).setCell ⟨W.heap.size+1,0,none⟩ (.int .i64 0)):=
   (wo hB1 (aB _) q).setCell (p:=⟨W.heap.size+1,0,none⟩) (by simp) _
  have hF2:PB q W.heap.size ((dD w1 W.heap.size q).setCell ⟨W.heap.size+1,0,none⟩ (.int .i64 0)):=hF1.other (a:=⟨W.heap.size+1,0,none⟩) (by simp) _;obtain⟨k0,k1,k2,k3,k4,k5,k6,k7,k8,k9,k10,k11⟩:=rG.cell;dsimp only at k0 k1 k2 k3 k4 k5 k6 k7 k8 k9 k10 k11;have kf:=rG.free;have e0:w1.cell? ⟨W.heap.size+1,0,none⟩=some (.int .i64 0):=aG w1 _ 0 _ _ _ hE1;have ef:w1.frozen? ⟨W.heap.size+1,0,none⟩=false:=lW w1 _ 0 _ _ hE1;have hA2:bE ((dD w1 W.heap.size q).setCell ⟨W.heap.size+1,0,none⟩ (.int .i64 0)) ao (m_ x1 x4 r):=(Eo hA hfr (by omega) q).xU hfr (a:=⟨W.heap.size+1,0,none⟩) (by simp;omega) _;have hE2:((dD w1 W.heap.size q).setCell ⟨W.heap.size+1,0,none⟩ (.int .i64 0)).cell? ⟨W.heap.size+1,0,none⟩=some (.int .i64 0):=by
   have hs:(dD w1 W.heap.size q).heap[W.heap.size+1]?=w1.heap[W.heap.size+1]?:=Dn w1 q (by omega);have hpre:(dD w1 W.heap.size q).cell? ⟨W.heap.size+1,0,none⟩=some (.int .i64 0):=aG _ _ 0 _ _ _ (hs.trans hE1);exact World.cell?_setCell_same _ _ _ hpre
  clear hC hE hb3 hg hA hB1 hF1 hE1 hrd;go_wp2;dsimp only[dD]at hF2 hB2 hA2 hE2;generalize World.setCell _ _ _=wF at hF2 hB2 hA2 hE2 ⊢;clear k0 k1 k2 k3 k4 k5 k6 k7 k8 k9 k10 k11 kf e0 ef;obtain⟨k0,k1,k2,k3,k4,k5,k6,k7,k8,k9,k10,k11⟩:=hF2.cell;refine leaves_cons (f:=55) (args:=#[.pointer (some ⟨W.heap.size,0,none⟩),.pointer (some ⟨W.heap.size+1,0,none⟩)]) (by simp) (by simp[go_sem]) ?_;refine(Lf _ _ _).mono ?_;rintro e u' w'' ⟨rfl,rfl,rfl⟩;have hpost:z_ xs W (.returned (.tuple #[q.val,.int .i64 0])) w'':=
   ⟨hB2,.inl ⟨hF,_,rfl,x0,x1,x2,x3,x4,r,ao,c',hxs,by rw[hq'.out],hlen,hA2,λb hb=>dH (by omega) (hfr b hb)⟩⟩
  simp[Leaves,settle,results,Tryz.results22,go_sem,k0,k1,k2,k3,k4,k5,k6,k7,k8,k9,k10,k11,hE2];exact hpost
 ·have rG:=hC.grown hg (by omega);have hE1:=(hg.block (W.heap.size+1) (iC.1 hE).1 (by simp)).trans hE;have hB1:Below W.heap.size W w1:=hb3.trans ⟨hg.os,hg.tape,hg.output,hg.size,λk hk=>hg.block k (by omega) (by simp;omega)⟩;show bodyPostD Tryz.prog Tryz.f22 _ (Exit.panic broken) _ w1;refine leaves_cons (f:=55) (args:=#[.pointer (some ⟨W.heap.size,0,none⟩),.pointer (some ⟨W.heap.size+1,0,none⟩)]) (by simp) (by simp[go_sem]) ?_;refine(zI W.heap.size (W.heap.size+1) (by omega) _ 0 47 _ [] _ rG hE1).mono ?_;rintro e u' w'' ⟨rfl,rfl,rfl⟩;have hF2:PB aD.zero W.heap.size ((dD w1 W.heap.size aD.zero).setCell ⟨W.heap.size+1,0,none⟩ (.int .i64 1)):=(rG.storeAll aD.zero).other (a:=⟨W.heap.size+1,0,none⟩) (by simp) _;have hs:(dD w1 W.heap.size aD.zero).heap[W.heap.size+1]?=w1.heap[W.heap.size+1]?:=Dn w1 aD.zero (by omega);have hpre:(dD w1 W.heap.size aD.zero).cell? ⟨W.heap.size+1,0,none⟩=some (.int .i64 0):=aG _ _ 0 _ _ _ (hs.trans hE1);have hE2:=World.cell?_setCell_same _ ⟨W.heap.size+1,0,none⟩ (.int .i64 1) hpre;have hB2:Below W.heap.size W ((dD w1 W.heap.size aD.zero).setCell ⟨W.heap.size+1,0,none⟩ (.int .i64 1)):=(wo hB1 (aB _) aD.zero).setCell (p:=⟨W.heap.size+1,0,none⟩) (by simp) _;generalize (dD w1 W.heap.size aD.zero).setCell ⟨W.heap.size+1,0,none⟩ (.int .i64 1)=wF at hF2 hE2 hB2 ⊢;obtain⟨k0,k1,k2,k3,k4,k5,k6,k7,k8,k9,k10,k11⟩:=hF2.cell;have hpost:z_ xs W (.returned (.tuple #[aD.zero.val,.int .i64 1])) wF:=⟨hB2,.inr ⟨hF,rfl⟩⟩;simp[Leaves,settle,results,Tryz.results22,go_sem,k0,k1,k2,k3,k4,k5,k6,k7,k8,k9,k10,k11,hE2];exact hpost
def fl:Bool->Int
 |true=>8
 |false=>0
def qd(_:Bool):Prop:=True
@[reducible] def f_{U : Bool}(_ : qd U): Bool := U
@[reducible] def FO{U : Bool}(_ : qd U): Int := fl U
theorem BD{U:Bool}(h:qd U):FO h=0∨FO h=8:=by cases U<;>simp[FO,fl]
theorem Hu(U:Bool)(R:Nat)(x0 x4:Int)(r:List Int)(W:World)(hr:Rd R (x0::1::fl U::0::x4::r) W):
  Calls Tryz.prog 56 #[.pointer (some ⟨R,0,none⟩)] W λe w'=>jO R (x0::1::fl U::0::x4::r) W e w':=by
 have hu:qd U:=trivial;cases U<;>dsimp only[fl]at hr ⊢
 all_goals
  have hby:=hr.bytes;have hR:=hr.lt;go_enter Tryz.func56,Tryz.ntmps56;go_wp2_with fail;have hC0:=PB.new aD.zero W;have h1:=hr.alloc aD.zero.box;have hg0:=ko W aD.zero.box (some R);dsimp only[aD.box,aD.zero]at hC0 h1 hg0;refine(bF R _ _ _ h1).mono ?_;rintro e w1 ⟨rfl,hr1,hg1⟩;have rG:PB aD.zero W.heap.size w1:=PB.grown hC0 hg1 (by omega);have hW1:=ax hg0 hg1;clear hr h1 hg0 hg1 hC0;go_wp2_with fail;refine(bF R _ _ _ hr1).mono ?_;rintro e w2 ⟨rfl,hr2,hg2⟩;have hC2:=rG.grown hg2 (by omega);have hW2:=ax hW1 hg2;clear hr1 hg2 rG hW1;go_wp2_with fail;have hB:=PB.new ⟨x0,1,0,false,0,0,0,0,0,0,none,0,0,⟨#[]⟩⟩ w2;have Rc:W.heap.size<w2.heap.size:=hC2.lt;have qC:=hC2.alloc (aD.box ⟨x0,1,0,false,0,0,0,0,0,0,none,0,0,⟨#[]⟩⟩);have hr3:=hr2.alloc (aD.box ⟨x0,1,0,false,0,0,0,0,0,0,none,0,0,⟨#[]⟩⟩);have hW3:=ax hW2 (ko w2 (aD.box ⟨x0,1,0,false,0,0,0,0,0,0,none,0,0,⟨#[]⟩⟩) (some R));have KW:=hr2.lt;generalize KZ:w2.heap.size=B at hB Rc KW ⊢;clear KZ;dsimp only[aD.box]at hB qC hr3 hW3;clear hr2 hC2 hW2;refine(bF R _ _ _ hr3).mono ?_;rintro e w4 ⟨rfl,hr4,hg4⟩;have hB4:=hB.grown hg4 (by omega);have yQ:=qC.grown hg4 (by omega);have FE:=ax hW3 hg4;clear hr3 hg4 hB qC hW3;go_wp2_with(go_at_call 85;refine(require_ok _).mono ?_;rintro e w4 ⟨rfl,rfl⟩;obtain⟨_,_,_,c3,_,_,_,_,_,_,_,_⟩:=hB4.cell;have f3:=hB4.free 3);have uO:=hB4.set ⟨x0,1,0,f_ hu,0,0,0,0,0,0,none,0,0,⟨#[]⟩⟩ 3 (.bool (f_ hu)) rfl;have nO:=hr4.setCell (B:=B) (by omega) (i:=3) (.bool false) (.bool (f_ hu)) (by simp) c3;have su:=yQ.other (a:=⟨B,3,none⟩) (by simp;omega) (.bool (f_ hu));have tq:=bA FE (a:=⟨B,3,none⟩) (by simp;omega) (.bool (f_ hu));dsimp only[f_]at uO nO su tq;clear c3 f3 hr4 hB4 yQ FE;generalize w4.setCell _ _=w5 at uO nO su tq ⊢;refine(bF R _ _ _ nO).mono ?_;rintro e w6 ⟨rfl,uz,jk⟩;have CX:=uO.grown jk (by omega);have gG:=su.grown jk (by omega);have Gr:=ax tq jk;clear nO jk uO su tq;go_wp2_with(go_at_call 85;refine(require_ok _).mono ?_;rintro e w6 ⟨rfl,rfl⟩);refine(bF R _ _ _ uz).mono ?_;rintro e w7 ⟨rfl,Bg,gW⟩;have jd:=CX.grown gW (by omega);have gL:=gG.grown gW (by omega);have ND:=ax Gr gW;clear uz gW CX gG Gr;go_wp2_with fail;obtain⟨_,c1,_,_,_,_,_,_,_,_,_,_⟩:=jd.cell;refine(xE B w7 c1).mono ?_;rintro e w8 ⟨rfl,hw8⟩;have iA:w8.heap[w7.heap.size]?=some (.cells #[.pointer (some ⟨B,4,none⟩),.pointer (some ⟨B,5,none⟩),.pointer (some ⟨B,6,none⟩),.pointer (some ⟨B,7,none⟩),.pointer (some ⟨B,8,none⟩)] 189 (0,0)):=by rw[hw8];exact bS w7 _
  have jN:PB ⟨x0,1,0,f_ hu,0,0,0,0,0,0,none,0,0,⟨#[]⟩⟩ B w8:=by rw[hw8];exact jd.alloc _
  have ig:PB aD.zero W.heap.size w8:=by rw[hw8];exact gL.alloc _
  have iR:Rd R r w8:=by rw[hw8];exact(Bg.alloc _).drew
  have jr:W.grownBy w8 (some R):=by rw[hw8];exact uF (ax ND (ko w7 _ _))
  have hBN:B<w7.heap.size:=jd.lt;generalize w7.heap.size=N at iA hBN ⊢;clear hw8 Bg jd gL ND c1;go_wp2_with fail;refine wp_loop_rounds 6 ?_;rw[rounds_succ];have Zx:=aG w8 N 0 _ _ _ iA;simp only[List.getElem?_toArray,List.getElem?_cons_zero]at Zx;go_wp2_with fail;clear Zx;refine(dI R _ _ iR).mono ?_;rintro e w9 (⟨a0,b0,e0,d0,r0,rfl,rfl,nu,fM,_⟩|⟨hshort,rfl,rfl⟩)
  case inr=>exact⟨rfl,jr,.inr ⟨fG (by rw[show dR 1 x4=20 from rfl];first|omega|(simp only[dY];omega)),rfl⟩⟩
  have rE:=(fM.block N (iC.1 iA).1 (by simp;omega)).trans iA;have jw:=jN.grown fM (by omega);have qa:=ig.grown fM (by omega);have pY:=ax jr fM;clear iR fM jN ig jr iA;obtain⟨_,_,_,_,c4,c5,c6,c7,c8,c9,_,_⟩:=jw.cell;dsimp only at c4 c5 c6 c7 c8 c9;have ff:=jw.free 4;have hpre:=c4;clear c5 c6 c7 c8 c9;go_wp2_with fail;have jN:=jw.set ⟨x0,1,0,f_ hu,(n4 a0 b0 e0 d0),0,0,0,0,0,none,0,0,⟨#[]⟩⟩ 4 (.int .u32 (n4 a0 b0 e0 d0)) rfl;have iR:=nu.setCell (B:=B) (by omega) (i:=4) (.int .u32 0) (.int .u32 (n4 a0 b0 e0 d0)) (by simp) hpre;have ig:=qa.other (a:=⟨B,4,none⟩) (by simp;omega) (.int .u32 (n4 a0 b0 e0 d0));have jr:=bA pY (a:=⟨B,4,none⟩) (by simp;omega) (.int .u32 (n4 a0 b0 e0 d0));have iA:=(kS w9 ⟨B,4,none⟩ (.int .u32 (n4 a0 b0 e0 d0)) N (by simp;omega)).trans rE;clear nu jw qa pY rE ff hpre c4;generalize w9.setCell _ _=w8 at jN iR ig jr iA ⊢;rw[rounds_succ];have pc1:=aG w8 N 1 _ _ _ iA;simp only[List.getElem?_toArray,List.getElem?_cons_succ,List.getElem?_cons_zero]at pc1;go_wp2_with fail;clear pc1;refine(dI R _ _ iR).mono ?_;rintro e w9 (⟨a1,b1,e1,d1,r1,rfl,rfl,nu,fM,_⟩|⟨hshort,rfl,rfl⟩)
  case inr=>exact⟨rfl,jr,.inr ⟨fG (by rw[show dR 1 x4=20 from rfl];first|omega|(simp only[dY];omega)),rfl⟩⟩
  have rE:=(fM.block N (iC.1 iA).1 (by simp;omega)).trans iA;have jw:=jN.grown fM (by omega);have qa:=ig.grown fM (by omega);have pY:=ax jr fM;clear iR fM jN ig jr iA;obtain⟨_,_,_,_,c4,c5,c6,c7,c8,c9,_,_⟩:=jw.cell;dsimp only at c4 c5 c6 c7 c8 c9;have ff:=jw.free 5;have hpre:=c5;clear c4 c6 c7 c8 c9;go_wp2_with fail;have jN:=jw.set ⟨x0,1,0,f_ hu,(n4 a0 b0 e0 d0),(n4 a1 b1 e1 d1),0,0,0,0,none,0,0,⟨#[]⟩⟩ 5 (.int .u32 (n4 a1 b1 e1 d1)) rfl;have iR:=nu.setCell (B:=B) (by omega) (i:=5) (.int .u32 0) (.int .u32 (n4 a1 b1 e1 d1)) (by simp) hpre;have ig:=qa.other (a:=⟨B,5,none⟩) (by simp;omega) (.int .u32 (n4 a1 b1 e1 d1));have jr:=bA pY (a:=⟨B,5,none⟩) (by simp;omega) (.int .u32 (n4 a1 b1 e1 d1));have iA:=(kS w9 ⟨B,5,none⟩ (.int .u32 (n4 a1 b1 e1 d1)) N (by simp;omega)).trans rE;clear nu jw qa pY rE ff hpre c5;generalize w9.setCell _ _=w8 at jN iR ig jr iA ⊢;rw[rounds_succ];have pc2:=aG w8 N 2 _ _ _ iA;simp only[List.getElem?_toArray,List.getElem?_cons_succ,List.getElem?_cons_zero]at pc2;go_wp2_with fail;clear pc2;refine(dI R _ _ iR).mono ?_;rintro e w9 (⟨a2,b2,e2,d2,r2,rfl,rfl,nu,fM,_⟩|⟨hshort,rfl,rfl⟩)
  case inr=>exact⟨rfl,jr,.inr ⟨fG (by rw[show dR 1 x4=20 from rfl];first|omega|(simp only[dY];omega)),rfl⟩⟩
  have rE:=(fM.block N (iC.1 iA).1 (by simp;omega)).trans iA;have jw:=jN.grown fM (by omega);have qa:=ig.grown fM (by omega);have pY:=ax jr fM;clear iR fM jN ig jr iA;obtain⟨_,_,_,_,c4,c5,c6,c7,c8,c9,_,_⟩:=jw.cell;dsimp only at c4 c5 c6 c7 c8 c9;have ff:=jw.free 6;have hpre:=c6;clear c4 c5 c7 c8 c9;go_wp2_with fail;have jN:=jw.set ⟨x0,1,0,f_ hu,(n4 a0 b0 e0 d0),(n4 a1 b1 e1 d1),(n4 a2 b2 e2 d2),0,0,0,none,0,0,⟨#[]⟩⟩ 6 (.int .u32 (n4 a2 b2 e2 d2)) rfl;have iR:=nu.setCell (B:=B) (by omega) (i:=6) (.int .u32 0) (.int .u32 (n4 a2 b2 e2 d2)) (by simp) hpre;have ig:=qa.other (a:=⟨B,6,none⟩) (by simp;omega) (.int .u32 (n4 a2 b2 e2 d2));have jr:=bA pY (a:=⟨B,6,none⟩) (by simp;omega) (.int .u32 (n4 a2 b2 e2 d2));have iA:=(kS w9 ⟨B,6,none⟩ (.int .u32 (n4 a2 b2 e2 d2)) N (by simp;omega)).trans rE;clear nu jw qa pY rE ff hpre c6;generalize w9.setCell _ _=w8 at jN iR ig jr iA ⊢;rw[rounds_succ];have pc3:=aG w8 N 3 _ _ _ iA;simp only[List.getElem?_toArray,List.getElem?_cons_succ,List.getElem?_cons_zero]at pc3;go_wp2_with fail;clear pc3;refine(dI R _ _ iR).mono ?_;rintro e w9 (⟨a3,b3,e3,d3,r3,rfl,rfl,nu,fM,_⟩|⟨hshort,rfl,rfl⟩)
  case inr=>exact⟨rfl,jr,.inr ⟨fG (by rw[show dR 1 x4=20 from rfl];first|omega|(simp only[dY];omega)),rfl⟩⟩
  have rE:=(fM.block N (iC.1 iA).1 (by simp;omega)).trans iA;have jw:=jN.grown fM (by omega);have qa:=ig.grown fM (by omega);have pY:=ax jr fM;clear iR fM jN ig jr iA;obtain⟨_,_,_,_,c4,c5,c6,c7,c8,c9,_,_⟩:=jw.cell;dsimp only at c4 c5 c6 c7 c8 c9;have ff:=jw.free 7;have hpre:=c7;clear c4 c5 c6 c8 c9;go_wp2_with fail;have jN:=jw.set ⟨x0,1,0,f_ hu,(n4 a0 b0 e0 d0),(n4 a1 b1 e1 d1),(n4 a2 b2 e2 d2),(n4 a3 b3 e3 d3),0,0,none,0,0,⟨#[]⟩⟩ 7 (.int .u32 (n4 a3 b3 e3 d3)) rfl;have iR:=nu.setCell (B:=B) (by omega) (i:=7) (.int .u32 0) (.int .u32 (n4 a3 b3 e3 d3)) (by simp) hpre;have ig:=qa.other (a:=⟨B,7,none⟩) (by simp;omega) (.int .u32 (n4 a3 b3 e3 d3));have jr:=bA pY (a:=⟨B,7,none⟩) (by simp;omega) (.int .u32 (n4 a3 b3 e3 d3));have iA:=(kS w9 ⟨B,7,none⟩ (.int .u32 (n4 a3 b3 e3 d3)) N (by simp;omega)).trans rE;clear nu jw qa pY rE ff hpre c7;generalize w9.setCell _ _=w8 at jN iR ig jr iA ⊢;rw[rounds_succ];have pc4:=aG w8 N 4 _ _ _ iA;simp only[List.getElem?_toArray,List.getElem?_cons_succ,List.getElem?_cons_zero]at pc4;go_wp2_with fail;clear pc4;refine(dI R _ _ iR).mono ?_;rintro e w9 (⟨a4,b4,e4,d4,r4,rfl,rfl,nu,fM,_⟩|⟨hshort,rfl,rfl⟩)
  case inr=>exact⟨rfl,jr,.inr ⟨fG (by rw[show dR 1 x4=20 from rfl];first|omega|(simp only[dY];omega)),rfl⟩⟩
  have rE:=(fM.block N (iC.1 iA).1 (by simp;omega)).trans iA;have jw:=jN.grown fM (by omega);have qa:=ig.grown fM (by omega);have pY:=ax jr fM;clear iR fM jN ig jr iA;obtain⟨_,_,_,_,c4,c5,c6,c7,c8,c9,_,_⟩:=jw.cell;dsimp only at c4 c5 c6 c7 c8 c9;have ff:=jw.free 8;have hpre:=c8;clear c4 c5 c6 c7 c9;go_wp2_with fail;have jN:=jw.set ⟨x0,1,0,f_ hu,(n4 a0 b0 e0 d0),(n4 a1 b1 e1 d1),(n4 a2 b2 e2 d2),(n4 a3 b3 e3 d3),(n4 a4 b4 e4 d4),0,none,0,0,⟨#[]⟩⟩ 8 (.int .u32 (n4 a4 b4 e4 d4)) rfl;have iR:=nu.setCell (B:=B) (by omega) (i:=8) (.int .u32 0) (.int .u32 (n4 a4 b4 e4 d4)) (by simp) hpre;have ig:=qa.other (a:=⟨B,8,none⟩) (by simp;omega) (.int .u32 (n4 a4 b4 e4 d4));have jr:=bA pY (a:=⟨B,8,none⟩) (by simp;omega) (.int .u32 (n4 a4 b4 e4 d4));have iA:=(kS w9 ⟨B,8,none⟩ (.int .u32 (n4 a4 b4 e4 d4)) N (by simp;omega)).trans rE;clear nu jw qa pY rE ff hpre c8;generalize w9.setCell _ _=w8 at jN iR ig jr iA ⊢;rw[rounds_succ];obtain⟨v,hv,hvf,hvb,hvs⟩:=iR;have hsh:∃a c,v=.slice a r4.length c:=by
   rcases hvs with⟨rfl,h⟩|⟨_,_,_,rfl,_⟩
   ·exact⟨none,0,by rw[h];rfl⟩
   ·exact⟨_,_,rfl⟩
  obtain⟨sa,sc,rfl⟩:=hsh;clear hvs hvb hvf iA;obtain⟨c0,c1,c2,c3,c4,c5,c6,c7,c8,c9,c10,c11⟩:=jN.cell;dsimp only at c0 c1 c2 c3 c4 c5 c6 c7 c8 c9 c10 c11;have f2:=jN.free 2;have hBx:=jN.set ⟨x0,1,x4,f_ hu,(n4 a0 b0 e0 d0),(n4 a1 b1 e1 d1),(n4 a2 b2 e2 d2),(n4 a3 b3 e3 d3),(n4 a4 b4 e4 d4),0,none,0,0,⟨#[]⟩⟩ 2 (.int .i64 x4) rfl;have YA:=ig.other (a:=⟨B,2,none⟩) (by simp;omega) (.int .i64 x4);have FC:=bA jr (a:=⟨B,2,none⟩) (by simp;omega) (.int .i64 x4);by_cases hrest:r4=[]
  case neg=>
   have hl0:((r4.length:Int)==0)=false:=by
    rw[beq_eq_false_iff_ne];intro h;exact hrest (qz (by omega))
   go_wp2_with(go_at_call 85;refine(eP _).mono ?_;rintro e w9 ⟨rfl,Bf⟩;rw[Bf]);have hl1:0<r4.length:=List.length_pos_iff.2 hrest;refine⟨rfl,FC,.inr ⟨?_,rfl⟩⟩;exact fG (by rw[show dR 1 x4=20 from rfl];simp only[dY];omega)
  subst hrest;have q0:=hby x0 (by simp);have q4:=hby x4 (by simp);have m0:=uw (hby a0 (by simp)) (hby b0 (by simp)) (hby e0 (by simp)) (hby d0 (by simp));have m1:=uw (hby a1 (by simp)) (hby b1 (by simp)) (hby e1 (by simp)) (hby d1 (by simp));have m2:=uw (hby a2 (by simp)) (hby b2 (by simp)) (hby e2 (by simp)) (hby d2 (by simp));have m3:=uw (hby a3 (by simp)) (hby b3 (by simp)) (hby e3 (by simp)) (hby d3 (by simp));have m4:=uw (hby a4 (by simp)) (hby b4 (by simp)) (hby e4 (by simp)) (hby d4 (by simp));have hwf:aD.Wf ⟨x0,1,x4,f_ hu,(n4 a0 b0 e0 d0),(n4 a1 b1 e1 d1),(n4 a2 b2 e2 d2),(n4 a3 b3 e3 d3),(n4 a4 b4 e4 d4),0,none,0,0,⟨#[]⟩⟩:=by constructor<;>first|(dsimp only;omega)|simp[ByteArray.size]|(dsimp only;rw[strOfNums_size];omega)
  have hpk:iY x0 1 (FO hu) x4 [a0,b0,e0,d0,a1,b1,e1,d1,a2,b2,e2,d2,a3,b3,e3,d3,a4,b4,e4,d4]=⟨x0,1,x4,f_ hu,(n4 a0 b0 e0 d0),(n4 a1 b1 e1 d1),(n4 a2 b2 e2 d2),(n4 a3 b3 e3 d3),(n4 a4 b4 e4 d4),0,none,0,0,⟨#[]⟩⟩:=rfl;have pV:=Bd (x0:=x0) (x1:=1) (x2:=FO hu) (x4:=x4) (r:=[a0,b0,e0,d0,a1,b1,e1,d1,a2,b2,e2,d2,a3,b3,e3,d3,a4,b4,e4,d4]) (BD hu) rfl;rw[hpk]at pV;clear hby q0 q4 m0 m1 m2 m3 m4;cases hg:aD.eZ ⟨x0,1,x4,f_ hu,(n4 a0 b0 e0 d0),(n4 a1 b1 e1 d1),(n4 a2 b2 e2 d2),(n4 a3 b3 e3 d3),(n4 a4 b4 e4 d4),0,none,0,0,⟨#[]⟩⟩
  ·go_wp2_with(first|(go_at_call 90;refine(dQ ⟨x0,1,x4,f_ hu,(n4 a0 b0 e0 d0),(n4 a1 b1 e1 d1),(n4 a2 b2 e2 d2),(n4 a3 b3 e3 d3),(n4 a4 b4 e4 d4),0,none,0,0,⟨#[]⟩⟩ hwf _).mono ?_;rintro e w9 ⟨rfl,nY⟩)|(go_at_call 85;refine(eP _).mono ?_;rintro e w10 ⟨rfl,Bf⟩;rw[Bf]));exact⟨rfl,fZ FC nY,.inr ⟨pV.trans hg,rfl⟩⟩
  ·go_wp2_with(first|(go_at_call 90;refine(dQ ⟨x0,1,x4,f_ hu,(n4 a0 b0 e0 d0),(n4 a1 b1 e1 d1),(n4 a2 b2 e2 d2),(n4 a3 b3 e3 d3),(n4 a4 b4 e4 d4),0,none,0,0,⟨#[]⟩⟩ hwf _).mono ?_;rintro e w9 ⟨rfl,nY⟩;have NJ:=hBx.below nY;have zS:=YA.below nY;obtain⟨y0,y1,y2,y3,y4,y5,y6,y7,y8,y9,uR,uQ⟩:=NJ.cell;obtain⟨k0,k1,k2,k3,k4,k5,k6,k7,k8,k9,k10,k11⟩:=zS.cell;have kf:=zS.free;dsimp only at y0 y1 y2 y3 y4 y5 y6 y7 y8 y9 uR uQ;dsimp only[aD.zero]at k0 k1 k2 k3 k4 k5 k6 k7 k8 k9 k10 k11)|(go_at_call 85;refine(require_ok _).mono ?_;rintro e w9 ⟨rfl,rfl⟩));have p_:=zS.storeAll ⟨x0,1,x4,f_ hu,(n4 a0 b0 e0 d0),(n4 a1 b1 e1 d1),(n4 a2 b2 e2 d2),(n4 a3 b3 e3 d3),(n4 a4 b4 e4 d4),0,none,0,0,⟨#[]⟩⟩;have FD:=lQ (fZ FC nY) (C:=W.heap.size) (aB _) ⟨x0,1,x4,f_ hu,(n4 a0 b0 e0 d0),(n4 a1 b1 e1 d1),(n4 a2 b2 e2 d2),(n4 a3 b3 e3 d3),(n4 a4 b4 e4 d4),0,none,0,0,⟨#[]⟩⟩;clear y0 y1 y2 y3 y4 y5 y6 y7 y8 y9 uR uQ k0 k1 k2 k3 k4 k5 k6 k7 k8 k9 k10 k11 kf NJ zS;dsimp only[dD]at p_ FD;generalize World.setCell _ _ _=wF at p_ FD ⊢;obtain⟨y0,y1,y2,y3,y4,y5,y6,y7,y8,y9,uR,uQ⟩:=p_.cell;dsimp only at y0 y1 y2 y3 y4 y5 y6 y7 y8 y9 uR uQ;refine bodyPost_ret (v:=aD.val ⟨x0,1,x4,f_ hu,(n4 a0 b0 e0 d0),(n4 a1 b1 e1 d1),(n4 a2 b2 e2 d2),(n4 a3 b3 e3 d3),(n4 a4 b4 e4 d4),0,none,0,0,⟨#[]⟩⟩) (by simp[results,Tryz.results56,go_sem,y0,y1,y2,y3,y4,y5,y6,y7,y8,y9,uR,uQ]) rfl ?_;exact⟨FD,.inl ⟨pV.trans hg,_,rfl,_,_,_,_,_,_,none,0,rfl,rfl,rfl,λj hj=>absurd hj (by simp[m_]),λb hb=>by cases hb⟩⟩
end Go.Proofs.YtakaadcpaeiccabGreat
