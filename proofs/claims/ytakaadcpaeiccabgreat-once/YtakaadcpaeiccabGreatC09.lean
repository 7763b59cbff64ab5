import Derived.Test.YtakaadcpaeiccabGreatC08
import Derived.Deep.CutRange
import Derived.DeepKeys4
import Derived.DeepKeys2
import Derived.ChangeKeysEq
set_option maxHeartbeats 4000000
set_option maxRecDepth 100000
namespace Go.Proofs.YtakaadcpaeiccabGreat
open Go.RowKit Go.Maps
variable{f:Int->Option Int}{L:List (Rt×Value)}{M N s:Nat}{r:Option Nat}{v:Value}{W W':World}
theorem MapU.look_ok(h:MapU W M f s){k:Int}(hk:a_ k):
  (Instr.lookup 115 (.map (some M)) (.int .u32 k) true).run Tryz.prog W=.ok (.tuple #[.int .u32 ((f k).getD 0),.bool (f k).isSome]) W:=by
 obtain⟨D,h1,h2,h3⟩:=h;obtain⟨v,ps,hr,hv⟩:=h1.look_ok gy Tryz.underlying115 (Md W) (plainElem_int Tryz.underlying34 (by decide)) hk.key;obtain⟨c,rfl,he,_⟩:=plainElem_int_inv Tryz.underlying34 hv;rw[(h3 k hk).2]at he;simp at he;rw[hr,he.1,(h3 k hk).1]
theorem MapU.block(h:MapU W M f s)(he:W'.heap[M]?=W.heap[M]?):MapU W' M f s:=by
 obtain⟨D,⟨es,clock,hb,Ft,hs,hD⟩,h2,h3⟩:=h;exact⟨D,⟨es,clock,he.trans hb,Ft,hs,hD⟩,h2,h3⟩
theorem MapU.obj(h:MapU W M f s):∃es cl,W.heap[M]?=some (.map es cl):=by
 obtain⟨D,⟨es,cl,hm,_⟩,_⟩:=h;exact⟨es,cl,hm⟩
structure mX where
 lk:Int
 self:Int
 seq:Int
 cZ:Int
 T:Nat
 Ms:Nat
 tn:Int
 own:Int
 Mo:Nat
 cnt:Int
 dm:Int
 eG:Int
 qK:Nat
 Tm:Nat
 pc:Value
@[reducible] def oG(x : mX): Obj := .cells #[.int .i32 x.lk, .int .u32 0, .int .u32 x.self, .int .u32 x.seq, .int .u64 x.cZ, .int .u32 x.dm, .int .u32 x.eG, .pointer (some ⟨x.T, 0, none⟩), .map (some x.Ms), .int .i64 x.tn, .int .u32 x.own, .map (some x.Mo), .int .i64 x.cnt, .map (some x.qK), .pointer (some ⟨x.Tm, 0, none⟩), x.pc] 131
def iI(N:Nat)(x:mX)(W:World):Prop:=W.heap[N]?=some (oG x)
theorem iI.cell{x:mX}(h:iI N x W):
  W.cell? ⟨N,0,none⟩=some (.int .i32 x.lk)∧W.cell? ⟨N,2,none⟩=some (.int .u32 x.self)∧W.cell? ⟨N,3,none⟩=some (.int .u32 x.seq)∧W.cell? ⟨N,4,none⟩=some (.int .u64 x.cZ)∧W.cell? ⟨N,7,none⟩=some (.pointer (some ⟨x.T,0,none⟩))∧
  W.cell? ⟨N,8,none⟩=some (.map (some x.Ms))∧W.cell? ⟨N,9,none⟩=some (.int .i64 x.tn)∧W.cell? ⟨N,10,none⟩=some (.int .u32 x.own)∧W.cell? ⟨N,11,none⟩=some (.map (some x.Mo))∧W.cell? ⟨N,12,none⟩=some (.int .i64 x.cnt):=
 ⟨aG W N 0 _ _ _ h,aG W N 2 _ _ _ h,aG W N 3 _ _ _ h,aG W N 4 _ _ _ h,aG W N 7 _ _ _ h,aG W N 8 _ _ _ h,aG W N 9 _ _ _ h,aG W N 10 _ _ _ h,aG W N 11 _ _ _ h,aG W N 12 _ _ _ h⟩
theorem iI.more{x:mX}(h:iI N x W):
  W.cell? ⟨N,5,none⟩=some (.int .u32 x.dm)∧W.cell? ⟨N,6,none⟩=some (.int .u32 x.eG)∧W.cell? ⟨N,13,none⟩=some (.map (some x.qK))∧W.cell? ⟨N,14,none⟩=some (.pointer (some ⟨x.Tm,0,none⟩))∧W.cell? ⟨N,15,none⟩=some x.pc:=
 ⟨aG W N 5 _ _ _ h,aG W N 6 _ _ _ h,aG W N 13 _ _ _ h,aG W N 14 _ _ _ h,aG W N 15 _ _ _ h⟩
theorem iI.free{x:mX}(h:iI N x W)(i:Nat):W.frozen? ⟨N,i,none⟩=false:=by
 unfold World.frozen?;rw[show W.heap[(⟨N,i,none⟩:Addr).block]?=some (oG x)from h];try rfl
theorem iI.lt{x:mX}(h:iI N x W):N<W.heap.size:=(iC.1 h).1
theorem iI.block{x:mX}(h:iI N x W)(he:W'.heap[N]?=W.heap[N]?):iI N x W':=he.trans h
theorem iI.later{x:mX}(h:iI N x W)(hb:Below W.heap.size W W'):iI N x W':=h.block (hb.block N h.lt)
theorem iI.kept{x:mX}(h:iI N x W)(hg:W.grownBy W' r)(hr:r≠some N):iI N x W':=h.block (hg.block N h.lt (λe=>hr e.symm))
theorem iI.l6{x:mX}(h:iI N x W)(v:Int):iI N {x with lk:=v} (W.setCell ⟨N,0,none⟩ (.int .i32 v)):=by
 unfold iI at h ⊢;simp[World.setCell,Array.getElem?_modify,h]
theorem iI.RG{x:mX}(h:iI N x W)(v:Int):iI N {x with seq:=v} (W.setCell ⟨N,3,none⟩ (.int .u32 v)):=by
 unfold iI at h ⊢;simp[World.setCell,Array.getElem?_modify,h]
theorem iI.RF{x:mX}(h:iI N x W)(v:Int):iI N {x with cZ:=v} (W.setCell ⟨N,4,none⟩ (.int .u64 v)):=by
 unfold iI at h ⊢;simp[World.setCell,Array.getElem?_modify,h]
theorem iI.acU{x:mX}(h:iI N x W)(v:Int):iI N {x with tn:=v} (W.setCell ⟨N,9,none⟩ (.int .i64 v)):=by
 unfold iI at h ⊢;simp[World.setCell,Array.getElem?_modify,h]
theorem iI.aau{x:mX}(h:iI N x W)(v:Int):iI N {x with own:=v} (W.setCell ⟨N,10,none⟩ (.int .u32 v)):=by
 unfold iI at h ⊢;simp[World.setCell,Array.getElem?_modify,h]
theorem iI.RJ{x:mX}(h:iI N x W)(v:Int):iI N {x with cnt:=v} (W.setCell ⟨N,12,none⟩ (.int .i64 v)):=by
 unfold iI at h ⊢;simp[World.setCell,Array.getElem?_modify,h]
theorem iI.Xg{x:mX}(h:iI N x W)(v:Int):iI N {x with dm:=v} (W.setCell ⟨N,5,none⟩ (.int .u32 v)):=by
 unfold iI at h ⊢;simp[World.setCell,Array.getElem?_modify,h]
theorem iI.Xh{x:mX}(h:iI N x W)(v:Int):iI N {x with eG:=v} (W.setCell ⟨N,6,none⟩ (.int .u32 v)):=by
 unfold iI at h ⊢;simp[World.setCell,Array.getElem?_modify,h]
theorem iI.acX{x:mX}(h:iI N x W)(v:Value):iI N {x with pc:=v} (W.setCell ⟨N,15,none⟩ v):=by
 unfold iI at h ⊢;simp[World.setCell,Array.getElem?_modify,h]
def sU(f:Int->Option Int)(x:Rt):Bool:=!(f x.dest).isSome||decide (x.seq>(f x.dest).getD 0)
def jF(st:(Int->Option Int)×List (Bool×Int×Int))(x:Rt):(Int->Option Int)×List (Bool×Int×Int):=
 if sU st.1 x then(ku st.1 x.dest (some x.seq),st.2++ [(false,x.dest,x.seq)])else st
def pM(q own:Int):List (Bool×Int×Int):=if q>own then [(true,0,q)]else []
def bJ(q own:Int)(f:Int->Option Int)(A:List Rt):(Int->Option Int)×List (Bool×Int×Int):=A.foldl jF (f,pM q own)
theorem KE(q own:Int)(f:Int->Option Int){A:List Rt}{k:Nat}{x:Rt}(h:A[k]?=some x):bJ q own f (A.take (k+1))=jF (bJ q own f (A.take k)) x:=by
 unfold bJ;rw[List.take_add_one,h];simp
theorem oF(q own:Int)(f:Int->Option Int)(A:List Rt):(bJ q own f A).2.length<=A.length+1:=by
 have h:∀(A:List Rt) (st:(Int->Option Int)×List (Bool×Int×Int)),(A.foldl jF st).2.length<=st.2.length+A.length:=by
  intro A
  induction A with
  |nil=>intro st;simp
  |cons y A ih=>
   intro st;rw[fP];refine dH (ih _) ?_;unfold jF;split<;>simp<;>omega
 have:=h A (f,pM q own);unfold bJ;refine dH this ?_;unfold pM;split<;>simp<;>omega
theorem aV{S:Nat->Prop}{a b c:World}(h:Fx S a b)(k:b.grownBy c r)(hr:∀i,i<a.heap.size->r=some i->S i):Fx S a c:=
 h.trans (S':=λi=>r=some i) (Fx.grown k λ_ e=>e) (λi hi e=>hr i hi e)
theorem J3.at{base:Nat}(h:J3 base v L W)(hv:∀k,v.ownBlock=some k->W'.heap[k]?=W.heap[k]?)(hb:∀p∈L,∀k,p.2.ownBlock=some k->W'.heap[k]?=W.heap[k]?):J3 base v L W':=
 ⟨bP h.row hv,λp hp=>bP (h.bN p hp) (hb p hp)⟩
theorem J3.grown{base:Nat}(h:J3 base v L W){r:Option Nat}(hg:W.grownBy W' r)(hr:∀k,r=some k->∃o,W.heap[k]?=some o∧(∀c,o≠ .cells c 38 (0,0))∧∀c,o≠ .cells c 34 (0,0)):J3 base v L W':=by
 refine h.at (λk hk=>hg.block k (h.row.lt k hk).2 λe=> ?_) (λp hp k hk=>hg.block k ((h.bN p hp).lt k hk).2 λe=> ?_)
 ·obtain⟨o,h1,h2,_⟩:=hr k e.symm;exact aA h.row h1 h2 hk
 ·obtain⟨o,h1,_,h3⟩:=hr k e.symm;exact aA (h.bN p hp) h1 h3 hk
variable{st:(Int->Option Int)×List (Bool×Int×Int)}{f:Int->Option Int}{cs:List Value}{M N n s:Nat}{x:Rt}{v:Value}{W:World}
theorem Ia(h:sU st.1 x=true):jF st x=(ku st.1 x.dest (some x.seq),st.2++ [(false,x.dest,x.seq)]):=by simp[jF,h]
theorem XF(h:sU st.1 x=false):jF st x=st:=by simp[jF,h]
theorem Xj(y:Rt)(u:Value):rtC (y,u)=[.int .u32 y.dest,.int .u32 y.seq,.int .i64 y.hops,.int .u32 y.next,.bool y.valid,.int .u64 y.exp,u]:=rfl
theorem XM{x:mX}(h:iI N x W):∀k,(some N:Option Nat)=some k->∃o,W.heap[k]?=some o∧(∀c,o≠ .cells c 38 (0,0))∧∀c,o≠ .cells c 34 (0,0):=by
 intro k hk;cases hk;exact⟨_,h,λc e=>(by cases e),λc e=>(by cases e)⟩
theorem XQ(h:MapU W M f s):∀k,(some M:Option Nat)=some k->∃o,W.heap[k]?=some o∧(∀c,o≠ .cells c 38 (0,0))∧∀c,o≠ .cells c 34 (0,0):=by
 intro k hk;cases hk;obtain⟨es,cl,hm⟩:=h.obj;exact⟨_,hm,λc e=>(by cases e),λc e=>(by cases e)⟩
theorem GX{base:Nat}(h:W.ownsRow base 82 3 v n cs):∀k,v.ownBlock=some k->∃o,W.heap[k]?=some o∧(∀c,o≠ .cells c 38 (0,0))∧∀c,o≠ .cells c 34 (0,0):=by
 intro k hk;rcases h.2 with⟨rfl,_⟩|⟨g,cap,cur,rfl,_,h2,_⟩
 ·cases hk
 ·simp only[Value.ownBlock,Option.some.injEq]at hk;subst hk;exact⟨_,h2,λc e=>(by cases e),λc e=>(by cases e)⟩
theorem Nb{x:mX}(h:iI N x W)(hm:MapU W M f s):N≠M:=λe=>by
 obtain⟨es,cl,hM⟩:=hm.obj;rw[<-e,show W.heap[N]?=_ from h]at hM;cases hM
def E9(q own:Int):Int:=if q>own then q else own
theorem EB{base:Nat}(h:W.ownsRow base 82 3 v n cs){M:Nat}{f:Int->Option Int}{s:Nat}(hm:MapU W M f s):v.ownBlock≠some M:=by
 obtain⟨es,cl,hM⟩:=hm.obj;exact aA h hM (λc e=>(by cases e))
theorem Km{base:Nat}(h:W.ownsRow base 82 3 v n cs){N:Nat}{x:mX}(hN:iI N x W):v.ownBlock≠some N:=
 aA h hN (λc e=>(by cases e))
theorem SS(N:Nat)(x:mX)(q:Int)(f:Int->Option Int)(sz:Nat)(v:Value)(L:List (Rt×Value))(A:List Rt)(hA:L.map (·.1)=A)(hok:∀y∈A,y.Ok)(hln:A.length<=8)(hcnt:0<=x.cnt∧x.cnt<=1000000)(hsz:sz<=1000000)(w:World)(hN:iI N x w)(hm:MapU w x.Mo f sz)(hl:J3 0 v L w):
  Calls Tryz.prog 104 #[.pointer (some ⟨N,10,none⟩),.int .u32 q,v] w λe w'=>∃v' sz',e=.returned v'∧w'.ownsRow w.heap.size 82 3 v' (bJ q x.own f A).2.length (RC (bJ q x.own f A).2)∧iI N {x with own:=E9 q x.own,cnt:=x.cnt+(bJ q x.own f A).2.length} w'∧MapU w' x.Mo (bJ q x.own f A).1 sz'∧sz'<=sz+8∧Fx (λk=>k=N∨k=x.Mo) w w':=by
 obtain⟨i0,hi,hz0,hz1,hz2⟩:=info_parts rq;have hNM:=Nb hN hm;have Yt:Hid (L.length=A.length):=by
  show _=_;rw[<-hA];simp
 obtain⟨ao,c,rfl,_⟩:=ay hl.row;have hNr:w.heap.size<=w.heap.size:=aB _;obtain⟨n0,n2,n3,n4,n5,n6,n7,n8,n9,n10⟩:=hN.cell;have f8:=hN.free 10;go_enter Tryz.func104,Tryz.ntmps104;go_upto_if 17 with(fail);go_cut [7]from 17 to 26 (λlv W=>W.ownsRow w.heap.size 82 3 lv (pM q x.own).length (RC (pM q x.own))∧iI N {x with own:=E9 q x.own} W∧MapU W x.Mo f sz∧J3 0 (.slice ao L.length c) L W∧Fx (λk=>k=N∨k=x.Mo) w W)
 case first=>
  by_cases hq:q>x.own
  ·have hg1:w.grownBy (w.setCell ⟨N,10,none⟩ (.int .u32 q)) (some N):=ah (aC _ (some N)) 10 _;have hN1:=hN.aau q;have hm1:=hm.kept hg1 (by simpa using Ne.symm hNM);have hl1:=hl.grown hg1 (XM hN);have hF1:Fx (λk=>k=N∨k=x.Mo) w (w.setCell ⟨N,10,none⟩ (.int .u32 q)):=Fx.grown hg1 (λk e=>by cases e;exact .inl rfl);have hsz1:=hg1.size;go_upto_region 4 with(fail);generalize World.setCell _ _ _=W1 at hN1 hm1 hl1 hF1 hsz1 ⊢;clear n0 n2 n3 n4 n5 n6 n7 n8 n9 n10 f8 hg1;have hr0:W1.ownsRow w.heap.size 82 3 (.slice none 0 0) 0 (RC []):=⟨rfl,.inl ⟨rfl,rfl⟩⟩;have hb3:Below W1.heap.size W1 (W1.alloc (aY true 0 q)):=bC;have hcr:=kY W1 true 0 q;dsimp only[aY]at hb3 hcr;go_wp2_with(at_builtin;refine wpList_append_own_at _ rfl _ _ 79 rfl w.heap.size 82 i0 (.agg #[.bool false,.int .u32 0,.int .u32 0]) 3 12 Tryz.underlying79 hi hz0 hz1 hz2 rfl (by decide) (.slice none 0 0) 0 (RC []) rfl (hr0.alloc _) ⟨W1.heap.size,0,none⟩ 1 1 (RC [(true,0,q)]) rfl rfl hcr (nJ true 0 q) (by unfold maxLen;omega) (by omega) ?c3 ?_)
   case c3=>simp;omega
   intro v3 w3 ho3 hg3 _ _;have hno:pM q x.own=[(true,0,q)]:=by simp[pM,hq]
   have hif:E9 q x.own=q:=by simp[E9,hq]
   have hNn:Hid (iI N {x with own:=q} w3):=(hN1.later hb3).kept hg3 (by simp[Value.ownBlock]);have hmn:=(hm1.block (hb3.block _ hm1.lt)).kept hg3 (by simp[Value.ownBlock]);have afi:=(hl1.later hb3).grown hg3 (by intro k hk;simp[Value.ownBlock]at hk);have hFn:=aV (hF1.trans (Fx.below (S:=λ_=>False) hb3) (λ_ _ h=>h.elim)) hg3 (by intro i _ hk;simp[Value.ownBlock]at hk);clear hN1 hm1 hl1 hF1 hb3 hcr hg3;go_wp2_with fail;go_meet;rw[hno,hif];exact⟨ho3,hNn.out,hmn,afi,hFn⟩
  ·have hno:pM q x.own=[]:=by simp[pM,hq]
   have hif:E9 q x.own=x.own:=by simp[E9,hq]
   go_wp2_with fail;go_meet;rw[hno,hif];exact⟨⟨rfl,.inl ⟨rfl,rfl⟩⟩,hN,hm,hl,Fx.refl _ _⟩
 case rest=>
  clear n0 n2 n3 n4 n5 n6 n7 n8 n9 n10 f8 hl hN hm;obtain⟨ho,hN,hm,hl,hF⟩:=hcut;rename_i lv;have hl8:L.length<=8:=by rw[Yt.out];exact hln
  have hlO:(pM q x.own).length<=1:=by unfold pM;split<;>simp
  have gX:Hid (bJ q x.own f (A.take 0)=(f,pM q x.own)):=by
   show _=_;simp[bJ]
  have hPA:Hid (bJ q x.own f (A.take L.length)=bJ q x.own f A):=by
   show _=_;rw[Yt.out,List.take_length]
  generalize hyo:E9 q x.own=y at hN;have aeJ:=(show Hid _ from hyo);clear hyo;have hsz0:=hF.size;go_wp2_with fail;go_loopw [7,29] (λlv i wr=>∃(k sk:Nat),k<=L.length∧i=.int .i64 k∧wr.ownsRow w.heap.size 82 3 lv (bJ q x.own f (A.take k)).2.length (RC (bJ q x.own f (A.take k)).2)∧iI N {x with own:=y} wr∧MapU wr x.Mo (bJ q x.own f (A.take k)).1 sk∧sk<=sz+k∧J3 0 (.slice ao L.length c) L wr∧Fx (λk=>k=N∨k=x.Mo) w wr) (λ_ i _=>L.length - (intOf i).toNat)
  case atStart=>exact⟨0,sz,b_ _,rfl,by rw[gX.out];exact ho,hN,by rw[gX.out];exact hm,by omega,hl,hF⟩
  case round=>
   clear ho hN hm hl hF hsz0;obtain⟨k,sk,hk,rfl,ho,hN,hm,hsk,hl,hF⟩:=hrel;by_cases hlt:k<L.length
   ·have hki:(k:Int)<(L.length:Int):=by omega
    obtain⟨⟨yy,u⟩,hp⟩:∃p,L[k]?=some p:=⟨_,cK hlt⟩;have hx:A[k]?=some yy:=by rw[<-hA,jQ,hp];rfl
    have ru:=hok yy (gI hx);have hst:Hid (bJ q x.own f (A.take (k+1))=jF (bJ q x.own f (A.take k)) yy):=KE q x.own f hx;have hlen:(bJ q x.own f (A.take k)).2.length<=9:=by
     have h1:=oF q x.own f (A.take k);have h2:(A.take k).length<=8:=by rw[List.length_take];omega
     omega
    obtain⟨ao',c',he,hH⟩:=ay hl.row;cases he;have hat:=λ{i:Nat} (hi:i<7)=>acp hp hi;obtain⟨au,cu,hu,_⟩:=ay (hl.bN _ (gI hp));dsimp only at hu;subst hu;rw[Xj]at hat;obtain⟨b1,o1,rfl,hj1⟩:=hH (k * 7+0) _ (hat (i:=0) (by decide));have c0:=hH.one rfl (hat (i:=0) (by decide));have c1:=hH.one rfl (hat (i:=1) (by decide));have c2:=hH.one rfl (hat (i:=2) (by decide));have c3:=hH.one rfl (hat (i:=3) (by decide));have c4:=hH.one rfl (hat (i:=4) (by decide));have c5:=hH.one rfl (hat (i:=5) (by decide));have c6:=hH.one rfl (hat (i:=6) (by decide));rw[Nat.add_zero]at c0;rw[<-Nat.add_assoc]at c1 c2 c3 c4 c5 c6;have jM:Below wr.heap.size wr (wr.alloc (bZ yy (.slice au yy.bN.length cu))):=bC;have hX:=eu.new yy (.slice au yy.bN.length cu) wr;have ho1:=aL ho jM;have hN1:=hN.later jM;have hm1:=hm.block (jM.block _ hm.lt);have hl1:=hl.later jM;have hF1:=hF.trans (Fx.below (S:=λ_=>False) jM) (λ_ _ h=>h.elim);dsimp only[bZ]at hX ho1 hN1 hm1 hl1 hF1;clear hj1 hat hH hp hx ho hN hm hl hF jM;generalize bJ q x.own f (A.take k)=st at hst ho1 hm1 hlen;obtain⟨fk,lk⟩:=st;dsimp only at ho1 hm1 hlen;go_upto_region 8 with(fail);generalize wr.heap.size=B1 at hX ⊢;generalize World.alloc _ _=W1 at hX ho1 hN1 hm1 hl1 hF1 ⊢;clear c0 c1 c2 c3 c4 c5 c6;obtain⟨p0,p1,p2,p3,p4,p5,p6⟩:=hX.cell;obtain⟨n0,n2,n3,n4,n5,n6,n7,n8,n9,n10⟩:=hN1.cell;dsimp only at n0 n2 n3 n4 n5 n6 n7 n8 n9 n10;have hk0:=hm1.look_ok ru.dest;have hk1:=(show MapU W1.drew _ _ _ from hm1).look_ok ru.dest;generalize hod:fk yy.dest=od at hk0 hk1;have abj:=(show Hid _ from hod);clear hod;go_region
    clear hk0 hk1 p0 p1 p2 p3 p4 p5 p6 n0 n2 n3 n4 n5 n6 n7 n8 n9 n10;have hb2:Below W1.heap.size W1 W1.drew:=(aU _ _).drew;replace hX:=hX.later hb2;replace ho1:=aL ho1 hb2;replace hN1:=hN1.later hb2;replace hm1:=hm1.block (hb2.block _ hm1.lt);replace hl1:=hl1.later hb2;replace hF1:=hF1.trans (Fx.below (S:=λ_=>False) hb2) (λ_ _ h=>h.elim);clear hb2;generalize World.drew _=W2 at hX ho1 hN1 hm1 hl1 hF1 ⊢;obtain⟨p0,p1,p2,p3,p4,p5,p6⟩:=hX.cell;obtain⟨n0,n2,n3,n4,n5,n6,n7,n8,n9,n10⟩:=hN1.cell;dsimp only at n0 n2 n3 n4 n5 n6 n7 n8 n9 n10;have hnew:sU fk yy=(!od.isSome||decide (yy.seq>od.getD 0)):=by unfold sU;rw[abj.out]
    cases hb:sU fk yy
    ·rw[XF hb]at hst;rw[hb]at hnew;have hs:od.isSome=true:=by
      cases od with
      |none=>cases hnew
      |some z=>rfl
     obtain⟨z,rfl⟩:=Option.isSome_iff_exists.1 hs;have hz:¬(z<yy.seq):=by simpa using hnew.symm
     clear hnew hs hb abj;simp only[Option.isSome_some,Option.getD_some];go_wp2_with fail;go_roundw
     case rel=>exact⟨k+1,sk,by omega,by go_num,by rw[hst.out];exact ho1,hN1,by rw[hst.out];exact hm1,by omega,hl1,hF1⟩
     case measure=>simp[intOf];omega
    ·rw[Ia hb]at hst;rw[hb]at hnew;clear hb abj;obtain⟨W3,hr3,oJ,hg3⟩:=(show MapU W2.drew _ _ _ from hm1).put (by unfold maxLen;omega) ru.dest (v:=yy.seq) ru.seq;have hg3':W2.grownBy W3 (some x.Mo):=⟨hg3.os,hg3.tape,hg3.output,hg3.size,hg3.block⟩;have hX3:eu B1 yy (.slice au yy.bN.length cu) W3:=hX.block (hg3'.block _ hX.lt (λe=>by
      cases e;obtain⟨es,cl,hM⟩:=hm1.obj;rw[show W2.heap[x.Mo]?=_ from hX]at hM;cases hM))
     have ho3:W3.ownsRow w.heap.size 82 3 u7 lk.length (RC lk):=ho1.kept hg3' (.inr (EB ho1 hm1));have Bt:=hN1.kept hg3' (by simpa using Ne.symm hNM);have hl3:=hl1.grown hg3' (XQ hm1);have yP:=aV hF1 hg3' (λi _ e=>by cases e;exact .inr rfl);have aa9:(if (fk yy.dest).isSome then sk else sk+1)<=sz+(k+1):=by split<;>omega
     generalize (if (fk yy.dest).isSome then sk else sk+1)=sk3 at oJ aa9;clear ho1 hN1 hm1 hl1 hF1 hg3 hg3' hX;have hla:=ho3.lt;have hb3:Below W3.heap.size W3 (W3.alloc (aY false yy.dest yy.seq)):=bC;have hcr:=kY W3 false yy.dest yy.seq;have hs3:=yP.size;dsimp only[aY]at hb3 hcr;have hcond:od=none∨∃z,od=some z∧z<yy.seq:=by
      cases od with
      |none=>exact .inl rfl
      |some z=>exact .inr ⟨z,rfl,by simpa using hnew.symm⟩
     clear hnew;rcases hcond with rfl|⟨z,rfl,hz⟩
     ·simp only[Option.isSome_none,Option.getD_none];go_wp2_with fail;go_region
      clear n0 n2 n3 n4 n5 n6 n7 n8 n9 n10 p0 p1 p2 p3 p4 p5 p6;obtain⟨p0,p1,p2,p3,p4,p5,p6⟩:=hX3.cell;go_wp2_with(at_builtin;refine wpList_append_own_at _ rfl _ _ 79 rfl w.heap.size 82 i0 (.agg #[.bool false,.int .u32 0,.int .u32 0]) 3 12 Tryz.underlying79 hi hz0 hz1 hz2 rfl (by decide) u7 lk.length (RC lk) rfl (ho3.alloc _) ⟨W3.heap.size,0,none⟩ 1 1 (RC [(false,yy.dest,yy.seq)]) rfl rfl hcr (nJ false yy.dest yy.seq) (by unfold maxLen;omega) (by omega) ?c3 ?_)
      case c3=>simp;omega
      intro v4 W4 DX hg4 _ _;have CB:=(Bt.later hb3).kept hg4 (Km ho3 Bt);have CU:=(oJ.block (hb3.block _ oJ.lt)).kept hg4 (Ne.symm (EB ho3 oJ));have hl4:=(hl3.later hb3).grown hg4 (λk hk=>GX (ho3.alloc _) k hk);have tu:=aV (yP.trans (Fx.below (S:=λ_=>False) hb3) (λ_ _ h=>h.elim)) hg4 (λi hi e=>by have:=(hla i e).1;omega);clear Bt oJ hl3 yP hb3 hcr hg4 ho3 hX3 hla p0 p1 p2 p3 p4 p5 p6;go_wp2_with fail;go_roundw
      case rel=>exact⟨k+1,sk3,by omega,by go_num,by rw[hst.out,dx,lD];exact DX,CB,by rw[hst.out];exact CU,aa9,hl4,tu⟩
      case measure=>simp[intOf];omega
     ·simp only[Option.isSome_some,Option.getD_some];go_wp2_with fail;go_region
      clear n0 n2 n3 n4 n5 n6 n7 n8 n9 n10 p0 p1 p2 p3 p4 p5 p6;obtain⟨p0,p1,p2,p3,p4,p5,p6⟩:=hX3.cell;go_wp2_with(at_builtin;refine wpList_append_own_at _ rfl _ _ 79 rfl w.heap.size 82 i0 (.agg #[.bool false,.int .u32 0,.int .u32 0]) 3 12 Tryz.underlying79 hi hz0 hz1 hz2 rfl (by decide) u7 lk.length (RC lk) rfl (ho3.alloc _) ⟨W3.heap.size,0,none⟩ 1 1 (RC [(false,yy.dest,yy.seq)]) rfl rfl hcr (nJ false yy.dest yy.seq) (by unfold maxLen;omega) (by omega) ?c3 ?_)
      case c3=>simp;omega
      intro v4 W4 DX hg4 _ _;have CB:=(Bt.later hb3).kept hg4 (Km ho3 Bt);have CU:=(oJ.block (hb3.block _ oJ.lt)).kept hg4 (Ne.symm (EB ho3 oJ));have hl4:=(hl3.later hb3).grown hg4 (λk hk=>GX (ho3.alloc _) k hk);have tu:=aV (yP.trans (Fx.below (S:=λ_=>False) hb3) (λ_ _ h=>h.elim)) hg4 (λi hi e=>by have:=(hla i e).1;omega);clear Bt oJ hl3 yP hb3 hcr hg4 ho3 hX3 hla p0 p1 p2 p3 p4 p5 p6;go_wp2_with fail;go_roundw
      case rel=>exact⟨k+1,sk3,by omega,by go_num,by rw[hst.out,dx,lD];exact DX,CB,by rw[hst.out];exact CU,aa9,hl4,tu⟩
      case measure=>simp[intOf];omega
   ·obtain rfl:k=L.length:=by omega
    rw[hPA.out]at ho hm;have hcl:(bJ q x.own f A).2.length<=9:=dH (oF q x.own f A) (by omega);obtain⟨n0,n2,n3,n4,n5,n6,n7,n8,n9,n10⟩:=hN.cell;have f10:=hN.free 12;dsimp only at n0 n2 n3 n4 n5 n6 n7 n8 n9 n10;have hg:wr.grownBy (wr.setCell ⟨N,12,none⟩ (.int .i64 (x.cnt+(bJ q x.own f A).2.length))) (some N):=ah (aC _ (some N)) 12 _;have V8:=hN.RJ (x.cnt+(bJ q x.own f A).2.length);have hm5:=hm.kept hg (by simpa using Ne.symm hNM);have ho5:(wr.setCell ⟨N,12,none⟩ (.int .i64 (x.cnt+(bJ q x.own f A).2.length))).ownsRow w.heap.size 82 3 u7 (bJ q x.own f A).2.length (RC (bJ q x.own f A).2):=ho.kept hg (.inr (Km ho hN));have hF5:=aV hF hg (λi _ e=>by cases e;exact .inl rfl);obtain⟨a7,c7,rfl,_⟩:=ay ho;have hwr:wrap64 (x.cnt+(bJ q x.own f A).2.length)=x.cnt+(bJ q x.own f A).2.length:=by unfold wrap64;omega
    clear ho hN hm hl hF hg;go_wp2;go_ret;rw[aeJ.out];exact⟨_,rfl,ho5,V8,_,hm5,by omega,hF5⟩
variable{f:Int->Option Nat}{bg:List (Bool×Int×Int)}{aR aI:List (Int×ByteArray)}{aQ:List Int}{A:List Rt}{B M T:Nat}{W W':World}
theorem kU{P:Program}{ops:Array Oper}{o:Oper}{a:Act}{w:World}{K:Act->World->Prop}{Q:Exit->Act->World->Prop}{E:Prop}
  (hg:o.guard=none) (s x:Operand) (t:TypeId) (hop:o.op=Op.call {callee:=Callee.builtin Builtin.append,args:=#[s,x],argTypes:=#[t,t]})
  (base:Nat) (e:TypeId) (i:TypeInfo) (z:Value) (size bytes:Nat) (h1:P.underlying t=some (.slice e)) (h2:P.info? e=some i) (h3:i.zero=some z) (h4:i.size=size) (h5:i.bytes=bytes) (h6:z.cells.size=size) (h7:0<size)
  (v:Value) (n:Nat) (xs:List Value) (hs:a.eval s=v) (hown:w.ownsRow base e size v n xs)
  (NY:Nat) (v2:Value) (m:Nat) (ys:List Value) (hx:a.eval x=v2) (hown2:w.ownsRow NY e size v2 m ys) (h1c:∀u∈ys,u.oneCell'=true)
  (b1:n+m<=maxLen) (b2:(n+m)* bytes<=140737488355328) (hbase:base<=w.heap.size)
  (hK:∀v' w',w'.ownsRow base e size v' (n+m) (xs++ys)->w.grownBy w' v.ownBlock->K (a.put o.dst v') w'):
  if Region.wanted o (yielded ops a.tmps)=true then Oper.wp P o a w K Q else E:=by
 have hw:Region.wanted o (yielded ops a.tmps)=true:=by simp[Region.wanted,hg]
 rcases hown2.2 with⟨rfl,rfl⟩|⟨g,cap,cur,rfl,_,hgb,_⟩
 ·rw[aM hw];have hrun:=run_append_owned_none (P:=P) (w:=w) base t o.type e i size h1 h2 v n xs hown;unfold Oper.wp;simp[execOp,hop,resolve,invoke,builtin,hs,hx,hrun,Result.andThen];have hy:ys=[]:=qz (by have:=hown2.1;simpa using this);subst hy;exact hK v w (by simpa using hown) ⟨rfl,rfl,rfl,aB _,λ_ _ _=>rfl⟩
 ·exact zm hg s x t hop base e i z size bytes h1 h2 h3 h4 h5 h6 h7 v n xs hs hown ⟨g,0,none⟩ m cap ys hx hown2.1 (λj u hj=>by
   obtain⟨b',o',k1,_,k2⟩:=gN.ofRow hown2 j u hj;simp only[Option.some.injEq,Addr.mk.injEq,and_true]at k1;obtain⟨rfl,rfl⟩:=k1;have hadd:(⟨g,0,none⟩:Addr).add j=⟨g,0+j,none⟩:=by unfold Addr.add;split<;>simp_all
   rw[hadd];exact k2) h1c b1 b2 hbase hK
structure qy where
 now:Int
 nT:Value
 aZ:ByteArray
 bn:Bool
 aJ:Value
 bL:Value
 bO:Value
@[reducible] def oP(a : qy): Obj := .cells #[.int .u64 a.now, a.nT, .string a.aZ, .bool a.bn, a.aJ, a.bL, a.bO] 134
def oV(B:Nat)(a:qy)(W:World):Prop:=W.heap[B]?=some (oP a)
theorem oV.cell{a:qy}(h:oV B a W):
  W.cell? ⟨B,0,none⟩=some (.int .u64 a.now)∧W.cell? ⟨B,1,none⟩=some a.nT∧W.cell? ⟨B,2,none⟩=some (.string a.aZ)∧W.cell? ⟨B,3,none⟩=some (.bool a.bn)∧W.cell? ⟨B,4,none⟩=some a.aJ∧W.cell? ⟨B,5,none⟩=some a.bL∧W.cell? ⟨B,6,none⟩=some a.bO:=
 ⟨aG W B 0 _ _ _ h,aG W B 1 _ _ _ h,aG W B 2 _ _ _ h,aG W B 3 _ _ _ h,aG W B 4 _ _ _ h,aG W B 5 _ _ _ h,aG W B 6 _ _ _ h⟩
theorem oV.free{a:qy}(h:oV B a W)(i:Nat):W.frozen? ⟨B,i,none⟩=false:=by
 unfold World.frozen?;rw[show W.heap[(⟨B,i,none⟩:Addr).block]?=some (oP a)from h];try rfl
theorem oV.lt{a:qy}(h:oV B a W):B<W.heap.size:=(iC.1 h).1
theorem oV.block{a:qy}(h:oV B a W)(he:W'.heap[B]?=W.heap[B]?):oV B a W':=he.trans h
theorem oV.RI{a:qy}(h:oV B a W)(v:Value):oV B {a with nT:=v} (W.setCell ⟨B,1,none⟩ v):=by
 unfold oV at h ⊢;simp[World.setCell,Array.getElem?_modify,h]
theorem oV.Ey{a:qy}(h:oV B a W)(v:ByteArray):oV B {a with aZ:=v} (W.setCell ⟨B,2,none⟩ (.string v)):=by
 unfold oV at h ⊢;simp[World.setCell,Array.getElem?_modify,h]
theorem oV.RH{a:qy}(h:oV B a W)(v:Bool):oV B {a with bn:=v} (W.setCell ⟨B,3,none⟩ (.bool v)):=by
 unfold oV at h ⊢;simp[World.setCell,Array.getElem?_modify,h]
theorem oV.aaw{a:qy}(h:oV B a W)(v:Value):oV B {a with aJ:=v} (W.setCell ⟨B,4,none⟩ v):=by
 unfold oV at h ⊢;simp[World.setCell,Array.getElem?_modify,h]
theorem oV.aay{a:qy}(h:oV B a W)(v:Value):oV B {a with bL:=v} (W.setCell ⟨B,5,none⟩ v):=by
 unfold oV at h ⊢;simp[World.setCell,Array.getElem?_modify,h]
theorem oV.aax{a:qy}(h:oV B a W)(v:Value):oV B {a with bO:=v} (W.setCell ⟨B,6,none⟩ v):=by
 unfold oV at h ⊢;simp[World.setCell,Array.getElem?_modify,h]
def uL(L:List (Int×ByteArray)):List Value:=L.flatMap λx=> [.int .u32 x.1,.string x.2]
def J6(L:List Int):List Value:=L.map λx=> .int .i64 x
theorem Co(a b:List (Int×ByteArray)):uL (a++b)=uL a++uL b:=by simp[uL]
theorem LY(a b:List Int):J6 (a++b)=J6 a++J6 b:=by simp[J6]
structure jI(B base:Nat)(a:qy)(bg:List (Bool×Int×Int))(aI aR:List (Int×ByteArray))(aQ:List Int)(W:World):Prop where
 blk:oV B a W
 nT:W.ownsRow base 82 3 a.nT bg.length (RC bg)
 aJ:W.ownsRow base 77 2 a.aJ aI.length (uL aI)
 bL:W.ownsRow base 56 2 a.bL aR.length (uL aR)
 bO:W.ownsRow base 195 1 a.bO aQ.length (J6 aQ)
def jC(B:Nat)(a:qy)(k:Nat):Prop:=k=B∨a.nT.ownBlock=some k∨a.aJ.ownBlock=some k∨a.bL.ownBlock=some k∨a.bO.ownBlock=some k
theorem jI.kept{base:Nat}{a:qy}(h:jI B base a bg aI aR aQ W)(he:∀k,jC B a k->W'.heap[k]?=W.heap[k]?):jI B base a bg aI aR aQ W':=
 ⟨h.blk.block (he B (.inl rfl)),bP h.nT λk hk=>he k (.inr (.inl hk)),bP h.aJ λk hk=>he k (.inr (.inr (.inl hk))),bP h.bL λk hk=>he k (.inr (.inr (.inr (.inl hk)))),bP h.bO λk hk=>he k (.inr (.inr (.inr (.inr hk))))⟩
theorem jI.lt{base:Nat}{a:qy}(h:jI B base a bg aI aR aQ W){k:Nat}(hk:jC B a k):k<W.heap.size:=by
 rcases hk with rfl|hk|hk|hk|hk
 ·exact h.blk.lt
 ·exact(h.nT.lt k hk).2
 ·exact(h.aJ.lt k hk).2
 ·exact(h.bL.lt k hk).2
 ·exact(h.bO.lt k hk).2
theorem jI.later{base:Nat}{a:qy}(h:jI B base a bg aI aR aQ W)(hb:Below W.heap.size W W'):jI B base a bg aI aR aQ W':=
 h.kept λk hk=>hb.block k (h.lt hk)
def oC(o:Obj):Prop:=(∀c,o≠ .cells c 134 (0,0))∧(∀c,o≠ .cells c 82 (0,0))∧(∀c,o≠ .cells c 77 (0,0))∧(∀c,o≠ .cells c 56 (0,0))∧∀c,o≠ .cells c 195 (0,0)
theorem jI.not{base:Nat}{a:qy}(h:jI B base a bg aI aR aQ W){k:Nat}{o:Obj}(ho:W.heap[k]?=some o)(hk:oC o):¬jC B a k:=by
 obtain⟨h1,h2,h3,h4,h5⟩:=hk;rintro(rfl|hk|hk|hk|hk)
 ·rw[show W.heap[k]?=_ from h.blk]at ho;exact h1 _ (Option.some.inj ho).symm
 ·exact aA h.nT ho h2 hk
 ·exact aA h.aJ ho h3 hk
 ·exact aA h.bL ho h4 hk
 ·exact aA h.bO ho h5 hk
theorem Na(x:mX):oC (oG x):=⟨λc e=>(by cases e),λc e=>(by cases e),λc e=>(by cases e),λc e=>(by cases e),λc e=>(by cases e)⟩
theorem vN(es:Array MapEntry)(cl:Nat):oC (.map es cl):=⟨λc e=>(by cases e),λc e=>(by cases e),λc e=>(by cases e),λc e=>(by cases e),λc e=>(by cases e)⟩
def zx(o:Obj):Prop:=(∀c,o≠ .cells c 158 (0,0))∧(∀c,o≠ .cells c 38 (0,0))∧∀c,o≠ .cells c 34 (0,0)
theorem MT.not{me:Int}{g:Int->Value}(h:MT me T M f g A W){k:Nat}(hM:k≠M){o:Obj}(ho:W.heap[k]?=some o)(hk:zx o):¬mY T M f g A k:=by
 obtain⟨h1,h2,h3⟩:=hk;rintro(rfl|rfl|⟨x,hx,hk|hk⟩)
 ·rw[show W.heap[k]?=_ from h.blk]at ho;exact h1 _ (Option.some.inj ho).symm
 ·exact hM rfl
 ·obtain⟨B,p1,p2⟩:=h.ln x hx;rw[p1]at hk;cases hk;rw[show W.heap[k]?=_ from p2]at ho;exact h2 _ (Option.some.inj ho).symm
 ·exact aA (h.row x hx) ho h3 hk
theorem MT.KM{me:Int}{g:Int->Value}{S:Nat->Prop}(h:MT me T M f g A W)(hf:Fx S W W')(hS:∀k,S k->k<W.heap.size->k≠M∧∃o,W.heap[k]?=some o∧zx o):MT me T M f g A W':=
 h.kept λk hk=>hf.block k (h.lt hk) λhs=>by
  obtain⟨h1,o,h2,h3⟩:=hS k hs (h.lt hk);exact h.not h1 h2 h3 hk
theorem rZ(x:mX):zx (oG x):=⟨λc e=>(by cases e),λc e=>(by cases e),λc e=>(by cases e)⟩
theorem Zd(x:qy):zx (oP x):=⟨λc e=>(by cases e),λc e=>(by cases e),λc e=>(by cases e)⟩
theorem vM(es:Array MapEntry)(cl:Nat):zx (.map es cl):=⟨λc e=>(by cases e),λc e=>(by cases e),λc e=>(by cases e)⟩
theorem aS{base e size n:Nat}{v:Value}{cs:List Value}(h:W.ownsRow base e size v n cs){k:Nat}(hk:v.ownBlock=some k):∃c,W.heap[k]?=some (.cells c e (0,0)):=by
 rcases h.2 with⟨rfl,_⟩|⟨g,cap,cur,rfl,_,h2,_⟩
 ·cases hk
 ·simp only[Value.ownBlock,Option.some.injEq]at hk;subst hk;exact⟨_,h2⟩
theorem jI.zx{base:Nat}{a:qy}(h:jI B base a bg aI aR aQ W){k:Nat}(hk:jC B a k):∃o,W.heap[k]?=some o∧Go.Proofs.YtakaadcpaeiccabGreat.zx o∧(∀c,o≠ .cells c 131 (0,0))∧∀es cl,o≠ .map es cl:=by
 rcases hk with rfl|hk|hk|hk|hk
 ·exact⟨_,h.blk,Zd a,λc e=>(by cases e),λc d e=>(by cases e)⟩
 ·obtain⟨c,hc⟩:=aS h.nT hk;exact⟨_,hc,⟨λc e=>(by cases e),λc e=>(by cases e),λc e=>(by cases e)⟩,λc e=>(by cases e),λc d e=>(by cases e)⟩
 ·obtain⟨c,hc⟩:=aS h.aJ hk;exact⟨_,hc,⟨λc e=>(by cases e),λc e=>(by cases e),λc e=>(by cases e)⟩,λc e=>(by cases e),λc d e=>(by cases e)⟩
 ·obtain⟨c,hc⟩:=aS h.bL hk;exact⟨_,hc,⟨λc e=>(by cases e),λc e=>(by cases e),λc e=>(by cases e)⟩,λc e=>(by cases e),λc d e=>(by cases e)⟩
 ·obtain⟨c,hc⟩:=aS h.bO hk;exact⟨_,hc,⟨λc e=>(by cases e),λc e=>(by cases e),λc e=>(by cases e)⟩,λc e=>(by cases e),λc d e=>(by cases e)⟩
open Go.WideMaps Go.WideShapes
variable{a b:Int×Int}{M s:Nat}{v:Value}{W:World}
theorem aah:(261:TypeId)<Tryz.prog.types.size:=of_decide_eq_true (by kernel_rfl)
theorem Wz:laidOutB Tryz.prog=true:=by kernel_rfl
theorem Mf:(match Tryz.prog.underlying 261 with|some (.array _ _)|some (.struct _)=>true|_=>false)=true:=by kernel_rfl
theorem aai:Tryz.prog.keyTypeAt 2 261=true:=by kernel_rfl
theorem WE:KeyLaw Tryz.prog 261:=deep_law_laid Wz (m:=2) (by omega) aah aai Mf
theorem qN:Keyed Tryz.prog 261:=Keyed.of_law WE
theorem WG(w:World):(zeroValue 279).run Tryz.prog w=.ok (.agg #[.int .u64 0,.int .i64 0]) w:=by kernel_rfl
def iE(q:Int×Int):Lit:=.string (keyBytes [.int .u32 q.1,.int .u32 q.2])
def jV(q:Int×Int):Value:=.agg #[.int .u32 q.1,.int .u32 q.2]
def xW(m:Int×Int):Value:=.agg #[.int .u64 m.1,.int .i64 m.2]
def Ju(m:Int×Int):DataW Unit:=.agg [.lit (.int .u64 m.1),.lit (.int .i64 m.2)]
def Fb(v:Value):Option (DataW Unit×List MemPlace):=
 match v with
 | .agg cs=>match cs.toList with
  | [.int .u64 t,.int .i64 n]=>some (.agg [.lit (.int .u64 t),.lit (.int .i64 n)],[])
  |_=>none
 |_=>none
theorem Fa(m:Int×Int):Fb (xW m)=some (Ju m,[]):=rfl
theorem Ip{y:DataW Unit×List MemPlace}(h:Fb v=some y):∃m,v=xW m∧y=(Ju m,[]):=by
 unfold Fb at h;split at h
 ·rename_i cs;split at h
  ·rename_i t n hl;obtain⟨l⟩:=cs;simp only at hl;subst hl;exact⟨(t,n),rfl,(Option.some.inj h).symm⟩
  ·cases h
 ·cases h
theorem Jt(h:Ju a=Ju b):a=b:=by
 unfold Ju at h;simp only[DataW.agg.injEq,List.cons.injEq,DataW.lit.injEq,Lit.int.injEq,true_and,and_true]at h;exact Prod.ext h.1 h.2
def wK(q:Int×Int):Prop:=a_ q.1∧a_ q.2
theorem Ty{q:Int×Int}(h:wK q):keyOf Tryz.prog 261 (jV q)=some (iE q):=by
 obtain⟨m,hm⟩:∃m,Tryz.prog.types.size=m+1:=⟨Tryz.prog.types.size - 1,by kernel_rfl⟩;have hkt:Tryz.prog.keyType 261=true:=by kernel_rfl
 have hc:Tryz.prog.cellsOf 261=2:=by kernel_rfl
 have h32:Tryz.prog.cellsOf 34=1:=by kernel_rfl
 have wa:(Lit.int .u32 q.1).wf=true:=h.1.wf;have wb:(Lit.int .u32 q.2).wf=true:=h.2.wf;unfold keyOf jV iE;simp only[Tryz.underlying261];rw[aM (by simp[hkt,Value.formed,Tryz.underlying261,hc]),hm];unfold Program.keyLits;simp only[Tryz.underlying261,Value.cells];rw[aM (by rw[hc];exact⟨rfl,by simp⟩)];simp[List.mapM_cons,List.mapM_nil,Program.keyLits,h32,Tryz.underlying34,wa,wb]
theorem IC{l:Lit}(h:keyOf Tryz.prog 261 v=some l):∃q,v=jV q∧wK q∧l=iE q:=by
 obtain⟨xs,L,rfl,hL,hl⟩:=keyOf_top Mf h;obtain⟨m,hm⟩:∃m,Tryz.prog.types.size=m+1:=⟨Tryz.prog.types.size - 1,by kernel_rfl⟩;have hc:Tryz.prog.cellsOf 261=2:=by kernel_rfl
 have h32:Tryz.prog.cellsOf 34=1:=by kernel_rfl
 unfold Program.keyLits at hL;simp only[Tryz.underlying261]at hL;split at hL
 ·rename_i hs;obtain⟨zs⟩:=xs
  match zs,hs with
  | [c0,c1],_=>
   simp[List.mapM_cons,List.mapM_nil,h32]at hL;obtain⟨l0,h0,hL⟩:=Option.bind_eq_some_iff.1 hL;simp only[Function.comp_apply,Option.map_eq_some_iff,Option.bind_eq_some_iff,Option.some.injEq]at hL;obtain⟨_,⟨_,⟨l1,h1,rfl⟩,rfl⟩,rfl⟩:=hL;have w0:=keyLits_wf h0;have w1:=keyLits_wf h1;obtain⟨n0,e0,rfl⟩:=keyLits_int' Tryz.underlying34 h0;obtain⟨n1,e1,rfl⟩:=keyLits_int' Tryz.underlying34 h1;simp only[List.cons.injEq,and_true]at e0 e1;subst e0 e1;have b0:=w0 _ (dO.2 rfl);have b1:=w1 _ (dO.2 rfl);have d0:=bounds_u32 b0;have d1:=bounds_u32 b1;exact⟨(n0,n1),rfl,⟨⟨d0.1,by dsimp only;omega⟩,⟨d1.1,by dsimp only;omega⟩⟩,hl⟩
 ·cases hL
theorem vC(ha:wK a)(hb:wK b)(h:iE a=iE b):a=b:=by
 have h1:=Ty ha;rw[h]at h1;have:=qN.inj h1 (Ty hb);unfold jV at this;simp only[Value.agg.injEq,Array.mk.injEq,List.cons.injEq,Value.int.injEq,true_and,and_true]at this;exact Prod.ext this.1 this.2
theorem R7(q:Int×Int):WideAt.IsKeyLit (iE q):=by trivial
def qM(g:Int×Int->Option (Int×Int))(k:Int×Int)(v:Option (Int×Int)):Int×Int->Option (Int×Int):=λx=>if x=k then v else g x
def lF(W:World)(M:Nat)(g:Int×Int->Option (Int×Int))(s:Nat):Prop:=
 ∃D:DataW Unit,W.ownsMap Tryz.prog 261 Fb M s D∧Maps.size D=s∧
  ∀k,wK k->Maps.has D (iE k)=(g k).isSome∧D.atKey (iE k) (Ju (0,0))=Ju ((g k).getD (0,0))
theorem lF.block{W':World}{g:Int×Int->Option (Int×Int)}(h:lF W M g s)(he:W'.heap[M]?=W.heap[M]?):lF W' M g s:=by
 obtain⟨D,⟨es,clock,hb,Ft,hs,hD⟩,h2,h3⟩:=h;exact⟨D,⟨es,clock,he.trans hb,Ft,hs,hD⟩,h2,h3⟩
theorem lF.lt{g:Int×Int->Option (Int×Int)}(h:lF W M g s):M<W.heap.size:=by
 obtain⟨D,h1,_⟩:=h;exact h1.lt
theorem lF.obj{g:Int×Int->Option (Int×Int)}(h:lF W M g s):∃es cl,W.heap[M]?=some (.map es cl):=by
 obtain⟨D,⟨es,cl,hm,_⟩,_⟩:=h;exact⟨es,cl,hm⟩
theorem lF.made(w:World):lF (w.alloc (.map #[] 0)) w.heap.size (λ_=>none) 0:=
 ⟨.map [],World.ownsMap_made w _ _ _,rfl,λ_ _=>⟨rfl,rfl⟩⟩
theorem lF.put{g:Int×Int->Option (Int×Int)}(h:lF W M g s)(hs:s<maxLen){k:Int×Int}(hk:wK k)(m:Int×Int):
  ∃W',(Instr.mapUpdate 111 (.map (some M)) (jV k) (xW m)).run Tryz.prog W=.ok () W'∧lF W' M (qM g k (some m)) (if (g k).isSome then s else s+1)∧W.grownBy W' (some M):=by
 obtain⟨D,h1,h2,h3⟩:=h;obtain⟨W',hr,ho,ht⟩:=h1.store qN Tryz.underlying111 hs (Ty hk) (Fa m);have hm:=h1.isMap;have htd:=h1.tidy qN;have hkl:=R7 k;have hsz:Maps.size (D.put (iE k) (Ju m))=if (g k).isSome then s else s+1:=by
  rw[size_put htd,(h3 k hk).1,h2]
 refine⟨W',hr,⟨_,?_,hsz,λx hx=> ?_⟩,ht.grown⟩
 ·have:=fV ho;rw[hsz]at this;exact this
 ·by_cases e:x=k
  ·subst e;refine⟨by rw[has_put_same hm hkl];simp[qM],?_⟩;rw[atKey_put_same hm hkl];simp[qM]
  ·have hne:iE x≠iE k:=λh=>e (vC hx hk h);refine⟨by rw[has_put_other hne];simp[qM,e,(h3 x hx).1],?_⟩;rw[atKey_put_other hne,(h3 x hx).2];simp[qM,e]
theorem lF.look{g:Int×Int->Option (Int×Int)}(h:lF W M g s){k:Int×Int}(hk:wK k):
  (Instr.lookup 111 (.map (some M)) (jV k) false).run Tryz.prog W=.ok (xW ((g k).getD (0,0))) W:=by
 obtain⟨D,h1,h2,h3⟩:=h;obtain⟨v,ps,hr,hv⟩:=h1.lookup qN Tryz.underlying111 (WG W) (Fa (0,0)) (Ty hk);have h4:=(h3 k hk).2;rw[h4]at hv;obtain⟨m,rfl,he⟩:=Ip hv;have:=Jt (Prod.ext_iff.1 he).1;rw[hr,<-this]
theorem lF.del{g:Int×Int->Option (Int×Int)}(h:lF W M g s){k:Int×Int}(hk:wK k)(ty:TypeId)(hf:(g k).isSome=true):
  ∃W',(Builtin.delete_ #[111,261] ty #[.map (some M),jV k]).run Tryz.prog W=.ok (.tuple #[]) W'∧lF W' M (qM g k none) (s - 1)∧W.grownBy W' (some M):=by
 obtain⟨D,h1,h2,h3⟩:=h;obtain⟨W',hr,ho,ht⟩:=h1.drop qN Tryz.underlying111 (Ty hk) ty;have htd:=h1.tidy qN;have hsz:Maps.size (D.del (iE k))=s - 1:=by
  have:=size_del (k:=iE k) htd;rw[(h3 k hk).1,hf,h2]at this;simp at this;omega
 refine⟨W',hr,⟨_,?_,hsz,λx hx=> ?_⟩,ht.grown⟩
 ·have:=fV ho;rw[hsz]at this;exact this
 ·by_cases e:x=k
  ·subst e;refine⟨by rw[has_del_same];simp[qM],?_⟩;rw[atKey_del_same];simp[qM]
  ·have hne:iE x≠iE k:=λh=>e (vC hx hk h);refine⟨by rw[has_del_other hne];simp[qM,e,(h3 x hx).1],?_⟩;rw[atKey_del_other hne,(h3 x hx).2];simp[qM,e]
theorem lF.len{g:Int×Int->Option (Int×Int)}(h:lF W M g s)(ty:TypeId):
  (Builtin.len_ #[111] ty #[.map (some M)]).run Tryz.prog W=.ok (.int .i64 s) W:=by
 obtain⟨D,h1,h2,h3⟩:=h;rw[h1.len Tryz.underlying111 ty,h2]
variable{f:Int->Option Int}{ff:Int->Option Nat}{gg:Int->Value}{A:List Rt}{M N sz:Nat}{x:mX}{W W':World}
structure Gb(N:Nat)(x:mX)(M:Nat)(ff:Int->Option Nat)(gg:Int->Value)(A:List Rt)(f:Int->Option Int)(sz:Nat)(W:World):Prop where
 nd:iI N x W
 mo:MapU W x.Mo f sz
 tb:MT x.self x.T M ff gg A W
 ne:M≠x.Mo
theorem Gb.later(h:Gb N x M ff gg A f sz W)(hb:Below W.heap.size W W'):Gb N x M ff gg A f sz W':=
 ⟨h.nd.later hb,h.mo.block (hb.block _ h.mo.lt),h.tb.kept λk hk=>hb.block k (h.tb.lt hk),h.ne⟩
theorem Zh(L:List (Bool×Int×Int)):∀u∈RC L,u.oneCell'=true:=LH L
theorem Gb.kept(h:Gb N x M ff gg A f sz W){S:Nat->Prop}(hf:Fx S W W')(hS:∀k,S k->k<W.heap.size->∃o,W.heap[k]?=some o∧zx o∧(∀c,o≠ .cells c 131 (0,0))∧∀es cl,o≠ .map es cl):Gb N x M ff gg A f sz W':=by
 have hM:∀k,S k->k<W.heap.size->k≠M∧k≠x.Mo∧k≠N:=by
  intro k hk hlt;obtain⟨o,h1,_,h3,h4⟩:=hS k hk hlt;refine⟨?_,?_,?_⟩
  ·rintro rfl;obtain⟨D,⟨es,cl,hm,_⟩,_⟩:=h.tb.map;rw[hm]at h1;exact h4 _ _ (Option.some.inj h1).symm
  ·rintro rfl;obtain⟨es,cl,hm⟩:=h.mo.obj;rw[hm]at h1;exact h4 _ _ (Option.some.inj h1).symm
  ·rintro rfl;rw[show W.heap[k]?=_ from h.nd]at h1;exact h3 _ (Option.some.inj h1).symm
 refine⟨h.nd.block (hf.block _ h.nd.lt λe=>(hM _ e h.nd.lt).2.2 rfl),h.mo.block (hf.block _ h.mo.lt λe=>(hM _ e h.mo.lt).2.1 rfl),h.tb.KM hf λk hk hlt=> ?_,h.ne⟩;obtain⟨o,h1,h2,_⟩:=hS k hk hlt;exact⟨(hM k hk hlt).1,o,h1,h2⟩
theorem wM(N B base:Nat)(x:mX)(a:qy)(M:Nat)(ff:Int->Option Nat)(gg:Int->Value)(A:List Rt)(f:Int->Option Int)(sz:Nat)(bg:List (Bool×Int×Int))(aI aR:List (Int×ByteArray))(aQ:List Int)(w:World)
  (hn:Gb N x M ff gg A f sz w) (ha:jI B base a bg aI aR aQ w) (hbs:base<=w.heap.size) (hcnt:0<=x.cnt∧x.cnt<=1000000) (hsz:sz<=1000000) (hnw:bg.length<=90000):
  Calls Tryz.prog 71 #[.pointer (some ⟨N,0,none⟩),.pointer (some ⟨B,0,none⟩)] w λe w'=>∃v7 sz',e=.returned (.tuple #[])∧Gb N {x with own:=E9 x.seq x.own,cnt:=x.cnt+(bJ x.seq x.own f A).2.length} M ff gg A (bJ x.seq x.own f A).1 sz' w'∧sz'<=sz+8∧jI B base {a with nT:=v7} (bg++(bJ x.seq x.own f A).2) aI aR aQ w'∧Fx (λk=>k=N∨k=x.Mo∨jC B a k) w w':=by
 obtain⟨i0,hi,hz0,hz1,hz2⟩:=info_parts rq;have hlen:=hn.tb.len;have hok:=hn.tb.ok;have hPl:=oF x.seq x.own f A
 let P5:Value->List (Rt×Value)->World->Prop:=λl L W=>L.map (·.1)=A∧J3 w.heap.size l L W∧Below w.heap.size w W
 have HL:Hid (∀W',Below w.heap.size w W'->Calls Tryz.prog 60 #[.pointer (some ⟨x.T,0,none⟩)] W' λe w5=>∃ao n c L,e=.returned (.slice ao n c)∧P5 (.slice ao n c) L w5):=by
  intro W' hb;refine(VK (hn.later hb).tb).mono ?_;rintro e w5 ⟨v,L,rfl,h1,h2,h3⟩;obtain⟨ao,c,rfl,_⟩:=ay h2.row;exact⟨ao,_,c,L,rfl,h1,⟨ownsRow_base_a h2.row hb.size,λp hp=>ownsRow_base_a (h2.bN p hp) hb.size⟩,hb.trans (h3.mono hb.size)⟩
 let P6:Value->World->Prop:=λv W=>W.ownsRow w.heap.size 82 3 v (bJ x.seq x.own f A).2.length (RC (bJ x.seq x.own f A).2)∧(∃sz',Gb N {x with own:=E9 x.seq x.own,cnt:=x.cnt+(bJ x.seq x.own f A).2.length} M ff gg A (bJ x.seq x.own f A).1 sz' W∧sz'<=sz+8)∧jI B base a bg aI aR aQ W∧Fx (λk=>k=N∨k=x.Mo) w W
 have HN:Hid (∀l L W',P5 l L W'->Calls Tryz.prog 104 #[.pointer (some ⟨N,10,none⟩),.int .u32 x.seq,l] W' λe w6=>∃ao n c,e=.returned (.slice ao n c)∧P6 (.slice ao n c) w6):=by
  rintro l L W' ⟨h1,h2,hb⟩;have hn':=hn.later hb;have ha':=ha.later hb;refine(SS N x x.seq f sz l L A h1 hok hlen hcnt hsz W' hn'.nd hn'.mo ⟨ownsRow_base_a h2.row (b_ _),λp hp=>ownsRow_base_a (h2.bN p hp) (b_ _)⟩).mono ?_;rintro e w6 ⟨v,sz',rfl,k1,k2,k3,k4,k5⟩;obtain⟨ao,c,rfl,_⟩:=ay k1;refine⟨ao,_,c,rfl,ownsRow_base_a k1 hb.size,⟨sz',⟨k2,k3,hn'.tb.KM k5 ?_,hn.ne⟩,k4⟩,ha'.kept λk hk=>k5.block k (ha'.lt hk) ?_,(Fx.below hb).trans (S':=λk=>k=N∨k=x.Mo) k5 (λi _ h=>h)⟩
  ·rintro k (rfl|rfl) _
   ·refine⟨λe=> ?_,_,hn'.nd,rZ x⟩;obtain⟨D,⟨es,cl,hm,_⟩,_⟩:=hn'.tb.map;rw[<-e,show W'.heap[k]?=_ from hn'.nd]at hm;cases hm
   ·obtain⟨es,cl,hm⟩:=hn'.mo.obj;exact⟨Ne.symm hn.ne,_,hm,vM es cl⟩
  ·rintro(rfl|rfl)
   ·exact ha'.not hn'.nd (Na x) hk
   ·obtain⟨es,cl,hm⟩:=hn'.mo.obj;exact ha'.not hm (vN es cl) hk
 have H5:Hid (∀l L W,P5 l L W->W.cell? ⟨B,1,none⟩=some a.nT∧W.cell? ⟨N,3,none⟩=some (.int .u32 x.seq)∧W.cell? ⟨N,7,none⟩=some (.pointer (some ⟨x.T,0,none⟩))):=by
  rintro l L W ⟨_,_,hb⟩;exact⟨(ha.later hb).blk.cell.2.1,(hn.later hb).nd.cell.2.2.1,(hn.later hb).nd.cell.2.2.2.2.1⟩
 have H6:Hid (∀v W,P6 v W->W.cell? ⟨B,1,none⟩=some a.nT∧W.ownsRow base 82 3 a.nT bg.length (RC bg)∧W.ownsRow w.heap.size 82 3 v (bJ x.seq x.own f A).2.length (RC (bJ x.seq x.own f A).2)∧base<=W.heap.size):=by
  rintro v W ⟨h1,_,h3,h4⟩;exact⟨h3.blk.cell.2.1,h3.nT,h1,dH hbs h4.size⟩
 have HF:Hid (∀v W v7 W7,P6 v W->W7.ownsRow base 82 3 v7 (bg.length+(bJ x.seq x.own f A).2.length) (RC bg++RC (bJ x.seq x.own f A).2)->W.grownBy W7 a.nT.ownBlock->(W7.cell? ⟨B,1,none⟩=some a.nT∧W7.frozen? ⟨B,1,none⟩=false)∧∃sz',Gb N {x with own:=E9 x.seq x.own,cnt:=x.cnt+(bJ x.seq x.own f A).2.length} M ff gg A (bJ x.seq x.own f A).1 sz' (W7.setCell ⟨B,1,none⟩ v7)∧sz'<=sz+8∧jI B base {a with nT:=v7} (bg++(bJ x.seq x.own f A).2) aI aR aQ (W7.setCell ⟨B,1,none⟩ v7)∧Fx (λk=>k=N∨k=x.Mo∨jC B a k) w (W7.setCell ⟨B,1,none⟩ v7)):=by
  rintro v W v7 W7 ⟨h1,⟨sz',h2,h2'⟩,h3,h4⟩ iy hg;have hBr:a.nT.ownBlock≠some B:=aA h3.nT h3.blk (λc e=>(by cases e));have jd:oV B a W7:=h3.blk.block (hg.block _ h3.blk.lt (λe=>hBr e.symm));have hg2:W7.grownBy (W7.setCell ⟨B,1,none⟩ v7) (some B):=ah (aC _ (some B)) 1 v7;have hfx:Fx (jC B a) W (W7.setCell ⟨B,1,none⟩ v7):=aV (Fx.grown hg λk e=> .inr (.inl e)) hg2 λi _ e=>by cases e;exact .inl rfl
  have f1:=h3.aJ.kept hg (bX h3.aJ h3.nT (by decide));have f2:=h3.bL.kept hg (bX h3.bL h3.nT (by decide));have f3:=h3.bO.kept hg (bX h3.bO h3.nT (by decide));refine⟨⟨jd.cell.2.1,jd.free 1⟩,sz',h2.kept hfx (λk hk _=>h3.zx hk),h2',⟨jd.RI v7,?_,?_,?_,?_⟩,(h4.mono (λi h=> ?_)).trans hfx (λi _ h=> .inr (.inr h))⟩
  ·rw[dx,lD];exact iy.kept hg2 (.inr (aA iy jd (λc e=>(by cases e))))
  ·exact f1.kept hg2 (.inr (aA f1 jd (λc e=>(by cases e))))
  ·exact f2.kept hg2 (.inr (aA f2 jd (λc e=>(by cases e))))
  ·exact f3.kept hg2 (.inr (aA f3 jd (λc e=>(by cases e))))
  ·rcases h with h|h
   ·exact .inl h
   ·exact .inr (.inl h)
 clear_value P5 P6
 obtain⟨c0,c1,c2,c3,c4,c5,c6⟩:=ha.blk.cell;obtain⟨n0,n2,n3,n4,n5,n6,n7,n8,n9,n10⟩:=hn.nd.cell;clear hn ha;go_enter Tryz.func71,Tryz.ntmps71;go_wp2_with fail;go_region_law (first
  |(go_simp;go_at_call 60;refine(HL.out _ (by first|exact aU _ _|exact(aU _ _).drew|exact below_drewN (aU _ _) _)).mono ?_;rintro e w5 ⟨ao5,n5,cc5,L5,rfl,xP⟩;obtain⟨d1,d2,d3⟩:=H5.out _ _ _ xP)
  |(go_simp;go_at_call 104;refine(HN.out _ _ _ xP).mono ?_;rintro e w6 ⟨ao6,n6,cc6,rfl,JY⟩;obtain⟨e1,e2,e3,e4⟩:=H6.out _ _ JY)
  |(refine kU rfl (.tmp 8) (.tmp 21) 79 rfl base 82 i0 (.agg #[.bool false,.int .u32 0,.int .u32 0]) 3 12 Tryz.underlying79 hi hz0 hz1 hz2 rfl (by decide) a.nT bg.length (RC bg) (by simp[Act.eval]) e2 w.heap.size (.slice ao6 n6 cc6) _ (RC (bJ x.seq x.own f A).2) (by simp[Act.eval]) e3 (Zh _) (by unfold maxLen;omega) (by omega) e4 ?_;intro v7 w7 iy gW;obtain⟨⟨g1,g2⟩,hfin⟩:=HF.out _ _ _ _ JY iy gW;obtain⟨Rf,U_,rfl,_⟩:=ay iy))
 all_goals
  obtain⟨sz',k1,k2,k3,k4⟩:=hfin;generalize World.setCell _ _ _=w8 at k1 k3 k4 ⊢;clear d1 d2 d3 e1 e2 e3 e4 g1 g2 gW iy;go_wp2;go_returns;exact⟨_,_,rfl,k1,k2,k3,k4⟩
end Go.Proofs.YtakaadcpaeiccabGreat
