import Derived.Test.YtakaadcpaeiccabGreatC14
set_option maxHeartbeats 4000000
set_option maxRecDepth 100000
namespace Go.Proofs.YtakaadcpaeiccabGreat
open Go.RowKit
theorem DN(x y:Int)(r:List Int)(k:Nat):num (b4 x++(b4 y++r)) (k+2)=num r k:=by
 unfold num;rw[show 4 * (k+2)=4 * k+8 by omega];rfl
theorem fF(x:Int)(r:List Int):num (b4 x++r) 0=x:=by
 show n4 (x / 16777216) (x / 65536%256) (x / 256%256) (x%256)=x;exact ZB
theorem dS(x:Int)(r:List Int)(k:Nat):num (b4 x++r) (k+1)=num r k:=by
 unfold num;rw[show 4 * (k+1)=4 * k+4 by omega];rfl
theorem OZ(L:List (Int×Int)):qA L.length (L.flatMap λx=>b4 x.1++b4 x.2)=L:=by
 induction L with
 |nil=>rfl
 |cons a L ih=>
  unfold qA at ih ⊢;rw[dY,List.range_succ_eq_map,List.map_cons,List.map_map];simp only[List.flatMap_cons,List.append_assoc,Nat.mul_zero,Nat.zero_add];rw[fF,dS _ _ 0,fF];conv=>rhs;rw[<-ih]
  refine congrArg _ (List.map_congr_left λi _=> ?_);simp only[Function.comp_apply];rw[show 2 * Nat.succ i=2 * i+2 by omega,show 2 * i+2+1=2 * i+1+2 by omega,DN,DN]
theorem YL(u:Bool):((if u then(8:Int)else 0)==8)=u:=by cases u<;>rfl
def qO(p:aD)(L:List (Int×Int)):List Int:=p.kN p.nums.length++iw L L.length++ak p.pay
theorem D_(p:aD)(L:List (Int×Int)):zF p L=p.ttl::p.kind::nQ p::0::p.cnt::qO p L:=by
 simp only[zF,qO,aD.head,List.append_assoc,List.cons_append,List.nil_append]
theorem YW(p:aD)(hg:p.eZ=true)(L:List (Int×Int))(hl:L.length=p.ln):
  (qO p L).length=dR p.kind p.cnt∧iY p.ttl p.kind (nQ p) p.cnt (qO p L)={p with la:=none,lc:=0}∧m_ p.kind p.cnt (qO p L)=L:=by
 obtain⟨hlk,_,_,_,_,_,hk⟩:=eY hg;simp only[aD.yH,yc,eF,iM]at hlk;obtain⟨hln,_,_,h3,h4,h5,h6,h7,h8,h9,h10,h11⟩:=hlk;obtain⟨ttl,kind,hops,unk,id,dest,aX,aJ,dw,life,la,ln,lc,pay⟩:=p;dsimp only at hk h3 h4 h5 h6 h7 h8 h9 h10 h11 hln hl ⊢;rcases hk with rfl|rfl|rfl|⟨rfl,hn0,hn1⟩
 ·simp only[aD.dz,if_true]at h3 h4 h5 h6 h7 h8 h9 h10 h11 hln;subst h10 h11 hln;obtain rfl:=qz hl;refine⟨rfl,?_,rfl⟩;have ht:qO ⟨ttl,1,hops,unk,id,dest,aX,aJ,dw,0,la,0,lc,⟨#[]⟩⟩ []=b4 id++(b4 dest++(b4 aX++(b4 aJ++(b4 dw++ [])))):=rfl;rw[ht];show(⟨ttl,1,hops,nQ _==8,num _ 0,num _ 1,num _ 2,num _ 3,num _ 4,0,none,0,0,⟨#[]⟩⟩:aD)=_;rw[fF,dS _ _ 0,fF,dS _ _ 1,dS _ _ 0,fF,dS _ _ 2,dS _ _ 1,dS _ _ 0,fF,dS _ _ 3,dS _ _ 2,dS _ _ 1,dS _ _ 0,fF];unfold nQ;rw[YL]
 ·simp only[aD.dz,show ¬((2:Int)=1)by omega,if_false,if_true]at h3 h4 h5 h6 h7 h8 h9 h10 h11 hln;subst h4 h5 h9 h11 hln;obtain rfl:=qz hl;refine⟨rfl,?_,rfl⟩;have ht:qO ⟨ttl,2,hops,false,0,dest,aX,aJ,0,life,la,0,lc,⟨#[]⟩⟩ []=b4 dest++(b4 aX++(b4 aJ++(b4 life++ []))):=rfl;rw[ht];show(⟨ttl,2,hops,nQ _==8,0,num _ 0,num _ 1,num _ 2,0,num _ 3,none,0,0,⟨#[]⟩⟩:aD)=_;rw[fF,dS _ _ 0,fF,dS _ _ 1,dS _ _ 0,fF,dS _ _ 2,dS _ _ 1,dS _ _ 0,fF];rfl
 ·simp only[aD.dz,show ¬((9:Int)=1)by omega,show ¬((9:Int)=2)by omega,show ¬((9:Int)=3)by omega,if_false,if_true]at h3 h4 h5 h6 h7 h8 h9 h10 h11 hln;subst h3 h4 h7 h9 h10 hln;obtain rfl:=qz hl;have ht:qO ⟨ttl,9,0,false,id,dest,0,aJ,0,0,la,0,lc,pay⟩ []=b4 id++(b4 dest++(b4 aJ++ak pay)):=rfl;have hc:aD.cnt ⟨ttl,9,0,false,id,dest,0,aJ,0,0,la,0,lc,pay⟩=(pay.size:Int):=rfl;rw[ht,hc];refine⟨?_,?_,rfl⟩
  ·show _=12+((pay.size:Nat):Int).toNat;simp only[dx,lm,bW];omega
  ·show(⟨ttl,9,0,nQ _==8,num _ 0,num _ 1,0,num _ 2,0,0,none,0,0,strOfNums ((ak pay).take ((pay.size:Nat):Int).toNat)⟩:aD)=_;rw[fF,dS _ _ 0,fF,dS _ _ 1,dS _ _ 0,fF,jD (by rw[bW];omega),ve];rfl
 ·simp only[aD.dz,show ¬((3:Int)=1)by omega,show ¬((3:Int)=2)by omega,if_false,if_true]at h3 h4 h5 h6 h7 h8 h9 h10 h11;subst h3 h4 h5 h6 h7 h8 h9 h10 h11;have ht:qO ⟨ttl,3,0,false,0,0,0,0,0,0,la,ln,lc,⟨#[]⟩⟩ L=(L.flatMap λx=>b4 x.1++b4 x.2):=by
   show []++iw L L.length++ []=_;unfold iw;rw[jD (aB _),gU,List.nil_append]
  have hc:aD.cnt ⟨ttl,3,0,false,0,0,0,0,0,0,la,ln,lc,⟨#[]⟩⟩=(ln:Int):=rfl;rw[ht,hc];refine⟨?_,?_,?_⟩
  ·show _=8 * ((ln:Nat):Int).toNat;rw[xS,hl];omega
  ·show(⟨ttl,3,0,nQ _==8,0,0,0,0,0,0,none,((ln:Nat):Int).toNat,0,⟨#[]⟩⟩:aD)=_;rw[show((ln:Nat):Int).toNat=ln by omega];rfl
  ·show qA ((ln:Nat):Int).toNat _=L;rw[show((ln:Nat):Int).toNat=L.length by omega];exact OZ L
theorem SX(p:aD)(hg:p.eZ=true):1<=dR p.kind p.cnt:=by
 obtain⟨_,_,_,_,_,_,hk⟩:=eY hg;unfold dR aD.cnt;rcases hk with hk|hk|hk|⟨hk,h,_⟩
 ·simp[hk]
 ·simp[hk]
 ·simp[hk];omega
 ·simp[hk];omega
theorem LZ(v:Value)(xs:List Int)(W:World)(hv:fe W v xs):
  Calls Tryz.prog 22 #[v] W λe w'=>z_ xs W e w':=Q0 Kz v xs W hv
open Go.Maps
theorem jI.ge{B:Nat}{a:qy}{bg:List (Bool×Int×Int)}{aI aR:List (Int×ByteArray)}{aQ:List Int}{W:World}(h:jI B (B+1) a bg aI aR aQ W){k:Nat}(hk:jC B a k):B<=k:=by
 rcases hk with rfl|hk|hk|hk|hk
 ·exact aB _
 ·exact Nat.le_of_succ_le (h.nT.lt k hk).1
 ·exact Nat.le_of_succ_le (h.aJ.lt k hk).1
 ·exact Nat.le_of_succ_le (h.bL.lt k hk).1
 ·exact Nat.le_of_succ_le (h.bO.lt k hk).1
theorem EJ(p:aD):oC p.box:=⟨λc e=>(by cases e),λc e=>(by cases e),λc e=>(by cases e),λc e=>(by cases e),λc e=>(by cases e)⟩
variable{f h:Int->Option Nat}{u:Int->Value}{bg:List (Bool×Int×Int)}{aR aI:List (Int×ByteArray)}{aQ:List Int}{B M Mt N T:Nat}{F F':Nat->Prop}{x:mX}{s s':St}{tv:Value}{W W' a b:World}
theorem kR.block{s:Nat}(h:kR W M f s)(he:W'.heap[M]?=W.heap[M]?):kR W' M f s:=by
 obtain⟨D,⟨es,clock,hb,Ft,hs,hD⟩,h2,h3⟩:=h;exact⟨D,⟨es,clock,he.trans hb,Ft,hs,hD⟩,h2,h3⟩
theorem kR.obj{s:Nat}(h:kR W M f s):∃es cl,W.heap[M]?=some (.map es cl):=by
 obtain⟨D,⟨es,cl,hm,_⟩,_⟩:=h;exact⟨es,cl,hm⟩
theorem TR.at{base:Nat}{last:Int}{h:List Hp.Tm}{v:Value}(r:TR base T M last h v W)(h1:W'.heap[T]?=W.heap[T]?)(h2:W'.heap[M]?=W.heap[M]?)(h3:∀k,v.ownBlock=some k->W'.heap[k]?=W.heap[k]?):TR base T M last h v W':=by
 obtain⟨f,p1,p2⟩:=r.map;exact⟨h1.trans r.blk,bP r.row h3,⟨f,p1.block h2,p2⟩,r.ok,r.bT,r.bM⟩
def kT(q:Sr):Hp.Tm:=(q.due,q.id,q.dest)
structure Zg(x:mX)(h:Int->Option Nat)(u:Int->Value)(Mt:Nat)(hp:List Hp.Tm)(tv:Value)(s:St)(TL:List Hp.Tm)(W:World):Prop where
 sn:yo x.Ms s.tn s.mem W
 sr:yh x.qK h u s.Q W
 tm:TR 0 x.Tm Mt s.tl hp tv W
 hpo:Hp.Heap hp
 pm:hp.Perm TL
 pc:W.ownsRow 0 35 1 x.pc s.pc.length (s.pc.map (Value.int .u64))
def kg(x:mX)(h:Int->Option Nat)(u:Int->Value)(Mt:Nat)(tv:Value)(s:St)(k:Nat):Prop:=
 k=x.Ms∨JB x.qK h u s.Q k∨k=x.Tm∨k=Mt∨tv.ownBlock=some k∨x.pc.ownBlock=some k
theorem Zg.kept{hp:List Hp.Tm}{TL:List Hp.Tm}(r:Zg x h u Mt hp tv s TL W)(he:∀k,kg x h u Mt tv s k->W'.heap[k]?=W.heap[k]?):Zg x h u Mt hp tv s TL W':=
 ⟨r.sn.block (he _ (.inl rfl)),r.sr.kept λk hk=>he k (.inr (.inl hk)),r.tm.at (he _ (.inr (.inr (.inl rfl)))) (he _ (.inr (.inr (.inr (.inl rfl))))) λk hk=>he k (.inr (.inr (.inr (.inr (.inl hk))))),r.hpo,r.pm,bP r.pc λk hk=>he k (.inr (.inr (.inr (.inr (.inr hk)))))⟩
theorem Zg.lt{hp:List Hp.Tm}{TL:List Hp.Tm}(r:Zg x h u Mt hp tv s TL W){k:Nat}(hk:kg x h u Mt tv s k):k<W.heap.size:=by
 rcases hk with rfl|hk|rfl|rfl|hk|hk
 ·exact r.sn.lt
 ·exact r.sr.lt hk
 ·exact r.tm.blk.lt
 ·obtain⟨f,p1,_⟩:=r.tm.map;exact p1.lt
 ·exact(r.tm.row.lt k hk).2
 ·exact(r.pc.lt k hk).2
def SF(o:Obj):Prop:=(∀c,o≠ .cells c 177 (0,0))∧(∀c,o≠ .cells c 9 (0,0))∧(∀c,o≠ .cells c 165 (0,0))∧(∀c,o≠ .cells c 254 (0,0))∧∀c,o≠ .cells c 35 (0,0)
theorem Zg.kind{hp:List Hp.Tm}{TL:List Hp.Tm}(r:Zg x h u Mt hp tv s TL W){k:Nat}(hk:kg x h u Mt tv s k):
  ∃o,W.heap[k]?=some o∧(((k=x.Ms∨k=x.qK∨k=Mt)∧∃es cl,o=.map es cl)∨(¬SF o∧Go.Proofs.YtakaadcpaeiccabGreat.zx o∧oC o∧(∀c,o≠ .cells c 131 (0,0))∧∀es cl,o≠ .map es cl)):=by
 have hT:∀ {t:TypeId} (c:Array Value),(t=177∨t=9∨t=165∨t=254∨t=35)->¬SF (.cells c t (0,0))∧Go.Proofs.YtakaadcpaeiccabGreat.zx (.cells c t (0,0))∧oC (.cells c t (0,0))∧(∀d,(Obj.cells c t (0,0))≠ .cells d 131 (0,0))∧∀es cl,(Obj.cells c t (0,0))≠ .map es cl:=by
  rintro t c (rfl|rfl|rfl|rfl|rfl)<;>
  exact⟨by simp[SF],⟨λc e=>(by cases e),λc e=>(by cases e),λc e=>(by cases e)⟩,⟨λc e=>(by cases e),λc e=>(by cases e),λc e=>(by cases e),λc e=>(by cases e),λc e=>(by cases e)⟩,λc e=>(by cases e),λc d e=>(by cases e)⟩
 rcases hk with rfl|hk|rfl|rfl|hk|hk
 ·obtain⟨es,cl,hm⟩:=r.sn.obj;exact⟨_,hm,.inl ⟨.inl rfl,_,_,rfl⟩⟩
 ·obtain⟨o,ho,⟨rfl,es,cl,rfl⟩|⟨c,rfl⟩|⟨c,rfl⟩⟩:=r.sr.kind hk
  ·exact⟨_,ho,.inl ⟨.inr (.inl rfl),_,_,rfl⟩⟩
  ·exact⟨_,ho,.inr (hT c (.inl rfl))⟩
  ·exact⟨_,ho,.inr (hT c (.inr (.inl rfl)))⟩
 ·exact⟨_,r.tm.blk,.inr (hT _ (.inr (.inr (.inl rfl))))⟩
 ·obtain⟨f,p1,_⟩:=r.tm.map;obtain⟨es,cl,hm⟩:=p1.obj;exact⟨_,hm,.inl ⟨.inr (.inr rfl),_,_,rfl⟩⟩
 ·obtain⟨c,hc⟩:=aS r.tm.row hk;exact⟨_,hc,.inr (hT c (.inr (.inr (.inr (.inl rfl)))))⟩
 ·obtain⟨c,hc⟩:=aS r.pc hk;exact⟨_,hc,.inr (hT c (.inr (.inr (.inr (.inr rfl)))))⟩
structure bI where
 x:mX
 a:qy
 M:Nat
 ff:Int->Option Nat
 gg:Int->Value
 sz:Nat
 h:Int->Option Nat
 u:Int->Value
 Mt:Nat
 hp:List Hp.Tm
 tv:Value
structure NdE(x:mX)(s:St):Prop where
 self:x.self=s.me
 seq:x.seq=s.seq
 cZ:x.cZ=s.cZ
 dm:x.dm=s.dm
 eG:x.eG=s.eG
 tn:x.tn=s.tn
 own:x.own=s.own
 cnt:x.cnt=s.cnt
 lk:x.lk=s.lk
structure Nn(N:Nat)(g:bI)(s:St)(TL:List Hp.Tm)(W:World):Prop where
 cr:Gb N g.x g.M g.ff g.gg s.A s.f g.sz W
 eq:NdE g.x s
 rs:Zg g.x g.h g.u g.Mt g.hp g.tv s TL W
 qY: [g.M,g.x.Mo,g.x.Ms,g.x.qK,g.Mt].Nodup
 JS:g.sz<=1000000
def Ft(N:Nat)(g:bI)(s:St)(k:Nat):Prop:=zK N g.x g.M g.ff g.gg s.A k∨kg g.x g.h g.u g.Mt g.tv s k
structure Nd(N B:Nat)(g:bI)(s:St)(TL:List Hp.Tm)(W:World):Prop where
 nn:Nn N g s TL W
 ac:jI B (B+1) g.a s.bg s.aI s.aR s.aQ W
 now:g.a.now=s.now
 bn:g.a.bn=s.bn
structure Up(B:Nat)(F F':Nat->Prop)(w w':World):Prop where
 sub:∀k,F' k->F k∨(w.heap.size<=k∧k<w'.heap.size)
 os:w'.os=w.os
 tape:w'.tape=w.tape
 output:w'.output=w.output
 size:w.heap.size<=w'.heap.size
 block:∀k o,w.heap[k]?=some o->¬F k->(oC o∨k<B)->w'.heap[k]?=some o
theorem aF{k:Nat}{o:Obj}(h:W.heap[k]?=some o):k<W.heap.size:=(iC.1 h).1
theorem Up.trans{F'':Nat->Prop}{c:World}(p:Up B F F' a b)(q:Up B F' F'' b c):Up B F F'' a c:=by
 have h1:=p.size;have h2:=q.size;refine⟨λk hk=> ?_,q.os.trans p.os,q.tape.trans p.tape,q.output.trans p.output,dH h1 h2,λk o ho hn hA=> ?_⟩
 ·rcases q.sub k hk with h|h
  ·rcases p.sub k h with h|h
   ·exact .inl h
   ·exact .inr (by omega)
  ·exact .inr (by omega)
 ·refine q.block k o (p.block k o ho hn hA) (λh=> ?_) hA;rcases p.sub k h with h|h
  ·exact hn h
  ·have:=aF ho;omega
theorem Up.below(h:Below a.heap.size a b):Up B F F a b:=
 ⟨λ_ h=> .inl h,h.os,h.tape,h.output,h.size,λk _ ho _ _=>(h.block k (aF ho)).trans ho⟩
theorem Up.refl(B:Nat)(F:Nat->Prop)(a:World):Up B F F a a:=.below (aU _ _)
theorem Up.of{S:Nat->Prop}(h:Fx S a b)(hs:∀k o,S k->a.heap[k]?=some o->F k∨(¬oC o∧B<=k))(sub:∀k,F' k->F k∨(a.heap.size<=k∧k<b.heap.size)):Up B F F' a b:=
 ⟨sub,h.os,h.tape,h.output,h.size,λk o ho hn hA=>(h.block k (aF ho) λhk=>by
  rcases hs k o hk ho with h|⟨h1,h2⟩
  ·exact hn h
  ·rcases hA with h|h
   ·exact h1 h
   ·omega).trans ho⟩
theorem Up.Rq(h:Up B F F' a b)(hB:a.heap.size<=B):Fx F a b:=
 ⟨h.os,h.tape,h.output,h.size,λk hk hn=>by
  obtain⟨o,ho⟩:∃o,a.heap[k]?=some o:=⟨_,Array.getElem?_eq_getElem hk⟩;rw[ho];exact h.block k o ho hn (.inr (by omega))⟩
theorem Up.keep(p:Up B F F' a b){k:Nat}{o:Obj}(ho:a.heap[k]?=some o)(hn:¬F k)(hA:oC o):b.heap[k]?=some o∧¬F' k:=
 ⟨p.block k o ho hn (.inl hA),λh=>(p.sub k h).elim hn (by have:=aF ho;omega)⟩
theorem MT.kind{me:Int}{g:Int->Value}{A:List Rt}(h:MT me T M f g A W){k:Nat}(hk:mY T M f g A k):
  ∃o,W.heap[k]?=some o∧((k=M∧∃es cl,o=.map es cl)∨(oC o∧SF o∧(∀c,o≠ .cells c 131 (0,0))∧∀es cl,o≠ .map es cl)):=by
 have hT:∀ {t:TypeId} (c:Array Value),(t=158∨t=38∨t=34)->oC (.cells c t (0,0))∧SF (.cells c t (0,0))∧(∀d,(Obj.cells c t (0,0))≠ .cells d 131 (0,0))∧∀es cl,(Obj.cells c t (0,0))≠ .map es cl:=by
  rintro t c (rfl|rfl|rfl)<;>
  exact⟨⟨λc e=>(by cases e),λc e=>(by cases e),λc e=>(by cases e),λc e=>(by cases e),λc e=>(by cases e)⟩,⟨λc e=>(by cases e),λc e=>(by cases e),λc e=>(by cases e),λc e=>(by cases e),λc e=>(by cases e)⟩,λc e=>(by cases e),λc d e=>(by cases e)⟩
 rcases hk with rfl|rfl|⟨y,hy,hk|hk⟩
 ·exact⟨_,h.blk,.inr (hT _ (.inl rfl))⟩
 ·obtain⟨es,cl,hm⟩:=h.map.obj;exact⟨_,hm,.inl ⟨rfl,_,_,rfl⟩⟩
 ·obtain⟨B,p1,p2⟩:=h.ln y hy;rw[p1]at hk;cases hk;exact⟨_,p2,.inr (hT _ (.inr (.inl rfl)))⟩
 ·obtain⟨c,hc⟩:=aS (h.row y hy) hk;exact⟨_,hc,.inr (hT c (.inr (.inr rfl)))⟩
theorem Nn.lt{g:bI}{TL:List Hp.Tm}(n:Nn N g s TL W){k:Nat}(hk:Ft N g s k):k<W.heap.size:=by
 rcases hk with(rfl|rfl|hk)|hk
 ·exact n.cr.nd.lt
 ·exact n.cr.mo.lt
 ·exact n.cr.tb.lt hk
 ·exact n.rs.lt hk
theorem Nn.oC{g:bI}{TL:List Hp.Tm}(n:Nn N g s TL W){k:Nat}(hk:Ft N g s k):∃o,W.heap[k]?=some o∧Go.Proofs.YtakaadcpaeiccabGreat.oC o:=by
 rcases hk with(rfl|rfl|hk)|hk
 ·exact⟨_,n.cr.nd,Na _⟩
 ·obtain⟨es,cl,hm⟩:=n.cr.mo.obj;exact⟨_,hm,vN es cl⟩
 ·obtain⟨o,ho,⟨_,es,cl,rfl⟩|⟨h,_⟩⟩:=n.cr.tb.kind hk
  ·exact⟨_,ho,vN es cl⟩
  ·exact⟨o,ho,h⟩
 ·obtain⟨o,ho,⟨_,es,cl,rfl⟩|⟨_,_,h,_⟩⟩:=n.rs.kind hk
  ·exact⟨_,ho,vN es cl⟩
  ·exact⟨o,ho,h⟩
theorem Nn.maps{g:bI}{TL:List Hp.Tm}(n:Nn N g s TL W){k:Nat}(hk:k=g.x.Ms∨k=g.x.qK∨k=g.Mt):k≠g.M∧k≠g.x.Mo:=by
 have h:=n.qY;simp only[List.nodup_cons,eD,List.not_mem_nil,or_false,not_or]at h;obtain⟨⟨_,h1,h2,h3⟩,⟨h4,h5,h6⟩,_⟩:=h;rcases hk with rfl|rfl|rfl
 ·exact⟨Ne.symm h1,Ne.symm h4⟩
 ·exact⟨Ne.symm h2,Ne.symm h5⟩
 ·exact⟨Ne.symm h3,Ne.symm h6⟩
theorem Nn.apart{g:bI}{TL:List Hp.Tm}(n:Nn N g s TL W){k:Nat}(hk:kg g.x g.h g.u g.Mt g.tv s k):¬zK N g.x g.M g.ff g.gg s.A k:=by
 obtain⟨o,ho,⟨h,es,cl,rfl⟩|⟨h1,h2,h3,h4,h5⟩⟩:=n.rs.kind hk
 ·obtain⟨q1,q2⟩:=n.maps h;rintro(rfl|rfl|hc)
  ·rw[show W.heap[k]?=_ from n.cr.nd]at ho;cases ho
  ·exact q2 rfl
  ·exact n.cr.tb.not q1 ho (vM es cl) hc
 ·rintro(rfl|rfl|hc)
  ·rw[show W.heap[k]?=_ from n.cr.nd]at ho;exact h4 _ (Option.some.inj ho).symm
  ·obtain⟨es,cl,hm⟩:=n.cr.mo.obj;rw[hm]at ho;exact h5 _ _ (Option.some.inj ho).symm
  ·refine n.cr.tb.not (λe=> ?_) ho h2 hc;subst e;obtain⟨es,cl,hm⟩:=n.cr.tb.map.obj;rw[hm]at ho;exact h5 _ _ (Option.some.inj ho).symm
theorem Nn.kept{g:bI}{TL:List Hp.Tm}(n:Nn N g s TL W)(he:∀k,Ft N g s k->W'.heap[k]?=W.heap[k]?):Nn N g s TL W':=
 ⟨⟨n.cr.nd.block (he _ (.inl (.inl rfl))),n.cr.mo.block (he _ (.inl (.inr (.inl rfl)))),n.cr.tb.kept λk hk=>he k (.inl (.inr (.inr hk))),n.cr.ne⟩,n.eq,n.rs.kept λk hk=>he k (.inr hk),n.qY,n.JS⟩
theorem Nn.later{g:bI}{TL:List Hp.Tm}(n:Nn N g s TL W)(hb:Below W.heap.size W W'):Nn N g s TL W':=n.kept λk hk=>hb.block k (n.lt hk)
theorem Nd.later{g:bI}{TL:List Hp.Tm}(n:Nd N B g s TL W)(hb:Below W.heap.size W W'):Nd N B g s TL W':=⟨n.nn.later hb,n.ac.later hb,n.now,n.bn⟩
def Cc(s s':St):Prop:=s'.me=s.me∧s'.seq=s.seq∧s'.cZ=s.cZ∧s'.dm=s.dm∧s'.eG=s.eG∧s'.A=s.A∧s'.mem=s.mem∧s'.tn=s.tn∧s'.f=s.f∧s'.own=s.own∧s'.cnt=s.cnt∧s'.Q=s.Q∧s'.tl=s.tl∧s'.pc=s.pc∧s'.lk=s.lk
theorem Nn.same{g:bI}{TL:List Hp.Tm}(n:Nn N g s TL W)(h:Cc s s')(a:qy):Nn N {g with a:=a} s' TL W:=by
 obtain⟨h1,h2,h3,h4,h5,h6,h7,h8,h9,h10,h11,h12,Wi,h14,h15⟩:=h;obtain⟨c,e,r,d,z⟩:=n;obtain⟨e1,e2,e3,e4,e5,e6,e7,e8,e9⟩:=e;obtain⟨r1,r2,r3,r4,r5,r6⟩:=r;exact⟨by rw[h6,h9];exact c,⟨by rw[h1];exact e1,by rw[h2];exact e2,by rw[h3];exact e3,by rw[h4];exact e4,by rw[h5];exact e5,by rw[h8];exact e6,by rw[h10];exact e7,by rw[h11];exact e8,by rw[h15];exact e9⟩,⟨by rw[h7,h8];exact r1,by rw[h12];exact r2,by rw[Wi];exact r3,r4,r5,by rw[h14];exact r6⟩,d,z⟩
theorem Ft.same{g:bI}(h:Cc s s')(a:qy)(k:Nat):Ft N {g with a:=a} s' k ↔ Ft N g s k:=by
 obtain⟨h1,h2,h3,h4,h5,h6,h7,h8,h9,h10,h11,h12,Wi,h14,h15⟩:=h;unfold Ft kg;rw[h6,h12]
theorem jI.KD{g:bI}{TL:List Hp.Tm}{base:Nat}{a:qy}(h:jI B base a bg aI aR aQ W)(n:Nn N g s TL W){k:Nat}(hk:Ft N g s k):¬jC B a k:=by
 obtain⟨o,ho,hA⟩:=n.oC hk;exact h.not ho hA
theorem jI.kinds{base:Nat}{a:qy}(h:jI B base a bg aI aR aQ W){k:Nat}(hk:jC B a k){o:Obj}(ho:W.heap[k]?=some o):¬oC o:=λhA=>h.not ho hA hk
theorem Nd.act{g:bI}{TL:List Hp.Tm}(n:Nd N B g s TL W){a':qy}(h:jI B (B+1) a' s'.bg s'.aI s'.aR s'.aQ W')(hf:Fx (jC B g.a) W W')(he:Cc s s')(h1:a'.now=s'.now)(h2:a'.bn=s'.bn):
  Nd N B {g with a:=a'} s' TL W'∧Up B (Ft N g s) (Ft N {g with a:=a'} s') W W':=by
 refine⟨⟨(n.nn.kept λk hk=>hf.block k (n.nn.lt hk) (n.ac.KD n.nn hk)).same he a',h,h1,h2⟩,.of hf (λk o hk ho=> .inr ⟨n.ac.kinds hk ho,n.ac.ge hk⟩) λk hk=> .inl ((Ft.same he a' k).1 hk)⟩
theorem Nd.table{g:bI}{TL:List Hp.Tm}(n:Nd N B g s TL W){A':List Rt}(h:B_ s.me g.x.T (ext (mY g.x.T g.M g.ff g.gg s.A) W.heap.size W'.heap.size) A' W')(hf:Fx (mY g.x.T g.M g.ff g.gg s.A) W W'):
  ∃M' UL xR,Nd N B {g with M:=M',ff:=UL,gg:=xR} {s with A:=A'} TL W'∧Up B (Ft N g s) (Ft N {g with M:=M',ff:=UL,gg:=xR} {s with A:=A'}) W W':=by
 obtain⟨M',UL,xR,hM,hS⟩:=h;have hrs:∀k,kg g.x g.h g.u g.Mt g.tv s k->¬mY g.x.T g.M g.ff g.gg s.A k:=λk hk hc=>n.nn.apart hk (.inr (.inr hc));have hM':∀k,k<W.heap.size->¬mY g.x.T g.M g.ff g.gg s.A k->M'≠k:=by
  rintro k hk hn rfl;rcases hS M' (.inr (.inl rfl))with h|h
  ·exact hn h
  ·omega
 have P9:¬mY g.x.T g.M g.ff g.gg s.A g.x.Mo:=by
  obtain⟨es,cl,hm⟩:=n.nn.cr.mo.obj;exact n.nn.cr.tb.not (Ne.symm n.nn.cr.ne) hm (vM es cl)
 have hN:¬mY g.x.T g.M g.ff g.gg s.A N:=n.nn.cr.tb.not (λe=>by
  obtain⟨es,cl,hm⟩:=n.nn.cr.tb.map.obj;rw[<-e,show W.heap[N]?=_ from n.nn.cr.nd]at hm;cases hm) n.nn.cr.nd (rZ _)
 have hnd:=n.nn.qY;simp only[List.nodup_cons,eD,List.not_mem_nil,or_false,not_or]at hnd;obtain⟨_,hnd⟩:=hnd;have hac:∀k,jC B g.a k->¬mY g.x.T g.M g.ff g.gg s.A k:=λk hk hc=>n.ac.KD n.nn (.inl (.inr (.inr hc))) hk;refine⟨M',UL,xR,⟨⟨⟨n.nn.cr.nd.block (hf.block _ n.nn.cr.nd.lt hN),n.nn.cr.mo.block (hf.block _ n.nn.cr.mo.lt P9),by rw[n.nn.eq.self];exact hM,hM' _ n.nn.cr.mo.lt P9⟩,⟨n.nn.eq.self,n.nn.eq.seq,n.nn.eq.cZ,n.nn.eq.dm,n.nn.eq.eG,n.nn.eq.tn,n.nn.eq.own,n.nn.eq.cnt,n.nn.eq.lk⟩,?_,?_,n.nn.JS⟩,n.ac.kept λk hk=>hf.block k (n.ac.lt hk) (hac k hk),n.now,n.bn⟩,.of hf (λk o hk _=> .inl (.inl (.inr (.inr hk)))) λk hk=> ?_⟩
 ·have:=n.nn.rs.kept (W':=W') λk hk=>hf.block k (n.nn.rs.lt hk) (hrs k hk);exact⟨this.sn,this.sr,this.tm,this.hpo,this.pm,this.pc⟩
 ·have q1:=hM' _ n.nn.cr.mo.lt P9;have q2:=hM' _ (n.nn.rs.lt (.inl rfl)) (hrs _ (.inl rfl));have q3:=hM' _ (n.nn.rs.lt (.inr (.inl (.inl rfl)))) (hrs _ (.inr (.inl (.inl rfl))));have q4:=hM' _ (n.nn.rs.lt (.inr (.inr (.inr (.inl rfl))))) (hrs _ (.inr (.inr (.inr (.inl rfl)))));simp only[List.nodup_cons,eD,List.not_mem_nil,or_false,not_or];exact⟨⟨q1,q2,q3,q4⟩,hnd⟩
 ·rcases hk with(rfl|rfl|hk)|hk
  ·exact .inl (.inl (.inl rfl))
  ·exact .inl (.inl (.inr (.inl rfl)))
  ·rcases hS k hk with h|h
   ·exact .inl (.inl (.inr (.inr h)))
   ·exact .inr h
  ·exact .inl (.inr hk)
theorem Nd.rest{g:bI}{TL dW:List Hp.Tm}(n:Nd N B g s TL W){x':mX}{h':Int->Option Nat}{u':Int->Value}{Gf:Nat}{hp':List Hp.Tm}{tv':Value}
  (hx:iI N x' W') (hT:x'.T=g.x.T) (P9:x'.Mo=g.x.Mo) (he:NdE x' s') (hr:Zg x' h' u' Gf hp' tv' s' dW W') (hf:Fx (λk=>k=N∨kg g.x g.h g.u g.Mt g.tv s k) W W')
  (sub:∀k,kg x' h' u' Gf tv' s' k->kg g.x g.h g.u g.Mt g.tv s k∨(W.heap.size<=k∧k<W'.heap.size)) (hm:x'.Ms=g.x.Ms∧x'.qK=g.x.qK∧Gf=g.Mt)
  (hs:s'.me=s.me∧s'.A=s.A∧s'.f=s.f∧s'.bg=s.bg∧s'.aI=s.aI∧s'.aR=s.aR∧s'.aQ=s.aQ∧s'.now=s.now∧s'.bn=s.bn):
  Nd N B {g with x:=x',h:=h',u:=u',Mt:=Gf,hp:=hp',tv:=tv'} s' dW W'∧Up B (Ft N g s) (Ft N {g with x:=x',h:=h',u:=u',Mt:=Gf,hp:=hp',tv:=tv'} s') W W':=by
 obtain⟨s1,s2,s3,s4,s5,s6,s7,s8,s9⟩:=hs;obtain⟨m1,m2,m3⟩:=hm;have hcr:∀k,zK N g.x g.M g.ff g.gg s.A k->k≠N->¬(k=N∨kg g.x g.h g.u g.Mt g.tv s k):=λk hk hne h=>h.elim hne λh=>n.nn.apart h hk;have hTN:∀k,mY g.x.T g.M g.ff g.gg s.A k->k≠N:=by
  rintro k hk rfl;exact n.nn.cr.tb.not (λe=>by
   obtain⟨es,cl,hm⟩:=n.nn.cr.tb.map.obj;rw[<-e,show W.heap[k]?=_ from n.nn.cr.nd]at hm;cases hm) n.nn.cr.nd (rZ _) hk
 have afL:g.x.Mo≠N:=Ne.symm (Nb n.nn.cr.nd n.nn.cr.mo);refine⟨⟨⟨⟨hx,?_,?_,?_⟩,he,hr,?_,n.nn.JS⟩,?_,by rw[s8];exact n.now,by rw[s9];exact n.bn⟩,.of hf (λk o hk _=> .inl (hk.elim (λh=> .inl (.inl h)) .inr)) λk hk=> ?_⟩
 ·rw[s3,show({g with x:=x',h:=h',u:=u',Mt:=Gf,hp:=hp',tv:=tv'}:bI).x.Mo=g.x.Mo from P9];exact n.nn.cr.mo.block (hf.block _ n.nn.cr.mo.lt (hcr _ (.inr (.inl rfl)) afL))
 ·rw[s2,show({g with x:=x',h:=h',u:=u',Mt:=Gf,hp:=hp',tv:=tv'}:bI).x.T=g.x.T from hT,show({g with x:=x',h:=h',u:=u',Mt:=Gf,hp:=hp',tv:=tv'}:bI).x.self=g.x.self from by rw[n.nn.eq.self,<-s1];exact he.self];exact n.nn.cr.tb.kept λk hk=>hf.block k (n.nn.cr.tb.lt hk) (hcr _ (.inr (.inr hk)) (hTN k hk))
 ·rw[show({g with x:=x',h:=h',u:=u',Mt:=Gf,hp:=hp',tv:=tv'}:bI).x.Mo=g.x.Mo from P9];exact n.nn.cr.ne
 ·have:=n.nn.qY;dsimp only;rw[P9,m1,m2,m3];exact this
 ·rw[s4,s5,s6,s7];exact n.ac.kept λk hk=>hf.block k (n.ac.lt hk) λh=>n.ac.KD n.nn (h.elim (λh=> .inl (.inl h)) .inr) hk
 ·rcases hk with(rfl|rfl|hk)|hk
  ·exact .inl (.inl (.inl rfl))
  ·exact .inl (.inl (.inr (.inl P9)))
  ·rw[s2]at hk;dsimp only at hk;rw[hT]at hk;exact .inl (.inl (.inr (.inr hk)))
  ·exact(sub k hk).imp_left .inr
theorem Nd.cells{g:bI}{TL:List Hp.Tm}(n:Nd N B g s TL W){x':mX}(hx:iI N x' W')(hf:Fx (λk=>k=N) W W')(he:NdE x' s')(hm:x'.T=g.x.T∧x'.Mo=g.x.Mo∧x'.Ms=g.x.Ms∧x'.qK=g.x.qK∧x'.Tm=g.x.Tm∧x'.pc=g.x.pc)
  (hs:s'.me=s.me∧s'.A=s.A∧s'.f=s.f∧s'.bg=s.bg∧s'.aI=s.aI∧s'.aR=s.aR∧s'.aQ=s.aQ∧s'.now=s.now∧s'.bn=s.bn) (hs2:s'.mem=s.mem∧s'.tn=s.tn∧s'.Q=s.Q∧s'.tl=s.tl∧s'.pc=s.pc):
  Nd N B {g with x:=x'} s' TL W'∧Up B (Ft N g s) (Ft N {g with x:=x'} s') W W':=by
 obtain⟨m1,m2,m3,m4,m5,m6⟩:=hm;obtain⟨t1,t2,t3,t4,t5⟩:=hs2;have hin:∀k,kg x' g.h g.u g.Mt g.tv s' k->kg g.x g.h g.u g.Mt g.tv s k:=by
  intro k hk;unfold kg at hk ⊢;rw[m3,m4,m5,m6,t3]at hk;exact hk
 have hr:=n.nn.rs.kept (W':=W') λk hk=>hf.block k (n.nn.rs.lt hk) λe=>n.nn.apart hk (.inl e);refine n.rest hx m1 m2 he ⟨?_,?_,?_,hr.hpo,hr.pm,?_⟩ (hf.mono λk h=> .inl h) (λk hk=> .inl (hin k hk)) ⟨m3,m4,rfl⟩ hs
 ·rw[m3,t1,t2];exact hr.sn
 ·rw[m4,t3];exact hr.sr
 ·rw[m5,t4];exact hr.tm
 ·rw[m6,t5];exact hr.pc
variable{B N b t:Nat}{s:St}{v0 v1 v2 v3 v4:Value}{W w:World}
def lV(N B:Nat)(g:bI)(s s':St)(dW:List Hp.Tm)(w w':World):Prop:=∃g',Nd N B g' s' dW w'∧Up B (Ft N g s) (Ft N g' s') w w'∧Hid (g'.x.T=g.x.T)
theorem hide{P:Prop}(h:P):Hid P:=h
theorem cells5(h:W.heap[b]?=some (.cells #[v0,v1,v2,v3,v4] t (0,0))):W.cell? ⟨b,0,none⟩=some v0∧W.cell? ⟨b,1,none⟩=some v1∧W.cell? ⟨b,2,none⟩=some v2∧W.cell? ⟨b,3,none⟩=some v3∧W.cell? ⟨b,4,none⟩=some v4:=
 have k:=λi=>aG W b i _ _ _ h
 ⟨k 0,k 1,k 2,k 3,k 4⟩
theorem yS(h:W.heap[b]?=some (.cells #[v0,v1,v2,v3,v4] t (0,0))):W.frozen? ⟨b,0,none⟩=false∧W.frozen? ⟨b,1,none⟩=false∧W.frozen? ⟨b,2,none⟩=false∧W.frozen? ⟨b,3,none⟩=false∧W.frozen? ⟨b,4,none⟩=false:=
 have k:=λi=>lW W b i _ _ h
 ⟨k 0,k 1,k 2,k 3,k 4⟩
theorem lV.pre{g:bI}{s':St}{dW:List Hp.Tm}{a b c:World}(hb:Below a.heap.size a b)(p:lV N B g s s' dW b c):lV N B g s s' dW a c:=by
 obtain⟨g1,n1,u1,t1⟩:=p;exact⟨g1,n1,(Up.below hb).trans u1,t1⟩
theorem Nd.base{g:bI}{TL:List Hp.Tm}(n:Nd N B g s TL W):B+1<=W.heap.size:=n.ac.blk.lt
theorem Nd.cell{g:bI}{TL:List Hp.Tm}(n:Nd N B g s TL W):
  W.cell? ⟨N,2,none⟩=some (.int .u32 s.me)∧W.cell? ⟨N,3,none⟩=some (.int .u32 s.seq)∧W.cell? ⟨N,4,none⟩=some (.int .u64 s.cZ)∧W.cell? ⟨N,7,none⟩=some (.pointer (some ⟨g.x.T,0,none⟩))∧W.cell? ⟨B,0,none⟩=some (.int .u64 s.now):=by
 obtain⟨_,n2,n3,n4,n5,_⟩:=n.nn.cr.nd.cell;obtain⟨e1,e2,e3,_⟩:=n.nn.eq;obtain⟨c0,_⟩:=n.ac.blk.cell;rw[<-e1,<-e2,<-e3,<-n.now];exact⟨n2,n3,n4,n5,c0⟩
theorem uf(s:St)(r:Int):Cc s (s.drop r):=⟨rfl,rfl,rfl,rfl,rfl,rfl,rfl,rfl,rfl,rfl,rfl,rfl,rfl,rfl,rfl⟩
theorem t_(s:St)(t:Int)(p:aD)(L:List (Int×Int)):Cc s (s.send t p L):=⟨rfl,rfl,rfl,rfl,rfl,rfl,rfl,rfl,rfl,rfl,rfl,rfl,rfl,rfl,rfl⟩
theorem Ar(s:St)(t:Int)(L:List (Int×Int)):Cc s (s.lose t L):=⟨rfl,rfl,rfl,rfl,rfl,rfl,rfl,rfl,rfl,rfl,rfl,rfl,rfl,rfl,rfl⟩
theorem jA{g:bI}{TL:List Hp.Tm}(n:Nd N B g s TL w)(r:Int)(hd:s.aQ.length<=1000000):
  Calls Tryz.prog 92 #[.pointer (some ⟨B,0,none⟩),.int .i64 r] w λe w'=>e=.returned (.tuple #[])∧lV N B g s (s.drop r) TL w w':=by
 refine(Jo B (B+1) g.a s.bg s.aI s.aR s.aQ r w n.ac n.base hd).mono ?_;rintro e w' ⟨v7,rfl,h1,h2⟩;obtain⟨p,q⟩:=n.act (s':=s.drop r) h1 h2 (uf s r) n.now n.bn;exact⟨rfl,_,p,q,rfl⟩
theorem Ck{g:bI}{TL:List Hp.Tm}(n:Nd N B g s TL w)(t:Int)(p:aD)(hp:p.Wf)(L:List (Int×Int))(hL:fI w p L)(hd:s.aI.length<=1000000):
  Calls Tryz.prog 80 #[.pointer (some ⟨B,0,none⟩),.int .u32 t,p.val] w λe w'=>e=.returned (.tuple #[])∧lV N B g s (s.send t p L) TL w w':=by
 refine(Ap B (B+1) g.a s.bg s.aI s.aR s.aQ t p hp L w n.ac n.base hd hL).mono ?_;rintro e w' ⟨v7,rfl,h1,h2⟩;obtain⟨p,q⟩:=n.act (s':=s.send t p L) h1 h2 (t_ s t p L) n.now n.bn;exact⟨rfl,_,p,q,rfl⟩
theorem Vx{g:bI}{TL:List Hp.Tm}(n:Nd N B g s TL w)(t:Int)(ao:Option Addr)(c:Nat)(L:List (Int×Int))(hn:L.length<=65536)(hL:bE w ao L)(hd:s.aI.length<=1000000):
  Calls Tryz.prog 137 #[.pointer (some ⟨B,0,none⟩),.int .u32 t,.slice ao L.length c] w λe w'=>e=.returned (.tuple #[])∧lV N B g s (s.lose t L) TL w w':=by
 refine(Iq B (B+1) g.a s.bg s.aI s.aR s.aQ t ao c L w n.ac n.base hd hn hL).mono ?_;rintro e w' ⟨v7,rfl,h1,h2⟩;obtain⟨p,q⟩:=n.act (s':=s.lose t L) h1 h2 (Ar s t L) n.now n.bn;exact⟨rfl,_,p,q,rfl⟩
theorem Nd.tab{g:bI}{TL:List Hp.Tm}(n:Nd N B g s TL W):B_ s.me g.x.T (mY g.x.T g.M g.ff g.gg s.A) s.A W:=
 ⟨g.M,g.ff,g.gg,by rw[<-n.nn.eq.self];exact n.nn.cr.tb,λ_ h=>h⟩
theorem Nd.wU{g:bI}{TL:List Hp.Tm}{W':World}(n:Nd N B g s TL W){A':List Rt}(h:B_ s.me g.x.T (ext (mY g.x.T g.M g.ff g.gg s.A) W.heap.size W'.heap.size) A' W')(hf:Fx (mY g.x.T g.M g.ff g.gg s.A) W W'):lV N B g s {s with A:=A'} TL W W':=by
 obtain⟨M',UL,xR,p,q⟩:=n.table h hf;exact⟨_,p,q,rfl⟩
theorem B_.ext{me:Int}{T:Nat}{S:Nat->Prop}{A:List Rt}(h:B_ me T S A W)(a b:Nat):B_ me T (Go.Proofs.YtakaadcpaeiccabGreat.ext S a b) A W:=by
 obtain⟨M,f,g,h1,h2⟩:=h;exact⟨M,f,g,h1,λk hk=> .inl (h2 k hk)⟩
theorem JG{g:bI}{TL:List Hp.Tm}(n:Nd N B g s TL w)(d q h nx e:Int)(hd:a_ d)(hs:a_ q)(hh:oW h)(hn:a_ nx)(he:BZ e):
  Calls Tryz.prog 161 #[.pointer (some ⟨g.x.T,0,none⟩),.int .u32 d,.int .u32 q,.int .i64 h,.int .u32 nx,.int .u64 e] w λr w'=>r=.returned (.int .i64 (iP s.me s.A d q h nx e).2)∧lV N B g s {s with A:=(iP s.me s.A d q h nx e).1} TL w w':=by
 refine(Lu s.me g.x.T _ s.A d q h nx e hd hs hh hn he w n.tab).mono ?_;rintro r w' ⟨rfl,h1,h2⟩;exact⟨rfl,n.wU h1 h2⟩
theorem Oe{g:bI}{TL:List Hp.Tm}(n:Nd N B g s TL w)(d e:Int)(hd:a_ d)(he:BZ e):
  Calls Tryz.prog 81 #[.pointer (some ⟨g.x.T,0,none⟩),.int .u32 d,.int .u64 e] w λr w'=>r=.returned (.tuple #[])∧lV N B g s {s with A:=iO s.A d e} TL w w':=by
 refine(N9 s.me g.x.T _ s.A d e hd he w n.tab).mono ?_;rintro r w' ⟨rfl,h1,h2⟩;exact⟨rfl,n.wU (h1.ext _ _) h2⟩
theorem rT{g:bI}{TL:List Hp.Tm}(n:Nd N B g s TL w)(d nb:Int)(hd:a_ d)(hn:a_ nb):
  Calls Tryz.prog 182 #[.pointer (some ⟨g.x.T,0,none⟩),.int .u32 d,.int .u32 nb] w λr w'=>r=.returned (.tuple #[])∧lV N B g s {s with A:=kZ s.A d nb} TL w w':=by
 refine(L_ s.me g.x.T _ s.A d nb hd hn w n.tab).mono ?_;rintro r w' ⟨rfl,h1,h2⟩;exact⟨rfl,n.wU h1 h2⟩
theorem acF{g:bI}{TL:List Hp.Tm}(n:Nd N B g s TL w)(d now:Int)(hd:a_ d):
  Calls Tryz.prog 79 #[.pointer (some ⟨g.x.T,0,none⟩),.int .u32 d,.int .u64 now] w λe w'=>∃ao c,e=.returned (.tuple #[JU (bH s.A d now).1 (.slice ao (bH s.A d now).1.bN.length c),.bool (bH s.A d now).2])∧Below w.heap.size w w':=by
 refine(VR s.me g.x.T _ s.A d now hd w n.tab).mono ?_;rintro e w' ⟨v',rfl,h1,h2⟩;obtain⟨ao,c,rfl,_⟩:=ay h1;exact⟨ao,c,rfl,h2⟩
theorem aac{g:bI}{TL:List Hp.Tm}(n:Nd N B g s TL w)(d:Int)(hd:a_ d):
  Calls Tryz.prog 157 #[.pointer (some ⟨g.x.T,0,none⟩),.int .u32 d] w λe w'=>e=.returned (.tuple #[.int .u32 (eT s.A d),.bool (aK s.A d).isSome])∧w'=w:=Gz n.nn.cr.tb d hd
theorem Ej{g:bI}{TL:List Hp.Tm}(n:Nd N B g s TL w)(t d:Int)(hd:a_ d)(hl:s.aI.length<=1000000):
  Calls Tryz.prog 129 #[.pointer (some ⟨N,0,none⟩),.pointer (some ⟨B,0,none⟩),.int .u32 t,.int .u32 d] w λe w'=>e=.returned (.tuple #[])∧lV N B g s (s.kE t d) TL w w':=by
 refine(Ir N B (B+1) g.x g.a s.bg s.aI s.aR s.aQ t d hd w n.nn.cr n.ac n.base hl).mono ?_;rintro e w' ⟨v7,rfl,h1,h2⟩;obtain⟨p,q⟩:=n.act (s':=s.kE t d) h1 h2 (Ar s t _) n.now n.bn;exact⟨rfl,_,p,q,rfl⟩
theorem QJ{g:bI}{TL:List Hp.Tm}(n:Nd N B g s TL w)(q:Int×Int)(hq:wK q)(now:Int)(hn:0<=now):
  Calls Tryz.prog 160 #[.pointer (some ⟨N,8,none⟩),jV q,.int .u64 now] w λe w'=>e=.returned (.bool (pu s.mem q now))∧Below w.heap.size w w':=by
 have h:=n.nn.rs.sn;rw[<-n.nn.eq.tn]at h;exact RL N g.x s.mem q hq now hn w n.nn.cr.nd h
theorem QL{g:bI}{TL:List Hp.Tm}(n:Nd N B g s TL w)(q:Int×Int)(hq:wK q)(dL:Int)(h0:0<=dL)(hm:∀e∈s.mem,e.dL<=dL)(htn:s.tn<=4611686018427387904):
  Calls Tryz.prog 156 #[.pointer (some ⟨N,8,none⟩),jV q,.int .u64 dL] w λe w'=>e=.returned (.tuple #[])∧lV N B g s {s with mem:=dP s.mem q dL s.tn,tn:=s.tn+1} TL w w':=by
 have h:=n.nn.rs.sn;rw[<-n.nn.eq.tn]at h htn;refine(GU N g.x s.mem q hq dL h0 hm htn w n.nn.cr.nd h).mono ?_;rintro e w' ⟨rfl,h1,h2,h3⟩;rw[n.nn.eq.tn]at h1 h2;obtain⟨e1,e2,e3,e4,e5,e6,e7,e8,e9⟩:=n.nn.eq;have hr:=n.nn.rs;have hne:∀k,kg g.x g.h g.u g.Mt g.tv s k->k≠g.x.Ms->¬(k=N∨k=g.x.Ms):=λk hk h1 h2=>h2.elim (λe=>n.nn.apart hk (.inl e)) h1;have hnd:=n.nn.qY;simp only[List.nodup_cons,eD,List.not_mem_nil,or_false,not_or]at hnd;obtain⟨_,_,⟨d1,d2⟩,_⟩:=hnd;have Bu:∀ {k:Nat} {o:Obj},w.heap[k]?=some o->(∀es cl,o≠ .map es cl)->k≠g.x.Ms:=by
  rintro k o ho hn rfl;obtain⟨es,cl,hm⟩:=hr.sn.obj;rw[hm]at ho;exact hn _ _ (Option.some.inj ho).symm
 have hkeep:∀ {k:Nat},kg g.x g.h g.u g.Mt g.tv s k->k≠g.x.Ms->w'.heap[k]?=w.heap[k]?:=λhk h=>h3.block _ (hr.lt hk) (hne _ hk h);have hSr:∀k,JB g.x.qK g.h g.u s.Q k->k≠g.x.Ms:=by
  intro k hk;obtain⟨o,ho,⟨rfl,_⟩|⟨c,rfl⟩|⟨c,rfl⟩⟩:=hr.sr.kind hk
  ·exact Ne.symm d1
  ·exact Bu ho (λ_ _ h=>by cases h)
  ·exact Bu ho (λ_ _ h=>by cases h)
 obtain⟨p,q⟩:=n.rest (s':={s with mem:=dP s.mem q dL s.tn,tn:=s.tn+1}) (dW:=TL) h1 rfl rfl ⟨e1,e2,e3,e4,e5,rfl,e7,e8,e9⟩
  ⟨h2,hr.sr.kept λk hk=>hkeep (.inr (.inl hk)) (hSr k hk),hr.tm.at (hkeep (.inr (.inr (.inl rfl))) (Bu hr.tm.blk (λ_ _ h=>by cases h))) (hkeep (.inr (.inr (.inr (.inl rfl)))) (Ne.symm d2)) (λk hk=>hkeep (.inr (.inr (.inr (.inr (.inl hk))))) (by
   obtain⟨c,hc⟩:=aS hr.tm.row hk;exact Bu hc (λ_ _ h=>by cases h))),hr.hpo,hr.pm,bP hr.pc λk hk=>hkeep (.inr (.inr (.inr (.inr (.inr hk))))) (by
   obtain⟨c,hc⟩:=aS hr.pc hk;exact Bu hc (λ_ _ h=>by cases h))⟩
  (h3.mono λk h=>h.elim .inl λh=> .inr (.inl h)) (λk hk=> .inl hk) ⟨rfl,rfl,rfl⟩ ⟨rfl,rfl,rfl,rfl,rfl,rfl,rfl,rfl,rfl⟩
 exact⟨rfl,_,p,q,rfl⟩
variable{fd:Bool}{seq cZ:Int}{B C N T c:Nat}{o:Obj}{ao:Option Addr}{p:aD}{x y:Rt}{s:St}{u v:Value}{W W0 W1 a w w2:World}
theorem cell_later{W':World}{b i:Nat}(h:W.cell? ⟨b,i,none⟩=some v)(hb:Below W.heap.size W W')(hl:b<W.heap.size):W'.cell? ⟨b,i,none⟩=some v:=(hb.cell (p:=⟨b,i,none⟩) hl).trans h
@[reducible] def HC(N B T C : Nat)(me seq cZ now : Int)(p : aD)(W : World): Prop :=
 (W.cell? ⟨N,2,none⟩=some (.int .u32 me)∧W.cell? ⟨N,3,none⟩=some (.int .u32 seq)∧W.cell? ⟨N,4,none⟩=some (.int .u64 cZ)∧W.cell? ⟨N,7,none⟩=some (.pointer (some ⟨T,0,none⟩))∧W.cell? ⟨B,0,none⟩=some (.int .u64 now))∧
 (W.cell? ⟨C,0,none⟩=some (.int .i64 p.ttl)∧W.cell? ⟨C,1,none⟩=some (.int .i64 p.kind)∧W.cell? ⟨C,2,none⟩=some (.int .i64 p.hops)∧W.cell? ⟨C,3,none⟩=some (.bool p.unk)∧W.cell? ⟨C,4,none⟩=some (.int .u32 p.id)∧W.cell? ⟨C,5,none⟩=some (.int .u32 p.dest)∧W.cell? ⟨C,6,none⟩=some (.int .u32 p.aX)∧W.cell? ⟨C,7,none⟩=some (.int .u32 p.aJ)∧W.cell? ⟨C,8,none⟩=some (.int .u32 p.dw)∧W.cell? ⟨C,9,none⟩=some (.int .u32 p.life)∧W.cell? ⟨C,10,none⟩=some (.slice p.la p.ln p.lc)∧W.cell? ⟨C,11,none⟩=some (.string p.pay))
@[reducible] def HB(N B T C : Nat)(me seq cZ now : Int)(p : aD)(W0 W : World): Prop := HC N B T C me seq cZ now p W ∧ Below W0.heap.size W0 W
theorem HC.of{g:bI}{TL:List Hp.Tm}(n:Nd N B g s TL W)(h:PB p C W):HC N B g.x.T C s.me s.seq s.cZ s.now p W:=⟨n.cell,h.cell⟩
theorem HB.drew{me now:Int}(h:HB N B T C me seq cZ now p W0 W):HB N B T C me seq cZ now p W0 W.drew:=⟨h.1,h.2.drew⟩
theorem HB.mk'{g:bI}{TL:List Hp.Tm}(n:Nd N B g s TL W0)(h:PB p C W0)(hb:Below W0.heap.size W0 W):HB N B g.x.T C s.me s.seq s.cZ s.now p W0 W:=⟨.of (n.later hb) (h.below hb),hb⟩
theorem Up.box{F F':Nat->Prop}{b:World}(u:Up B F F' a b)(h:PB p C a)(hn:¬F C):PB p C b:=u.block C _ h hn (.inl (EJ p))
theorem Nd.new{g:bI}{TL:List Hp.Tm}(n:Nd N B g s TL W){k:Nat}(hk:W.heap.size<=k):¬Ft N g s k:=λh=>by have:=n.nn.lt h;omega
theorem PB.acW(h:PB p C W)(t k:Int):PB {p with ttl:=t,kind:=k} C ((W.setCell ⟨C,0,none⟩ (.int .i64 t)).setCell ⟨C,1,none⟩ (.int .i64 k)):=by
 unfold PB at h ⊢;simp[World.setCell,Array.getElem?_modify,h]
theorem uI{n D:Nat}(h:Below n a w)(hD:n<=D)(v0 v1 v2 v3 v4 v5 v6:Value):Below n a (((((((w.setCell ⟨D,0,none⟩ v0).setCell ⟨D,1,none⟩ v1).setCell ⟨D,2,none⟩ v2).setCell ⟨D,3,none⟩ v3).setCell ⟨D,4,none⟩ v4).setCell ⟨D,5,none⟩ v5).setCell ⟨D,6,none⟩ v6):=
 ((((((h.setCell (p:=⟨D,0,none⟩) hD _).setCell (p:=⟨D,1,none⟩) hD _).setCell (p:=⟨D,2,none⟩) hD _).setCell (p:=⟨D,3,none⟩) hD _).setCell (p:=⟨D,4,none⟩) hD _).setCell (p:=⟨D,5,none⟩) hD _).setCell (p:=⟨D,6,none⟩) hD _
theorem eu.aeB{D:Nat}(h:eu D x u w):eu D y v (((((((w.setCell ⟨D,0,none⟩ (.int .u32 y.dest)).setCell ⟨D,1,none⟩ (.int .u32 y.seq)).setCell ⟨D,2,none⟩ (.int .i64 y.hops)).setCell ⟨D,3,none⟩ (.int .u32 y.next)).setCell ⟨D,4,none⟩ (.bool y.valid)).setCell ⟨D,5,none⟩ (.int .u64 y.exp)).setCell ⟨D,6,none⟩ v):=by
 unfold eu at h ⊢;simp[World.setCell,Array.getElem?_modify,h]
theorem nS{g:bI}{TL:List Hp.Tm}(n0:Nd N B g s TL W1)(d now:Int)(hd:a_ d){y:Rt}{fd:Bool}(hr:bH s.A d now=(y,fd)):
  ∀W5,Below W1.heap.size W1 W5->Calls Tryz.prog 79 #[.pointer (some ⟨g.x.T,0,none⟩),.int .u32 d,.int .u64 now] W5 λe w'=>∃ao c,e=.returned (.tuple #[JU y (.slice ao y.bN.length c),.bool fd])∧Below W1.heap.size W1 w'∧∀x u,eu W1.heap.size x u W5->eu W1.heap.size x u w':=by
 intro W5 h5;have h:=acF (n0.later h5) d now hd;rw[hr]at h;refine h.mono ?_;rintro e w' ⟨ao,c,rfl,hb⟩;exact⟨ao,c,rfl,h5.trans (hb.mono h5.size),λx u h=>h.later hb⟩
theorem lG(W:World):eu W.heap.size di (.slice none 0 0) (W.alloc (.cells #[.int .u32 0,.int .u32 0,.int .i64 0,.int .u32 0,.bool false,.int .u64 0,.slice none 0 0] 38)).drew:=bS W _
def og(y:Rt)(fd:Bool)(W1:World)(pv fv:Value)(W:World):Prop:=∃D ao c,pv=.pointer (some ⟨D,0,none⟩)∧fv=.bool fd∧eu D y (.slice ao y.bN.length c) W∧W1.heap.size<=D∧Below W1.heap.size W1 W
theorem iB(hb:Below W1.heap.size W1 w2):og y fd W1 (.pointer (some ⟨w2.heap.size,0,none⟩)) (.bool fd) (w2.alloc (.cells #[.int .u32 y.dest,.int .u32 y.seq,.int .i64 y.hops,.int .u32 y.next,.bool y.valid,.int .u64 y.exp,.slice ao y.bN.length c] 38)):=
 ⟨_,ao,c,rfl,rfl,bS _ _,hb.size,hb.alloc hb.size _⟩
theorem j3(hb:Below W1.heap.size W1 w2)(hD:Hid (eu W1.heap.size x u w2)):og y fd W1 (.pointer (some ⟨W1.heap.size,0,none⟩)) (.bool fd) (((((((w2.setCell ⟨W1.heap.size,0,none⟩ (.int .u32 y.dest)).setCell ⟨W1.heap.size,1,none⟩ (.int .u32 y.seq)).setCell ⟨W1.heap.size,2,none⟩ (.int .i64 y.hops)).setCell ⟨W1.heap.size,3,none⟩ (.int .u32 y.next)).setCell ⟨W1.heap.size,4,none⟩ (.bool y.valid)).setCell ⟨W1.heap.size,5,none⟩ (.int .u64 y.exp)).setCell ⟨W1.heap.size,6,none⟩ (.slice ao y.bN.length c)):=
 ⟨_,ao,c,rfl,rfl,hD.out.aeB,aB _,uI hb (aB _) _ _ _ _ _ _ _⟩
theorem HB.kG{me now:Int}(hk:Hid (∀W5,Below W0.heap.size W0 W5->HB N B T C me seq cZ now p W0 W5))(h:Below W0.heap.size W0 W):HB N B T C me seq cZ now p W0 (W.alloc o):=hk.out _ (h.alloc h.size _)
theorem HB.eX{me now:Int}(hk:Hid (∀W5,Below W0.heap.size W0 W5->HB N B T C me seq cZ now p W0 W5)):HB N B T C me seq cZ now p W0 (W0.alloc o).drew:=hk.out _ (bC).drew
theorem HB.vP{me now:Int}{v0 v1 v2 v3 v4 v5 v6:Value}(hk:Hid (∀W5,Below W0.heap.size W0 W5->HB N B T C me seq cZ now p W0 W5))(h:Below W0.heap.size W0 W):HB N B T C me seq cZ now p W0 (((((((W.setCell ⟨W0.heap.size,0,none⟩ v0).setCell ⟨W0.heap.size,1,none⟩ v1).setCell ⟨W0.heap.size,2,none⟩ v2).setCell ⟨W0.heap.size,3,none⟩ v3).setCell ⟨W0.heap.size,4,none⟩ v4).setCell ⟨W0.heap.size,5,none⟩ v5).setCell ⟨W0.heap.size,6,none⟩ v6):=hk.out _ (uI h (aB _) _ _ _ _ _ _ _)
theorem Cm{g:bI}{TL:List Hp.Tm}(n:Nd N B g s TL w)(p:aD)(hp:p.Wf)(hL:fI w p [])(hfl:s.aI.length<=1000000)(hdl:s.aQ.length<=1000000):
  Calls Tryz.prog 181 #[.pointer (some ⟨N,0,none⟩),.pointer (some ⟨B,0,none⟩),p.val] w λe w'=>e=.returned (.tuple #[])∧lV N B g s (s.answer p) TL w w':=by
 have hb0:Below w.heap.size w (w.alloc p.box):=bC;have gX:=PB.new p w;have n0:=n.later hb0;have hfr:a_ p.aJ:=⟨hp.aec,by have:=hp.aeb;omega⟩;obtain⟨s2,dB⟩:∃s2,s.answer p=s2:=⟨_,rfl⟩;rw[dB];replace dB:=(show Hid _ from dB);dsimp only[aD.box]at hb0 n0;unfold PB at gX;dsimp only[aD.box]at gX;go_enter Tryz.func181,Tryz.ntmps181;go_upto_region 1 with(fail);generalize World.alloc _ _=W1 at hb0 gX n0 ⊢;have rG:=(show Hid _ from HB.mk' n0 gX (aU _ _));obtain⟨⟨y,fd⟩,hr⟩:∃r,bH s.A p.aJ s.now=r:=⟨_,rfl⟩;have HF:=(show Hid _ from nS n0 p.aJ s.now hfr hr);generalize lZ:w.heap.size=C at gX rG ⊢;replace lZ:=(show Hid _ from lZ);go_cut [6,7]from 8 to 21 (og y fd W1)
 case first=>
  have hS:HB N B g.x.T C s.me s.seq s.cZ s.now p W1 W1.drew:=HB.drew rG.out;have hkB:=(show Hid _ from λW5 h5=>HB.mk' (W:=W5) n0 gX h5);go_region_held3 (HB N B g.x.T C s.me s.seq s.cZ s.now p W1) (first|with_reducible exact hS|with_reducible assumption|(with_reducible apply HB.vP hkB;assumption)|(with_reducible apply HB.kG hkB;assumption)|(with_reducible apply HB.eX hkB)|(with_reducible apply hkB.out;assumption)) ((go_at_call 79;refine(HF.out _ (And.right (by assumption))).mono ?_;rintro e w2 ⟨ao,c,rfl,hb2,hpr⟩;try ((with_reducible have hD:=hpr di (.slice none 0 0) (lG W1));obtain⟨d0,d1,d2,d3,d4,d5,d6⟩:=hD.cell;have q0:=hD.free 0;have q1:=hD.free 1;have q2:=hD.free 2;have q3:=hD.free 3;have q4:=hD.free 4;have q5:=hD.free 5;have q6:=hD.free 6;have hD':Hid (eu W1.heap.size di (.slice none 0 0) w2):=hD;clear hD);clear hpr))
  all_goals
   go_wp2_with fail;go_meet;first|with_reducible exact iB hb2|with_reducible exact j3 hb2 hD'
 case rest=>
  obtain⟨D,ao,c,rfl,rfl,hD,hDl,hb2⟩:=hcut;have n2:=n0.later hb2;have hP2:=PB.below gX hb2;have hz:=hb0.size;have hCD:C≠D:=by have:=PB.lt gX;omega
  clear rG gX n0 HF;have hs2:=dB.out;unfold St.answer at hs2;rw[hr]at hs2;dsimp only at hs2;obtain⟨d0,d1,d2,d3,d4,d5,d6⟩:=hD.cell;obtain⟨p0,p1,p2,p3,p4,p5,p6,p7,p8,p9,jK,jE⟩:=PB.cell hP2;cases fd
  ·rw[aH (by simp)]at hs2;subst hs2;have HD:=(show Hid _ from jA n2 3 hdl);clear d0 d1 d2 d3 d4 d5 d6 p0 p1 p2 p3 p4 p5 p6 p7 p8 p9 jK jE dB;go_wp2_with fail;refine aT HD.out ?_;rintro e w3 ⟨rfl,hN⟩;go_wp2;go_returns;exact⟨rfl,(hN.pre hb2).pre hb0⟩
  ·rw[aM rfl]at hs2;subst hs2;have q0:=PB.free hP2 0;have q1:=PB.free hP2 1;have hb3:Below w.heap.size w ((wc.setCell ⟨C,0,none⟩ (.int .i64 8)).setCell ⟨C,1,none⟩ (.int .i64 2)):=((hb0.trans (hb2.mono hb0.size)).setCell (p:=⟨C,0,none⟩) (by rw[lZ.out];exact aB _) _).setCell (p:=⟨C,1,none⟩) (by rw[lZ.out];exact aB _) _;have hP3:=hP2.acW 8 2;have n3:=n.later hb3;have HS:Hid (Calls Tryz.prog 80 #[.pointer (some ⟨B,0,none⟩),.int .u32 y.next,({p with ttl:=8,kind:=2}:aD).val] ((wc.setCell ⟨C,0,none⟩ (.int .i64 8)).setCell ⟨C,1,none⟩ (.int .i64 2)) λe w'=>e=.returned (.tuple #[])∧lV N B g s (s.send y.next {p with ttl:=8,kind:=2} []) TL _ w'):=
    Ck n3 y.next {p with ttl:=8,kind:=2} ⟨by dsimp only;omega,by dsimp only;omega,by dsimp only;omega,by dsimp only;omega,hp.Nw,hp.Nv,hp.id0,hp.id1,hp.aef,hp.aee,hp.Z4,hp.Z0,hp.aec,hp.aeb,hp.aea,hp.ad9,hp.ade,hp.adb,hp.ln1,hp.aeE⟩ [] (hL.below hb3) hfl
   have hD3:eu D y (.slice ao y.bN.length c) ((wc.setCell ⟨C,0,none⟩ (.int .i64 8)).setCell ⟨C,1,none⟩ (.int .i64 2)):=(kS _ _ _ _ (Ne.symm hCD)).trans ((kS _ _ _ _ (Ne.symm hCD)).trans hD);clear n2 dB lZ;dsimp only[aD.val]at HS;go_upto_region 5 with(fail);generalize World.setCell _ _ _=W3 at hb3 hP3 n3 HS hD3 ⊢;clear d0 d1 d2 d3 d4 d5 d6 p0 p1 p2 p3 p4 p5 p6 p7 p8 p9 jK jE q0 q1;obtain⟨d0,d1,d2,d3,d4,d5,d6⟩:=hD3.cell;obtain⟨p0,p1,p2,p3,p4,p5,p6,p7,p8,p9,jK,jE⟩:=PB.cell hP3;dsimp only at p0 p1 p2 p3 p4 p5 p6 p7 p8 p9 jK jE;go_wp2_with fail;refine aT HS.out ?_;rintro e w3 ⟨rfl,hN⟩;go_wp2;go_returns;exact⟨rfl,hN.pre hb3⟩
variable{C:Nat}{p:aD}{W:World}
theorem PB.o_(h:PB p C W)(t:Int):PB {p with ttl:=t} C (W.setCell ⟨C,0,none⟩ (.int .i64 t)):=by
 unfold PB at h ⊢;simp[World.setCell,Array.getElem?_modify,h]
theorem PB.Ez(h:PB p C W)(t:Int):PB {p with hops:=t} C (W.setCell ⟨C,2,none⟩ (.int .i64 t)):=by
 unfold PB at h ⊢;simp[World.setCell,Array.getElem?_modify,h]
theorem PB.ac0(h:PB p C W)(t:Int)(b:Bool):PB {p with aX:=t,unk:=b} C ((W.setCell ⟨C,6,none⟩ (.int .u32 t)).setCell ⟨C,3,none⟩ (.bool b)):=by
 unfold PB at h ⊢;simp[World.setCell,Array.getElem?_modify,h]
theorem vV(h:Int)(h0:0<=h∧h<=255)(w:World):Calls Tryz.prog 162 #[.int .i64 h] w λe w'=>e=.returned (.int .i64 (St.far h))∧w'=w:=by
 have hw:wrap64 (h+1)=h+1:=by unfold wrap64;omega
 have hf:∀y,y=min (h+1) 255->y=St.far h:=λy hy=>hy;go_enter Tryz.func162,Tryz.ntmps162;go_wp2;all_goals (go_ret;exact⟨vz (by unfold St.far;omega),rfl⟩)
theorem aD.Wf.num(h:p.Wf):a_ p.id∧a_ p.dest∧a_ p.aX∧a_ p.aJ∧a_ p.dw∧a_ p.life:=by
 obtain⟨_,_,_,_,_,_,h1,h2,h3,h4,h5,h6,h7,h8,h9,h10,h11,h12,_,_⟩:=h;unfold a_;omega
structure aD.Hd(p:aD):Prop where
 wf:p.Wf
 ttl:1<=p.ttl∧p.ttl<=255
 hops:0<=p.hops∧p.hops<=255
theorem Oh{N B:Nat}{g:bI}{s:St}{TL:List Hp.Tm}{w:World}(n:Nd N B g s TL w)(p:aD)(hq:p.Hd)(hL:fI w p [])(hfl:s.aI.length<=1000000):
  Calls Tryz.prog 165 #[.pointer (some ⟨N,0,none⟩),.pointer (some ⟨B,0,none⟩),p.val] w λe w'=>e=.returned (.tuple #[])∧lV N B g s (s.askOn p) TL w w':=by
 have hp:=hq.wf;obtain⟨_,hde,hds,_,_,_⟩:=hp.num;have hb0:Below w.heap.size w (w.alloc p.box):=bC;have gX:=PB.new p w;have n0:=n.later hb0;obtain⟨s2,dB⟩:∃s2,s.askOn p=s2:=⟨_,rfl⟩;rw[dB];replace dB:=(show Hid _ from dB);have hnu:a_ (eT s.A p.dest):=by
  unfold eT;cases hl:aK s.A p.dest with
  |none=>exact⟨by simp,by simp⟩
  |some y=>exact(n.nn.cr.tb.ok y (bU hl).1).seq
 dsimp only[aD.box]at hb0 n0;unfold PB at gX;dsimp only[aD.box]at gX;go_enter Tryz.func165,Tryz.ntmps165;go_upto_region 1 with(fail);generalize World.alloc _ _=W1 at hb0 gX n0 ⊢;have rG:=(show Hid _ from HB.mk' n0 gX (aU _ _));have HF:=(show Hid _ from λW5 (h5:Below W1.heap.size W1 W5)=>aac (n0.later h5) p.dest hde);generalize xN:(aK s.A p.dest).isSome=fd at HF;generalize hnm:eT s.A p.dest=nm at HF hnu;generalize lZ:w.heap.size=C at gX rG ⊢;replace lZ:=(show Hid _ from lZ);have hS:HB N B g.x.T C s.me s.seq s.cZ s.now p W1 W1.drew:=HB.drew rG.out;go_region_held3 (HB N B g.x.T C s.me s.seq s.cZ s.now p W1) (first|with_reducible exact hS|with_reducible assumption) ((go_at_call 157;refine(HF.out _ (And.right (by assumption))).mono ?_;rintro e w2 ⟨rfl,rfl⟩))
 have hbd:Below W1.heap.size W1 W1.drew:=(aU _ _).drew;have n2:=n0.later hbd;have hP2:=PB.below gX hbd;have hb2:=hb0.trans (hbd.mono hb0.size);clear hS rG HF gX n0 hb0 hbd;generalize World.drew _=W2 at n2 hP2 hb2 ⊢;have hwt:wrap64 (p.ttl - 1)=p.ttl - 1:=by
  have:=hq.ttl;unfold wrap64;omega
 cases fd
 ·have Ut:Hid (s.send 0 ({p with ttl:=p.ttl - 1,hops:=St.far p.hops}:aD) []=s2):=by
   rw[<-dB.out];unfold St.askOn;rw[xN];rfl
  have hwf:({p with ttl:=p.ttl - 1,hops:=St.far p.hops}:aD).Wf:=by
   have h1:=hq.ttl;have h2:=hq.hops;refine {hp with Wy:=?_,Wx:=?_,Nw:=?_,Nv:=?_}<;>(unfold St.far;dsimp only;omega)
  go_upto_region 4 with(fail);have hbC:w.heap.size<=C:=by rw[lZ.out];exact aB _
  have l9:=hP2.o_ (p.ttl - 1);have hb4:Below w.heap.size w (W2.setCell ⟨C,0,none⟩ (.int .i64 (p.ttl - 1))):=hb2.setCell (p:=⟨C,0,none⟩) hbC _;obtain⟨p0,p1,p2,p3,p4,p5,p6,p7,p8,p9,jK,jE⟩:=PB.cell hP2;have f0:=PB.free hP2 0;try dsimp only at p0 p1 p2 p3 p4 p5 p6 p7 p8 p9 jK jE
  go_upto_region 5 with(fail);generalize World.setCell _ _ _=W4 at l9 hb4 ⊢;clear p0 p1 p2 p3 p4 p5 p6 p7 p8 p9 jK jE f0 hP2 hb2;obtain⟨p0,p1,p2,p3,p4,p5,p6,p7,p8,p9,jK,jE⟩:=PB.cell l9;have f2:=PB.free l9 2;try dsimp only at p0 p1 p2 p3 p4 p5 p6 p7 p8 p9 jK jE
  have xP:=l9.Ez (St.far p.hops);have hb5:Below w.heap.size w (W4.setCell ⟨C,2,none⟩ (.int .i64 (St.far p.hops))):=hb4.setCell (p:=⟨C,2,none⟩) hbC _;have n5:=n.later hb5;have HS:=(show Hid _ from Ck n5 0 ({p with ttl:=p.ttl - 1,hops:=St.far p.hops}:aD) hwf [] (hL.below hb5) hfl);rw[Ut.out]at HS;dsimp only[aD.val]at HS;go_wp2_with fail;refine aT (vV p.hops hq.hops W4) ?_;rintro e w4 ⟨rfl,rfl⟩;clear l9 hb4;go_upto_region 6 with(fail);generalize World.setCell _ _ _=W5 at xP hb5 n5 HS ⊢;clear p0 p1 p2 p3 p4 p5 p6 p7 p8 p9 jK jE f2;obtain⟨p0,p1,p2,p3,p4,p5,p6,p7,p8,p9,jK,jE⟩:=PB.cell xP;try dsimp only at p0 p1 p2 p3 p4 p5 p6 p7 p8 p9 jK jE
  go_wp2_with fail;refine aT HS.out ?_;rintro e w6 ⟨rfl,hN⟩;go_wp2;go_returns;exact⟨rfl,hN.pre hb5⟩
 ·have Ut:Hid (s.send 0 ({p with ttl:=p.ttl - 1,hops:=St.far p.hops,aX:=max p.aX nm,unk:=false}:aD) []=s2):=by
   rw[<-dB.out];unfold St.askOn;rw[xN,hnm];rfl
  have hwf:({p with ttl:=p.ttl - 1,hops:=St.far p.hops,aX:=max p.aX nm,unk:=false}:aD).Wf:=by
   have h1:=hq.ttl;have h2:=hq.hops;have h3:=hds;have h4:=hnu;unfold a_ at h3 h4;refine {hp with Wy:=?_,Wx:=?_,Nw:=?_,Nv:=?_,Z4:=?_,Z0:=?_}<;>(unfold St.far;dsimp only;omega)
  have adV:w.heap.size<=C:=by rw[lZ.out];exact aB _
  have hP3:=hP2.ac0 (max p.aX nm) false;have hb3:Below w.heap.size w ((W2.setCell ⟨C,6,none⟩ (.int .u32 (max p.aX nm))).setCell ⟨C,3,none⟩ (.bool false)):=(hb2.setCell (p:=⟨C,6,none⟩) adV _).setCell (p:=⟨C,3,none⟩) adV _;obtain⟨p0,p1,p2,p3,p4,p5,p6,p7,p8,p9,jK,jE⟩:=PB.cell hP2;have f6:=PB.free hP2 6;have f3:=PB.free hP2 3;go_upto_region 4 with(fail);generalize World.setCell _ _ _=W3 at hP3 hb3 ⊢;clear p0 p1 p2 p3 p4 p5 p6 p7 p8 p9 jK jE f6 f3 hP2 hb2;have hbC:w.heap.size<=C:=by rw[lZ.out];exact aB _
  have l9:=hP3.o_ (p.ttl - 1);have hb4:Below w.heap.size w (W3.setCell ⟨C,0,none⟩ (.int .i64 (p.ttl - 1))):=hb3.setCell (p:=⟨C,0,none⟩) hbC _;obtain⟨p0,p1,p2,p3,p4,p5,p6,p7,p8,p9,jK,jE⟩:=PB.cell hP3;have f0:=PB.free hP3 0;try dsimp only at p0 p1 p2 p3 p4 p5 p6 p7 p8 p9 jK jE
  go_upto_region 5 with(fail);generalize World.setCell _ _ _=W4 at l9 hb4 ⊢;clear p0 p1 p2 p3 p4 p5 p6 p7 p8 p9 jK jE f0 hP3 hb3;obtain⟨p0,p1,p2,p3,p4,p5,p6,p7,p8,p9,jK,jE⟩:=PB.cell l9;have f2:=PB.free l9 2;try dsimp only at p0 p1 p2 p3 p4 p5 p6 p7 p8 p9 jK jE
  have xP:=l9.Ez (St.far p.hops);have hb5:Below w.heap.size w (W4.setCell ⟨C,2,none⟩ (.int .i64 (St.far p.hops))):=hb4.setCell (p:=⟨C,2,none⟩) hbC _;have n5:=n.later hb5;have HS:=(show Hid _ from Ck n5 0 ({p with ttl:=p.ttl - 1,hops:=St.far p.hops,aX:=max p.aX nm,unk:=false}:aD) hwf [] (hL.below hb5) hfl);rw[Ut.out]at HS;dsimp only[aD.val]at HS;go_wp2_with fail;refine aT (vV p.hops hq.hops W4) ?_;rintro e w4 ⟨rfl,rfl⟩;clear l9 hb4;go_upto_region 6 with(fail);generalize World.setCell _ _ _=W5 at xP hb5 n5 HS ⊢;clear p0 p1 p2 p3 p4 p5 p6 p7 p8 p9 jK jE f2;obtain⟨p0,p1,p2,p3,p4,p5,p6,p7,p8,p9,jK,jE⟩:=PB.cell xP;try dsimp only at p0 p1 p2 p3 p4 p5 p6 p7 p8 p9 jK jE
  go_wp2_with fail;refine aT HS.out ?_;rintro e w6 ⟨rfl,hN⟩;go_wp2;go_returns;exact⟨rfl,hN.pre hb5⟩
end Go.Proofs.YtakaadcpaeiccabGreat
