import Derived.Test.YtakaadcpaeiccabGreatC14
set_option maxHeartbeats 4000000
set_option maxRecDepth 100000
namespace Go.Proofs.YtakaadcpaeiccabGreat
open Go.RowKit
theorem CW(x y:Int)(r:List Int)(k:Nat):num (b4 x++(b4 y++r)) (k+2)=num r k:=by
 unfold num;rw[show 4 * (k+2)=4 * k+8 by omega];rfl
theorem fC(x:Int)(r:List Int):num (b4 x++r) 0=x:=by
 show n4 (x / 16777216) (x / 65536%256) (x / 256%256) (x%256)=x;exact Zg
theorem dP(x:Int)(r:List Int)(k:Nat):num (b4 x++r) (k+1)=num r k:=by
 unfold num;rw[show 4 * (k+1)=4 * k+4 by omega];rfl
theorem Oh(L:List (Int×Int)):qA L.length (L.flatMap λx=>b4 x.1++b4 x.2)=L:=by
 induction L with
 |nil=>rfl
 |cons a L ih=>
  unfold qA at ih ⊢;rw[dU,List.range_succ_eq_map,List.map_cons,List.map_map];simp only[List.flatMap_cons,List.append_assoc,Nat.mul_zero,Nat.zero_add];rw[fC,dP _ _ 0,fC];conv=>rhs;rw[<-ih]
  refine congrArg _ (List.map_congr_left λi _=> ?_);simp only[Function.comp_apply];rw[show 2 * Nat.succ i=2 * i+2 by omega,show 2 * i+2+1=2 * i+1+2 by omega,CW,CW]
theorem Yo(u:Bool):((if u then(8:Int)else 0)==8)=u:=by cases u<;>rfl
def qK(p:aF)(L:List (Int×Int)):List Int:=p.kQ p.nums.length++iq L L.length++aI p.pay
theorem Dn(p:aF)(L:List (Int×Int)):yP p L=p.ttl::p.kind::nT p::0::p.cnt::qK p L:=by
 simp only[yP,qK,aF.head,List.append_assoc,List.cons_append,List.nil_append]
theorem YA(p:aF)(hg:p.eU=true)(L:List (Int×Int))(hl:L.length=p.ln):
  (qK p L).length=dO p.kind p.cnt∧iX p.ttl p.kind (nT p) p.cnt (qK p L)={p with la:=none,lc:=0}∧nC p.kind p.cnt (qK p L)=L:=by
 obtain⟨hlk,_,_,_,_,_,hk⟩:=eT hg;simp only[aF.xS,xD,fF,jg]at hlk;obtain⟨hln,_,_,h3,h4,h5,h6,h7,h8,h9,h10,h11⟩:=hlk;obtain⟨ttl,kind,hops,unk,id,dest,a_,aK,dx,life,la,ln,lc,pay⟩:=p;dsimp only at hk h3 h4 h5 h6 h7 h8 h9 h10 h11 hln hl ⊢;rcases hk with rfl|rfl|rfl|⟨rfl,hn0,hn1⟩
 ·simp only[aF.dz,if_true]at h3 h4 h5 h6 h7 h8 h9 h10 h11 hln;subst h10 h11 hln;obtain rfl:=qz hl;refine⟨rfl,?_,rfl⟩;have ht:qK ⟨ttl,1,hops,unk,id,dest,a_,aK,dx,0,la,0,lc,⟨#[]⟩⟩ []=b4 id++(b4 dest++(b4 a_++(b4 aK++(b4 dx++ [])))):=rfl;rw[ht];show(⟨ttl,1,hops,nT _==8,num _ 0,num _ 1,num _ 2,num _ 3,num _ 4,0,none,0,0,⟨#[]⟩⟩:aF)=_;rw[fC,dP _ _ 0,fC,dP _ _ 1,dP _ _ 0,fC,dP _ _ 2,dP _ _ 1,dP _ _ 0,fC,dP _ _ 3,dP _ _ 2,dP _ _ 1,dP _ _ 0,fC];unfold nT;rw[Yo]
 ·simp only[aF.dz,show ¬((2:Int)=1)by omega,if_false,if_true]at h3 h4 h5 h6 h7 h8 h9 h10 h11 hln;subst h4 h5 h9 h11 hln;obtain rfl:=qz hl;refine⟨rfl,?_,rfl⟩;have ht:qK ⟨ttl,2,hops,false,0,dest,a_,aK,0,life,la,0,lc,⟨#[]⟩⟩ []=b4 dest++(b4 a_++(b4 aK++(b4 life++ []))):=rfl;rw[ht];show(⟨ttl,2,hops,nT _==8,0,num _ 0,num _ 1,num _ 2,0,num _ 3,none,0,0,⟨#[]⟩⟩:aF)=_;rw[fC,dP _ _ 0,fC,dP _ _ 1,dP _ _ 0,fC,dP _ _ 2,dP _ _ 1,dP _ _ 0,fC];rfl
 ·simp only[aF.dz,show ¬((9:Int)=1)by omega,show ¬((9:Int)=2)by omega,show ¬((9:Int)=3)by omega,if_false,if_true]at h3 h4 h5 h6 h7 h8 h9 h10 h11 hln;subst h3 h4 h7 h9 h10 hln;obtain rfl:=qz hl;have ht:qK ⟨ttl,9,0,false,id,dest,0,aK,0,0,la,0,lc,pay⟩ []=b4 id++(b4 dest++(b4 aK++aI pay)):=rfl;have hc:aF.cnt ⟨ttl,9,0,false,id,dest,0,aK,0,0,la,0,lc,pay⟩=(pay.size:Int):=rfl;rw[ht,hc];refine⟨?_,?_,rfl⟩
  ·show _=12+((pay.size:Nat):Int).toNat;simp only[dw,lC,dA];omega
  ·show(⟨ttl,9,0,nT _==8,num _ 0,num _ 1,0,num _ 2,0,0,none,0,0,strOfNums ((aI pay).take ((pay.size:Nat):Int).toNat)⟩:aF)=_;rw[fC,dP _ _ 0,fC,dP _ _ 1,dP _ _ 0,fC,ko (by rw[dA];omega),uS];rfl
 ·simp only[aF.dz,show ¬((3:Int)=1)by omega,show ¬((3:Int)=2)by omega,if_false,if_true]at h3 h4 h5 h6 h7 h8 h9 h10 h11;subst h3 h4 h5 h6 h7 h8 h9 h10 h11;have ht:qK ⟨ttl,3,0,false,0,0,0,0,0,0,la,ln,lc,⟨#[]⟩⟩ L=(L.flatMap λx=>b4 x.1++b4 x.2):=by
   show []++iq L L.length++ []=_;unfold iq;rw[ko (aD _),iD,List.nil_append]
  have hc:aF.cnt ⟨ttl,3,0,false,0,0,0,0,0,0,la,ln,lc,⟨#[]⟩⟩=(ln:Int):=rfl;rw[ht,hc];refine⟨?_,?_,?_⟩
  ·show _=8 * ((ln:Nat):Int).toNat;rw[wZ,hl];omega
  ·show(⟨ttl,3,0,nT _==8,0,0,0,0,0,0,none,((ln:Nat):Int).toNat,0,⟨#[]⟩⟩:aF)=_;rw[show((ln:Nat):Int).toNat=ln by omega];rfl
  ·show qA ((ln:Nat):Int).toNat _=L;rw[show((ln:Nat):Int).toNat=L.length by omega];exact Oh L
theorem R_(p:aF)(hg:p.eU=true):1<=dO p.kind p.cnt:=by
 obtain⟨_,_,_,_,_,_,hk⟩:=eT hg;unfold dO aF.cnt;rcases hk with hk|hk|hk|⟨hk,h,_⟩
 ·simp[hk]
 ·simp[hk]
 ·simp[hk];omega
 ·simp[hk];omega
theorem La(v:Value)(xs:List Int)(W:World)(hv:fu W v xs):
  Calls Tryz.prog 22 #[v] W λe w'=>zq xs W e w':=Qo JU v xs W hv
open Go.Maps
theorem jJ.ge{B:Nat}{a:qy}{bA:List (Bool×Int×Int)}{aL aY:List (Int×ByteArray)}{aT:List Int}{W:World}(h:jJ B (B+1) a bA aL aY aT W){k:Nat}(hk:jE B a k):B<=k:=by
 rcases hk with rfl|hk|hk|hk|hk
 ·exact aD _
 ·exact Nat.le_of_succ_le (h.nW.lt k hk).1
 ·exact Nat.le_of_succ_le (h.aK.lt k hk).1
 ·exact Nat.le_of_succ_le (h.bP.lt k hk).1
 ·exact Nat.le_of_succ_le (h.bQ.lt k hk).1
theorem Eb(p:aF):oG p.box:=⟨λc e=>(by cases e),λc e=>(by cases e),λc e=>(by cases e),λc e=>(by cases e),λc e=>(by cases e)⟩
variable{f h:Int->Option Nat}{u:Int->Value}{bA:List (Bool×Int×Int)}{aY aL:List (Int×ByteArray)}{aT:List Int}{B M Mt N T:Nat}{F F':Nat->Prop}{x:ng}{s s':St}{tv:Value}{W W' a b:World}
theorem kT.block{s:Nat}(h:kT W M f s)(he:W'.heap[M]?=W.heap[M]?):kT W' M f s:=by
 obtain⟨D,⟨es,clock,hb,Ft,hs,hD⟩,h2,h3⟩:=h;exact⟨D,⟨es,clock,he.trans hb,Ft,hs,hD⟩,h2,h3⟩
theorem kT.obj{s:Nat}(h:kT W M f s):∃es cl,W.heap[M]?=some (.map es cl):=by
 obtain⟨D,⟨es,cl,hm,_⟩,_⟩:=h;exact⟨es,cl,hm⟩
theorem TR.at{base:Nat}{last:Int}{h:List Hp.Tm}{v:Value}(r:TR base T M last h v W)(h1:W'.heap[T]?=W.heap[T]?)(h2:W'.heap[M]?=W.heap[M]?)(h3:∀k,v.ownBlock=some k->W'.heap[k]?=W.heap[k]?):TR base T M last h v W':=by
 obtain⟨f,p1,p2⟩:=r.map;exact⟨h1.trans r.blk,bK r.row h3,⟨f,p1.block h2,p2⟩,r.ok,r.bT,r.bM⟩
def kW(q:Sr):Hp.Tm:=(q.due,q.id,q.dest)
structure YU(x:ng)(h:Int->Option Nat)(u:Int->Value)(Mt:Nat)(hp:List Hp.Tm)(tv:Value)(s:St)(TL:List Hp.Tm)(W:World):Prop where
 sn:xI x.Ms s.tn s.mem W
 sr:xG x.qH h u s.Q W
 tm:TR 0 x.Tm Mt s.tl hp tv W
 hpo:Hp.Heap hp
 pm:hp.Perm TL
 pc:W.ownsRow 0 35 1 x.pc s.pc.length (s.pc.map (Value.int .u64))
def kg(x:ng)(h:Int->Option Nat)(u:Int->Value)(Mt:Nat)(tv:Value)(s:St)(k:Nat):Prop:=
 k=x.Ms∨IV x.qH h u s.Q k∨k=x.Tm∨k=Mt∨tv.ownBlock=some k∨x.pc.ownBlock=some k
theorem YU.kept{hp:List Hp.Tm}{TL:List Hp.Tm}(r:YU x h u Mt hp tv s TL W)(he:∀k,kg x h u Mt tv s k->W'.heap[k]?=W.heap[k]?):YU x h u Mt hp tv s TL W':=
 ⟨r.sn.block (he _ (.inl rfl)),r.sr.kept λk hk=>he k (.inr (.inl hk)),r.tm.at (he _ (.inr (.inr (.inl rfl)))) (he _ (.inr (.inr (.inr (.inl rfl))))) λk hk=>he k (.inr (.inr (.inr (.inr (.inl hk))))),r.hpo,r.pm,bK r.pc λk hk=>he k (.inr (.inr (.inr (.inr (.inr hk)))))⟩
theorem YU.lt{hp:List Hp.Tm}{TL:List Hp.Tm}(r:YU x h u Mt hp tv s TL W){k:Nat}(hk:kg x h u Mt tv s k):k<W.heap.size:=by
 rcases hk with rfl|hk|rfl|rfl|hk|hk
 ·exact r.sn.lt
 ·exact r.sr.lt hk
 ·exact r.tm.blk.lt
 ·obtain⟨f,p1,_⟩:=r.tm.map;exact p1.lt
 ·exact(r.tm.row.lt k hk).2
 ·exact(r.pc.lt k hk).2
def RX(o:Obj):Prop:=(∀c,o≠ .cells c 177 (0,0))∧(∀c,o≠ .cells c 9 (0,0))∧(∀c,o≠ .cells c 165 (0,0))∧(∀c,o≠ .cells c 254 (0,0))∧∀c,o≠ .cells c 35 (0,0)
theorem YU.kind{hp:List Hp.Tm}{TL:List Hp.Tm}(r:YU x h u Mt hp tv s TL W){k:Nat}(hk:kg x h u Mt tv s k):
  ∃o,W.heap[k]?=some o∧(((k=x.Ms∨k=x.qH∨k=Mt)∧∃es cl,o=.map es cl)∨(¬RX o∧Go.Proofs.YtakaadcpaeiccabGreat.yJ o∧oG o∧(∀c,o≠ .cells c 131 (0,0))∧∀es cl,o≠ .map es cl)):=by
 have hT:∀ {t:TypeId} (c:Array Value),(t=177∨t=9∨t=165∨t=254∨t=35)->¬RX (.cells c t (0,0))∧Go.Proofs.YtakaadcpaeiccabGreat.yJ (.cells c t (0,0))∧oG (.cells c t (0,0))∧(∀d,(Obj.cells c t (0,0))≠ .cells d 131 (0,0))∧∀es cl,(Obj.cells c t (0,0))≠ .map es cl:=by
  rintro t c (rfl|rfl|rfl|rfl|rfl)<;>
  exact⟨by simp[RX],⟨λc e=>(by cases e),λc e=>(by cases e),λc e=>(by cases e)⟩,⟨λc e=>(by cases e),λc e=>(by cases e),λc e=>(by cases e),λc e=>(by cases e),λc e=>(by cases e)⟩,λc e=>(by cases e),λc d e=>(by cases e)⟩
 rcases hk with rfl|hk|rfl|rfl|hk|hk
 ·obtain⟨es,cl,hm⟩:=r.sn.obj;exact⟨_,hm,.inl ⟨.inl rfl,_,_,rfl⟩⟩
 ·obtain⟨o,ho,⟨rfl,es,cl,rfl⟩|⟨c,rfl⟩|⟨c,rfl⟩⟩:=r.sr.kind hk
  ·exact⟨_,ho,.inl ⟨.inr (.inl rfl),_,_,rfl⟩⟩
  ·exact⟨_,ho,.inr (hT c (.inl rfl))⟩
  ·exact⟨_,ho,.inr (hT c (.inr (.inl rfl)))⟩
 ·exact⟨_,r.tm.blk,.inr (hT _ (.inr (.inr (.inl rfl))))⟩
 ·obtain⟨f,p1,_⟩:=r.tm.map;obtain⟨es,cl,hm⟩:=p1.obj;exact⟨_,hm,.inl ⟨.inr (.inr rfl),_,_,rfl⟩⟩
 ·obtain⟨c,hc⟩:=aR r.tm.row hk;exact⟨_,hc,.inr (hT c (.inr (.inr (.inr (.inl rfl)))))⟩
 ·obtain⟨c,hc⟩:=aR r.pc hk;exact⟨_,hc,.inr (hT c (.inr (.inr (.inr (.inr rfl)))))⟩
structure bI where
 x:ng
 a:qy
 M:Nat
 ff:Int->Option Nat
 gg:Int->Value
 sz:Nat
 h:Int->Option Nat
 u:Int->Value
 Mt:Nat
 hp:List Hp.Tm
 tv:Value
structure NdE(x:ng)(s:St):Prop where
 self:x.self=s.me
 seq:x.seq=s.seq
 cO:x.cO=s.cO
 dB:x.dB=s.dB
 fq:x.fq=s.fq
 tn:x.tn=s.tn
 own:x.own=s.own
 cnt:x.cnt=s.cnt
 lk:x.lk=s.lk
structure Nn(N:Nat)(g:bI)(s:St)(TL:List Hp.Tm)(W:World):Prop where
 cr:Fu N g.x g.M g.ff g.gg s.A s.f g.sz W
 eq:NdE g.x s
 rs:YU g.x g.h g.u g.Mt g.hp g.tv s TL W
 qR: [g.M,g.x.Mo,g.x.Ms,g.x.qH,g.Mt].Nodup
 Jg:g.sz<=1000000
def Ft(N:Nat)(g:bI)(s:St)(k:Nat):Prop:=yU N g.x g.M g.ff g.gg s.A k∨kg g.x g.h g.u g.Mt g.tv s k
structure Nd(N B:Nat)(g:bI)(s:St)(TL:List Hp.Tm)(W:World):Prop where
 nn:Nn N g s TL W
 ac:jJ B (B+1) g.a s.bA s.aL s.aY s.aT W
 now:g.a.now=s.now
 bC:g.a.bC=s.bC
structure Up(B:Nat)(F F':Nat->Prop)(w w':World):Prop where
 sub:∀k,F' k->F k∨(w.heap.size<=k∧k<w'.heap.size)
 os:w'.os=w.os
 tape:w'.tape=w.tape
 output:w'.output=w.output
 size:w.heap.size<=w'.heap.size
 block:∀k o,w.heap[k]?=some o->¬F k->(oG o∨k<B)->w'.heap[k]?=some o
theorem aG{k:Nat}{o:Obj}(h:W.heap[k]?=some o):k<W.heap.size:=(gZ.1 h).1
theorem Up.trans{F'':Nat->Prop}{c:World}(p:Up B F F' a b)(q:Up B F' F'' b c):Up B F F'' a c:=by
 have h1:=p.size;have h2:=q.size;refine⟨λk hk=> ?_,q.os.trans p.os,q.tape.trans p.tape,q.output.trans p.output,dH h1 h2,λk o ho hn hA=> ?_⟩
 ·rcases q.sub k hk with h|h
  ·rcases p.sub k h with h|h
   ·exact .inl h
   ·exact .inr (by omega)
  ·exact .inr (by omega)
 ·refine q.block k o (p.block k o ho hn hA) (λh=> ?_) hA;rcases p.sub k h with h|h
  ·exact hn h
  ·have:=aG ho;omega
theorem Up.below(h:Below a.heap.size a b):Up B F F a b:=
 ⟨λ_ h=> .inl h,h.os,h.tape,h.output,h.size,λk _ ho _ _=>(h.block k (aG ho)).trans ho⟩
theorem Up.refl(B:Nat)(F:Nat->Prop)(a:World):Up B F F a a:=.below (aV _ _)
theorem Up.of{S:Nat->Prop}(h:Fx S a b)(hs:∀k o,S k->a.heap[k]?=some o->F k∨(¬oG o∧B<=k))(sub:∀k,F' k->F k∨(a.heap.size<=k∧k<b.heap.size)):Up B F F' a b:=
 ⟨sub,h.os,h.tape,h.output,h.size,λk o ho hn hA=>(h.block k (aG ho) λhk=>by
  rcases hs k o hk ho with h|⟨h1,h2⟩
  ·exact hn h
  ·rcases hA with h|h
   ·exact h1 h
   ·omega).trans ho⟩
theorem Up.QR(h:Up B F F' a b)(hB:a.heap.size<=B):Fx F a b:=
 ⟨h.os,h.tape,h.output,h.size,λk hk hn=>by
  obtain⟨o,ho⟩:∃o,a.heap[k]?=some o:=⟨_,Array.getElem?_eq_getElem hk⟩;rw[ho];exact h.block k o ho hn (.inr (by omega))⟩
theorem Up.keep(p:Up B F F' a b){k:Nat}{o:Obj}(ho:a.heap[k]?=some o)(hn:¬F k)(hA:oG o):b.heap[k]?=some o∧¬F' k:=
 ⟨p.block k o ho hn (.inl hA),λh=>(p.sub k h).elim hn (by have:=aG ho;omega)⟩
theorem MT.kind{me:Int}{g:Int->Value}{A:List Rt}(h:MT me T M f g A W){k:Nat}(hk:nu T M f g A k):
  ∃o,W.heap[k]?=some o∧((k=M∧∃es cl,o=.map es cl)∨(oG o∧RX o∧(∀c,o≠ .cells c 131 (0,0))∧∀es cl,o≠ .map es cl)):=by
 have hT:∀ {t:TypeId} (c:Array Value),(t=158∨t=38∨t=34)->oG (.cells c t (0,0))∧RX (.cells c t (0,0))∧(∀d,(Obj.cells c t (0,0))≠ .cells d 131 (0,0))∧∀es cl,(Obj.cells c t (0,0))≠ .map es cl:=by
  rintro t c (rfl|rfl|rfl)<;>
  exact⟨⟨λc e=>(by cases e),λc e=>(by cases e),λc e=>(by cases e),λc e=>(by cases e),λc e=>(by cases e)⟩,⟨λc e=>(by cases e),λc e=>(by cases e),λc e=>(by cases e),λc e=>(by cases e),λc e=>(by cases e)⟩,λc e=>(by cases e),λc d e=>(by cases e)⟩
 rcases hk with rfl|rfl|⟨y,hy,hk|hk⟩
 ·exact⟨_,h.blk,.inr (hT _ (.inl rfl))⟩
 ·obtain⟨es,cl,hm⟩:=h.map.obj;exact⟨_,hm,.inl ⟨rfl,_,_,rfl⟩⟩
 ·obtain⟨B,p1,p2⟩:=h.ln y hy;rw[p1]at hk;cases hk;exact⟨_,p2,.inr (hT _ (.inr (.inl rfl)))⟩
 ·obtain⟨c,hc⟩:=aR (h.row y hy) hk;exact⟨_,hc,.inr (hT c (.inr (.inr rfl)))⟩
theorem Nn.lt{g:bI}{TL:List Hp.Tm}(n:Nn N g s TL W){k:Nat}(hk:Ft N g s k):k<W.heap.size:=by
 rcases hk with(rfl|rfl|hk)|hk
 ·exact n.cr.nd.lt
 ·exact n.cr.mo.lt
 ·exact n.cr.tb.lt hk
 ·exact n.rs.lt hk
theorem Nn.oG{g:bI}{TL:List Hp.Tm}(n:Nn N g s TL W){k:Nat}(hk:Ft N g s k):∃o,W.heap[k]?=some o∧Go.Proofs.YtakaadcpaeiccabGreat.oG o:=by
 rcases hk with(rfl|rfl|hk)|hk
 ·exact⟨_,n.cr.nd,Mw _⟩
 ·obtain⟨es,cl,hm⟩:=n.cr.mo.obj;exact⟨_,hm,vC es cl⟩
 ·obtain⟨o,ho,⟨_,es,cl,rfl⟩|⟨h,_⟩⟩:=n.cr.tb.kind hk
  ·exact⟨_,ho,vC es cl⟩
  ·exact⟨o,ho,h⟩
 ·obtain⟨o,ho,⟨_,es,cl,rfl⟩|⟨_,_,h,_⟩⟩:=n.rs.kind hk
  ·exact⟨_,ho,vC es cl⟩
  ·exact⟨o,ho,h⟩
theorem Nn.maps{g:bI}{TL:List Hp.Tm}(n:Nn N g s TL W){k:Nat}(hk:k=g.x.Ms∨k=g.x.qH∨k=g.Mt):k≠g.M∧k≠g.x.Mo:=by
 have h:=n.qR;simp only[List.nodup_cons,fe,List.not_mem_nil,or_false,not_or]at h;obtain⟨⟨_,h1,h2,h3⟩,⟨h4,h5,h6⟩,_⟩:=h;rcases hk with rfl|rfl|rfl
 ·exact⟨Ne.symm h1,Ne.symm h4⟩
 ·exact⟨Ne.symm h2,Ne.symm h5⟩
 ·exact⟨Ne.symm h3,Ne.symm h6⟩
theorem Nn.apart{g:bI}{TL:List Hp.Tm}(n:Nn N g s TL W){k:Nat}(hk:kg g.x g.h g.u g.Mt g.tv s k):¬yU N g.x g.M g.ff g.gg s.A k:=by
 obtain⟨o,ho,⟨h,es,cl,rfl⟩|⟨h1,h2,h3,h4,h5⟩⟩:=n.rs.kind hk
 ·obtain⟨q1,q2⟩:=n.maps h;rintro(rfl|rfl|hc)
  ·rw[show W.heap[k]?=_ from n.cr.nd]at ho;cases ho
  ·exact q2 rfl
  ·exact n.cr.tb.not q1 ho (vB es cl) hc
 ·rintro(rfl|rfl|hc)
  ·rw[show W.heap[k]?=_ from n.cr.nd]at ho;exact h4 _ (Option.some.inj ho).symm
  ·obtain⟨es,cl,hm⟩:=n.cr.mo.obj;rw[hm]at ho;exact h5 _ _ (Option.some.inj ho).symm
  ·refine n.cr.tb.not (λe=> ?_) ho h2 hc;subst e;obtain⟨es,cl,hm⟩:=n.cr.tb.map.obj;rw[hm]at ho;exact h5 _ _ (Option.some.inj ho).symm
theorem Nn.kept{g:bI}{TL:List Hp.Tm}(n:Nn N g s TL W)(he:∀k,Ft N g s k->W'.heap[k]?=W.heap[k]?):Nn N g s TL W':=
 ⟨⟨n.cr.nd.block (he _ (.inl (.inl rfl))),n.cr.mo.block (he _ (.inl (.inr (.inl rfl)))),n.cr.tb.kept λk hk=>he k (.inl (.inr (.inr hk))),n.cr.ne⟩,n.eq,n.rs.kept λk hk=>he k (.inr hk),n.qR,n.Jg⟩
theorem Nn.later{g:bI}{TL:List Hp.Tm}(n:Nn N g s TL W)(hb:Below W.heap.size W W'):Nn N g s TL W':=n.kept λk hk=>hb.block k (n.lt hk)
theorem Nd.later{g:bI}{TL:List Hp.Tm}(n:Nd N B g s TL W)(hb:Below W.heap.size W W'):Nd N B g s TL W':=⟨n.nn.later hb,n.ac.later hb,n.now,n.bC⟩
def Bl(s s':St):Prop:=s'.me=s.me∧s'.seq=s.seq∧s'.cO=s.cO∧s'.dB=s.dB∧s'.fq=s.fq∧s'.A=s.A∧s'.mem=s.mem∧s'.tn=s.tn∧s'.f=s.f∧s'.own=s.own∧s'.cnt=s.cnt∧s'.Q=s.Q∧s'.tl=s.tl∧s'.pc=s.pc∧s'.lk=s.lk
theorem Nn.same{g:bI}{TL:List Hp.Tm}(n:Nn N g s TL W)(h:Bl s s')(a:qy):Nn N {g with a:=a} s' TL W:=by
 obtain⟨h1,h2,h3,h4,h5,h6,h7,h8,h9,h10,h11,h12,VO,h14,h15⟩:=h;obtain⟨c,e,r,d,z⟩:=n;obtain⟨e1,e2,e3,e4,e5,e6,e7,e8,e9⟩:=e;obtain⟨r1,r2,r3,r4,r5,r6⟩:=r;exact⟨by rw[h6,h9];exact c,⟨by rw[h1];exact e1,by rw[h2];exact e2,by rw[h3];exact e3,by rw[h4];exact e4,by rw[h5];exact e5,by rw[h8];exact e6,by rw[h10];exact e7,by rw[h11];exact e8,by rw[h15];exact e9⟩,⟨by rw[h7,h8];exact r1,by rw[h12];exact r2,by rw[VO];exact r3,r4,r5,by rw[h14];exact r6⟩,d,z⟩
theorem Ft.same{g:bI}(h:Bl s s')(a:qy)(k:Nat):Ft N {g with a:=a} s' k ↔ Ft N g s k:=by
 obtain⟨h1,h2,h3,h4,h5,h6,h7,h8,h9,h10,h11,h12,VO,h14,h15⟩:=h;unfold Ft kg;rw[h6,h12]
theorem jJ.JV{g:bI}{TL:List Hp.Tm}{base:Nat}{a:qy}(h:jJ B base a bA aL aY aT W)(n:Nn N g s TL W){k:Nat}(hk:Ft N g s k):¬jE B a k:=by
 obtain⟨o,ho,hA⟩:=n.oG hk;exact h.not ho hA
theorem jJ.kinds{base:Nat}{a:qy}(h:jJ B base a bA aL aY aT W){k:Nat}(hk:jE B a k){o:Obj}(ho:W.heap[k]?=some o):¬oG o:=λhA=>h.not ho hA hk
theorem Nd.act{g:bI}{TL:List Hp.Tm}(n:Nd N B g s TL W){a':qy}(h:jJ B (B+1) a' s'.bA s'.aL s'.aY s'.aT W')(hf:Fx (jE B g.a) W W')(he:Bl s s')(h1:a'.now=s'.now)(h2:a'.bC=s'.bC):
  Nd N B {g with a:=a'} s' TL W'∧Up B (Ft N g s) (Ft N {g with a:=a'} s') W W':=by
 refine⟨⟨(n.nn.kept λk hk=>hf.block k (n.nn.lt hk) (n.ac.JV n.nn hk)).same he a',h,h1,h2⟩,.of hf (λk o hk ho=> .inr ⟨n.ac.kinds hk ho,n.ac.ge hk⟩) λk hk=> .inl ((Ft.same he a' k).1 hk)⟩
theorem Nd.table{g:bI}{TL:List Hp.Tm}(n:Nd N B g s TL W){A':List Rt}(h:Bh s.me g.x.T (ext (nu g.x.T g.M g.ff g.gg s.A) W.heap.size W'.heap.size) A' W')(hf:Fx (nu g.x.T g.M g.ff g.gg s.A) W W'):
  ∃M' Ur wY,Nd N B {g with M:=M',ff:=Ur,gg:=wY} {s with A:=A'} TL W'∧Up B (Ft N g s) (Ft N {g with M:=M',ff:=Ur,gg:=wY} {s with A:=A'}) W W':=by
 obtain⟨M',Ur,wY,hM,hS⟩:=h;have hrs:∀k,kg g.x g.h g.u g.Mt g.tv s k->¬nu g.x.T g.M g.ff g.gg s.A k:=λk hk hc=>n.nn.apart hk (.inr (.inr hc));have hM':∀k,k<W.heap.size->¬nu g.x.T g.M g.ff g.gg s.A k->M'≠k:=by
  rintro k hk hn rfl;rcases hS M' (.inr (.inl rfl))with h|h
  ·exact hn h
  ·omega
 have Pe:¬nu g.x.T g.M g.ff g.gg s.A g.x.Mo:=by
  obtain⟨es,cl,hm⟩:=n.nn.cr.mo.obj;exact n.nn.cr.tb.not (Ne.symm n.nn.cr.ne) hm (vB es cl)
 have hN:¬nu g.x.T g.M g.ff g.gg s.A N:=n.nn.cr.tb.not (λe=>by
  obtain⟨es,cl,hm⟩:=n.nn.cr.tb.map.obj;rw[<-e,show W.heap[N]?=_ from n.nn.cr.nd]at hm;cases hm) n.nn.cr.nd (rU _)
 have hnd:=n.nn.qR;simp only[List.nodup_cons,fe,List.not_mem_nil,or_false,not_or]at hnd;obtain⟨_,hnd⟩:=hnd;have hac:∀k,jE B g.a k->¬nu g.x.T g.M g.ff g.gg s.A k:=λk hk hc=>n.ac.JV n.nn (.inl (.inr (.inr hc))) hk;refine⟨M',Ur,wY,⟨⟨⟨n.nn.cr.nd.block (hf.block _ n.nn.cr.nd.lt hN),n.nn.cr.mo.block (hf.block _ n.nn.cr.mo.lt Pe),by rw[n.nn.eq.self];exact hM,hM' _ n.nn.cr.mo.lt Pe⟩,⟨n.nn.eq.self,n.nn.eq.seq,n.nn.eq.cO,n.nn.eq.dB,n.nn.eq.fq,n.nn.eq.tn,n.nn.eq.own,n.nn.eq.cnt,n.nn.eq.lk⟩,?_,?_,n.nn.Jg⟩,n.ac.kept λk hk=>hf.block k (n.ac.lt hk) (hac k hk),n.now,n.bC⟩,.of hf (λk o hk _=> .inl (.inl (.inr (.inr hk)))) λk hk=> ?_⟩
 ·have:=n.nn.rs.kept (W':=W') λk hk=>hf.block k (n.nn.rs.lt hk) (hrs k hk);exact⟨this.sn,this.sr,this.tm,this.hpo,this.pm,this.pc⟩
 ·have q1:=hM' _ n.nn.cr.mo.lt Pe;have q2:=hM' _ (n.nn.rs.lt (.inl rfl)) (hrs _ (.inl rfl));have q3:=hM' _ (n.nn.rs.lt (.inr (.inl (.inl rfl)))) (hrs _ (.inr (.inl (.inl rfl))));have q4:=hM' _ (n.nn.rs.lt (.inr (.inr (.inr (.inl rfl))))) (hrs _ (.inr (.inr (.inr (.inl rfl)))));simp only[List.nodup_cons,fe,List.not_mem_nil,or_false,not_or];exact⟨⟨q1,q2,q3,q4⟩,hnd⟩
 ·rcases hk with(rfl|rfl|hk)|hk
  ·exact .inl (.inl (.inl rfl))
  ·exact .inl (.inl (.inr (.inl rfl)))
  ·rcases hS k hk with h|h
   ·exact .inl (.inl (.inr (.inr h)))
   ·exact .inr h
  ·exact .inl (.inr hk)
theorem Nd.rest{g:bI}{TL dR:List Hp.Tm}(n:Nd N B g s TL W){x':ng}{h':Int->Option Nat}{u':Int->Value}{Fy:Nat}{hp':List Hp.Tm}{tv':Value}
  (hx:iH N x' W') (hT:x'.T=g.x.T) (Pe:x'.Mo=g.x.Mo) (he:NdE x' s') (hr:YU x' h' u' Fy hp' tv' s' dR W') (hf:Fx (λk=>k=N∨kg g.x g.h g.u g.Mt g.tv s k) W W')
  (sub:∀k,kg x' h' u' Fy tv' s' k->kg g.x g.h g.u g.Mt g.tv s k∨(W.heap.size<=k∧k<W'.heap.size)) (hm:x'.Ms=g.x.Ms∧x'.qH=g.x.qH∧Fy=g.Mt)
  (hs:s'.me=s.me∧s'.A=s.A∧s'.f=s.f∧s'.bA=s.bA∧s'.aL=s.aL∧s'.aY=s.aY∧s'.aT=s.aT∧s'.now=s.now∧s'.bC=s.bC):
  Nd N B {g with x:=x',h:=h',u:=u',Mt:=Fy,hp:=hp',tv:=tv'} s' dR W'∧Up B (Ft N g s) (Ft N {g with x:=x',h:=h',u:=u',Mt:=Fy,hp:=hp',tv:=tv'} s') W W':=by
 obtain⟨s1,s2,s3,s4,s5,s6,s7,s8,s9⟩:=hs;obtain⟨m1,m2,m3⟩:=hm;have hcr:∀k,yU N g.x g.M g.ff g.gg s.A k->k≠N->¬(k=N∨kg g.x g.h g.u g.Mt g.tv s k):=λk hk hne h=>h.elim hne λh=>n.nn.apart h hk;have hTN:∀k,nu g.x.T g.M g.ff g.gg s.A k->k≠N:=by
  rintro k hk rfl;exact n.nn.cr.tb.not (λe=>by
   obtain⟨es,cl,hm⟩:=n.nn.cr.tb.map.obj;rw[<-e,show W.heap[k]?=_ from n.nn.cr.nd]at hm;cases hm) n.nn.cr.nd (rU _) hk
 have afD:g.x.Mo≠N:=Ne.symm (Mx n.nn.cr.nd n.nn.cr.mo);refine⟨⟨⟨⟨hx,?_,?_,?_⟩,he,hr,?_,n.nn.Jg⟩,?_,by rw[s8];exact n.now,by rw[s9];exact n.bC⟩,.of hf (λk o hk _=> .inl (hk.elim (λh=> .inl (.inl h)) .inr)) λk hk=> ?_⟩
 ·rw[s3,show({g with x:=x',h:=h',u:=u',Mt:=Fy,hp:=hp',tv:=tv'}:bI).x.Mo=g.x.Mo from Pe];exact n.nn.cr.mo.block (hf.block _ n.nn.cr.mo.lt (hcr _ (.inr (.inl rfl)) afD))
 ·rw[s2,show({g with x:=x',h:=h',u:=u',Mt:=Fy,hp:=hp',tv:=tv'}:bI).x.T=g.x.T from hT,show({g with x:=x',h:=h',u:=u',Mt:=Fy,hp:=hp',tv:=tv'}:bI).x.self=g.x.self from by rw[n.nn.eq.self,<-s1];exact he.self];exact n.nn.cr.tb.kept λk hk=>hf.block k (n.nn.cr.tb.lt hk) (hcr _ (.inr (.inr hk)) (hTN k hk))
 ·rw[show({g with x:=x',h:=h',u:=u',Mt:=Fy,hp:=hp',tv:=tv'}:bI).x.Mo=g.x.Mo from Pe];exact n.nn.cr.ne
 ·have:=n.nn.qR;dsimp only;rw[Pe,m1,m2,m3];exact this
 ·rw[s4,s5,s6,s7];exact n.ac.kept λk hk=>hf.block k (n.ac.lt hk) λh=>n.ac.JV n.nn (h.elim (λh=> .inl (.inl h)) .inr) hk
 ·rcases hk with(rfl|rfl|hk)|hk
  ·exact .inl (.inl (.inl rfl))
  ·exact .inl (.inl (.inr (.inl Pe)))
  ·rw[s2]at hk;dsimp only at hk;rw[hT]at hk;exact .inl (.inl (.inr (.inr hk)))
  ·exact(sub k hk).imp_left .inr
theorem Nd.cells{g:bI}{TL:List Hp.Tm}(n:Nd N B g s TL W){x':ng}(hx:iH N x' W')(hf:Fx (λk=>k=N) W W')(he:NdE x' s')(hm:x'.T=g.x.T∧x'.Mo=g.x.Mo∧x'.Ms=g.x.Ms∧x'.qH=g.x.qH∧x'.Tm=g.x.Tm∧x'.pc=g.x.pc)
  (hs:s'.me=s.me∧s'.A=s.A∧s'.f=s.f∧s'.bA=s.bA∧s'.aL=s.aL∧s'.aY=s.aY∧s'.aT=s.aT∧s'.now=s.now∧s'.bC=s.bC) (hs2:s'.mem=s.mem∧s'.tn=s.tn∧s'.Q=s.Q∧s'.tl=s.tl∧s'.pc=s.pc):
  Nd N B {g with x:=x'} s' TL W'∧Up B (Ft N g s) (Ft N {g with x:=x'} s') W W':=by
 obtain⟨m1,m2,m3,m4,m5,m6⟩:=hm;obtain⟨t1,t2,t3,t4,t5⟩:=hs2;have hin:∀k,kg x' g.h g.u g.Mt g.tv s' k->kg g.x g.h g.u g.Mt g.tv s k:=by
  intro k hk;unfold kg at hk ⊢;rw[m3,m4,m5,m6,t3]at hk;exact hk
 have hr:=n.nn.rs.kept (W':=W') λk hk=>hf.block k (n.nn.rs.lt hk) λe=>n.nn.apart hk (.inl e);refine n.rest hx m1 m2 he ⟨?_,?_,?_,hr.hpo,hr.pm,?_⟩ (hf.mono λk h=> .inl h) (λk hk=> .inl (hin k hk)) ⟨m3,m4,rfl⟩ hs
 ·rw[m3,t1,t2];exact hr.sn
 ·rw[m4,t3];exact hr.sr
 ·rw[m5,t4];exact hr.tm
 ·rw[m6,t5];exact hr.pc
variable{B N b t:Nat}{s:St}{v0 v1 v2 v3 v4:Value}{W w:World}
def l5(N B:Nat)(g:bI)(s s':St)(dR:List Hp.Tm)(w w':World):Prop:=∃g',Nd N B g' s' dR w'∧Up B (Ft N g s) (Ft N g' s') w w'∧Hid (g'.x.T=g.x.T)
theorem hide{P:Prop}(h:P):Hid P:=h
theorem cells5(h:W.heap[b]?=some (.cells #[v0,v1,v2,v3,v4] t (0,0))):W.cell? ⟨b,0,none⟩=some v0∧W.cell? ⟨b,1,none⟩=some v1∧W.cell? ⟨b,2,none⟩=some v2∧W.cell? ⟨b,3,none⟩=some v3∧W.cell? ⟨b,4,none⟩=some v4:=
 have k:=λi=>aH W b i _ _ _ h
 ⟨k 0,k 1,k 2,k 3,k 4⟩
theorem yj(h:W.heap[b]?=some (.cells #[v0,v1,v2,v3,v4] t (0,0))):W.frozen? ⟨b,0,none⟩=false∧W.frozen? ⟨b,1,none⟩=false∧W.frozen? ⟨b,2,none⟩=false∧W.frozen? ⟨b,3,none⟩=false∧W.frozen? ⟨b,4,none⟩=false:=
 have k:=λi=>mM W b i _ _ h
 ⟨k 0,k 1,k 2,k 3,k 4⟩
theorem l5.pre{g:bI}{s':St}{dR:List Hp.Tm}{a b c:World}(hb:Below a.heap.size a b)(p:l5 N B g s s' dR b c):l5 N B g s s' dR a c:=by
 obtain⟨g1,n1,u1,t1⟩:=p;exact⟨g1,n1,(Up.below hb).trans u1,t1⟩
theorem Nd.base{g:bI}{TL:List Hp.Tm}(n:Nd N B g s TL W):B+1<=W.heap.size:=n.ac.blk.lt
theorem Nd.cell{g:bI}{TL:List Hp.Tm}(n:Nd N B g s TL W):
  W.cell? ⟨N,2,none⟩=some (.int .u32 s.me)∧W.cell? ⟨N,3,none⟩=some (.int .u32 s.seq)∧W.cell? ⟨N,4,none⟩=some (.int .u64 s.cO)∧W.cell? ⟨N,7,none⟩=some (.pointer (some ⟨g.x.T,0,none⟩))∧W.cell? ⟨B,0,none⟩=some (.int .u64 s.now):=by
 obtain⟨_,n2,n3,n4,n5,_⟩:=n.nn.cr.nd.cell;obtain⟨e1,e2,e3,_⟩:=n.nn.eq;obtain⟨c0,_⟩:=n.ac.blk.cell;rw[<-e1,<-e2,<-e3,<-n.now];exact⟨n2,n3,n4,n5,c0⟩
theorem tX(s:St)(r:Int):Bl s (s.drop r):=⟨rfl,rfl,rfl,rfl,rfl,rfl,rfl,rfl,rfl,rfl,rfl,rfl,rfl,rfl,rfl⟩
theorem tV(s:St)(t:Int)(p:aF)(L:List (Int×Int)):Bl s (s.send t p L):=⟨rfl,rfl,rfl,rfl,rfl,rfl,rfl,rfl,rfl,rfl,rfl,rfl,rfl,rfl,rfl⟩
theorem zP(s:St)(t:Int)(L:List (Int×Int)):Bl s (s.lose t L):=⟨rfl,rfl,rfl,rfl,rfl,rfl,rfl,rfl,rfl,rfl,rfl,rfl,rfl,rfl,rfl⟩
theorem jC{g:bI}{TL:List Hp.Tm}(n:Nd N B g s TL w)(r:Int)(hd:s.aT.length<=1000000):
  Calls Tryz.prog 92 #[.pointer (some ⟨B,0,none⟩),.int .i64 r] w λe w'=>e=.returned (.tuple #[])∧l5 N B g s (s.drop r) TL w w':=by
 refine(Iz B (B+1) g.a s.bA s.aL s.aY s.aT r w n.ac n.base hd).mono ?_;rintro e w' ⟨v7,rfl,h1,h2⟩;obtain⟨p,q⟩:=n.act (s':=s.drop r) h1 h2 (tX s r) n.now n.bC;exact⟨rfl,_,p,q,rfl⟩
theorem Bu{g:bI}{TL:List Hp.Tm}(n:Nd N B g s TL w)(t:Int)(p:aF)(hp:p.Wf)(L:List (Int×Int))(hL:fH w p L)(hd:s.aL.length<=1000000):
  Calls Tryz.prog 80 #[.pointer (some ⟨B,0,none⟩),.int .u32 t,p.val] w λe w'=>e=.returned (.tuple #[])∧l5 N B g s (s.send t p L) TL w w':=by
 refine(zN B (B+1) g.a s.bA s.aL s.aY s.aT t p hp L w n.ac n.base hd hL).mono ?_;rintro e w' ⟨v7,rfl,h1,h2⟩;obtain⟨p,q⟩:=n.act (s':=s.send t p L) h1 h2 (tV s t p L) n.now n.bC;exact⟨rfl,_,p,q,rfl⟩
theorem Va{g:bI}{TL:List Hp.Tm}(n:Nd N B g s TL w)(t:Int)(ao:Option Addr)(c:Nat)(L:List (Int×Int))(hn:L.length<=65536)(hL:bF w ao L)(hd:s.aL.length<=1000000):
  Calls Tryz.prog 137 #[.pointer (some ⟨B,0,none⟩),.int .u32 t,.slice ao L.length c] w λe w'=>e=.returned (.tuple #[])∧l5 N B g s (s.lose t L) TL w w':=by
 refine(GY B (B+1) g.a s.bA s.aL s.aY s.aT t ao c L w n.ac n.base hd hn hL).mono ?_;rintro e w' ⟨v7,rfl,h1,h2⟩;obtain⟨p,q⟩:=n.act (s':=s.lose t L) h1 h2 (zP s t L) n.now n.bC;exact⟨rfl,_,p,q,rfl⟩
theorem Nd.tab{g:bI}{TL:List Hp.Tm}(n:Nd N B g s TL W):Bh s.me g.x.T (nu g.x.T g.M g.ff g.gg s.A) s.A W:=
 ⟨g.M,g.ff,g.gg,by rw[<-n.nn.eq.self];exact n.nn.cr.tb,λ_ h=>h⟩
theorem Nd.wB{g:bI}{TL:List Hp.Tm}{W':World}(n:Nd N B g s TL W){A':List Rt}(h:Bh s.me g.x.T (ext (nu g.x.T g.M g.ff g.gg s.A) W.heap.size W'.heap.size) A' W')(hf:Fx (nu g.x.T g.M g.ff g.gg s.A) W W'):l5 N B g s {s with A:=A'} TL W W':=by
 obtain⟨M',Ur,wY,p,q⟩:=n.table h hf;exact⟨_,p,q,rfl⟩
theorem Bh.ext{me:Int}{T:Nat}{S:Nat->Prop}{A:List Rt}(h:Bh me T S A W)(a b:Nat):Bh me T (Go.Proofs.YtakaadcpaeiccabGreat.ext S a b) A W:=by
 obtain⟨M,f,g,h1,h2⟩:=h;exact⟨M,f,g,h1,λk hk=> .inl (h2 k hk)⟩
theorem IZ{g:bI}{TL:List Hp.Tm}(n:Nd N B g s TL w)(d q h nx e:Int)(hd:bB d)(hs:bB q)(hh:o5 h)(hn:bB nx)(he:Bg e):
  Calls Tryz.prog 161 #[.pointer (some ⟨g.x.T,0,none⟩),.int .u32 d,.int .u32 q,.int .i64 h,.int .u32 nx,.int .u64 e] w λr w'=>r=.returned (.int .i64 (iW s.me s.A d q h nx e).2)∧l5 N B g s {s with A:=(iW s.me s.A d q h nx e).1} TL w w':=by
 refine(KO s.me g.x.T _ s.A d q h nx e hd hs hh hn he w n.tab).mono ?_;rintro r w' ⟨rfl,h1,h2⟩;exact⟨rfl,n.wB h1 h2⟩
theorem Nw{g:bI}{TL:List Hp.Tm}(n:Nd N B g s TL w)(d e:Int)(hd:bB d)(he:Bg e):
  Calls Tryz.prog 81 #[.pointer (some ⟨g.x.T,0,none⟩),.int .u32 d,.int .u64 e] w λr w'=>r=.returned (.tuple #[])∧l5 N B g s {s with A:=iP s.A d e} TL w w':=by
 refine(Nt s.me g.x.T _ s.A d e hd he w n.tab).mono ?_;rintro r w' ⟨rfl,h1,h2⟩;exact⟨rfl,n.wB (h1.ext _ _) h2⟩
theorem rM{g:bI}{TL:List Hp.Tm}(n:Nd N B g s TL w)(d nb:Int)(hd:bB d)(hn:bB nb):
  Calls Tryz.prog 182 #[.pointer (some ⟨g.x.T,0,none⟩),.int .u32 d,.int .u32 nb] w λr w'=>r=.returned (.tuple #[])∧l5 N B g s {s with A:=lX s.A d nb} TL w w':=by
 refine(Lg s.me g.x.T _ s.A d nb hd hn w n.tab).mono ?_;rintro r w' ⟨rfl,h1,h2⟩;exact⟨rfl,n.wB h1 h2⟩
theorem aci{g:bI}{TL:List Hp.Tm}(n:Nd N B g s TL w)(d now:Int)(hd:bB d):
  Calls Tryz.prog 79 #[.pointer (some ⟨g.x.T,0,none⟩),.int .u32 d,.int .u64 now] w λe w'=>∃ao c,e=.returned (.tuple #[Jh (bN s.A d now).1 (.slice ao (bN s.A d now).1.bH.length c),.bool (bN s.A d now).2])∧Below w.heap.size w w':=by
 refine(Vu s.me g.x.T _ s.A d now hd w n.tab).mono ?_;rintro e w' ⟨v',rfl,h1,h2⟩;obtain⟨ao,c,rfl,_⟩:=ak h1;exact⟨ao,c,rfl,h2⟩
theorem ZN{g:bI}{TL:List Hp.Tm}(n:Nd N B g s TL w)(d:Int)(hd:bB d):
  Calls Tryz.prog 157 #[.pointer (some ⟨g.x.T,0,none⟩),.int .u32 d] w λe w'=>e=.returned (.tuple #[.int .u32 (eF s.A d),.bool (aJ s.A d).isSome])∧w'=w:=FX n.nn.cr.tb d hd
theorem Dy{g:bI}{TL:List Hp.Tm}(n:Nd N B g s TL w)(t d:Int)(hd:bB d)(hl:s.aL.length<=1000000):
  Calls Tryz.prog 129 #[.pointer (some ⟨N,0,none⟩),.pointer (some ⟨B,0,none⟩),.int .u32 t,.int .u32 d] w λe w'=>e=.returned (.tuple #[])∧l5 N B g s (s.lI t d) TL w w':=by
 refine(GZ N B (B+1) g.x g.a s.bA s.aL s.aY s.aT t d hd w n.nn.cr n.ac n.base hl).mono ?_;rintro e w' ⟨v7,rfl,h1,h2⟩;obtain⟨p,q⟩:=n.act (s':=s.lI t d) h1 h2 (zP s t _) n.now n.bC;exact⟨rfl,_,p,q,rfl⟩
theorem Qa{g:bI}{TL:List Hp.Tm}(n:Nd N B g s TL w)(q:Int×Int)(hq:v_ q)(now:Int)(hn:0<=now):
  Calls Tryz.prog 160 #[.pointer (some ⟨N,8,none⟩),jW q,.int .u64 now] w λe w'=>e=.returned (.bool (pz s.mem q now))∧Below w.heap.size w w':=by
 have h:=n.nn.rs.sn;rw[<-n.nn.eq.tn]at h;exact Ra N g.x s.mem q hq now hn w n.nn.cr.nd h
theorem Qb{g:bI}{TL:List Hp.Tm}(n:Nd N B g s TL w)(q:Int×Int)(hq:v_ q)(dK:Int)(h0:0<=dK)(hm:∀e∈s.mem,e.dK<=dK)(htn:s.tn<=4611686018427387904):
  Calls Tryz.prog 156 #[.pointer (some ⟨N,8,none⟩),jW q,.int .u64 dK] w λe w'=>e=.returned (.tuple #[])∧l5 N B g s {s with mem:=dW s.mem q dK s.tn,tn:=s.tn+1} TL w w':=by
 have h:=n.nn.rs.sn;rw[<-n.nn.eq.tn]at h htn;refine(F_ N g.x s.mem q hq dK h0 hm htn w n.nn.cr.nd h).mono ?_;rintro e w' ⟨rfl,h1,h2,h3⟩;rw[n.nn.eq.tn]at h1 h2;obtain⟨e1,e2,e3,e4,e5,e6,e7,e8,e9⟩:=n.nn.eq;have hr:=n.nn.rs;have hne:∀k,kg g.x g.h g.u g.Mt g.tv s k->k≠g.x.Ms->¬(k=N∨k=g.x.Ms):=λk hk h1 h2=>h2.elim (λe=>n.nn.apart hk (.inl e)) h1;have hnd:=n.nn.qR;simp only[List.nodup_cons,fe,List.not_mem_nil,or_false,not_or]at hnd;obtain⟨_,_,⟨d1,d2⟩,_⟩:=hnd;have AB:∀ {k:Nat} {o:Obj},w.heap[k]?=some o->(∀es cl,o≠ .map es cl)->k≠g.x.Ms:=by
  rintro k o ho hn rfl;obtain⟨es,cl,hm⟩:=hr.sn.obj;rw[hm]at ho;exact hn _ _ (Option.some.inj ho).symm
 have hkeep:∀ {k:Nat},kg g.x g.h g.u g.Mt g.tv s k->k≠g.x.Ms->w'.heap[k]?=w.heap[k]?:=λhk h=>h3.block _ (hr.lt hk) (hne _ hk h);have hSr:∀k,IV g.x.qH g.h g.u s.Q k->k≠g.x.Ms:=by
  intro k hk;obtain⟨o,ho,⟨rfl,_⟩|⟨c,rfl⟩|⟨c,rfl⟩⟩:=hr.sr.kind hk
  ·exact Ne.symm d1
  ·exact AB ho (λ_ _ h=>by cases h)
  ·exact AB ho (λ_ _ h=>by cases h)
 obtain⟨p,q⟩:=n.rest (s':={s with mem:=dW s.mem q dK s.tn,tn:=s.tn+1}) (dR:=TL) h1 rfl rfl ⟨e1,e2,e3,e4,e5,rfl,e7,e8,e9⟩
  ⟨h2,hr.sr.kept λk hk=>hkeep (.inr (.inl hk)) (hSr k hk),hr.tm.at (hkeep (.inr (.inr (.inl rfl))) (AB hr.tm.blk (λ_ _ h=>by cases h))) (hkeep (.inr (.inr (.inr (.inl rfl)))) (Ne.symm d2)) (λk hk=>hkeep (.inr (.inr (.inr (.inr (.inl hk))))) (by
   obtain⟨c,hc⟩:=aR hr.tm.row hk;exact AB hc (λ_ _ h=>by cases h))),hr.hpo,hr.pm,bK hr.pc λk hk=>hkeep (.inr (.inr (.inr (.inr (.inr hk))))) (by
   obtain⟨c,hc⟩:=aR hr.pc hk;exact AB hc (λ_ _ h=>by cases h))⟩
  (h3.mono λk h=>h.elim .inl λh=> .inr (.inl h)) (λk hk=> .inl hk) ⟨rfl,rfl,rfl⟩ ⟨rfl,rfl,rfl,rfl,rfl,rfl,rfl,rfl,rfl⟩
 exact⟨rfl,_,p,q,rfl⟩
variable{fd:Bool}{seq cO:Int}{B C N T c:Nat}{o:Obj}{ao:Option Addr}{p:aF}{x y:Rt}{s:St}{u v:Value}{W W0 W1 a w w2:World}
theorem cell_later{W':World}{b i:Nat}(h:W.cell? ⟨b,i,none⟩=some v)(hb:Below W.heap.size W W')(hl:b<W.heap.size):W'.cell? ⟨b,i,none⟩=some v:=(hb.cell (p:=⟨b,i,none⟩) hl).trans h
@[reducible] def HC(N B T C : Nat)(me seq cO now : Int)(p : aF)(W : World): Prop :=
 (W.cell? ⟨N,2,none⟩=some (.int .u32 me)∧W.cell? ⟨N,3,none⟩=some (.int .u32 seq)∧W.cell? ⟨N,4,none⟩=some (.int .u64 cO)∧W.cell? ⟨N,7,none⟩=some (.pointer (some ⟨T,0,none⟩))∧W.cell? ⟨B,0,none⟩=some (.int .u64 now))∧
 (W.cell? ⟨C,0,none⟩=some (.int .i64 p.ttl)∧W.cell? ⟨C,1,none⟩=some (.int .i64 p.kind)∧W.cell? ⟨C,2,none⟩=some (.int .i64 p.hops)∧W.cell? ⟨C,3,none⟩=some (.bool p.unk)∧W.cell? ⟨C,4,none⟩=some (.int .u32 p.id)∧W.cell? ⟨C,5,none⟩=some (.int .u32 p.dest)∧W.cell? ⟨C,6,none⟩=some (.int .u32 p.a_)∧W.cell? ⟨C,7,none⟩=some (.int .u32 p.aK)∧W.cell? ⟨C,8,none⟩=some (.int .u32 p.dx)∧W.cell? ⟨C,9,none⟩=some (.int .u32 p.life)∧W.cell? ⟨C,10,none⟩=some (.slice p.la p.ln p.lc)∧W.cell? ⟨C,11,none⟩=some (.string p.pay))
@[reducible] def HB(N B T C : Nat)(me seq cO now : Int)(p : aF)(W0 W : World): Prop := HC N B T C me seq cO now p W ∧ Below W0.heap.size W0 W
theorem HC.of{g:bI}{TL:List Hp.Tm}(n:Nd N B g s TL W)(h:PB p C W):HC N B g.x.T C s.me s.seq s.cO s.now p W:=⟨n.cell,h.cell⟩
theorem HB.drew{me now:Int}(h:HB N B T C me seq cO now p W0 W):HB N B T C me seq cO now p W0 W.drew:=⟨h.1,h.2.drew⟩
theorem HB.mk'{g:bI}{TL:List Hp.Tm}(n:Nd N B g s TL W0)(h:PB p C W0)(hb:Below W0.heap.size W0 W):HB N B g.x.T C s.me s.seq s.cO s.now p W0 W:=⟨.of (n.later hb) (h.below hb),hb⟩
theorem Up.box{F F':Nat->Prop}{b:World}(u:Up B F F' a b)(h:PB p C a)(hn:¬F C):PB p C b:=u.block C _ h hn (.inl (Eb p))
theorem Nd.new{g:bI}{TL:List Hp.Tm}(n:Nd N B g s TL W){k:Nat}(hk:W.heap.size<=k):¬Ft N g s k:=λh=>by have:=n.nn.lt h;omega
theorem PB.acB(h:PB p C W)(t k:Int):PB {p with ttl:=t,kind:=k} C ((W.setCell ⟨C,0,none⟩ (.int .i64 t)).setCell ⟨C,1,none⟩ (.int .i64 k)):=by
 unfold PB at h ⊢;simp[World.setCell,Array.getElem?_modify,h]
theorem qb{n D:Nat}(h:Below n a w)(hD:n<=D)(v0 v1 v2 v3 v4 v5 v6:Value):Below n a (((((((w.setCell ⟨D,0,none⟩ v0).setCell ⟨D,1,none⟩ v1).setCell ⟨D,2,none⟩ v2).setCell ⟨D,3,none⟩ v3).setCell ⟨D,4,none⟩ v4).setCell ⟨D,5,none⟩ v5).setCell ⟨D,6,none⟩ v6):=
 ((((((h.setCell (p:=⟨D,0,none⟩) hD _).setCell (p:=⟨D,1,none⟩) hD _).setCell (p:=⟨D,2,none⟩) hD _).setCell (p:=⟨D,3,none⟩) hD _).setCell (p:=⟨D,4,none⟩) hD _).setCell (p:=⟨D,5,none⟩) hD _).setCell (p:=⟨D,6,none⟩) hD _
theorem dS.WN{D:Nat}(h:dS D x u w):dS D y v (((((((w.setCell ⟨D,0,none⟩ (.int .u32 y.dest)).setCell ⟨D,1,none⟩ (.int .u32 y.seq)).setCell ⟨D,2,none⟩ (.int .i64 y.hops)).setCell ⟨D,3,none⟩ (.int .u32 y.next)).setCell ⟨D,4,none⟩ (.bool y.valid)).setCell ⟨D,5,none⟩ (.int .u64 y.exp)).setCell ⟨D,6,none⟩ v):=by
 unfold dS at h ⊢;simp[World.setCell,Array.getElem?_modify,h]
theorem nV{g:bI}{TL:List Hp.Tm}(n0:Nd N B g s TL W1)(d now:Int)(hd:bB d){y:Rt}{fd:Bool}(hr:bN s.A d now=(y,fd)):
  ∀W5,Below W1.heap.size W1 W5->Calls Tryz.prog 79 #[.pointer (some ⟨g.x.T,0,none⟩),.int .u32 d,.int .u64 now] W5 λe w'=>∃ao c,e=.returned (.tuple #[Jh y (.slice ao y.bH.length c),.bool fd])∧Below W1.heap.size W1 w'∧∀x u,dS W1.heap.size x u W5->dS W1.heap.size x u w':=by
 intro W5 h5;have h:=aci (n0.later h5) d now hd;rw[hr]at h;refine h.mono ?_;rintro e w' ⟨ao,c,rfl,hb⟩;exact⟨ao,c,rfl,h5.trans (hb.mono h5.size),λx u h=>h.later hb⟩
theorem lJ(W:World):dS W.heap.size bW (.slice none 0 0) (W.alloc (.cells #[.int .u32 0,.int .u32 0,.int .i64 0,.int .u32 0,.bool false,.int .u64 0,.slice none 0 0] 38)).drew:=bS W _
def ol(y:Rt)(fd:Bool)(W1:World)(pv fv:Value)(W:World):Prop:=∃D ao c,pv=.pointer (some ⟨D,0,none⟩)∧fv=.bool fd∧dS D y (.slice ao y.bH.length c) W∧W1.heap.size<=D∧Below W1.heap.size W1 W
theorem iB(hb:Below W1.heap.size W1 w2):ol y fd W1 (.pointer (some ⟨w2.heap.size,0,none⟩)) (.bool fd) (w2.alloc (.cells #[.int .u32 y.dest,.int .u32 y.seq,.int .i64 y.hops,.int .u32 y.next,.bool y.valid,.int .u64 y.exp,.slice ao y.bH.length c] 38)):=
 ⟨_,ao,c,rfl,rfl,bS _ _,hb.size,hb.alloc hb.size _⟩
theorem j3(hb:Below W1.heap.size W1 w2)(hD:Hid (dS W1.heap.size x u w2)):ol y fd W1 (.pointer (some ⟨W1.heap.size,0,none⟩)) (.bool fd) (((((((w2.setCell ⟨W1.heap.size,0,none⟩ (.int .u32 y.dest)).setCell ⟨W1.heap.size,1,none⟩ (.int .u32 y.seq)).setCell ⟨W1.heap.size,2,none⟩ (.int .i64 y.hops)).setCell ⟨W1.heap.size,3,none⟩ (.int .u32 y.next)).setCell ⟨W1.heap.size,4,none⟩ (.bool y.valid)).setCell ⟨W1.heap.size,5,none⟩ (.int .u64 y.exp)).setCell ⟨W1.heap.size,6,none⟩ (.slice ao y.bH.length c)):=
 ⟨_,ao,c,rfl,rfl,hD.out.WN,aD _,qb hb (aD _) _ _ _ _ _ _ _⟩
theorem HB.kH{me now:Int}(hk:Hid (∀W5,Below W0.heap.size W0 W5->HB N B T C me seq cO now p W0 W5))(h:Below W0.heap.size W0 W):HB N B T C me seq cO now p W0 (W.alloc o):=hk.out _ (h.alloc h.size _)
theorem HB.eH{me now:Int}(hk:Hid (∀W5,Below W0.heap.size W0 W5->HB N B T C me seq cO now p W0 W5)):HB N B T C me seq cO now p W0 (W0.alloc o).drew:=hk.out _ (bq).drew
theorem HB.vF{me now:Int}{v0 v1 v2 v3 v4 v5 v6:Value}(hk:Hid (∀W5,Below W0.heap.size W0 W5->HB N B T C me seq cO now p W0 W5))(h:Below W0.heap.size W0 W):HB N B T C me seq cO now p W0 (((((((W.setCell ⟨W0.heap.size,0,none⟩ v0).setCell ⟨W0.heap.size,1,none⟩ v1).setCell ⟨W0.heap.size,2,none⟩ v2).setCell ⟨W0.heap.size,3,none⟩ v3).setCell ⟨W0.heap.size,4,none⟩ v4).setCell ⟨W0.heap.size,5,none⟩ v5).setCell ⟨W0.heap.size,6,none⟩ v6):=hk.out _ (qb h (aD _) _ _ _ _ _ _ _)
theorem Bv{g:bI}{TL:List Hp.Tm}(n:Nd N B g s TL w)(p:aF)(hp:p.Wf)(hL:fH w p [])(hfl:s.aL.length<=1000000)(hdl:s.aT.length<=1000000):
  Calls Tryz.prog 181 #[.pointer (some ⟨N,0,none⟩),.pointer (some ⟨B,0,none⟩),p.val] w λe w'=>e=.returned (.tuple #[])∧l5 N B g s (s.answer p) TL w w':=by
 have hb0:Below w.heap.size w (w.alloc p.box):=bq;have gQ:=PB.new p w;have n0:=n.later hb0;have hfr:bB p.aK:=⟨hp.aea,by have:=hp.ad9;omega⟩;obtain⟨s2,dD⟩:∃s2,s.answer p=s2:=⟨_,rfl⟩;rw[dD];replace dD:=(show Hid _ from dD);dsimp only[aF.box]at hb0 n0;unfold PB at gQ;dsimp only[aF.box]at gQ;go_enter Tryz.func181,Tryz.ntmps181;go_upto_region 1 with(fail);generalize World.alloc _ _=W1 at hb0 gQ n0 ⊢;have rC:=(show Hid _ from HB.mk' n0 gQ (aV _ _));obtain⟨⟨y,fd⟩,hr⟩:∃r,bN s.A p.aK s.now=r:=⟨_,rfl⟩;have HF:=(show Hid _ from nV n0 p.aK s.now hfr hr);generalize l8:w.heap.size=C at gQ rC ⊢;replace l8:=(show Hid _ from l8);go_cut [6,7]from 8 to 21 (ol y fd W1)
 case first=>
  have hS:HB N B g.x.T C s.me s.seq s.cO s.now p W1 W1.drew:=HB.drew rC.out;have hkB:=(show Hid _ from λW5 h5=>HB.mk' (W:=W5) n0 gQ h5);go_region_held3 (HB N B g.x.T C s.me s.seq s.cO s.now p W1) (first|with_reducible exact hS|with_reducible assumption|(with_reducible apply HB.vF hkB;assumption)|(with_reducible apply HB.kH hkB;assumption)|(with_reducible apply HB.eH hkB)|(with_reducible apply hkB.out;assumption)) ((go_at_call 79;refine(HF.out _ (And.right (by assumption))).mono ?_;rintro e w2 ⟨ao,c,rfl,hb2,hpr⟩;try ((with_reducible have hD:=hpr bW (.slice none 0 0) (lJ W1));obtain⟨d0,d1,d2,d3,d4,d5,d6⟩:=hD.cell;have q0:=hD.free 0;have q1:=hD.free 1;have q2:=hD.free 2;have q3:=hD.free 3;have q4:=hD.free 4;have q5:=hD.free 5;have q6:=hD.free 6;have hD':Hid (dS W1.heap.size bW (.slice none 0 0) w2):=hD;clear hD);clear hpr))
  all_goals
   go_wp2_with fail;go_meet;first|with_reducible exact iB hb2|with_reducible exact j3 hb2 hD'
 case rest=>
  obtain⟨D,ao,c,rfl,rfl,hD,hDl,hb2⟩:=hcut;have n2:=n0.later hb2;have hP2:=PB.below gQ hb2;have hz:=hb0.size;have hCD:C≠D:=by have:=PB.lt gQ;omega
  clear rC gQ n0 HF;have hs2:=dD.out;unfold St.answer at hs2;rw[hr]at hs2;dsimp only at hs2;obtain⟨d0,d1,d2,d3,d4,d5,d6⟩:=hD.cell;obtain⟨p0,p1,p2,p3,p4,p5,p6,p7,p8,p9,jL,jF⟩:=PB.cell hP2;cases fd
  ·rw[aM (by simp)]at hs2;subst hs2;have HD:=(show Hid _ from jC n2 3 hdl);clear d0 d1 d2 d3 d4 d5 d6 p0 p1 p2 p3 p4 p5 p6 p7 p8 p9 jL jF dD;go_wp2_with fail;refine aU HD.out ?_;rintro e w3 ⟨rfl,hN⟩;go_wp2;go_returns;exact⟨rfl,(hN.pre hb2).pre hb0⟩
  ·rw[aQ rfl]at hs2;subst hs2;have q0:=PB.free hP2 0;have q1:=PB.free hP2 1;have hb3:Below w.heap.size w ((wc.setCell ⟨C,0,none⟩ (.int .i64 8)).setCell ⟨C,1,none⟩ (.int .i64 2)):=((hb0.trans (hb2.mono hb0.size)).setCell (p:=⟨C,0,none⟩) (by rw[l8.out];exact aD _) _).setCell (p:=⟨C,1,none⟩) (by rw[l8.out];exact aD _) _;have hP3:=hP2.acB 8 2;have n3:=n.later hb3;have HS:Hid (Calls Tryz.prog 80 #[.pointer (some ⟨B,0,none⟩),.int .u32 y.next,({p with ttl:=8,kind:=2}:aF).val] ((wc.setCell ⟨C,0,none⟩ (.int .i64 8)).setCell ⟨C,1,none⟩ (.int .i64 2)) λe w'=>e=.returned (.tuple #[])∧l5 N B g s (s.send y.next {p with ttl:=8,kind:=2} []) TL _ w'):=
    Bu n3 y.next {p with ttl:=8,kind:=2} ⟨by dsimp only;omega,by dsimp only;omega,by dsimp only;omega,by dsimp only;omega,hp.MW,hp.MV,hp.id0,hp.id1,hp.aed,hp.aec,hp.ZF,hp.ZE,hp.aea,hp.ad9,hp.ad8,hp.ad7,hp.acO,hp.acN,hp.ln1,hp.aeB⟩ [] (hL.below hb3) hfl
   have hD3:dS D y (.slice ao y.bH.length c) ((wc.setCell ⟨C,0,none⟩ (.int .i64 8)).setCell ⟨C,1,none⟩ (.int .i64 2)):=(iV _ _ _ _ (Ne.symm hCD)).trans ((iV _ _ _ _ (Ne.symm hCD)).trans hD);clear n2 dD l8;dsimp only[aF.val]at HS;go_upto_region 5 with(fail);generalize World.setCell _ _ _=W3 at hb3 hP3 n3 HS hD3 ⊢;clear d0 d1 d2 d3 d4 d5 d6 p0 p1 p2 p3 p4 p5 p6 p7 p8 p9 jL jF q0 q1;obtain⟨d0,d1,d2,d3,d4,d5,d6⟩:=hD3.cell;obtain⟨p0,p1,p2,p3,p4,p5,p6,p7,p8,p9,jL,jF⟩:=PB.cell hP3;dsimp only at p0 p1 p2 p3 p4 p5 p6 p7 p8 p9 jL jF;go_wp2_with fail;refine aU HS.out ?_;rintro e w3 ⟨rfl,hN⟩;go_wp2;go_returns;exact⟨rfl,hN.pre hb3⟩
variable{C:Nat}{p:aF}{W:World}
theorem PB.pq(h:PB p C W)(t:Int):PB {p with ttl:=t} C (W.setCell ⟨C,0,none⟩ (.int .i64 t)):=by
 unfold PB at h ⊢;simp[World.setCell,Array.getElem?_modify,h]
theorem PB.DY(h:PB p C W)(t:Int):PB {p with hops:=t} C (W.setCell ⟨C,2,none⟩ (.int .i64 t)):=by
 unfold PB at h ⊢;simp[World.setCell,Array.getElem?_modify,h]
theorem PB.acE(h:PB p C W)(t:Int)(b:Bool):PB {p with a_:=t,unk:=b} C ((W.setCell ⟨C,6,none⟩ (.int .u32 t)).setCell ⟨C,3,none⟩ (.bool b)):=by
 unfold PB at h ⊢;simp[World.setCell,Array.getElem?_modify,h]
theorem vM(h:Int)(h0:0<=h∧h<=255)(w:World):Calls Tryz.prog 162 #[.int .i64 h] w λe w'=>e=.returned (.int .i64 (St.far h))∧w'=w:=by
 have hw:wrap64 (h+1)=h+1:=by unfold wrap64;omega
 have hf:∀y,y=min (h+1) 255->y=St.far h:=λy hy=>hy;go_enter Tryz.func162,Tryz.ntmps162;go_wp2;all_goals (go_ret;exact⟨uW (by unfold St.far;omega),rfl⟩)
theorem aF.Wf.num(h:p.Wf):bB p.id∧bB p.dest∧bB p.a_∧bB p.aK∧bB p.dx∧bB p.life:=by
 obtain⟨_,_,_,_,_,_,h1,h2,h3,h4,h5,h6,h7,h8,h9,h10,h11,h12,_,_⟩:=h;unfold bB;omega
structure aF.Hd(p:aF):Prop where
 wf:p.Wf
 ttl:1<=p.ttl∧p.ttl<=255
 hops:0<=p.hops∧p.hops<=255
theorem Nz{N B:Nat}{g:bI}{s:St}{TL:List Hp.Tm}{w:World}(n:Nd N B g s TL w)(p:aF)(hq:p.Hd)(hL:fH w p [])(hfl:s.aL.length<=1000000):
  Calls Tryz.prog 165 #[.pointer (some ⟨N,0,none⟩),.pointer (some ⟨B,0,none⟩),p.val] w λe w'=>e=.returned (.tuple #[])∧l5 N B g s (s.askOn p) TL w w':=by
 have hp:=hq.wf;obtain⟨_,hde,hds,_,_,_⟩:=hp.num;have hb0:Below w.heap.size w (w.alloc p.box):=bq;have gQ:=PB.new p w;have n0:=n.later hb0;obtain⟨s2,dD⟩:∃s2,s.askOn p=s2:=⟨_,rfl⟩;rw[dD];replace dD:=(show Hid _ from dD);have hnu:bB (eF s.A p.dest):=by
  unfold eF;cases hl:aJ s.A p.dest with
  |none=>exact⟨by simp,by simp⟩
  |some y=>exact(n.nn.cr.tb.ok y (bR hl).1).seq
 dsimp only[aF.box]at hb0 n0;unfold PB at gQ;dsimp only[aF.box]at gQ;go_enter Tryz.func165,Tryz.ntmps165;go_upto_region 1 with(fail);generalize World.alloc _ _=W1 at hb0 gQ n0 ⊢;have rC:=(show Hid _ from HB.mk' n0 gQ (aV _ _));have HF:=(show Hid _ from λW5 (h5:Below W1.heap.size W1 W5)=>ZN (n0.later h5) p.dest hde);generalize wT:(aJ s.A p.dest).isSome=fd at HF;generalize hnm:eF s.A p.dest=nm at HF hnu;generalize l8:w.heap.size=C at gQ rC ⊢;replace l8:=(show Hid _ from l8);have hS:HB N B g.x.T C s.me s.seq s.cO s.now p W1 W1.drew:=HB.drew rC.out;go_region_held3 (HB N B g.x.T C s.me s.seq s.cO s.now p W1) (first|with_reducible exact hS|with_reducible assumption) ((go_at_call 157;refine(HF.out _ (And.right (by assumption))).mono ?_;rintro e w2 ⟨rfl,rfl⟩))
 have hbd:Below W1.heap.size W1 W1.drew:=(aV _ _).drew;have n2:=n0.later hbd;have hP2:=PB.below gQ hbd;have hb2:=hb0.trans (hbd.mono hb0.size);clear hS rC HF gQ n0 hb0 hbd;generalize World.drew _=W2 at n2 hP2 hb2 ⊢;have hwt:wrap64 (p.ttl - 1)=p.ttl - 1:=by
  have:=hq.ttl;unfold wrap64;omega
 cases fd
 ·have Ua:Hid (s.send 0 ({p with ttl:=p.ttl - 1,hops:=St.far p.hops}:aF) []=s2):=by
   rw[<-dD.out];unfold St.askOn;rw[wT];rfl
  have hwf:({p with ttl:=p.ttl - 1,hops:=St.far p.hops}:aF).Wf:=by
   have h1:=hq.ttl;have h2:=hq.hops;refine {hp with V6:=?_,V5:=?_,MW:=?_,MV:=?_}<;>(unfold St.far;dsimp only;omega)
  go_upto_region 4 with(fail);have hbC:w.heap.size<=C:=by rw[l8.out];exact aD _
  have mh:=hP2.pq (p.ttl - 1);have hb4:Below w.heap.size w (W2.setCell ⟨C,0,none⟩ (.int .i64 (p.ttl - 1))):=hb2.setCell (p:=⟨C,0,none⟩) hbC _;obtain⟨p0,p1,p2,p3,p4,p5,p6,p7,p8,p9,jL,jF⟩:=PB.cell hP2;have f0:=PB.free hP2 0;try dsimp only at p0 p1 p2 p3 p4 p5 p6 p7 p8 p9 jL jF
  go_upto_region 5 with(fail);generalize World.setCell _ _ _=W4 at mh hb4 ⊢;clear p0 p1 p2 p3 p4 p5 p6 p7 p8 p9 jL jF f0 hP2 hb2;obtain⟨p0,p1,p2,p3,p4,p5,p6,p7,p8,p9,jL,jF⟩:=PB.cell mh;have f2:=PB.free mh 2;try dsimp only at p0 p1 p2 p3 p4 p5 p6 p7 p8 p9 jL jF
  have wV:=mh.DY (St.far p.hops);have hb5:Below w.heap.size w (W4.setCell ⟨C,2,none⟩ (.int .i64 (St.far p.hops))):=hb4.setCell (p:=⟨C,2,none⟩) hbC _;have n5:=n.later hb5;have HS:=(show Hid _ from Bu n5 0 ({p with ttl:=p.ttl - 1,hops:=St.far p.hops}:aF) hwf [] (hL.below hb5) hfl);rw[Ua.out]at HS;dsimp only[aF.val]at HS;go_wp2_with fail;refine aU (vM p.hops hq.hops W4) ?_;rintro e w4 ⟨rfl,rfl⟩;clear mh hb4;go_upto_region 6 with(fail);generalize World.setCell _ _ _=W5 at wV hb5 n5 HS ⊢;clear p0 p1 p2 p3 p4 p5 p6 p7 p8 p9 jL jF f2;obtain⟨p0,p1,p2,p3,p4,p5,p6,p7,p8,p9,jL,jF⟩:=PB.cell wV;try dsimp only at p0 p1 p2 p3 p4 p5 p6 p7 p8 p9 jL jF
  go_wp2_with fail;refine aU HS.out ?_;rintro e w6 ⟨rfl,hN⟩;go_wp2;go_returns;exact⟨rfl,hN.pre hb5⟩
 ·have Ua:Hid (s.send 0 ({p with ttl:=p.ttl - 1,hops:=St.far p.hops,a_:=max p.a_ nm,unk:=false}:aF) []=s2):=by
   rw[<-dD.out];unfold St.askOn;rw[wT,hnm];rfl
  have hwf:({p with ttl:=p.ttl - 1,hops:=St.far p.hops,a_:=max p.a_ nm,unk:=false}:aF).Wf:=by
   have h1:=hq.ttl;have h2:=hq.hops;have h3:=hds;have h4:=hnu;unfold bB at h3 h4;refine {hp with V6:=?_,V5:=?_,MW:=?_,MV:=?_,ZF:=?_,ZE:=?_}<;>(unfold St.far;dsimp only;omega)
  have adF:w.heap.size<=C:=by rw[l8.out];exact aD _
  have hP3:=hP2.acE (max p.a_ nm) false;have hb3:Below w.heap.size w ((W2.setCell ⟨C,6,none⟩ (.int .u32 (max p.a_ nm))).setCell ⟨C,3,none⟩ (.bool false)):=(hb2.setCell (p:=⟨C,6,none⟩) adF _).setCell (p:=⟨C,3,none⟩) adF _;obtain⟨p0,p1,p2,p3,p4,p5,p6,p7,p8,p9,jL,jF⟩:=PB.cell hP2;have f6:=PB.free hP2 6;have f3:=PB.free hP2 3;go_upto_region 4 with(fail);generalize World.setCell _ _ _=W3 at hP3 hb3 ⊢;clear p0 p1 p2 p3 p4 p5 p6 p7 p8 p9 jL jF f6 f3 hP2 hb2;have hbC:w.heap.size<=C:=by rw[l8.out];exact aD _
  have mh:=hP3.pq (p.ttl - 1);have hb4:Below w.heap.size w (W3.setCell ⟨C,0,none⟩ (.int .i64 (p.ttl - 1))):=hb3.setCell (p:=⟨C,0,none⟩) hbC _;obtain⟨p0,p1,p2,p3,p4,p5,p6,p7,p8,p9,jL,jF⟩:=PB.cell hP3;have f0:=PB.free hP3 0;try dsimp only at p0 p1 p2 p3 p4 p5 p6 p7 p8 p9 jL jF
  go_upto_region 5 with(fail);generalize World.setCell _ _ _=W4 at mh hb4 ⊢;clear p0 p1 p2 p3 p4 p5 p6 p7 p8 p9 jL jF f0 hP3 hb3;obtain⟨p0,p1,p2,p3,p4,p5,p6,p7,p8,p9,jL,jF⟩:=PB.cell mh;have f2:=PB.free mh 2;try dsimp only at p0 p1 p2 p3 p4 p5 p6 p7 p8 p9 jL jF
  have wV:=mh.DY (St.far p.hops);have hb5:Below w.heap.size w (W4.setCell ⟨C,2,none⟩ (.int .i64 (St.far p.hops))):=hb4.setCell (p:=⟨C,2,none⟩) hbC _;have n5:=n.later hb5;have HS:=(show Hid _ from Bu n5 0 ({p with ttl:=p.ttl - 1,hops:=St.far p.hops,a_:=max p.a_ nm,unk:=false}:aF) hwf [] (hL.below hb5) hfl);rw[Ua.out]at HS;dsimp only[aF.val]at HS;go_wp2_with fail;refine aU (vM p.hops hq.hops W4) ?_;rintro e w4 ⟨rfl,rfl⟩;clear mh hb4;go_upto_region 6 with(fail);generalize World.setCell _ _ _=W5 at wV hb5 n5 HS ⊢;clear p0 p1 p2 p3 p4 p5 p6 p7 p8 p9 jL jF f2;obtain⟨p0,p1,p2,p3,p4,p5,p6,p7,p8,p9,jL,jF⟩:=PB.cell wV;try dsimp only at p0 p1 p2 p3 p4 p5 p6 p7 p8 p9 jL jF
  go_wp2_with fail;refine aU HS.out ?_;rintro e w6 ⟨rfl,hN⟩;go_wp2;go_returns;exact⟨rfl,hN.pre hb5⟩
end Go.Proofs.YtakaadcpaeiccabGreat
