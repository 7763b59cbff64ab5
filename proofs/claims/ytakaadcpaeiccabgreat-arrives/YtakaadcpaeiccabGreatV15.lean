import Derived.Test.YtakaadcpaeiccabGreatV14
import Derived.Laws.EntriesVeiled
set_option maxHeartbeats 8000000
set_option maxRecDepth 100000
namespace Go.Proofs.YtakaadcpaeiccabGreat
open Go.RowKit Go.Maps
variable{k:Int}{r xs:List Int}{N:Nat}{s:St}{v:Value}{W W':World}
theorem sN{base b e1 e2 e3 z1 z2 z3 n1 n2 n3 t:Nat}{v1 v2 v3:Value}{l1 l2 l3:List Value}{cs:Array Value}{mk:Nat×Nat}(hg:W.grownBy W' (some b))(hC:W.heap[b]?=some (.cells cs t mk))(r1:W.ownsRow base e1 z1 v1 n1 l1)(r2:W.ownsRow base e2 z2 v2 n2 l2)(r3:W.ownsRow base e3 z3 v3 n3 l3)(h:t≠e1∧t≠e2∧t≠e3):W'.ownsRow base e1 z1 v1 n1 l1∧W'.ownsRow base e2 z2 v2 n2 l2∧W'.ownsRow base e3 z3 v3 n3 l3:=
 ⟨r1.kept hg (.inr (aL r1 hC (λc e=>by cases e;exact h.1 rfl))),r2.kept hg (.inr (aL r2 hC (λc e=>by cases e;exact h.2.1 rfl))),r3.kept hg (.inr (aL r3 hC (λc e=>by cases e;exact h.2.2 rfl)))⟩
def VB(W:World)(v:Value)(xs:List Int):Prop:=fo W v xs∧∀b o n c,v=.slice (some ⟨b,o,none⟩) n c->∃cs mk,W.heap[b]?=some (.cells cs 5 mk)
theorem VB.at(h:VB W v xs)(he:∀b o n c,v=.slice (some ⟨b,o,none⟩) n c->W'.heap[b]?=W.heap[b]?):VB W' v xs:=by
 obtain⟨⟨hb,h1⟩,h2⟩:=h;refine⟨⟨hb,?_⟩,λb o n c hv=> ?_⟩
 ·rcases h1 with h1|⟨b,o,c,rfl,k1,k2,k3⟩
  ·exact .inl h1
  ·refine .inr ⟨b,o,c,rfl,k1,k2,λj x hj=> ?_⟩;have h3:=k3 j x hj;unfold World.cell? at h3 ⊢;rw[show W'.heap[(⟨b,o+j,none⟩:Addr).block]?=W.heap[b]? from he b o _ c rfl];exact h3
 ·rw[he b o n c hv];exact h2 b o n c hv
theorem VB.later(h:VB W v xs)(hb:Below W.heap.size W W'):VB W' v xs:=
 h.at λb o n c hv=>by
  obtain⟨cs,mk,h⟩:=h.2 b o n c hv;exact hb.block b (iA.1 h).1
theorem Nn.adA{g:bI}{TL:List Hp.Tm}(n:Nn N g s TL W){b:Nat}{cs:Array Value}{mk:Nat×Nat}(hc:W.heap[b]?=some (.cells cs 5 mk)):¬Ft N g s b:=by
 rintro((rfl|rfl|hT)|hk)
 ·rw[show W.heap[b]?=_ from n.cr.nd]at hc;cases hc
 ·obtain⟨es,cl,hm⟩:=n.cr.mo.obj;rw[hm]at hc;cases hc
 ·refine n.cr.tb.not (λe=> ?_) hc ⟨λc e=>(by cases e),λc e=>(by cases e),λc e=>(by cases e)⟩ hT;obtain⟨D,⟨es,cl,hm,_⟩,_⟩:=n.cr.tb.map;rw[<-e,hc]at hm;cases hm
 ·obtain⟨o,ho,⟨_,es,cl,rfl⟩|⟨h,_⟩⟩:=n.rs.kind hk
  ·rw[ho]at hc;cases hc
  ·rw[ho]at hc;cases hc;exact h ⟨λc e=>(by cases e),λc e=>(by cases e),λc e=>(by cases e),λc e=>(by cases e),λc e=>(by cases e)⟩
theorem Nn.vb{g:bI}{TL:List Hp.Tm}(n:Nn N g s TL W){v:Value}{xs:List Int}(hr:VB W v xs)(hf:Fx (Ft N g s) W W'):VB W' v xs:=hr.at λb o m c hv=>by
 obtain⟨cs,mk,hc⟩:=hr.2 b o m c hv;exact hf.block b (aG hc) (n.adA hc)
theorem Nn.l6{g:bI}{TL:List Hp.Tm}(n:Nn N g s TL W)(v:Int):Nn N {g with x:={g.x with lk:=v}} {s with lk:=v} TL (W.setCell ⟨N,0,none⟩ (.int .i32 v))∧W.grownBy (W.setCell ⟨N,0,none⟩ (.int .i32 v)) (some N):=by
 have hg:W.grownBy (W.setCell ⟨N,0,none⟩ (.int .i32 v)) (some N):=ah (aC _ (some N)) 0 _;obtain⟨e1,e2,e3,e4,e5,e6,e7,e8,e9⟩:=n.eq;have hrs:=n.rs.kept (W':=W.setCell ⟨N,0,none⟩ (.int .i32 v)) λk hk=>hg.block k (n.rs.lt hk) λe=>n.apart hk (.inl (Option.some.inj e));refine⟨⟨⟨n.cr.nd.l6 v,n.cr.mo.kept hg (by simpa using Ne.symm (LV n.cr.nd n.cr.mo)),n.cr.tb.JS (S:=λk=>k=N) (Fx.grown hg λk e=>by cases e;rfl) ?_,n.cr.ne⟩,⟨e1,e2,e3,e4,e5,e6,e7,e8,rfl⟩,⟨hrs.sn,hrs.sr,hrs.tm,hrs.hpo,hrs.pm,hrs.pc⟩,n.qM,n.I_⟩,hg⟩;rintro k rfl _;refine⟨λe=> ?_,_,n.cr.nd,rT g.x⟩;obtain⟨D,⟨es,cl,hm,_⟩,_⟩:=n.cr.tb.map;rw[<-e,show W.heap[k]?=_ from n.cr.nd]at hm;cases hm
theorem Nn.Zr{g:bI}{TL:List Hp.Tm}(n:Nn N g s TL W)(hT:dV s TL):TL.length<=5000:=by
 rw[hT.length_eq,gY];exact n.rs.sr.len
theorem Zx{h:List Hp.Tm}{f:Int->Option Nat}(p:PI h f):h.Pairwise λa b=>a.2.1≠b.2.1:=by
 rw[List.pairwise_iff_getElem];intro i j hi hj hij e;have h1:=p.1 i _ (bS hi);have h2:=p.1 j _ (bS hj);rw[e,h2]at h1;have:=Option.some.inj h1;omega
theorem Nn.ids{g:bI}{TL:List Hp.Tm}(n:Nn N g s TL W):TL.Pairwise λa b=>a.2.1≠b.2.1:=by
 obtain⟨f,_,p⟩:=n.rs.tm.map;exact n.rs.pm.pairwise (Zx p) λh=>Ne.symm h
def St.locked(s:St):St:={s with lk:=1}
def St.freed(s:St):St:={s with lk:=0}
def St.rcv(s:St)(now fr:Int)(xs:List Int):St:=(s.locked.receive now fr xs).freed
def St.brk(s:St)(now fq:Int):St:=(s.locked.broken now fq).freed
def St.snd(s:St)(now d:Int)(t:ByteArray):St:=(s.locked.sends now d t).freed
def St.iW(s:St)(now:Int):St:=(s.locked.tick now).freed
def BD(N:Nat)(g:bI)(s s':St)(w:World)(o:Value)(w':World):Prop:=
 ∃g' dX aH bO bP,o=jg s'.bH s'.bB aH bO bP∧Nn N g' s' dX w'∧dV s' dX∧w'.ownsRow w.heap.size 77 2 aH s'.aF.length (uH s'.aF)∧w'.ownsRow w.heap.size 56 2 bO s'.aO.length (uH s'.aO)∧w'.ownsRow w.heap.size 195 1 bP s'.aP.length (Jj s'.aP)∧Fx (Ft N g s) w w'∧∀k,Ft N g' s' k->Ft N g s k∨(w.heap.size<=k∧k<w'.heap.size)
theorem Nn.LX{g:bI}{TL:List Hp.Tm}(n:Nn N g s TL W):W.cell? ⟨N,0,none⟩=some (.int .i32 s.lk)∧W.frozen? ⟨N,0,none⟩=false:=by
 have h:=n.cr.nd.cell.1;rw[n.eq.lk]at h;exact⟨h,n.cr.nd.free 0⟩
theorem ES(s:St):s.freed.finish=s.finish.freed:=by
 unfold St.finish;have e:s.freed.write=s.write.freed:=rfl;rw[e];show(if s.write.cnt>24 then _ else _)=_;split<;>rfl
theorem mE{j:Nat}(h:s.Mid k j)(hj:j<=9000)(hA:∀y∈s.A,y.Ok)(hl:s.A.length<=8):s.finish.freed.Inv (k+1):=by
 have h':s.freed.Mid k j:=⟨h.me,h.seq,h.now,h.mem,⟨h.dom.mb,h.dom.on,h.dom.own⟩,h.cnt,h.bg,h.bd,h.aF,h.aP,h.aO,h.tn,h.tl,h.BG,h.z_,h.Aa,h.D6⟩;rw[<-ES];exact Am h' hj rfl hA hl
theorem qN(h:s.Inv k):s.locked.me=s.me∧∀now,s.now<=now∧now<=4611686018427387904->(∀y∈s.A,y.Ok)->s.A.length<=8->(s.locked.begin now).Mid k 1:=by
 refine⟨rfl,λnow hn hA hl=> ?_⟩;have h1:=Ol h hA hl now hn;exact⟨h1.me,h1.seq,h1.now,h1.mem,⟨h1.dom.mb,h1.dom.on,h1.dom.own⟩,h1.cnt,h1.bg,h1.bd,h1.aF,h1.aP,h1.aO,h1.tn,h1.tl,h1.BG,h1.z_,h1.Aa,h1.D6⟩
theorem Vp(hb:∀x∈r,0<=x∧x<=255)(k:Nat):a_ (num r k):=by
 have:=LH hb k;unfold a_;omega
theorem NS{x0 x1 x2 x4:Int}(hb:∀x∈r,0<=x∧x<=255):a_ (jd x0 x1 x2 x4 r).bA:=by
 have h:=Vp hb;unfold jd;split
 ·exact h 2
 split
 ·exact h 1
 split
 ·simp[a_]
 split
 ·simp[a_]
 ·simp[a_]
theorem AU(s:St)(fr:Int)(xs:List Int)(hb:∀x∈xs,0<=x∧x<=255)(h:∀q∈s.Q,q.txt.length<=4):Eff 5 s (s.hear fr xs):=by
 unfold St.hear;split
 ·exact(gD _ _).mono (by omega)
 ·exact Ik _ _ _ _ (NS λx hx=>hb x (List.mem_of_mem_drop hx)) h
variable{B N:Nat}{s:St}
theorem abj{g:bI}{TL:List Hp.Tm}{w:World}(n:Nd N B g s TL w)(now:Int)(h0:0<=now∧now<=4611686018427387904)(hl:TL.length<=1000000):
  Calls Tryz.prog 114 #[.pointer (some ⟨g.x.Tm,0,none⟩),.int .u64 now] w λe w'=>∃h' v' dX d b,e=.returned (.tuple #[.int .i64 d,.bool b])∧Nd N B {g with hp:=h',tv:=v'} s dX w'∧Up B (Ft N g s) (Ft N {g with hp:=h',tv:=v'} s) w w'∧((b=true∧∃x,x.2.2=d∧x.1<=now∧(∀y∈TL,Hp.Le x y)∧(x::dX).Perm TL)∨(b=false∧(∀y∈TL,now<y.1)∧dX=TL)):=by
 have hr:=n.nn.rs;refine(Uv 0 g.x.Tm g.Mt s.tl g.hp g.tv w hr.tm (by rw[hr.pm.length_eq];exact hl) hr.hpo now h0.1 (by omega)).mono ?_;rintro e w' ⟨h',v',h1,h2,h3,h4,h5⟩;have hnd:=n.nn.qM;simp only[List.nodup_cons,fE,List.not_mem_nil,or_false,not_or]at hnd;obtain⟨_,_,⟨d1,d2⟩,d3,_⟩:=hnd;have hin:∀k,k=g.x.Tm∨k=g.Mt∨g.tv.ownBlock=some k->kr g.x g.h g.u g.Mt g.tv s k:=λk hk=> .inr (.inr (hk.elim .inl λh=> .inr (h.elim .inl λh=> .inr (.inl h))));have hf:Fx (λk=>k=g.x.Tm∨k=g.Mt∨g.tv.ownBlock=some k) w w':=⟨h2.os,h2.tape,h2.output,h2.size,λk hk hn=>h2.block k hk (λe=>hn (.inl e)) (λe=>hn (.inr (.inl e))) (λe=>hn (.inr (.inr e.symm)))⟩;have hne:∀ {k:Nat} {o:Obj},w.heap[k]?=some o->k≠g.Mt->(∀c,o≠ .cells c 165 (0,0))->(∀c,o≠ .cells c 254 (0,0))->w'.heap[k]?=w.heap[k]?:=by
  intro k o ho hk c1 c2;refine hf.block k (aG ho) ?_;rintro(rfl|h|h)
  ·rw[show w.heap[g.x.Tm]?=_ from hr.tm.blk]at ho;exact c1 _ (Option.some.inj ho).symm
  ·exact hk h
  ·obtain⟨c,hc⟩:=aS hr.tm.row h;rw[hc]at ho;exact c2 _ (Option.some.inj ho).symm
 have hN:w'.heap[N]?=w.heap[N]?:=hne (n.nn.cr.nd) (λe=>by
  obtain⟨f,p1,_⟩:=hr.tm.map;obtain⟨es,cl,hm⟩:=p1.obj;rw[<-e,show w.heap[N]?=_ from n.nn.cr.nd]at hm;cases hm) (λc e=>by cases e) (λc e=>by cases e)
 have hS:xL g.x.qy g.h g.u s.Q w':=hr.sr.kept λk hk=>by
  obtain⟨o,ho,⟨rfl,_,_,rfl⟩|⟨c,rfl⟩|⟨c,rfl⟩⟩:=hr.sr.kind hk
  ·exact hne ho d3 (λc e=>by cases e) (λc e=>by cases e)
  ·refine hne ho ?_ (λc e=>by cases e) (λc e=>by cases e);rintro rfl;obtain⟨f,p1,_⟩:=hr.tm.map;obtain⟨es,cl,hm⟩:=p1.obj;rw[hm]at ho;cases ho
  ·refine hne ho ?_ (λc e=>by cases e) (λc e=>by cases e);rintro rfl;obtain⟨f,p1,_⟩:=hr.tm.map;obtain⟨es,cl,hm⟩:=p1.obj;rw[hm]at ho;cases ho
 have hM:xN g.x.Ms s.tn s.mem w':=hr.sn.block (by
  obtain⟨es,cl,hm⟩:=hr.sn.obj;exact hne hm d2 (λc e=>by cases e) (λc e=>by cases e))
 have hP:=bQ (W':=w') hr.pc λk hk=>(by
  obtain⟨c,hc⟩:=aS hr.pc hk;refine hne hc ?_ (λc e=>by cases e) (λc e=>by cases e);rintro rfl;obtain⟨f,p1,_⟩:=hr.tm.map;obtain⟨es,cl,hm⟩:=p1.obj;rw[hm]at hc;cases hc)
 obtain⟨p,u⟩:=n.rest (s':=s) (dX:=h') (n.nn.cr.nd.block hN) rfl rfl n.nn.eq (h':=g.h) (u':=g.u) (Fy:=g.Mt) (hp':=h') (tv':=v')
  ⟨hM,hS,h1,h4,.refl _,hP⟩ (hf.mono λk hk=> .inr (hin k hk)) (λk hk=> .inl (by unfold kr at hk ⊢;rw[h3]at hk;exact hk)) ⟨rfl,rfl,rfl⟩ ⟨rfl,rfl,rfl,rfl,rfl,rfl,rfl,rfl,rfl⟩
 rcases h5 with⟨x0,x1,rfl,hpm⟩|⟨hno,rfl,rfl⟩
 ·refine⟨h',v',h',_,true,rfl,p,u,.inl ⟨rfl,_,rfl,x1,λy hy=> ?_,hpm.trans hr.pm⟩⟩;obtain⟨j,hj,e⟩:=List.getElem_of_mem (hr.pm.mem_iff.2 hy);have:=hr.hpo.least j hj;rw[Hp.r_ (bS hj),e]at this;exact this
 ·obtain⟨p2,u2⟩:=n.rest (s':=s) (dX:=TL) (n.nn.cr.nd.block hN) rfl rfl n.nn.eq (h':=g.h) (u':=g.u) (Fy:=g.Mt) (hp':=g.hp) (tv':=v')
   ⟨hM,hS,h1,h4,hr.pm,hP⟩ (hf.mono λk hk=> .inr (hin k hk)) (λk hk=> .inl (by unfold kr at hk ⊢;rw[h3]at hk;exact hk)) ⟨rfl,rfl,rfl⟩ ⟨rfl,rfl,rfl,rfl,rfl,rfl,rfl,rfl,rfl⟩
  refine⟨g.hp,v',TL,0,false,rfl,p2,u2,.inr ⟨rfl,λy hy=> ?_,rfl⟩⟩;have hy':=hr.pm.mem_iff.2 hy;obtain⟨j,hj,e⟩:=List.getElem_of_mem hy';have hl:=hr.hpo.least j hj;rw[Hp.r_ (bS hj),e,Hp.Le.iff]at hl;rcases hno with h|h
  ·omega
  ·omega
theorem Nd.ZF{g:bI}{TL:List Hp.Tm}{W:World}(n:Nd N B g s TL W){b:Nat}{cs:Array Value}(hc:W.heap[b]?=some (.cells cs 172 (0,0))):¬Ft N g s b∧¬jL B g.a b:=by
 refine⟨λh=> ?_,λh=>n.ac.kinds h hc ⟨λc e=>(by cases e),λc e=>(by cases e),λc e=>(by cases e),λc e=>(by cases e),λc e=>(by cases e)⟩⟩;rcases h with(rfl|rfl|hT)|hk
 ·rw[show W.heap[b]?=_ from n.nn.cr.nd]at hc;cases hc
 ·obtain⟨es,cl,hm⟩:=n.nn.cr.mo.obj;rw[hm]at hc;cases hc
 ·refine n.nn.cr.tb.not (λe=> ?_) hc ⟨λc e=>(by cases e),λc e=>(by cases e),λc e=>(by cases e)⟩ hT;obtain⟨D,⟨es,cl,hm,_⟩,_⟩:=n.nn.cr.tb.map;rw[<-e,hc]at hm;cases hm
 ·obtain⟨o,ho,⟨_,es,cl,rfl⟩|⟨h,_⟩⟩:=n.nn.rs.kind hk
  ·rw[ho]at hc;cases hc
  ·rw[ho]at hc;cases hc;exact h ⟨λc e=>(by cases e),λc e=>(by cases e),λc e=>(by cases e),λc e=>(by cases e),λc e=>(by cases e)⟩
end Go.Proofs.YtakaadcpaeiccabGreat
namespace Go.Proofs.YtakaadcpaeiccabGreat.U8
open Go.RowKit Go.Sort
variable{d:Array Int}{cap n:Nat}{W:World}
def UC(d:Array Int):List Value:=d.toList.map (Value.int .u64)
theorem Kv{j:Nat}(hj:j<d.size):(UC d)[j]?=some (.int .u64 d[j]!):=by
 simp[UC,hj]
theorem xK(d:Array Int)(j:Nat)(x:Int):(UC d).set j (.int .u64 x)=UC (d.setIfInBounds j x):=by
 simp[UC,List.map_set]
structure SR(base g cap n:Nat)(d:Array Int)(W:World):Prop where
 size:d.size=n
 row:W.ownsRow base 35 1 (.slice (some ⟨g,0,none⟩) n cap) n (UC d)
theorem SR.cell{base g:Nat}(h:SR base g cap n d W){j:Nat}(hj:j<n):W.cell? ⟨g,j,none⟩=some (.int .u64 d[j]!):=
 (h.row.cellAt j (by omega)).trans (Kv (by rw[h.size];exact hj))
theorem SR.free{base g:Nat}(h:SR base g cap n d W)(j:Nat):W.frozen? ⟨g,j,none⟩=false:=h.row.frozenAt j
theorem SR.drewN{base g:Nat}(h:SR base g cap n d W)(q:Nat):SR base g cap n d (W.drewN q):=
 ⟨h.size,h.row.kept (row:=none) ⟨rfl,rfl,rfl,aB _,λ_ _ _=>rfl⟩ (.inr (by simp[Value.ownBlock]))⟩
theorem SR.swap{base g:Nat}(h:SR base g cap n d W)(i j:Nat):
  SR base g cap n (swp d i j) ((W.setCell ⟨g,i,none⟩ (.int .u64 d[j]!)).setCell ⟨g,j,none⟩ (.int .u64 d[i]!)):=by
 have h1:=(h.row.stored i (.int .u64 d[j]!)).1;have h2:=(h1.stored j (.int .u64 d[i]!)).1;rw[xK,xK]at h2;exact⟨by rw[swp_size];exact h.size,h2⟩
theorem wY(x:Int)(w:World):Calls Tryz.prog 221 #[.int .u64 x] w λe w'=>e=.returned (.bool false)∧w'=w:=by
 go_enter Tryz.func221,Tryz.ntmps221;go_wp2;go_ret;exact⟨by simp,rfl⟩
theorem wu(x y:Int)(w:World):Calls Tryz.prog 211 #[.int .u64 x,.int .u64 y] w λe w'=>e=.returned (.bool (ltInt x y))∧w'=w:=by
 go_enter Tryz.func211,Tryz.ntmps211;go_wp2_with(go_at_call 221;refine(wY _ _).mono ?_;rintro e w' ⟨rfl,rfl⟩);go_ret;exact⟨rfl,rfl⟩
theorem nX(base g cap n a b:Nat)(d:Array Int)(w:World)(h:SR base g cap n d w)(hab:a<=b)(hb:b<=n)(hn:n<=1000000):
  Calls Tryz.prog 205 #[.slice (some ⟨g,0,none⟩) n cap,.int .i64 a,.int .i64 b] w λe w'=>e=.returned (.tuple #[])∧SR base g cap n (insertionSort ltInt d a b) w'∧w.grownBy w' (some g):=by
 go_enter Tryz.func205,Tryz.ntmps205;go_wp2_with fail;go_loopw [6] (λvi wr=>∃(i:Nat) (dk:Array Int),vi=.int .i64 i∧a<i∧i<=b+1∧SR base g cap n dk wr∧w.grownBy wr (some g)∧insOuter ltInt a b i dk=insertionSort ltInt d a b) (λvi _=>b+1 - (intOf vi).toNat)
 case atStart=>exact⟨a+1,d,by go_num,by omega,by omega,h,nR _ _,rfl⟩
 case round=>
  clear h;obtain⟨i,dk,rfl,hai,hib,h,hg,hO⟩:=hrel;have HO:=(show Hid _ from hO);clear hO;by_cases hlt:i<b
  ·have hix:(i:Int)<(b:Int):=by omega
   go_wp2_with fail;go_loopw [7] (λvj wr2=>∃(j:Nat) (dj:Array Int),vj=.int .i64 j∧a<=j∧j<=i∧SR base g cap n dj wr2∧w.grownBy wr2 (some g)∧insInner ltInt a j dj=insInner ltInt a i dk) (λvj _=>(intOf vj).toNat)
   case atStart=>exact⟨i,dk,rfl,by omega,aB _,h,hg,rfl⟩
   case round=>
    clear h hg;obtain⟨j,dj,rfl,haj,hji,h,hg,hI⟩:=hrel;have hjn:(j:Int)<(n:Int):=by omega
    have aeg:(j:Int) - 1<(n:Int):=by omega
    by_cases hja:a<j
    ·have hjp:(1:Int)<=(j:Int):=by omega
     have c0:=h.cell (j:=j) (by omega);have c1:=h.cell (j:=j - 1) (by omega);have f0:=h.free j;have f1:=h.free (j - 1);have hq:(j:Int) - 1=((j - 1:Nat):Int):=by omega
     have hs:=h.swap j (j - 1);have hgs:=λu v=>pQ wr g j (j - 1) u v;have hgo:=Cw a j dj hja;have hst:=nJ a j dj;generalize hX:dj[j]! =X at c0 hs hgo hst;generalize hY:dj[j - 1]! =Y at c1 hs hgo hst;have hJn:((j - 1:Nat):Int)<(n:Int):=by omega
     have hj0:(0:Int)<=(j:Int) - 1:=by omega
     generalize hJ:j - 1=J at c1 f1 hq hs hgs hgo hst hJn;have HJ:=(show Hid _ from hJ);have HI:=(show Hid _ from hI);have HS:=(show Hid _ from hst);clear hJ hI hst;have hdj:decide (a<j)=true:=f_ hja;go_wp2_with fail;go_quiet (first|(go_at_call 211;refine Calls.quiet_of_same (wu _ _ _)));cases hl:ltInt X Y
     ·go_wp2;go_roundw
      case rel=>exact⟨i+1,dj,by go_num,by omega,by omega,h.drewN _,hg.trans (oJ _ _ _),by rw[<-HO.out,rM _ _ _ _ hlt,<-HI.out,HS.out (.inr hl)]⟩
      case measure=>simp[intOf];omega
     ·have hs':=(h.drewN (nq+1)).swap j J;have hg':=hg.trans ((oJ wr (nq+1) (some g)).trans (pQ _ g j J (.int .u64 dj[J]!) (.int .u64 dj[j]!)));rw[hX,<-HJ.out,hY,HJ.out]at hs' hg';have hJj:J+1=j:=by have:=HJ.out;omega
      clear hX hY;go_wp2_with fail;go_region
      all_goals go_wp2
      go_roundw
      case rel=>exact⟨J,swp dj j J,rfl,by omega,by omega,hs',hg',by rw[<-HI.out,hgo hl]⟩
      case measure=>simp[intOf];omega
    ·have hdj:decide (a<j)=false:=eU hja;have hst:=nJ a j dj (.inl (by omega));go_wp2_with fail;go_quiet (fail);go_wp2;go_roundw
     case rel=>exact⟨i+1,dj,by go_num,by omega,by omega,h.drewN _,hg.trans (oJ _ _ _),by rw[<-HO.out,rM _ _ _ _ hlt,<-hI,hst]⟩
     case measure=>simp[intOf];omega
  ·have hend:insOuter ltInt a b i dk=dk:=xQ a b i dk hlt;rw[HO.out]at hend;rw[<-hend]at h;go_wp2;go_returns;exact⟨rfl,h,hg⟩
def PQ(base g cap n a b:Nat)(d:Array Int)(w:World)(e:Ending)(w':World):Prop:=
 e=.returned (.tuple #[])∧∃d',SR base g cap n d' w'∧PermIn a b d d'∧SortedIn ltInt a b d'∧w.grownBy w' (some g)
theorem Ea(base g cap n r:Nat)(d:Array Int)(w:World)(h:SR base g cap n d w)(hn:n<=12):
  Calls Tryz.prog 195 #[.slice (some ⟨g,0,none⟩) n cap,.int .i64 0,.int .i64 n,.int .i64 r] w (PQ base g cap n 0 n d w):=by
 have aem:decide ((n:Int)<=12)=true:=f_ (by omega);have acI:decide (n<=12)=true:=f_ hn;obtain⟨i1,i2⟩:=insertionSort_holds swo_ltInt d 0 n (dm _) (by rw[h.size];exact aB _);go_enter Tryz.func195,Tryz.ntmps195;go_wp2_with fail;go_loopw [1,2] (λva vb wr=>va=.int .i64 0∧vb=.int .i64 n∧SR base g cap n d wr∧w.grownBy wr (some g)) (λ_ _ _=>0)
 case atStart=>exact⟨rfl,rfl,h,nR _ _⟩
 case round=>
  obtain⟨rfl,rfl,h1,hg⟩:=hrel;have hcall:=(show Hid _ from nX base g cap n 0 n d _ h1 (dm _) (aB _) (by omega));clear h h1;go_wp2_with fail;refine aU hcall.out ?_;rintro e W2 ⟨rfl,h2,hg2⟩;clear hcall;go_wp2;go_returns;exact⟨rfl,_,h2,i1,i2,hg.trans hg2⟩
theorem uX(base g cap n:Nat)(d:Array Int)(w:World)(h:SR base g cap n d w)(hn:n<=12):
  Calls Tryz.prog 177 #[.slice (some ⟨g,0,none⟩) n cap] w (PQ base g cap n 0 n d w):=by
 go_enter Tryz.func177,Tryz.ntmps177;go_wp2_with fail;refine(Et n (by omega) _).mono ?_;rintro e w1 ⟨r,rfl,hr,_,rfl⟩;have HP:=(show Hid _ from Ea base g cap n r d _ h hn);go_wp2_with fail;refine aU HP.out ?_;rintro e w2 ⟨rfl,d',h',hp,hs,hg⟩;clear HP;go_wp2;go_returns;exact⟨rfl,d',h',hp,hs,hg⟩
end Go.Proofs.YtakaadcpaeiccabGreat.U8
namespace Go.Proofs.YtakaadcpaeiccabGreat
open Go.RowKit Go.Maps Go.Sort
theorem NT(N:Nat)(x:mX)(pc:List Int)(now:Int)(w:World)(hN:iI N x w)(hp:w.ownsRow 0 35 1 x.pc pc.length (pc.map (Value.int .u64)))(di:0<=now∧now<=4611686018427387904):
  Calls Tryz.prog 153 #[.pointer (some ⟨N,15,none⟩),.int .u64 now] w λe w'=>e=.returned (.bool (St.full pc now))∧w'=w:=by
 have n15:=hN.more.2.2.2.2;obtain⟨ao,c,hv,hH⟩:=ax hp;rw[hv]at n15;have hf:Hid (St.full pc now=(decide (pc.length=5)&&(decide (now<1000)||decide (pc.getD 0 0>now - 1000)))):=rfl;by_cases h5:pc.length=5
 ·obtain⟨t,hpc⟩:∃t,(pc.map (Value.int .u64))[0]?=some (.int .u64 t)∧pc.getD 0 0=t:=by
   match pc,h5 with
   |t::_,_=>exact⟨t,rfl,rfl⟩
  obtain⟨b,o,rfl,_⟩:=hH 0 _ hpc.1;have c0:=hH.one rfl hpc.1;have hl:Hid ((decide (pc.length=5))=true):=by simpa[Hid]using h5
  rw[h5]at n15;rw[Nat.add_zero]at c0;generalize hr:St.full pc now=r;rw[hr,hl.out,hpc.2]at hf;clear hr hl hp hv hH h5 hpc;by_cases h1:now<1000
  ·have d1:decide (now<1000)=true:=f_ h1;rw[d1]at hf;go_enter Tryz.func153,Tryz.ntmps153;go_wp2;go_returns;exact⟨by rw[hf.out];rfl,rfl⟩
  ·have d1:decide (now<1000)=false:=eU h1;rw[d1]at hf;have hw:IntKind.u64.wrap (now - 1000)=now - 1000:=by
    simp only[IntKind.wrap,IntKind.signed,IntKind.bits];simp;omega
   go_enter Tryz.func153,Tryz.ntmps153;go_wp2;go_returns;exact⟨by rw[hf.out];simp,rfl⟩
 ·have d5:decide (pc.length=5)=false:=eU h5;rw[d5]at hf;have h5':((pc.length:Int)==5)=false:=by simp;omega
  generalize hr:St.full pc now=r;rw[hr]at hf;clear hr hp hv hH;go_enter Tryz.func153,Tryz.ntmps153;go_wp2;go_returns;exact⟨by rw[hf.out];rfl,rfl⟩
variable{pc:List Int}
theorem Sb:(Tryz.prog.info? 35).map (λi=>(i.zero,i.size,i.bytes))=some (some (.int .u64 0),1,8):=by kernel_rfl
theorem sM{a b:List Int}(ha:a.Pairwise (·<=·))(hb:b.Pairwise (·<=·))(h:a.Perm b):a=b:=
 List.Perm.eq_of_pairwise (le:=λx y=>x<=y) (λx y _ _ h1 h2=>by omega) ha hb h
theorem pq{now:Int}(hs:pc.Pairwise (·<=·))(hm:∀t∈pc,t<=now):(St.dI pc now).Pairwise (·<=·)∧(∀t∈St.dI pc now,t<=now):=by
 unfold St.dI;have h1:∀l:List Int,l.Pairwise (·<=·)->(∀t∈l,t<=now)->(l++ [now]).Pairwise (·<=·)∧∀t∈l++ [now],t<=now:=by
  intro l h1 h2;refine⟨List.pairwise_append.2 ⟨h1,List.pairwise_singleton _ _,λa ha b hb=>by rw[fM]at hb;subst hb;exact h2 a ha⟩,λt ht=> ?_⟩;rcases fu.1 ht with h|h
  ·exact h2 t h
  ·rw[fM]at h;omega
 split
 ·exact h1 _ hs.tail λt ht=>hm t (List.mem_of_mem_tail ht)
 ·exact h1 _ hs hm
theorem NU(h:pc.length<=5)(now:Int):(St.dI pc now).length<=5:=by
 unfold St.dI;split<;>simp<;>omega
theorem JJ{now:Int}(h5:pc.length=5):(St.dI pc now).length=5∧(pc.toArray.setIfInBounds 0 now).toList.Perm (St.dI pc now):=by
 match pc,h5 with
 |a::l,h5=>
  have e:St.dI (a::l) now=l++ [now]:=by
   unfold St.dI;rw[aI h5];rfl
  rw[e];refine⟨by simpa using h5,?_⟩;have:((a::l).toArray.setIfInBounds 0 now).toList=now::l:=by simp
  rw[this];exact(List.perm_append_singleton now l).symm
theorem Pj(W:World)(r:Int):∀(j:Nat) (u:Value),([.int .u64 r]:List Value)[j]?=some u->(W.alloc (.cells #[.int .u64 r] 35)).cell? ((⟨W.heap.size,0,none⟩:Addr).add j)=some u:=by
 intro j u hj;have h:=bV W (.cells #[.int .u64 r] 35);rw[Addr.add_lit,Nat.zero_add]
 match j,hj with
 |0,hj=>cases hj;exact aJ _ _ 0 _ _ _ h
theorem QV(N:Nat)(x:mX)(pc:List Int)(now:Int)(w:World)(hN:iI N x w)(hp:w.ownsRow 0 35 1 x.pc pc.length (pc.map (Value.int .u64)))(hl:pc.length<=5)(hs:pc.Pairwise (·<=·))(hm:∀t∈pc,t<=now):
  Calls Tryz.prog 155 #[.pointer (some ⟨N,15,none⟩),.int .u64 now] w λe w'=>∃v',e=.returned (.tuple #[])∧iI N {x with pc:=v'} w'∧w'.ownsRow 0 35 1 v' (St.dI pc now).length ((St.dI pc now).map (Value.int .u64))∧Fx (λk=>k=N∨x.pc.ownBlock=some k) w w'∧(v'.ownBlock=x.pc.ownBlock∨∃b,v'.ownBlock=some b∧w.heap.size<=b):=by
 obtain⟨i0,hi,hz0,hz1,hz2⟩:=info_parts Sb;have n15:=hN.more.2.2.2.2;have f15:=hN.free 15;obtain⟨hsrt,_⟩:=pq hs hm;replace hsrt:=hide hsrt;by_cases h5:pc.length=5
 ·obtain⟨g,cap,hv,_⟩:=bZ hp (by omega);obtain⟨q5,qp⟩:=JJ (now:=now) h5;have hSR:U8.SR 0 g cap 5 pc.toArray w:=⟨by simp[h5],by rw[hv,h5]at hp;simpa[U8.UC]using hp⟩;have hgN:g≠N:=by
   have:=aL hp hN (λc e=>by cases e);rw[hv]at this;simpa[Value.ownBlock]using this
  have hst:=(hSR.row.stored 0 (.int .u64 now)).1;rw[U8.xK]at hst;have hS1:U8.SR 0 g cap 5 (pc.toArray.setIfInBounds 0 now) (w.setCell ⟨g,0,none⟩ (.int .u64 now)):=⟨by simp[h5],hst⟩;have hg1:w.grownBy (w.setCell ⟨g,0,none⟩ (.int .u64 now)) (some g):=J_ (nR w (some g)) 0 _;have hN1:=hN.kept hg1 (λe=>hgN (Option.some.inj e));have HS:=hide (U8.uX 0 g cap 5 _ _ hS1 (by omega));have c0:=hSR.cell (j:=0) (by omega);have g0:=hSR.free 0;rw[hv,h5]at n15;have n15':=hN1.more.2.2.2.2;rw[hv,h5]at n15';have hl5:((pc.length:Int)==5)=true:=by simp;omega
  have hpv:Hid (x.pc=.slice (some ⟨g,0,none⟩) 5 cap):=by show _=_;rw[hv,h5]
  have hfin:Hid (∀d' w',U8.SR 0 g cap 5 d' w'->PermIn 0 5 (pc.toArray.setIfInBounds 0 now) d'->SortedIn ltInt 0 5 d'->(w.setCell ⟨g,0,none⟩ (.int .u64 now)).grownBy w' (some g)->iI N {x with pc:=.slice (some ⟨g,0,none⟩) 5 cap} w'∧w'.ownsRow 0 35 1 (.slice (some ⟨g,0,none⟩) 5 cap) (St.dI pc now).length ((St.dI pc now).map (Value.int .u64))∧Fx (λk=>k=N∨x.pc.ownBlock=some k) w w'):=by
   intro d' w' h1 h2 h3 h4;have e1:d'.toList=St.dI pc now:=sM (tN h1.size h3) hsrt.out ((z8 (by simp[h5]) h2).trans qp);refine⟨?_,?_,Fx.grown (hg1.trans h4) λk e=> .inr (by rw[hpv.out,<-e];rfl)⟩
   ·have h7:=hN1.kept h4 (λe=>hgN (Option.some.inj e));have e2:({x with pc:=.slice (some ⟨g,0,none⟩) 5 cap}:mX)=x:=by rw[<-hpv.out]
    rw[e2];exact h7
   ·rw[q5];have:=h1.row;unfold U8.UC at this;rw[e1]at this;exact this
  clear hS1 hst hSR hN1 hg1 qp q5 hs hm hsrt hp hN h5 hv hl;go_enter Tryz.func155,Tryz.ntmps155;go_wp2_with fail;refine aU HS.out ?_;rintro e w2 ⟨rfl,d',k1,k2,k3,k4⟩;have hf:=hide (hfin.out d' w2 k1 k2 k3 k4);clear HS hfin k1 k2 k3 k4;go_wp2;go_returns;exact⟨_,rfl,hf.out.1,hf.out.2.1,hf.out.2.2,.inl (by rw[hpv.out])⟩
 ·have e1:St.dI pc now=pc++ [now]:=by unfold St.dI;rw[ay h5]
  obtain⟨ao,c,hv,_⟩:=ax hp;have hb1:Below w.heap.size w (w.alloc (.cells #[.int .u64 now] 35)):=bC;have hN1:=hN.later hb1;have hp1:=aN hp hb1;have hcr:=Pj w now;have hl5:((pc.length:Int)==5)=false:=by simp;omega
  rw[hv]at n15 hp hp1;have hpv:=hide hv;clear hv;go_enter Tryz.func155,Tryz.ntmps155;go_wp2_with(at_builtin;refine wpList_append_own_at _ rfl _ _ 66 rfl 0 35 i0 (.int .u64 0) 1 8 Tryz.underlying66 hi hz0 hz1 hz2 rfl (by decide) (.slice ao pc.length c) pc.length (pc.map (Value.int .u64)) rfl (hp.alloc _) ⟨w.heap.size,0,none⟩ 1 1 [.int .u64 now] rfl rfl hcr (by simp[Value.oneCell']) (by unfold maxLen;omega) (by omega) ?c3 ?_)
  case c3=>simp
  intro v4 W4 Dc hg4 _ hv4;have SE:W4.ownsRow 0 35 1 v4 (St.dI pc now).length ((St.dI pc now).map (Value.int .u64)):=by
   rw[e1,List.map_append,bU];exact Dc
  have acz:(St.dI pc now).length<=5∧0<(St.dI pc now).length:=by rw[e1,bU];simp;omega
  have BL:=hN1.kept hg4 (aL hp1 hN1 (λc e=>by cases e));obtain⟨g,cap,hv5,_⟩:=bZ SE acz.2;subst hv5;have n15':=BL.more.2.2.2.2;rw[hpv.out]at n15';have afI:=BL.free 15;have U4:=BL.abK (.slice (some ⟨g,0,none⟩) (St.dI pc now).length cap);have hgN:W4.grownBy (W4.setCell ⟨N,15,none⟩ (.slice (some ⟨g,0,none⟩) (St.dI pc now).length cap)) (some N):=ah (aC _ (some N)) 15 _;have ho5:=SE.kept hgN (.inr (aL SE BL (λc e=>by cases e)));have hNg:N≠g:=by
   have:=aL SE BL (λc e=>by cases e);simp only[Value.ownBlock]at this;intro e;exact this (by rw[e])
  have acC:Fx (λk=>k=N∨x.pc.ownBlock=some k) w (W4.setCell ⟨N,15,none⟩ (.slice (some ⟨g,0,none⟩) (St.dI pc now).length cap)):=aW (aW (Fx.below hb1) hg4 (λi _ e=> .inr (by rw[hpv.out];exact e))) hgN (λi _ e=> .inl (Option.some.inj e).symm);have hblk:Hid (some g=x.pc.ownBlock∨∃b,some g=some b∧w.heap.size<=b):=by
   rcases hv4 with h|h
   ·exact .inl (by rw[hpv.out];exact h)
   ·refine .inr ⟨g,rfl,?_⟩;have:g=w.heap.size+1:=by simpa[Value.ownBlock]using h
    omega
  have hSR:U8.SR 0 g cap (St.dI pc now).length (St.dI pc now).toArray (W4.setCell ⟨N,15,none⟩ (.slice (some ⟨g,0,none⟩) (St.dI pc now).length cap)):=⟨by simp,by simpa[U8.UC]using ho5⟩;have HS:=hide (U8.uX 0 g cap (St.dI pc now).length _ _ hSR (by omega));have hfin:Hid (∀d' w',U8.SR 0 g cap (St.dI pc now).length d' w'->PermIn 0 (St.dI pc now).length (St.dI pc now).toArray d'->SortedIn ltInt 0 (St.dI pc now).length d'->(W4.setCell ⟨N,15,none⟩ (.slice (some ⟨g,0,none⟩) (St.dI pc now).length cap)).grownBy w' (some g)->iI N {x with pc:=.slice (some ⟨g,0,none⟩) (St.dI pc now).length cap} w'∧w'.ownsRow 0 35 1 (.slice (some ⟨g,0,none⟩) (St.dI pc now).length cap) (St.dI pc now).length ((St.dI pc now).map (Value.int .u64))∧Fx (λk=>k=N∨x.pc.ownBlock=some k) w w'):=by
   intro d' w' h1 h2 h3 h4;have e2:d'.toList=St.dI pc now:=sM (tN h1.size h3) hsrt.out (by have:=z8 (by simp) h2;simpa using this);refine⟨U4.kept h4 (λe=>hNg (Option.some.inj e).symm),?_,aW acC h4 (λi hi e=> ?_)⟩
   ·have:=h1.row;unfold U8.UC at this;rw[e2]at this;exact this
   ·rcases hblk.out with h|⟨b,h,hb⟩
    ·exact .inr (by rw[<-h,e])
    ·have h1:=Option.some.inj h;have h2:=Option.some.inj e;omega
  generalize hpl:St.dI pc now=pl at *;replace hpl:=hide hpl;clear hSR ho5 hgN U4 acC Dc SE hv4 hg4 hp1 hp hN1 hN e1 hcr hsrt hs hm n15 f15 hb1;go_wp2_with fail;refine aU HS.out ?_;rintro e w2 ⟨rfl,d',k1,k2,k3,k4⟩;have hf:=hide (hfin.out d' w2 k1 k2 k3 k4);clear HS hfin k1 k2 k3 k4;go_wp2;go_returns;exact⟨_,rfl,hf.out.1,by rw[hpl.out];exact hf.out.2.1,hf.out.2.2,hblk.out⟩
variable{B N:Nat}{s:St}{w:World}
def St.holds(s:St):Option Int:=if St.full s.pc s.now then some 9 else if s.now<s.bN then some 8 else none
theorem abn{g:bI}{TL:List Hp.Tm}(n:Nd N B g s TL w)(di:0<=s.now∧s.now<=4611686018427387904):
  Calls Tryz.prog 153 #[.pointer (some ⟨N,15,none⟩),.int .u64 s.now] w λe w'=>e=.returned (.bool (St.full s.pc s.now))∧w'=w:=
 NT N g.x s.pc s.now w n.nn.cr.nd n.nn.rs.pc di
theorem IU{g:bI}{TL:List Hp.Tm}(n:Nd N B g s TL w)(di:0<=s.now∧s.now<=4611686018427387904):
  Calls Tryz.prog 120 #[.pointer (some ⟨N,0,none⟩),.int .u64 s.now] w λe w'=>e=.returned (.tuple #[.int .i64 (s.holds.getD 0),.bool s.holds.isSome])∧w'=w:=by
 have HF:=hide (abn n di);obtain⟨_,_,c4,_,_⟩:=n.cell;have hh:Hid (s.holds=if St.full s.pc s.now then some 9 else if s.now<s.bN then some 8 else none):=rfl;generalize hb:St.full s.pc s.now=b at HF hh;replace hb:=hide hb;go_enter Tryz.func120,Tryz.ntmps120;go_wp2_with fail;refine aU HF.out ?_;rintro e w1 ⟨rfl,rfl⟩;clear HF;cases b
 ·by_cases h:s.now<s.bN
  ·have d1:decide (s.now<s.bN)=true:=f_ h;go_wp2;go_returns;exact⟨by rw[hh.out];simp[h],rfl⟩
  ·have d1:decide (s.now<s.bN)=false:=eU h;go_wp2;go_returns;exact⟨by rw[hh.out,ay (by simp),ay (by omega)];rfl,rfl⟩
 ·go_wp2;go_returns;exact⟨by rw[hh.out];rfl,rfl⟩
theorem abh{g:bI}{TL:List Hp.Tm}(n:Nd N B g s TL w)(hl:s.pc.length<=5)(hs:s.pc.Pairwise (·<=·))(hm:∀t∈s.pc,t<=s.now):
  Calls Tryz.prog 155 #[.pointer (some ⟨N,15,none⟩),.int .u64 s.now] w λe w'=>e=.returned (.tuple #[])∧IL N B g s {s with pc:=St.dI s.pc s.now} TL w w':=by
 have hr:=n.nn.rs;obtain⟨e1,e2,e3,e4,e5,e6,e7,e8,e9⟩:=n.nn.eq;refine(QV N g.x s.pc s.now w n.nn.cr.nd hr.pc hl hs hm).mono ?_;rintro e w' ⟨v',rfl,h1,h2,h3,h4⟩;have hk:∀ {k:Nat},kr g.x g.h g.u g.Mt g.tv s k->g.x.pc.ownBlock≠some k->w'.heap[k]?=w.heap[k]?:=λhk hne=>h3.block _ (hr.lt hk) λh=>h.elim (λe=>n.nn.apart hk (.inl e)) hne;have hno:∀ {k:Nat} {o:Obj},w.heap[k]?=some o->(∀c,o≠ .cells c 35 (0,0))->g.x.pc.ownBlock≠some k:=λho hc=>aL hr.pc ho hc;obtain⟨p,q⟩:=n.rest (s':={s with pc:=St.dI s.pc s.now}) (dX:=TL) (x':={g.x with pc:=v'}) (h':=g.h) (u':=g.u) (Fy:=g.Mt) (hp':=g.hp) (tv':=g.tv) h1 rfl rfl ⟨e1,e2,e3,e4,e5,e6,e7,e8,e9⟩
  ⟨hr.sn.block (hk (.inl rfl) (by obtain⟨es,cl,hm⟩:=hr.sn.obj;exact hno hm λc e=>by cases e)),hr.sr.kept λk hkk=>hk (.inr (.inl hkk)) (by
   obtain⟨o,ho,⟨rfl,es,cl,rfl⟩|⟨c,rfl⟩|⟨c,rfl⟩⟩:=hr.sr.kind hkk
   ·exact hno ho λc e=>by cases e
   ·exact hno ho λc e=>by cases e
   ·exact hno ho λc e=>by cases e),hr.tm.at (hk (.inr (.inr (.inl rfl))) (hno hr.tm.blk λc e=>by cases e)) (hk (.inr (.inr (.inr (.inl rfl)))) (by
   obtain⟨f,p1,_⟩:=hr.tm.map;obtain⟨es,cl,hm⟩:=p1.obj;exact hno hm λc e=>by cases e)) (λk hkk=>hk (.inr (.inr (.inr (.inr (.inl hkk))))) (by
   obtain⟨c,hc⟩:=aS hr.tm.row hkk;exact hno hc λc e=>by cases e)),hr.hpo,hr.pm,h2⟩
  (h3.mono λk h=>h.imp_right λh=> .inr (.inr (.inr (.inr (.inr h)))))
  (λk hkk=>by
   rcases hkk with h|h|h|h|h|h
   ·exact .inl (.inl h)
   ·exact .inl (.inr (.inl h))
   ·exact .inl (.inr (.inr (.inl h)))
   ·exact .inl (.inr (.inr (.inr (.inl h))))
   ·exact .inl (.inr (.inr (.inr (.inr (.inl h)))))
   ·rcases h4 with h5|⟨b,h5,h6⟩
    ·exact .inl (.inr (.inr (.inr (.inr (.inr (by rw[<-h5];exact h))))))
    ·have h':v'.ownBlock=some k:=h;rw[h5]at h';cases h';exact .inr ⟨h6,(h2.lt k h5).2⟩) ⟨rfl,rfl,rfl⟩ ⟨rfl,rfl,rfl,rfl,rfl,rfl,rfl,rfl,rfl⟩
 exact⟨rfl,_,p,q,rfl,rfl,rfl⟩
theorem Eb(Bq:Nat)(q:Sr)(v:Value)(w:World)(hq:qm Bq q v w)(ok:q.Ok):
  Calls Tryz.prog 123 #[.pointer (some ⟨Bq,0,none⟩)] w λe w'=>e=.returned (.int .u64 (80 * (q.ttl+2)* 2 ^ q.ret))∧Below w.heap.size w w':=by
 obtain⟨c0,c1,c2,c3,c4⟩:=hq.cell;have h1:=ok.ttl;have h2:=ok.ret;have hr:q.ret=0∨q.ret=1∨q.ret=2:=by omega
 generalize q.ttl=tt at c2 h1 ⊢;have hb:Below w.heap.size w w.drew:=(aV _ _).drew;rcases hr with hr|hr|hr<;>
 ·rw[hr]at c3 ⊢;go_enter Tryz.func123,Tryz.ntmps123;go_wp2_with fail;go_region
  go_wp2;go_returns;refine⟨?_,hb⟩;simp
variable{Q:List Sr}{B N:Nat}{q:Sr}{s:St}{W W':World}
theorem abg{g:bI}{TL:List Hp.Tm}{w:World}(n:Nd N B g s TL w)(t what:Int)(ht:0<=t∧t<18446744073709551616)(hw:oV what)(hl:TL.length<=900000)(htl:0<=s.tl∧s.tl<=4000000000000000000)(hid:∀x∈TL,x.2.1<=s.tl):
  Calls Tryz.prog 154 #[.pointer (some ⟨g.x.Tm,0,none⟩),.int .u64 t,.int .i64 what] w λe w'=>∃h' v',e=.returned (.int .i64 (s.tl+1))∧Nd N B {g with hp:=h',tv:=v'} {s with tl:=s.tl+1} (TL++ [(t,s.tl+1,what)]) w'∧Up B (Ft N g s) (Ft N {g with hp:=h',tv:=v'} {s with tl:=s.tl+1}) w w':=by
 have hr:=n.nn.rs;refine(Yk 0 g.x.Tm g.Mt s.tl g.hp g.tv w hr.tm (by rw[hr.pm.length_eq];exact hl) hr.hpo htl.1 htl.2 (λx hx=>hid x (hr.pm.mem_iff.1 hx)) t what ht hw (dm _)).mono ?_;rintro e w' ⟨rfl,h',v',h1,h2,h3,h4,h5⟩;have hnd:=n.nn.qM;simp only[List.nodup_cons,fE,List.not_mem_nil,or_false,not_or]at hnd;obtain⟨_,_,⟨d1,d2⟩,d3,_⟩:=hnd;have hf:Fx (λk=>k=g.x.Tm∨k=g.Mt∨g.tv.ownBlock=some k) w w':=⟨h2.os,h2.tape,h2.output,h2.size,λk hk hn=>h2.block k hk (λe=>hn (.inl e)) (λe=>hn (.inr (.inl e))) (λe=>hn (.inr (.inr e.symm)))⟩;have hne:∀ {k:Nat} {o:Obj},w.heap[k]?=some o->k≠g.Mt->(∀c,o≠ .cells c 165 (0,0))->(∀c,o≠ .cells c 254 (0,0))->w'.heap[k]?=w.heap[k]?:=by
  intro k o ho hk c1 c2;refine hf.block k (aG ho) ?_;rintro(rfl|h|h)
  ·rw[show w.heap[g.x.Tm]?=_ from hr.tm.blk]at ho;exact c1 _ (Option.some.inj ho).symm
  ·exact hk h
  ·obtain⟨c,hc⟩:=aS hr.tm.row h;rw[hc]at ho;exact c2 _ (Option.some.inj ho).symm
 have hMt:∀ {k:Nat} {o:Obj},w.heap[k]?=some o->(∀es cl,o≠ .map es cl)->k≠g.Mt:=by
  rintro k o ho hn rfl;obtain⟨f,p1,_⟩:=hr.tm.map;obtain⟨es,cl,hm⟩:=p1.obj;rw[hm]at ho;exact hn _ _ (Option.some.inj ho).symm
 have hN:w'.heap[N]?=w.heap[N]?:=hne (n.nn.cr.nd) (hMt n.nn.cr.nd λ_ _ e=>by cases e) (λc e=>by cases e) (λc e=>by cases e);have hS:xL g.x.qy g.h g.u s.Q w':=hr.sr.kept λk hk=>by
  obtain⟨o,ho,⟨rfl,_,_,rfl⟩|⟨c,rfl⟩|⟨c,rfl⟩⟩:=hr.sr.kind hk
  ·exact hne ho d3 (λc e=>by cases e) (λc e=>by cases e)
  ·exact hne ho (hMt ho λ_ _ e=>by cases e) (λc e=>by cases e) (λc e=>by cases e)
  ·exact hne ho (hMt ho λ_ _ e=>by cases e) (λc e=>by cases e) (λc e=>by cases e)
 have hM:xN g.x.Ms s.tn s.mem w':=hr.sn.block (by
  obtain⟨es,cl,hm⟩:=hr.sn.obj;exact hne hm d2 (λc e=>by cases e) (λc e=>by cases e))
 have hP:=bQ (W':=w') hr.pc λk hk=>(by
  obtain⟨c,hc⟩:=aS hr.pc hk;exact hne hc (hMt hc λ_ _ e=>by cases e) (λc e=>by cases e) (λc e=>by cases e))
 obtain⟨e1,e2,e3,e4,e5,e6,e7,e8,e9⟩:=n.nn.eq;obtain⟨p,u⟩:=n.rest (s':={s with tl:=s.tl+1}) (dX:=TL++ [(t,s.tl+1,what)]) (n.nn.cr.nd.block hN) rfl rfl ⟨e1,e2,e3,e4,e5,e6,e7,e8,e9⟩ (h':=g.h) (u':=g.u) (Fy:=g.Mt) (hp':=h') (tv':=v')
  ⟨hM,hS,h1,h5,h4.trans (hr.pm.append_right _),hP⟩ (hf.mono λk hk=> .inr (.inr (.inr (hk.elim .inl λh=> .inr (h.elim .inl λh=> .inr (.inl h)))))) (λk hk=>by
   rcases hk with h|h|h|h|h|h
   ·exact .inl (.inl h)
   ·exact .inl (.inr (.inl h))
   ·exact .inl (.inr (.inr (.inl h)))
   ·exact .inl (.inr (.inr (.inr (.inl h))))
   ·rcases h3 with h6|h6
    ·exact .inl (.inr (.inr (.inr (.inr (.inl (by rw[<-h6];exact h))))))
    ·exact .inr ⟨h6 k h,(h1.row.lt k h).2⟩
   ·exact .inl (.inr (.inr (.inr (.inr (.inr h)))))) ⟨rfl,rfl,rfl⟩ ⟨rfl,rfl,rfl,rfl,rfl,rfl,rfl,rfl,rfl⟩
 exact⟨h',v',rfl,p,u⟩
theorem fI{z:Sr}(h:z∈St.dh Q q):z=q∨(z∈Q∧z.dest≠q.dest):=by
 obtain⟨y,hy,rfl⟩:=dW.1 h;by_cases e:y.dest=q.dest
 ·rw[aI e];exact .inl rfl
 ·rw[ay e];exact .inr ⟨hy,e⟩
theorem mR{z:Sr}(h:z∈Q):(z.dest=q.dest->q∈St.dh Q q)∧(z.dest≠q.dest->z∈St.dh Q q):=
 ⟨λe=>dW.2 ⟨z,h,by rw[aI e]⟩,λe=>dW.2 ⟨z,h,by rw[ay e]⟩⟩
theorem CP(Q:List Sr)(q:Sr):(St.dh Q q).map (·.dest)=Q.map (·.dest):=by
 unfold St.dh;rw[List.map_map];refine List.map_congr_left λz _=> ?_;show(if z.dest=q.dest then q else z).dest=z.dest;split
 ·rename_i h;exact h.symm
 ·rfl
theorem oo(Q:List Sr)(q:Sr):(St.dh Q q).length=Q.length:=gY _
theorem y_:(Q.Pairwise λa b=>a.dest≠b.dest)↔ (Q.map (·.dest)).Nodup:=by
 unfold List.Nodup;rw[List.pairwise_map]
theorem xL.set{Ms:Nat}{h:Int->Option Nat}{u:Int->Value}(r:xL Ms h u Q W){q q':Sr}(hq:q∈Q)(hd:q'.dest=q.dest)(hok:q'.Ok)(ht:q'.txt=q.txt){Bq:Nat}(hB:h q.dest=some Bq)(hL:qm Bq q' (u q.dest) W')(hf:Fx (λk=>k=Bq) W W'):xL Ms h u (St.dh Q q') W':=by
 have hMs:Ms≠Bq:=by
  rintro rfl;obtain⟨B',h1,h2⟩:=r.ln q hq;rw[hB]at h1;cases h1;obtain⟨es,cl,hm⟩:=r.map.obj;obtain⟨c,hc⟩:=h2.obj;rw[hc]at hm;cases hm
 have hrow:∀z∈Q,∀k,(u z.dest).ownBlock=some k->k≠Bq:=by
  rintro z hz k hk rfl;obtain⟨B',h1,h2⟩:=r.ln q hq;rw[hB]at h1;cases h1;obtain⟨c,hc⟩:=h2.obj;obtain⟨c',hc'⟩:=aS (r.row z hz) hk;rw[hc]at hc';cases hc'
 have hself:∀z∈Q,z.dest=q.dest->z=q:=by
  have:∀(Q:List Sr),Q.Pairwise (λa b=>a.dest≠b.dest)->∀z∈Q,∀y∈Q,z.dest=y.dest->z=y:=by
   intro Q
   induction Q with
   |nil=>intro _ z hz;cases hz
   |cons a Q ih=>
    intro hp z hz y hy e;rw[List.pairwise_cons]at hp;rcases fE.1 hz with k1|k1
    ·rcases fE.1 hy with k2|k2
     ·rw[k1,k2]
     ·exact absurd (k1▸e) (hp.1 y k2)
    ·rcases fE.1 hy with k2|k2
     ·exact absurd (k2▸e).symm (hp.1 z k1)
     ·exact ih hp.2 z k1 y k2 e
  exact λz hz e=>this Q r.qM z hz q hq e
 have sO:∀z∈St.dh Q q',∃y∈Q,y.dest=z.dest:=λz hz=>by
  rcases fI hz with rfl|⟨h1,_⟩
  ·exact⟨q,hq,hd.symm⟩
  ·exact⟨z,h1,rfl⟩
 refine⟨by rw[oo];exact r.map.block (hf.block _ r.map.lt hMs),by rw[y_,CP,<-y_];exact r.qM,λz hz=> ?_,λd B hd' hB'=> ?_,λz hz=> ?_,λz hz=> ?_,λa ha b hb hne=> ?_,by rw[oo];exact r.len⟩
 ·rcases fI hz with rfl|⟨h1,_⟩
  ·exact hok
  ·exact r.ok z h1
 ·obtain⟨y,hy,rfl⟩:=r.dom d B hd' hB';by_cases e:y.dest=q'.dest
  ·exact⟨q',(mR hy).1 e,e.symm⟩
  ·exact⟨y,(mR hy).2 e,rfl⟩
 ·rcases fI hz with rfl|⟨h1,h2⟩
  ·rw[hd];exact⟨Bq,hB,hL⟩
  ·obtain⟨B',k1,k2⟩:=r.ln z h1;refine⟨B',k1,k2.block (hf.block _ k2.lt ?_)⟩;rintro rfl;obtain⟨B2,l1,l2⟩:=r.ln q hq;rw[hB]at l1;cases l1;obtain⟨fn1,m1,_⟩:=k2;obtain⟨fn2,m2,_⟩:=l2;unfold sJ at m1 m2;rw[m1]at m2;simp only[Lb,Option.some.injEq,Obj.cells.injEq,Array.mk.injEq,List.cons.injEq,Value.int.injEq,true_and]at m2;exact h2 (m2.1.1.trans hd.symm)
 ·rcases fI hz with rfl|⟨h1,h2⟩
  ·rw[hd,ht];exact bQ (r.row q hq) λk hk=>hf.block k ((r.row q hq).lt k hk).2 (hrow q hq k hk)
  ·exact bQ (r.row z h1) λk hk=>hf.block k ((r.row z h1).lt k hk).2 (hrow z h1 k hk)
 ·obtain⟨y,hy,e1⟩:=sO a ha;obtain⟨x,hx,e2⟩:=sO b hb;rw[<-e1,<-e2];exact r.apart y hy x hx (by rw[e1,e2];exact hne)
theorem Nd.VW{g:bI}{TL:List Hp.Tm}(n:Nd N B g s TL W){q q':Sr}(hq:q∈s.Q)(hd:q'.dest=q.dest)(hok:q'.Ok)(ht:q'.txt=q.txt){Bq:Nat}(hB:g.h q.dest=some Bq)(hL:qm Bq q' (g.u q.dest) W')(hf:Fx (λk=>k=Bq) W W'):
  Nd N B g {s with Q:=St.dh s.Q q'} TL W'∧Up B (Ft N g s) (Ft N g {s with Q:=St.dh s.Q q'}) W W':=by
 have hr:=n.nn.rs;obtain⟨e1,e2,e3,e4,e5,e6,e7,e8,e9⟩:=n.nn.eq;obtain⟨B',h1,h2⟩:=hr.sr.ln q hq;rw[hB]at h1;cases h1;obtain⟨c,hc⟩:=h2.obj;have hno:∀ {k:Nat} {o:Obj},W.heap[k]?=some o->(∀c,o≠ .cells c 177 (0,0))->W'.heap[k]?=W.heap[k]?:=λ{k o} ho hn=>hf.block k (aG ho) (by
  rintro rfl;rw[hc]at ho;exact hn _ (Option.some.inj ho).symm)
 have aaN:kr g.x g.h g.u g.Mt g.tv s Bq:=.inr (.inl (.inr ⟨q,hq,.inl hB⟩));have sO:∀z∈St.dh s.Q q',∃y∈s.Q,y.dest=z.dest:=λz hz=>by
  rcases fI hz with rfl|⟨h1,_⟩
  ·exact⟨q,hq,hd.symm⟩
  ·exact⟨z,h1,rfl⟩
 exact n.rest (s':={s with Q:=St.dh s.Q q'}) (dX:=TL) (x':=g.x) (h':=g.h) (u':=g.u) (Fy:=g.Mt) (hp':=g.hp) (tv':=g.tv) (n.nn.cr.nd.block (hno n.nn.cr.nd λ_ e=>by cases e)) rfl rfl ⟨e1,e2,e3,e4,e5,e6,e7,e8,e9⟩
  ⟨hr.sn.block (by obtain⟨es,cl,hm⟩:=hr.sn.obj;exact hno hm λ_ e=>by cases e),hr.sr.set hq hd hok ht hB hL hf,hr.tm.at (hno hr.tm.blk λ_ e=>by cases e) (by
   obtain⟨f,p1,_⟩:=hr.tm.map;obtain⟨es,cl,hm⟩:=p1.obj;exact hno hm λ_ e=>by cases e) (λk hk=>by
   obtain⟨c,hc⟩:=aS hr.tm.row hk;exact hno hc λ_ e=>by cases e),hr.hpo,hr.pm,bQ hr.pc λk hk=>by
   obtain⟨c,hc⟩:=aS hr.pc hk;exact hno hc λ_ e=>by cases e⟩
  (hf.mono λk e=>by rw[e];exact .inr aaN) (λk hk=> .inl (by
   rcases hk with h|h|h
   ·exact .inl h
   ·refine .inr (.inl ?_);rcases h with h|⟨z,hz,h⟩
    ·exact .inl h
    ·obtain⟨y,hy,e⟩:=sO z hz;rw[<-e]at h;exact .inr ⟨y,hy,h⟩
   ·exact .inr (.inr h))) ⟨rfl,rfl,rfl⟩ ⟨rfl,rfl,rfl,rfl,rfl,rfl,rfl,rfl,rfl⟩
variable{B N:Nat}{q:Sr}{s:St}{fn v:Value}{W:World}
@[reducible] def HWt(N Bq Tm : Nat)(d : Int)(W : World): Prop := W.cell? ⟨N, 14, none⟩ = some (.pointer (some ⟨Tm, 0, none⟩)) ∧ W.cell? ⟨Bq, 0, none⟩ = some (.int .u32 d)
theorem HWt.of{g:bI}{TL:List Hp.Tm}(n:Nd N B g s TL W){q:Sr}(hq:q∈s.Q){Bq:Nat}(hB:g.h q.dest=some Bq):HWt N Bq g.x.Tm q.dest W:=by
 obtain⟨B',h1,h2⟩:=n.nn.rs.sr.ln q hq;rw[hB]at h1;cases h1;exact⟨n.nn.cr.nd.more.2.2.2.1,h2.cell.1⟩
theorem sJ.abI(h:sJ B q v fn W)(i:Int):sJ B {q with id:=i} v fn (W.setCell ⟨B,4,none⟩ (.int .i64 i)):=by
 unfold sJ at h ⊢;simp[World.setCell,d_,h]
theorem sJ.abL(h:sJ B q v fn W)(f:Value):sJ B q v f (W.setCell ⟨B,5,none⟩ f):=by
 unfold sJ at h ⊢;simp[World.setCell,d_,h]
theorem tO(Q:List Sr){a b:Sr}(h:a.dest=b.dest):St.dh (St.dh Q a) b=St.dh Q b:=by
 unfold St.dh;rw[List.map_map];refine List.map_congr_left λz _=> ?_;show(if (if z.dest=a.dest then a else z).dest=b.dest then b else(if z.dest=a.dest then a else z))=_;by_cases e:z.dest=a.dest
 ·rw[aI e,aI h,aI (e.trans h)]
 ·rw[ay e]
def WtP(N B:Nat)(g:bI)(s:St)(TL:List Hp.Tm)(q:Sr)(t:Int)(o:Bool)(w w':World):Prop:=
 ∃g',Nd N B g' {s with tl:=s.tl+1,Q:=St.dh s.Q {q with due:=t,id:=s.tl+1,out:=o}} (TL++ [(t,s.tl+1,q.dest)]) w'∧Up B (Ft N g s) (Ft N g' {s with tl:=s.tl+1,Q:=St.dh s.Q {q with due:=t,id:=s.tl+1,out:=o}}) w w'∧Hid (g'.x.T=g.x.T)∧Hid (g'.h=g.h∧g'.u=g.u)
theorem Ux{g:bI}{TL:List Hp.Tm}{w:World}(n:Nd N B g s TL w)(q:Sr)(hq:q∈s.Q)(Bq:Nat)(hB:g.h q.dest=some Bq)(t:Int)(ht:0<=t∧t<18446744073709551616)(o:Bool)(hl:TL.length<=900000)(htl:0<=s.tl∧s.tl<=4000000000000000000)(hid:∀x∈TL,x.2.1<=s.tl):
  Calls Tryz.prog 121 #[.pointer (some ⟨Bq,0,none⟩),.pointer (some ⟨N,0,none⟩),.int .u64 t,DN o Bq] w λe w'=>e=.returned (.tuple #[])∧WtP N B g s TL q t o w w':=by
 have hok:=n.nn.rs.sr.ok q hq;have hS:HWt N Bq g.x.Tm q.dest w.drew:=HWt.of n.drew hq hB;have aek:oV q.dest:=by have:=hok.dest;unfold a_ at this;unfold oV;omega
 have HA:=hide (abg n.drew t q.dest ht aek hl htl hid);have hwc:IntKind.i64.wrap q.dest=q.dest:=by
  have:=hok.dest;unfold a_ at this;simp only[IntKind.wrap,IntKind.signed,IntKind.bits];simp;omega
 have hK:Hid (∀h' v' w2,Nd N B {g with hp:=h',tv:=v'} {s with tl:=s.tl+1} (TL++ [(t,s.tl+1,q.dest)]) w2->HWt N Bq g.x.Tm q.dest w2∧(∃x,w2.cell? ⟨Bq,4,none⟩=some x)∧w2.frozen? ⟨Bq,4,none⟩=false∧HWt N Bq g.x.Tm q.dest (w2.setCell ⟨Bq,4,none⟩ (.int .i64 (s.tl+1)))∧(∃x,(w2.setCell ⟨Bq,4,none⟩ (.int .i64 (s.tl+1))).cell? ⟨Bq,5,none⟩=some x)∧(w2.setCell ⟨Bq,4,none⟩ (.int .i64 (s.tl+1))).frozen? ⟨Bq,5,none⟩=false∧
   ∀u,Up B u (Ft N {g with hp:=h',tv:=v'} {s with tl:=s.tl+1}) w w2->u=Ft N g s->WtP N B g s TL q t o w ((w2.setCell ⟨Bq,4,none⟩ (.int .i64 (s.tl+1))).setCell ⟨Bq,5,none⟩ (DN o Bq))):=by
  intro h' v' w2 n2;obtain⟨B',h1,fn,h2,_⟩:=n2.nn.rs.sr.ln q hq;rw[show({g with hp:=h',tv:=v'}:bI).h q.dest=some Bq from hB]at h1;cases h1;have h3:=h2.abI (s.tl+1);have h4:=h3.abL (DN o Bq);have hNB:N≠Bq:=by
   rintro rfl;unfold sJ at h2;rw[show w2.heap[N]?=_ from n2.nn.cr.nd]at h2;cases h2
  have hgB:w2.grownBy ((w2.setCell ⟨Bq,4,none⟩ (.int .i64 (s.tl+1))).setCell ⟨Bq,5,none⟩ (DN o Bq)) (some Bq):=ah (ah (aC _ (some Bq)) 4 _) 5 _;have Az:iI N g.x (w2.setCell ⟨Bq,4,none⟩ (.int .i64 (s.tl+1))):=(n2.nn.cr.nd).kept (ah (aC _ (some Bq)) 4 _) (λe=>hNB (Option.some.inj e).symm);refine⟨⟨n2.nn.cr.nd.more.2.2.2.1,h2.cell.1⟩,⟨_,h2.cell.2.2.2.2.1⟩,h2.free 4,⟨Az.more.2.2.2.1,h3.cell.1⟩,⟨_,h3.cell.2.2.2.2.2⟩,h3.free 5,?_⟩;rintro u up rfl;have hL:qm Bq {q with due:=t,id:=s.tl+1,out:=o} (g.u q.dest) ((w2.setCell ⟨Bq,4,none⟩ (.int .i64 (s.tl+1))).setCell ⟨Bq,5,none⟩ (DN o Bq)):=⟨_,h4,λ_=>rfl⟩;obtain⟨p,uu⟩:=n2.VW (q':={q with due:=t,id:=s.tl+1,out:=o}) hq rfl ⟨hok.dest,hok.ttl,hok.ret,hok.txt,hok.I_,by dsimp only;omega⟩ rfl hB hL (Fx.grown hgB λk e=>by cases e;rfl);exact⟨_,p,up.trans uu,rfl,rfl,rfl⟩
 obtain⟨fv,a1,hfv⟩:∃fv a1,DN o Bq=.func fv a1 #[]:=⟨_,_,rfl⟩;rw[hfv]at hK ⊢;clear n hok hfv;go_enter Tryz.func121,Tryz.ntmps121;go_wp2_with fail;go_region_held3 (HWt N Bq g.x.Tm q.dest) (first|with_reducible exact hS|with_reducible assumption) ((go_at_call 154;refine HA.out.mono ?_;rintro e w2 ⟨h',v',rfl,n2,u2⟩;obtain⟨k1,⟨x4,k2⟩,k3,k4,⟨x5,k5⟩,k6,k7⟩:=hK.out h' v' w2 n2;have hfin:=hide (k7 _ ((Up.below (aV _ _).drew).trans u2) rfl);clear k7 n2 u2))
 rename_i iZ;clear iZ hS HA hK k1 k4;go_wp2;go_returns;exact⟨rfl,hfin.out⟩
variable{B N:Nat}{s:St}{w:World}
theorem KF{g:bI}{TL:List Hp.Tm}(n:Nd N B g s TL w)(q:Int×Int)(hq:wD q)(dF:Int)(h0:0<=dF)(hm:∀e∈s.mem,e.dF<=dF)(htn:s.tn<=4611686018427387904):
  Calls Tryz.prog 156 #[.pointer (some ⟨N,8,none⟩),jX q,.int .u64 dF] w λe w'=>e=.returned (.tuple #[])∧IL N B g s {s with mem:=dw s.mem q dF s.tn,tn:=s.tn+1} TL w w':=by
 have h:=n.nn.rs.sn;rw[<-n.nn.eq.tn]at h htn;refine(F8 N g.x s.mem q hq dF h0 hm htn w n.nn.cr.nd h).mono ?_;rintro e w' ⟨rfl,h1,h2,h3⟩;rw[n.nn.eq.tn]at h1 h2;obtain⟨e1,e2,e3,e4,e5,e6,e7,e8,e9⟩:=n.nn.eq;have hr:=n.nn.rs;have hne:∀k,kr g.x g.h g.u g.Mt g.tv s k->k≠g.x.Ms->¬(k=N∨k=g.x.Ms):=λk hk h1 h2=>h2.elim (λe=>n.nn.apart hk (.inl e)) h1;have hnd:=n.nn.qM;simp only[List.nodup_cons,fE,List.not_mem_nil,or_false,not_or]at hnd;obtain⟨_,_,⟨d1,d2⟩,_⟩:=hnd;have AA:∀ {k:Nat} {o:Obj},w.heap[k]?=some o->(∀es cl,o≠ .map es cl)->k≠g.x.Ms:=by
  rintro k o ho hn rfl;obtain⟨es,cl,hm⟩:=hr.sn.obj;rw[hm]at ho;exact hn _ _ (Option.some.inj ho).symm
 have hkeep:∀ {k:Nat},kr g.x g.h g.u g.Mt g.tv s k->k≠g.x.Ms->w'.heap[k]?=w.heap[k]?:=λhk h=>h3.block _ (hr.lt hk) (hne _ hk h);have hSr:∀k,II g.x.qy g.h g.u s.Q k->k≠g.x.Ms:=by
  intro k hk;obtain⟨o,ho,⟨rfl,_⟩|⟨c,rfl⟩|⟨c,rfl⟩⟩:=hr.sr.kind hk
  ·exact Ne.symm d1
  ·exact AA ho (λ_ _ h=>by cases h)
  ·exact AA ho (λ_ _ h=>by cases h)
 obtain⟨p,q⟩:=n.rest (s':={s with mem:=dw s.mem q dF s.tn,tn:=s.tn+1}) (dX:=TL) h1 rfl rfl ⟨e1,e2,e3,e4,e5,rfl,e7,e8,e9⟩
  ⟨h2,hr.sr.kept λk hk=>hkeep (.inr (.inl hk)) (hSr k hk),hr.tm.at (hkeep (.inr (.inr (.inl rfl))) (AA hr.tm.blk (λ_ _ h=>by cases h))) (hkeep (.inr (.inr (.inr (.inl rfl)))) (Ne.symm d2)) (λk hk=>hkeep (.inr (.inr (.inr (.inr (.inl hk))))) (by
   obtain⟨c,hc⟩:=aS hr.tm.row hk;exact AA hc (λ_ _ h=>by cases h))),hr.hpo,hr.pm,bQ hr.pc λk hk=>hkeep (.inr (.inr (.inr (.inr (.inr hk))))) (by
   obtain⟨c,hc⟩:=aS hr.pc hk;exact AA hc (λ_ _ h=>by cases h))⟩
  (h3.mono λk h=>h.elim .inl λh=> .inr (.inl h)) (λk hk=> .inl hk) ⟨rfl,rfl,rfl⟩ ⟨rfl,rfl,rfl,rfl,rfl,rfl,rfl,rfl,rfl⟩
 exact⟨rfl,_,p,q,rfl,rfl,rfl⟩
theorem Uw{g:bI}{TL:List Hp.Tm}(n:Nd N B g s TL w)(hd:s.Dom)(hc:0<=s.cnt∧s.cnt<=1000000)(hw:s.bg.length<=90000):
  Calls Tryz.prog 71 #[.pointer (some ⟨N,0,none⟩),.pointer (some ⟨B,0,none⟩)] w λe w'=>e=.returned (.tuple #[])∧IL N B g s s.write TL w w':=by
 obtain⟨e1,e2,e3,e4,e5,e6,e7,e8,e9⟩:=n.nn.eq;refine(wG N B (B+1) g.x g.a g.M g.ff g.gg s.A s.f g.sz s.bg s.aF s.aO s.aP w n.nn.cr n.ac n.base (by rw[e8];exact hc) n.nn.I_ hw).mono ?_;rintro e w' ⟨v7,sz',rfl,h1,_,h3,h4⟩;have hn:bK g.x.seq g.x.own s.f s.A=bK s.seq s.own s.f s.A:=by rw[e2,e7]
 rw[hn]at h1 h3;have hz:sz'<=8:=h1.size_le (rR hd.on);obtain⟨p,q⟩:=n.core (s':=s.write) h1 h3 (h4.mono λk h=>by
  rcases h with rfl|rfl|h
  ·exact .inl (.inl rfl)
  ·exact .inl (.inr (.inl rfl))
  ·exact .inr h) (λk hk=>hk) ⟨rfl,rfl,rfl,rfl,rfl⟩ ⟨e1,e2,e3,e4,e5,e6,by dsimp only;rw[e2,e7];rfl,by dsimp only;rw[e8];rfl,e9⟩ ⟨rfl,rfl,rfl,rfl,rfl⟩ (by omega) n.now n.bB
 exact⟨rfl,_,p,q,rfl,rfl,rfl⟩
@[reducible] def FE(N B T : Nat)(me seq lr now : Int)(W : World): Prop := W.cell? ⟨N, 2, none⟩ = some (.int .u32 me) ∧ W.cell? ⟨N, 3, none⟩ = some (.int .u32 seq) ∧ W.cell? ⟨N, 5, none⟩ = some (.int .u32 lr) ∧ W.cell? ⟨N, 7, none⟩ = some (.pointer (some ⟨T, 0, none⟩)) ∧ W.cell? ⟨B, 0, none⟩ = some (.int .u64 now)
theorem FE.of{g:bI}{TL:List Hp.Tm}{W:World}(n:Nd N B g s TL W):FE N B g.x.T s.me s.seq s.b_ s.now W:=by
 have h:=n.nn.cr.nd.more.1;rw[n.nn.eq.b_]at h;exact⟨n.cell.1,n.cell.2.1,h,n.cell.2.2.2.1,n.cell.2.2.2.2⟩
theorem Wd{ttl i d q me sq:Int}{u:Bool}(ht:0<=ttl∧ttl<=255)(hi:a_ i)(hd:a_ d)(hq:a_ q)(hm:a_ me)(hs:a_ sq):(St.BO ttl u i d q me sq).Wf:=by
 unfold a_ at hi hd hq hm hs;have hz:(⟨#[]⟩:ByteArray).size=0:=rfl;constructor<;>(dsimp only[St.BO];omega)
theorem Rm{A:List Rt}(hA:∀y∈A,y.Ok)(d:Int):a_ (eP A d):=by
 unfold eP;cases hl:aK A d with
 |none=>simp[a_]
 |some y=>exact(hA y (List.mem_of_find?_eq_some hl)).seq
structure St.Rdy(s:St):Prop where
 me:a_ s.me
 seq:a_ s.seq
 now:0<=s.now∧s.now<=4611686018427387904
 mem:∀e∈s.mem,e.dF<=s.now+1280
 dom:s.Dom
 cnt:0<=s.cnt∧s.cnt<=900000
 bg:s.bg.length<=80000
 aF:s.aF.length<=900000
 tn:s.tn<=4000000000000000000
 BG:s.pc.length<=5
 z_:s.pc.Pairwise (·<=·)
 Aa:∀t∈s.pc,t<=s.now
theorem Py{g:bI}{TL:List Hp.Tm}(n:Nd N B g s TL w)(hR:s.Rdy)(d ttl:Int)(hd:a_ d)(ht:0<=ttl∧ttl<=255):
  Calls Tryz.prog 122 #[.pointer (some ⟨N,0,none⟩),.pointer (some ⟨B,0,none⟩),.int .u32 d,.int .i64 ttl] w λe w'=>e=.returned (.tuple #[])∧IL N B g s (s.request d ttl) TL w w':=by
 obtain⟨s9,qV⟩:∃z,s.request d ttl=z:=⟨_,rfl⟩;rw[qV];replace qV:=hide qV;obtain⟨c2,c3,c5,c7,c0⟩:=FE.of n;have f3:=n.nn.cr.nd.free 3;have f5:=n.nn.cr.nd.free 5;have hg0:=uz hR.seq;obtain⟨q1,hq1⟩:∃z,gr s.seq=z:=⟨_,rfl⟩;rw[hq1]at hg0;have HG:=hide (oK s.seq w);rw[hq1]at HG;replace hq1:=hide hq1;have hl1:a_ ((s.b_+1)%4294967296):=by unfold a_;omega
 obtain⟨l1,hl⟩:∃z,(s.b_+1)%4294967296=z:=⟨_,rfl⟩;rw[hl]at hl1;have hg1:w.grownBy ((w.setCell ⟨N,3,none⟩ (.int .u32 q1)).setCell ⟨N,5,none⟩ (.int .u32 l1)) (some N):=ah (ah (aC _ (some N)) 3 _) 5 _;obtain⟨e1,e2,e3,e4,e5,e6,e7,e8,e9⟩:=n.nn.eq;obtain⟨n1,u1⟩:=n.cells (s':={s with seq:=q1,b_:=l1}) ((n.nn.cr.nd.Qs q1).VY l1) (Fx.grown hg1 λk e=>by cases e;rfl) ⟨e1,rfl,e3,rfl,e5,e6,e7,e8,e9⟩ ⟨rfl,rfl,rfl,rfl,rfl,rfl⟩ ⟨rfl,rfl,rfl,rfl,rfl,rfl,rfl,rfl,rfl⟩ ⟨rfl,rfl,rfl,rfl,rfl⟩;have v1:Hid (({g with x:={g.x with seq:=q1,b_:=l1}}:bI).x.T=g.x.T):=rfl;have y1:Hid (({g with x:={g.x with seq:=q1,b_:=l1}}:bI).h=g.h∧({g with x:={g.x with seq:=q1,b_:=l1}}:bI).u=g.u):=⟨rfl,rfl⟩;generalize ({g with x:={g.x with seq:=q1,b_:=l1}}:bI)=g1 at n1 u1 v1 y1;have hA:=n.nn.cr.tb.ok;obtain⟨s1,hs1⟩:∃z,({s with seq:=q1,b_:=l1}:St)=z:=⟨_,rfl⟩;rw[hs1]at n1 u1;have hd1:s1.Dom:=by rw[<-hs1];exact⟨hR.dom.mb,hR.dom.on,hR.dom.own⟩
 have hc1:0<=s1.cnt∧s1.cnt<=900000:=by rw[<-hs1];exact hR.cnt
 have hw1:s1.bg.length<=80000:=by rw[<-hs1];exact hR.bg
 have HW:=hide (Uw n1 hd1 (by omega) (by omega));obtain⟨s2,hs2⟩:∃z,s1.write=z:=⟨_,rfl⟩;rw[hs2]at HW;have h2:Hid (s2.me=s.me∧s2.seq=q1∧s2.b_=l1∧s2.now=s.now∧s2.pc=s.pc∧s2.mem=s.mem∧s2.tn=s.tn∧s2.aF=s.aF∧s2.A=s.A∧ {s2 with pc:=St.dI s2.pc s2.now,mem:=dw s2.mem (s2.me,s2.b_) (s2.now+1280) s2.tn,tn:=s2.tn+1}.send 0 (St.BO ttl (!(aK s2.A d).isSome) s2.b_ d (eP s2.A d) s2.me s2.seq) []=s9):=by
  show _∧_;rw[<-hs2,<-hs1];refine⟨rfl,rfl,rfl,rfl,rfl,rfl,rfl,rfl,rfl,?_⟩;rw[<-qV.out,<-hl,<-hq1.out];rfl
 replace hl:=hide hl;have hmod:Hid (IntKind.u32.wrap (s.b_+1)=l1):=by
  show _=_;rw[<-hl.out];simp only[IntKind.wrap,IntKind.signed,IntKind.bits];simp
 clear hs1 hs2 e1 e2 e3 e4 e5 e6 e7 e8 e9 n hg1 hd1 hc1 hw1 n1;go_enter Tryz.func122,Tryz.ntmps122;go_wp2_with fail;refine aU HG.out ?_;rintro e w' ⟨rfl,rfl⟩;go_wp2_with fail;rw[hl.out];clear HG hmod hl hq1;refine aU HW.out ?_;rintro e w2 ⟨rfl,g2,n2,u2,t2,y2⟩;have I9:=u1.trans u2;have tt2:Hid (g2.x.T=g.x.T):=t2.out.trans v1.out;have yy2:Hid (g2.h=g.h∧g2.u=g.u):=⟨y2.out.1.trans y1.out.1,y2.out.2.trans y1.out.2⟩;obtain⟨a1,a2,a3,a4,a5,a6,a7,a8,a9,a10⟩:=h2.out;have YC:Hid (0<=s2.now∧s2.now<=4611686018427387904):=by rw[a4];exact hR.now
 have HP:=hide (abh n2.drew (by rw[a5];exact hR.BG) (by rw[a5];exact hR.z_) (by rw[a5,a4];exact hR.Aa));have YE:Hid (∀e∈s2.mem,e.dF<=s2.now+1280):=by rw[a6,a4];exact hR.mem
 have ab3:Hid (s2.tn<=4000000000000000000):=by rw[a7];exact hR.tn
 have hU2:Hid (a_ s2.me∧a_ s2.seq∧a_ s2.b_):=by rw[a1,a2,a3];exact⟨hR.me,hg0,hl1⟩
 have hfr2:Hid (s2.aF.length<=900000):=by rw[a8];exact hR.aF
 have hA2:Hid (∀y∈s2.A,y.Ok):=by rw[a9];exact hA
 have Mj:=hide a10;clear a1 a2 a3 a4 a5 a6 a7 a8 a9 a10 h2 HW u1 u2 t2 y2 v1 y1 hR c2 c3 c5 c7 c0 f3 f5 hg0 hl1 hA;have hS:FE N B g2.x.T s2.me s2.seq s2.b_ s2.now w2.drew:=FE.of n2.drew;have ub2:=I9.trans (.below (aV _ _).drew:Up B (Ft N g2 s2) (Ft N g2 s2) w2 w2.drew);clear n2 I9;go_wp2_with fail;go_region_held3 (FE N B g2.x.T s2.me s2.seq s2.b_ s2.now) (first|with_reducible exact hS|with_reducible assumption) ((go_at_call 155;refine HP.out.mono ?_;rintro e w3 ⟨rfl,g3,n3,u3,t3,y3⟩;have hk3:FE N B g2.x.T s2.me s2.seq s2.b_ s2.now w3:=by have h:=FE.of n3;rw[t3.out]at h;exact h))
 rename_i iZ;clear iZ hk3 hS HP;have ub3:=ub2.trans u3;have tt3:Hid (g3.x.T=g.x.T):=t3.out.trans tt2.out;have yy3:Hid (g3.h=g.h∧g3.u=g.u):=⟨y3.out.1.trans yy2.out.1,y3.out.2.trans yy2.out.2⟩;obtain⟨s3,hs3⟩:∃z,({s2 with pc:=St.dI s2.pc s2.now}:St)=z:=⟨_,rfl⟩;have h3:Hid (s3.me=s2.me∧s3.seq=s2.seq∧s3.b_=s2.b_∧s3.now=s2.now∧s3.mem=s2.mem∧s3.tn=s2.tn∧s3.aF=s2.aF∧s3.A=s2.A∧ {s3 with mem:=dw s3.mem (s3.me,s3.b_) (s3.now+1280) s3.tn,tn:=s3.tn+1}.send 0 (St.BO ttl (!(aK s3.A d).isSome) s3.b_ d (eP s3.A d) s3.me s3.seq) []=s9):=by
  show _∧_;rw[<-hs3];exact⟨rfl,rfl,rfl,rfl,rfl,rfl,rfl,rfl,Mj.out⟩
 rw[hs3]at n3 ub3;obtain⟨a1,a2,a3,a4,a5,a6,a7,a8,a9⟩:=h3.out;have yg:0<=s3.now∧s3.now<=4611686018427387904:=by rw[a4];exact YC.out
 have HSn:Hid (∀t,t=s3.now+1280->Calls Tryz.prog 156 #[.pointer (some ⟨N,8,none⟩),jX (s3.me,s3.b_),.int .u64 t] w3.drew λe w'=>e=.returned (.tuple #[])∧IL N B g3 s3 {s3 with mem:=dw s3.mem (s3.me,s3.b_) (s3.now+1280) s3.tn,tn:=s3.tn+1} TL w3.drew w'):=by
  rintro _ rfl;exact KF n3.drew (s3.me,s3.b_) ⟨by rw[a1];exact hU2.out.1,by rw[a3];exact hU2.out.2.2⟩ (s3.now+1280) (by omega) (by rw[a5,a4];exact YE.out) (by rw[a6];have:=ab3.out;omega)
 dsimp only[jX]at HSn;have hU3:Hid (a_ s3.me∧a_ s3.seq∧a_ s3.b_):=by rw[a1,a2,a3];exact hU2.out
 have acE:Hid (s3.aF.length<=900000):=by rw[a7];exact hfr2.out
 have hA3:Hid (∀y∈s3.A,y.Ok):=by rw[a8];exact hA2.out
 have YH:=hide a9;clear a1 a2 a3 a4 a5 a6 a7 a8 a9 h3 hs3 u3 t3 y3 tt2 yy2 YC YE ab3 hU2 hfr2 hA2 Mj ub2;have hS:FE N B g3.x.T s3.me s3.seq s3.b_ s3.now w3.drew:=FE.of n3.drew;have uc3:=ub3.trans (.below (aV _ _).drew:Up B (Ft N g3 s3) (Ft N g3 s3) w3 w3.drew);clear n3 ub3;go_wp2_with fail;go_region_held3 (FE N B g3.x.T s3.me s3.seq s3.b_ s3.now) (first|with_reducible exact hS|with_reducible assumption) ((go_at_call 156;refine(HSn.out _ (by first|rfl|exact mK yg (by omega))).mono ?_;rintro e w4 ⟨rfl,g4,n4,u4,t4,y4⟩;have hk4:FE N B g3.x.T s3.me s3.seq s3.b_ s3.now w4:=by have h:=FE.of n4;rw[t4.out]at h;exact h))
 rename_i iZ;clear iZ hk4 hS HSn;have uc4:=uc3.trans u4;have tt4:Hid (g4.x.T=g.x.T):=t4.out.trans tt3.out;have yy4:Hid (g4.h=g.h∧g4.u=g.u):=⟨y4.out.1.trans yy3.out.1,y4.out.2.trans yy3.out.2⟩;obtain⟨s4,hs4⟩:∃z,({s3 with mem:=dw s3.mem (s3.me,s3.b_) (s3.now+1280) s3.tn,tn:=s3.tn+1}:St)=z:=⟨_,rfl⟩;have h4:Hid (s4.me=s3.me∧s4.seq=s3.seq∧s4.b_=s3.b_∧s4.aF=s3.aF∧s4.A=s3.A∧s4.send 0 (St.BO ttl (!(aK s4.A d).isSome) s4.b_ d (eP s4.A d) s4.me s4.seq) []=s9):=by
  show _∧_;rw[<-hs4];exact⟨rfl,rfl,rfl,rfl,rfl,YH.out⟩
 rw[hs4]at n4 uc4;obtain⟨a1,a2,a3,a7,a8,a9⟩:=h4.out;have HN:=hide (YZ n4 d hd);obtain⟨nq,hnq⟩:∃z,eP s4.A d=z:=⟨_,rfl⟩;obtain⟨nk,hnk⟩:∃z,(aK s4.A d).isSome=z:=⟨_,rfl⟩;rw[hnq,hnk]at HN a9;have acp:a_ nq:=by rw[<-hnq,a8];exact Rm hA3.out d
 have HX:=hide (M6 n4.drew 0 (St.BO ttl (!nk) s4.b_ d nq s4.me s4.seq) (Wd ht (by rw[a3];exact hU3.out.2.2) hd acp (by rw[a1];exact hU3.out.1) (by rw[a2];exact hU3.out.2.1)) [] ⟨rfl,λj hj=>by simp at hj⟩ (by rw[a7];have:=acE.out;omega));rw[a9]at HX;have h9:Hid (s9.me=s4.me∧s9.seq=s4.seq∧s9.b_=s4.b_∧s9.now=s4.now):=by
  show _∧_;rw[<-a9];exact⟨rfl,rfl,rfl,rfl⟩
 dsimp only[aD.val,St.BO]at HX;have c4:=FE.of n4;obtain⟨c2,c3,c5,c7,c0⟩:=c4;have hS:FE N B g4.x.T s4.me s4.seq s4.b_ s4.now w4.drew:=FE.of n4.drew;have ud4:=uc4.trans (.below (aV _ _).drew:Up B (Ft N g4 s4) (Ft N g4 s4) w4 w4.drew);clear a1 a2 a3 a7 a8 a9 h4 hs4 u4 t4 y4 tt3 yy3 hU3 acE hA3 YH uc3 uc4 hnq hnk n4 acp;go_wp2_with fail;refine aU HN.out ?_;rintro e w5 ⟨rfl,rfl⟩;clear HN;go_wp2_with fail;go_region_held3 (FE N B g4.x.T s4.me s4.seq s4.b_ s4.now) (first|with_reducible exact hS|with_reducible assumption) ((go_at_call 80;refine HX.out.mono ?_;rintro e w6 ⟨rfl,g6,n6,u6,t6,y6⟩;have hfin:Hid (IL N B g s s9 TL w' w6):=⟨g6,n6,ud4.trans u6,t6.out.trans tt4.out,y6.out.1.trans yy4.out.1,y6.out.2.trans yy4.out.2⟩;have YG:FE N B g4.x.T s4.me s4.seq s4.b_ s4.now w6:=by have h:=FE.of n6;rw[t6.out,h9.out.1,h9.out.2.1,h9.out.2.2.1,h9.out.2.2.2]at h;exact h))
 rename_i iZ;clear iZ YG hS HX;go_wp2;go_returns;exact⟨rfl,hfin.out⟩
variable{B N:Nat}{s:St}{w:World}
def St.waits(s:St)(q:Sr)(t:Int)(o:Bool):St:={s with tl:=s.tl+1,Q:=St.dh s.Q {q with due:=t,id:=s.tl+1,out:=o}}
def St.lg(s:St)(q:Sr):Int:=match s.holds with|some _=>s.now+1000|none=>s.now+80 * (q.ttl+2)* 2 ^ q.ret
theorem A9(s:St)(q:Sr):s.ask q=match s.holds with|some r=>(s.drop r).waits q (s.now+1000) false|none=>(s.request q.dest q.ttl).waits q (s.now+80 * (q.ttl+2)* 2 ^ q.ret) true:=by
 unfold St.ask St.holds;by_cases h:St.full s.pc s.now=true
 ·rw[aI h,aI h];rfl
 ·rw[ay h,ay h];by_cases h2:s.now<s.bN
  ·rw[aI h2,aI h2];rfl
  ·rw[ay h2,ay h2];rfl
def AkP(N B:Nat)(g:bI)(s s2:St)(_TL dX:List Hp.Tm)(w w':World):Prop:=
 ∃g',Nd N B g' s2 dX w'∧Up B (Ft N g s) (Ft N g' s2) w w'∧Hid (g'.x.T=g.x.T)∧Hid (g'.h=g.h∧g'.u=g.u)
theorem aa0{q:Sr}(ok:q.Ok)(di:0<=s.now∧s.now<=4611686018427387904):0<=s.now+80 * (q.ttl+2)* 2 ^ q.ret∧s.now+80 * (q.ttl+2)* 2 ^ q.ret<18446744073709551616∧0<=80 * (q.ttl+2)* 2 ^ q.ret∧80 * (q.ttl+2)* 2 ^ q.ret<=8589934592:=by
 have h1:=ok.ttl;have h2:=ok.ret;have hr:q.ret=0∨q.ret=1∨q.ret=2:=by omega
 rcases hr with hr|hr|hr<;>rw[hr]<;>simp<;>omega
theorem Fw{g:bI}{TL:List Hp.Tm}(n:Nd N B g s TL w)(r:Int)(hd:s.aP.length<=1000000):
  Calls Tryz.prog 92 #[.pointer (some ⟨B,0,none⟩),.int .i64 r] w λe w'=>e=.returned (.tuple #[])∧IL N B g s (s.drop r) TL w w':=by
 refine(Im B (B+1) g.a s.bg s.aF s.aO s.aP r w n.ac n.base hd).mono ?_;rintro e w' ⟨v7,rfl,h1,h2⟩;obtain⟨p,q⟩:=n.act (s':=s.drop r) h1 h2 (tV s r) n.now n.bB;exact⟨rfl,_,p,q,rfl,rfl,rfl⟩
theorem UE{g:bI}{TL:List Hp.Tm}(n:Nd N B g s TL w)(hR:s.Rdy)(hdl:s.aP.length<=900000)(q:Sr)(hq:q∈s.Q)(Bq:Nat)(hB:g.h q.dest=some Bq)(hl:TL.length<=900000)(htl:0<=s.tl∧s.tl<=4000000000000000000)(hid:∀x∈TL,x.2.1<=s.tl):
  Calls Tryz.prog 83 #[.pointer (some ⟨Bq,0,none⟩),.pointer (some ⟨N,0,none⟩),.pointer (some ⟨B,0,none⟩)] w λe w'=>e=.returned (.tuple #[])∧AkP N B g s (s.ask q) TL (TL++ [(s.lg q,s.tl+1,q.dest)]) w w':=by
 have hmf:∀(fn:Fn) (first cap:Array Value) (w:World),(Instr.makeFunc fn first cap).run Tryz.prog w=.ok (.func fn first cap) w:=λ_ _ _ _=>rfl;have hok:=n.nn.rs.sr.ok q hq;have di:=hR.now;have HH:=hide (IU n di);obtain⟨s9,qV⟩:∃z,s.ask q=z:=⟨_,rfl⟩;obtain⟨du,EH⟩:∃z,s.lg q=z:=⟨_,rfl⟩;rw[qV,EH];rw[A9]at qV;unfold St.lg at EH;obtain⟨ho,hho⟩:∃z,s.holds=z:=⟨_,rfl⟩;rw[hho]at qV EH HH;replace qV:=hide qV;replace EH:=hide EH;obtain⟨_,_,_,_,c0⟩:=n.cell;go_enter Tryz.func83,Tryz.ntmps83;go_wp2_with fail;refine aU HH.out ?_;rintro e w1 ⟨rfl,rfl⟩;clear HH;cases ho with
 |some r=>
  replace qV:Hid ((s.drop r).waits q (s.now+1000) false=s9):=qV;replace EH:Hid (s.now+1000=du):=EH;have HX:=hide (Fw n r (by omega));obtain⟨s1,hs1⟩:∃z,s.drop r=z:=⟨_,rfl⟩;have h1:Hid (s1.now=s.now∧s1.Q=s.Q∧s1.tl=s.tl):=by
   show _∧_;rw[<-hs1];exact⟨rfl,rfl,rfl⟩
  rw[hs1]at HX qV;clear hho hR n hs1;simp only[Option.getD_some,Option.isSome_some];go_wp2_with fail;refine aU HX.out ?_;rintro e w2 ⟨rfl,g2,n2,u2,t2,y2⟩;have HW:Hid (∀t,t=s.now+1000->Calls Tryz.prog 121 #[.pointer (some ⟨Bq,0,none⟩),.pointer (some ⟨N,0,none⟩),.int .u64 t,.func (.func 83) #[.pointer (some ⟨Bq,0,none⟩)] #[]] w2 λe w'=>e=.returned (.tuple #[])∧AkP N B g s s9 TL (TL++ [(du,s.tl+1,q.dest)]) w1 w'):=by
   rintro _ rfl;refine(Ux n2 q (by rw[h1.out.2.1];exact hq) Bq (by rw[y2.out.1];exact hB) (s.now+1000) (by omega) false hl (by rw[h1.out.2.2];exact htl) (by rw[h1.out.2.2];exact hid)).mono ?_;rintro e w3 ⟨rfl,g3,n3,u3,t3,y3⟩;have e1:({s1 with tl:=s1.tl+1,Q:=St.dh s1.Q {q with due:=s.now+1000,id:=s1.tl+1,out:=false}}:St)=s9:=qV.out;rw[e1]at n3 u3;rw[h1.out.2.2,EH.out]at n3;exact⟨rfl,g3,n3,u2.trans u3,t3.out.trans t2.out,y3.out.1.trans y2.out.1,y3.out.2.trans y2.out.2⟩
  have c0':=n2.cell.2.2.2.2;rw[h1.out.1]at c0';clear n2 u2 t2 y2 h1 qV EH HX;go_wp2_with fail;refine aU (HW.out _ (by first|rfl|exact mK di (by omega))) ?_;rintro e w3 ⟨rfl,hN⟩;replace hN:=hide hN;clear HW c0';go_wp2;go_returns;exact⟨rfl,hN.out⟩
 |none=>
  replace qV:Hid ((s.request q.dest q.ttl).waits q (s.now+80 * (q.ttl+2)* 2 ^ q.ret) true=s9):=qV;replace EH:Hid (s.now+80 * (q.ttl+2)* 2 ^ q.ret=du):=EH;obtain⟨B',hB1,hL1⟩:=n.nn.rs.sr.ln q hq;rw[hB]at hB1;cases hB1;obtain⟨k0,k1,k2,k3,k4⟩:=hL1.cell;have HX:=hide (Py n.drew hR q.dest q.ttl hok.dest (by have:=hok.ttl;omega));obtain⟨s1,hs1⟩:∃z,s.request q.dest q.ttl=z:=⟨_,rfl⟩;have h1:Hid (s1.now=s.now∧s1.Q=s.Q∧s1.tl=s.tl):=by
   show _∧_;rw[<-hs1];exact⟨rfl,rfl,rfl⟩
  rw[hs1]at HX qV;have hS:w1.drew.cell? ⟨Bq,0,none⟩=some (.int .u32 q.dest)∧w1.drew.cell? ⟨Bq,2,none⟩=some (.int .i64 q.ttl):=⟨k0,k2⟩;obtain⟨b1,b2,b3,b4⟩:=aa0 (s:=s) hok di;clear hho hR n hs1 k0 k1 k2 k3 k4 hL1;simp only[Option.getD_none,Option.isSome_none];go_wp2_with fail;go_region_held3 (λW=>W.cell? ⟨Bq,0,none⟩=some (.int .u32 q.dest)∧W.cell? ⟨Bq,2,none⟩=some (.int .i64 q.ttl)) (first|with_reducible exact hS|with_reducible assumption) ((go_at_call 122;refine HX.out.mono ?_;rintro e w2 ⟨rfl,g2,n2,u2,t2,y2⟩;have hk2:w2.cell? ⟨Bq,0,none⟩=some (.int .u32 q.dest)∧w2.cell? ⟨Bq,2,none⟩=some (.int .i64 q.ttl):=by obtain⟨B',hB1,hL1⟩:=n2.nn.rs.sr.ln q (by rw[h1.out.2.1];exact hq);rw[y2.out.1,hB]at hB1;cases hB1;exact⟨hL1.cell.1,hL1.cell.2.2.1⟩))
  rename_i iZ;clear iZ hk2 hS HX;have hq2:q∈s1.Q:=by rw[h1.out.2.1];exact hq
  have hB2:g2.h q.dest=some Bq:=by rw[y2.out.1];exact hB
  have HPt:Hid (∀W5,Below w2.heap.size w2 W5->Calls Tryz.prog 123 #[.pointer (some ⟨Bq,0,none⟩)] W5 λe w'=>e=.returned (.int .u64 (80 * (q.ttl+2)* 2 ^ q.ret))∧Below w2.heap.size w2 w'):=by
   intro W5 h5;obtain⟨B',hB1,hL1⟩:=(n2.later h5).nn.rs.sr.ln q hq2;rw[hB2]at hB1;cases hB1;refine(Eb Bq q _ W5 hL1 hok).mono ?_;rintro e w' ⟨rfl,hb⟩;exact⟨rfl,h5.trans (hb.mono h5.size)⟩
  have HW:Hid (∀W5,Below w2.heap.size w2 W5->∀t,t=s.now+80 * (q.ttl+2)* 2 ^ q.ret->Calls Tryz.prog 121 #[.pointer (some ⟨Bq,0,none⟩),.pointer (some ⟨N,0,none⟩),.int .u64 t,.func (.func 124) #[.pointer (some ⟨Bq,0,none⟩)] #[]] W5 λe w'=>e=.returned (.tuple #[])∧w'.cell? ⟨B,0,none⟩=some (.int .u64 s.now)∧AkP N B g s s9 TL (TL++ [(du,s.tl+1,q.dest)]) w1 w'):=by
   rintro W5 h5 _ rfl;refine(Ux (n2.later h5) q hq2 Bq hB2 (s.now+80 * (q.ttl+2)* 2 ^ q.ret) ⟨b1,b2⟩ true hl (by rw[h1.out.2.2];exact htl) (by rw[h1.out.2.2];exact hid)).mono ?_;rintro e w3 ⟨rfl,g3,n3,u3,t3,y3⟩;have e1:({s1 with tl:=s1.tl+1,Q:=St.dh s1.Q {q with due:=s.now+80 * (q.ttl+2)* 2 ^ q.ret,id:=s1.tl+1,out:=true}}:St)=s9:=qV.out;have e2:s9.now=s.now:=by rw[<-e1];exact h1.out.1
   rw[e1]at n3 u3;rw[h1.out.2.2,EH.out]at n3;have c3:=n3.cell.2.2.2.2;rw[e2]at c3;exact⟨rfl,c3,g3,n3,(((Up.below (aV _ _).drew).trans u2).trans (.below h5)).trans u3,t3.out.trans t2.out,y3.out.1.trans y2.out.1,y3.out.2.trans y2.out.2⟩
  have hS:w2.drew.cell? ⟨B,0,none⟩=some (.int .u64 s.now):=by
   have:=n2.drew.cell.2.2.2.2;rw[h1.out.1]at this;exact this
  have HC:Hid (∀W5,Below w2.heap.size w2 W5->W5.cell? ⟨B,0,none⟩=some (.int .u64 s.now)):=by
   intro W5 h5;have:=(n2.later h5).cell.2.2.2.2;rw[h1.out.1]at this;exact this
  generalize hpt:80 * (q.ttl+2)* 2 ^ q.ret=pt at HPt HW b3 b4;replace hpt:=hide hpt;clear n2 u2 t2 y2 h1 qV EH hq2 hB2 hok c0;go_wp2_with fail;go_region_held3 (λW=>W.cell? ⟨B,0,none⟩=some (.int .u64 s.now)) (first|with_reducible exact hS|with_reducible assumption) (first
   |(go_at_call 123;refine(HPt.out _ (by first|exact aV _ _|exact(aV _ _).drew|exact below_drewN (aV _ _) _)).mono ?_;rintro e w5 ⟨rfl,hb5⟩;have hk5:=HC.out w5 hb5)
   |(go_at_call 121;refine(HW.out _ (by first|exact hb5|exact hb5.drew|exact below_drewN hb5 _) _ (by first|rfl|exact mK di (by omega))).mono ?_;rintro e w6 ⟨rfl,YG,hN⟩;replace hN:=hide hN))
  all_goals
   go_wp2;go_returns;exact⟨rfl,hN.out⟩
end Go.Proofs.YtakaadcpaeiccabGreat
