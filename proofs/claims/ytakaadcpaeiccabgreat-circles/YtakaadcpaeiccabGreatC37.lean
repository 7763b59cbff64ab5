import Derived.Test.YtakaadcpaeiccabGreatC35
import Derived.Test.YtakaadcpaeiccabGreatC36
import Derived.Conc.MuLone
import Derived.KernelRfl
set_option maxHeartbeats 4000000
set_option maxRecDepth 100000
namespace Go.Proofs.YtakaadcpaeiccabGreat
structure St.Inv(k:Int)(s:St):Prop where
 me:bg s.me
 seq:bg s.seq
 now:0≤s.now
 mem:∀e∈s.mem,e.dF≤s.now+1280
 dom:s.PX
 cnt:0≤s.cnt∧s.cnt≤24
 tn:s.tn≤10000 * k
 tl:0≤s.tl∧s.tl≤10000 * k
 lk:s.lk=0
 AB:s.pc.length≤5
 y_:s.pc.Pairwise(·≤·)
 za:∀t∈s.pc,t≤s.now
 CW:∀q∈s.Q,q.id≤s.tl
 bd:pW s.a_
 nwl:s.a_.length≤100000
 frl:s.aH.length≤100000
 cml:s.aR.length≤100000
 drl:s.aN.length≤100000
structure St.Mid(k:Int)(j:Nat)(s:St):Prop where
 me:bg s.me
 seq:bg s.seq
 now:0≤s.now∧s.now≤4611686018427387904
 mem:∀e∈s.mem,e.dF≤s.now+1280
 dom:s.PX
 cnt:0≤s.cnt∧s.cnt≤24+10 * j
 a_:s.a_.length≤10 * j
 bd:pW s.a_
 aH:s.aH.length≤10 * j
 aN:s.aN.length≤10 * j
 aR:s.aR.length≤10 * j
 tn:s.tn≤10000 * k+j
 tl:0≤s.tl∧s.tl≤10000 * k+j
 AB:s.pc.length≤5
 y_:s.pc.Pairwise(·≤·)
 za:∀t∈s.pc,t≤s.now
 CW:∀q∈s.Q,q.id≤s.tl
theorem St.Mid.fine {k:Int} {j:Nat} {s:St}(h:s.Mid k j)(hj:j≤50000):s.Px:=
 ⟨h.me,h.seq,h.now,h.mem,by have:=h.aH;omega,by have:=h.aN;omega,by have:=h.aR;omega⟩
theorem MI(s:St)(hA:s.A.length≤8):s.write.a_.length≤s.a_.length+9∧0≤s.write.cnt - s.cnt∧s.write.cnt≤s.cnt+9:=by
 have h:=nT s.seq s.own s.f s.A;refine⟨?_,?_,?_⟩
 ·show(s.a_++_).length≤_;rw [List.length_append];omega
 ·show 0≤s.cnt+_ - s.cnt;omega
 ·show s.cnt+_≤s.cnt+9;omega
theorem vP {k:Int} {j:Nat} {s:St}(h:s.Mid k j)(hA:∀y∈s.A,y.Ok)(hl:s.A.length≤8):s.write.Mid k(j+1):=by
 obtain⟨w1,w2,w3⟩:=MI s hl;have c:=h.cnt;exact⟨h.me,h.seq,h.now,h.mem,Ck h.dom hA h.seq,by omega,by have:=h.a_;omega,Al h.bd(FJ h.seq s.f hA),by have:=h.aH;show s.aH.length≤_;omega,by have:=h.aN;show s.aN.length≤_;omega,by have:=h.aR;show s.aR.length≤_;omega,by have:=h.tn;show s.tn≤_;omega,by have:=h.tl;show 0≤s.tl∧s.tl≤_;omega,h.AB,h.y_,h.za,h.CW⟩
theorem L6 {A:List Rt}(hA:∀y∈A,y.Ok)(now:Int):∀y∈iG A now,y.Ok:=by
 intro y hy;obtain⟨z,hz,rfl⟩:=List.mem_map.1 hy;unfold og;split
 ·exact uV(hA z hz)(by simp [bg])
 ·exact hA z hz
theorem NT {k:Int} {s:St}(h:s.Inv k)(hA:∀y∈s.A,y.Ok)(hl:s.A.length≤8)(now:Int)(hn:s.now≤now∧now≤4611686018427387904):(s.begin now).Mid k 1:=by
 have h0:({s with now:=now,A:=iG s.A now,a_:=[],aH:=[],aR:=[],aN:=[],aZ:=false}:St).Mid k 0:=
  ⟨h.me,h.seq,⟨by have:=h.now;dsimp only;omega,hn.2⟩,fun e he=>by have:=h.mem e he;dsimp only;omega,⟨h.dom.mb,fun d hd=>by
   obtain⟨y,hy,rfl⟩:=h.dom.on d hd;exact⟨og now y,List.mem_map.2⟨y,hy,rfl⟩,gF now y⟩,h.dom.own⟩,by have:=h.cnt;dsimp only;omega,Nat.le_refl _,fun _ h=>(by cases h),Nat.le_refl _,Nat.le_refl _,Nat.le_refl _,by have:=h.tn;dsimp only;omega,by have:=h.tl;dsimp only;omega,h.AB,h.y_,fun t ht=>by have:=h.za t ht;dsimp only;omega,h.CW⟩
 exact vP h0(L6 hA now)(by dsimp only [iG];rw [List.length_map];exact hl)
theorem uF {k:Int} {j i:Nat} {s s':St}(h:s.Mid k j)(e:Eff i s s'):s'.Mid k(j+i):=by
 refine⟨by rw [e.me];exact h.me,e.seq h.seq,by rw [e.now];exact h.now,e.mem h.mem,⟨by rw [e.f];exact h.dom.mb,fun d hd=> ?_,by rw [e.own];exact h.dom.own⟩,by rw [e.cnt];have:=h.cnt;omega,by rw [e.a_];have:=h.a_;omega,by rw [e.a_];exact h.bd,by have:=e.aH;have:=h.aH;omega,by have:=e.aN;have:=h.aN;omega,by have:=e.aR;have:=h.aR;omega,by have:=e.tn;have:=h.tn;omega,by rw [e.tl];have:=h.tl;omega,by rw [e.pc];exact h.AB,by rw [e.pc];exact h.y_,by rw [e.pc,e.now];exact h.za,fun q hq=>by rw [e.tl];exact h.CW q(e.qs q hq)⟩;rw [e.f]at hd;obtain⟨y,hy,rfl⟩:=h.dom.on d hd;obtain⟨z,hz,e⟩:=e.sub y hy;exact⟨z,hz,e⟩
structure afx(s s':St):Prop where
 me:s'.me=s.me
 seq:s'.seq=s.seq
 bZ:s'.bZ=s.bZ
 dz:s'.dz=s.dz
 eF:s'.eF=s.eF
 A:s'.A=s.A
 mem:s'.mem=s.mem
 tn:s'.tn=s.tn
 Q:s'.Q=s.Q
 tl:s'.tl=s.tl
 pc:s'.pc=s.pc
 now:s'.now=s.now
 aH:s'.aH=s.aH
 aR:s'.aR=s.aR
 aN:s'.aN=s.aN
 lk:s'.lk=s.lk
theorem aO(s:St):afx s s.finish:=by
 unfold St.finish;split<;>exact⟨rfl,rfl,rfl,rfl,rfl,rfl,rfl,rfl,rfl,rfl,rfl,rfl,rfl,rfl,rfl,rfl⟩
theorem yj(s:St):s.cmp.length=s.A.length+1:=by
 simp only [St.cmp,dw,fV,List.length_append,List.length_map,List.length_cons,List.length_nil];omega
theorem abf {s:St}(h1:bg s.own)(h2:MB s.f)(hA:∀y∈s.A,y.Ok):pW s.cmp:=by
 intro x hx;simp only [St.cmp,dw,fV,List.mem_append,List.mem_singleton,List.mem_map]at hx;rcases hx with rfl|⟨a,ha,rfl⟩
 ·unfold bg at h1;dsimp only;omega
 ·obtain⟨y,hy,rfl⟩:=ha;have h2':=(hA y hy).dest;have h3:=h2.getD y.dest;unfold bg at h2' h3;dsimp only;omega
theorem zw {k:Int} {j:Nat} {s:St}(h:s.Mid k j)(hj:j≤9000)(hlk:s.lk=0)(hA:∀y∈s.A,y.Ok)(hl:s.A.length≤8):s.finish.Inv(k+1):=by
 have e:=aO s;have hw:=vP h hA hl;have Cc:s.finish.PX:=by
  have:=hw.dom;unfold St.finish;split
  ·exact⟨this.mb,this.on,this.own⟩
  ·exact this
 have hcn:0≤s.finish.cnt∧s.finish.cnt≤24:=by
  unfold St.finish;split
  ·have:=yj s.write;have h8:s.write.A.length≤8:=hl;dsimp only;omega
  ·have:=hw.cnt;omega
 have hbd:pW s.finish.a_∧s.finish.a_.length≤100000:=by
  unfold St.finish;split
  ·have h8:s.write.A.length≤8:=hl;refine⟨abf hw.dom.own hw.dom.mb hA,?_⟩;have:=yj s.write;dsimp only;omega
  ·have:=hw.a_;exact⟨hw.bd,by omega⟩
 exact⟨by rw [e.me];exact h.me,by rw [e.seq];exact h.seq,by rw [e.now];exact h.now.1,by rw [e.mem,e.now];exact h.mem,Cc,hcn,by rw [e.tn];have:=h.tn;omega,by rw [e.tl];have:=h.tl;omega,by rw [e.lk];exact hlk,by rw [e.pc];exact h.AB,by rw [e.pc];exact h.y_,by rw [e.pc,e.now];exact h.za,by rw [e.Q,e.tl];exact h.CW,hbd.1,hbd.2,by rw [e.aH];have:=h.aH;omega,by rw [e.aR];have:=h.aR;omega,by rw [e.aN];have:=h.aN;omega⟩
def dM(s:St)(TL:List Hp.Tm):Prop:=TL.Perm(s.Q.map ko)
theorem GI {Q:List Sr}(hn:Q.Pairwise fun a b=>a.dest≠b.dest) {q:Sr}(hq:q∈Q):Q.Perm(q::Q.filter fun z=>!decide(z.dest=q.dest)):=by
 induction Q with
 |nil=>cases hq
 |cons a Q ih=>
  rw [List.pairwise_cons]at hn;rcases List.mem_cons.1 hq with rfl|h
  ·have h1:Q.filter(fun z=>!decide(z.dest=q.dest))=Q:=List.filter_eq_self.2 fun z hz=>by simpa using(hn.1 z hz).symm
   simp [h1]
  ·have h1:=ih hn.2 h;have h2:a.dest≠q.dest:=hn.1 q h;rw [List.filter_cons_of_pos(by simpa using h2)];exact(h1.cons a).trans(.swap _ _ _)
theorem Zh {d:Int} {s s2:St} {TL dO:List Hp.Tm}(h:X8 d s TL s2 dO)(ht:dM s TL)(hid:TL.Pairwise fun a b=>a.2.1≠b.2.1)(hn:s.Q.Pairwise fun a b=>a.dest≠b.dest):dM s2 dO:=by
 unfold dM at ht ⊢;rcases h with⟨rfl,e⟩|⟨q,hq,htk,e⟩
 ·rw [e];exact ht
 ·obtain⟨hqm,rfl⟩:=iL hq;have hqt:ko q∈TL:=ht.mem_iff.2(List.mem_map.2⟨q,hqm,rfl⟩);rcases htk with⟨x,hx,hp⟩|⟨hno,_⟩
  ·have hxT:x∈TL:=hp.mem_iff.1 List.mem_cons_self;have hxe:x=ko q:=by
    refine Classical.byContradiction fun hne=> ?_;have:∀(L:List Hp.Tm),L.Pairwise(fun a b=>a.2.1≠b.2.1)→x∈L→ko q∈L→False:=by
     intro L
     induction L with
     |nil=>intro _ h;cases h
     |cons a L ih=>
      intro hp h1 h2;rw [List.pairwise_cons]at hp;rcases List.mem_cons.1 h1 with k1|k1
      ·rcases List.mem_cons.1 h2 with k2|k2
       ·exact hne(k1.trans k2.symm)
       ·exact hp.1 _ k2(k1▸hx)
      ·rcases List.mem_cons.1 h2 with k2|k2
       ·exact hp.1 _ k1((k2▸rfl:a.2.1=(ko q).2.1).trans hx.symm)
       ·exact ih hp.2 k1 k2
    exact this TL hid hxT hqt
   subst hxe;rw [e];have h1:=(hp.trans ht).trans((GI hn hqm).map ko);rw [List.map_cons]at h1;exact(List.abL _).1 h1
  ·exact absurd rfl(hno _ hqt)
abbrev ZQ:Go.Conc.Locks.MuLink:={lock:=49,unlock:=50,ilock:=74,iunlock:=75,lockSlow:=109,unlockSlow:=112,disable:=105,enable:=107,acquire:=108,relMerge:=110,cas32:=106,add32:=111,tMutex:=127,tIMutex:=125,tPMutex:=168,tPIMutex:=215,tPI32:=217,tUP:=219,tNoCopy:=123,tU32:=34}
theorem lu:Go.Conc.Locks.MuLib Tryz.prog ZQ:=
 ⟨Tryz.func49,Tryz.func50,Tryz.func74,Tryz.func75,Tryz.func105,Tryz.func107,Tryz.func108,Tryz.func110,Tryz.func106,Tryz.func111,Tryz.underlying125,Tryz.runUnderlying125,Tryz.sizeOf125,Tryz.isAgg125,Tryz.zeroValue125,Tryz.underlying127,Tryz.runUnderlying127,Tryz.sizeOf127,Tryz.isAgg127,Tryz.zeroValue127,Tryz.underlying168,Tryz.runUnderlying168,Tryz.sizeOf168,Tryz.isAgg168,Tryz.zeroValue168,Tryz.underlying215,Tryz.runUnderlying215,Tryz.sizeOf215,Tryz.isAgg215,Tryz.zeroValue215,Tryz.underlying217,Tryz.runUnderlying217,Tryz.sizeOf217,Tryz.isAgg217,Tryz.zeroValue217,Tryz.underlying219,Tryz.runUnderlying219,Tryz.sizeOf219,Tryz.isAgg219,Tryz.zeroValue219,Tryz.underlying123,Tryz.runUnderlying123,Tryz.sizeOf123,Tryz.isAgg123,Tryz.zeroValue123,Tryz.underlying21,Tryz.runUnderlying21,Tryz.sizeOf21,Tryz.isAgg21,Tryz.zeroValue21,(by kernel_rfl)⟩
open Go.RowKit Go.Maps
def VB(W:World)(v:Value)(xs:List Int):Prop:=eH W v xs∧∀b o n c,v=.slice(some⟨b,o,none⟩)n c→∃cs mk,W.heap[b]?=some(.cells cs 5 mk)
theorem VB.at {W W':World} {v:Value} {xs:List Int}(h:VB W v xs)(he:∀b o n c,v=.slice(some⟨b,o,none⟩)n c→W'.heap[b]?=W.heap[b]?):VB W' v xs:=by
 obtain⟨⟨hb,h1⟩,h2⟩:=h;refine⟨⟨hb,?_⟩,fun b o n c hv=> ?_⟩
 ·rcases h1 with h1|⟨b,o,c,rfl,k1,k2,k3⟩
  ·exact .inl h1
  ·refine .inr⟨b,o,c,rfl,k1,k2,fun j x hj=> ?_⟩;have h3:=k3 j x hj;unfold World.cell? at h3 ⊢;rw [show W'.heap[(⟨b,o+j,none⟩:Addr).block]?=W.heap[b]? from he b o _ c rfl];exact h3
 ·rw [he b o n c hv];exact h2 b o n c hv
theorem VB.later {W W':World} {v:Value} {xs:List Int}(h:VB W v xs)(hb:Below W.heap.size W W'):VB W' v xs:=
 h.at fun b o n c hv=>by
  obtain⟨cs,mk,h⟩:=h.2 b o n c hv;exact hb.block b(Array.getElem?_eq_some_iff.1 h).1
theorem Nn.ad3 {N:Nat} {g:bA} {s:St} {TL:List Hp.Tm} {W:World}(n:Nn N g s TL W) {b:Nat} {cs:Array Value} {mk:Nat×Nat}(hc:W.heap[b]?=some(.cells cs 5 mk)):¬Ft N g s b:=by
 rintro((rfl|rfl|hT)|hk)
 ·rw [show W.heap[b]?=_ from n.cr.nd]at hc;cases hc
 ·obtain⟨es,cl,hm⟩:=n.cr.mo.obj;rw [hm]at hc;cases hc
 ·refine n.cr.tb.not(fun e=> ?_)hc⟨fun c e=>(by cases e),fun c e=>(by cases e),fun c e=>(by cases e)⟩hT;obtain⟨D,⟨es,cl,hm,_⟩,_⟩:=n.cr.tb.map;rw [←e,hc]at hm;cases hm
 ·obtain⟨o,ho,⟨_,es,cl,rfl⟩|⟨h,_⟩⟩:=n.rs.kind hk
  ·rw [ho]at hc;cases hc
  ·rw [ho]at hc;cases hc;exact h⟨fun c e=>(by cases e),fun c e=>(by cases e),fun c e=>(by cases e),fun c e=>(by cases e),fun c e=>(by cases e)⟩
theorem Nn.vb {N:Nat} {g:bA} {s:St} {TL:List Hp.Tm} {W W':World}(n:Nn N g s TL W) {v:Value} {xs:List Int}(hr:VB W v xs)(hf:Fx(Ft N g s)W W'):VB W' v xs:=hr.at fun b o m c hv=>by
 obtain⟨cs,mk,hc⟩:=hr.2 b o m c hv;exact hf.block b(aD hc)(n.ad3 hc)
theorem Nn.j_ {N:Nat} {g:bA} {s:St} {TL:List Hp.Tm} {W:World}(n:Nn N g s TL W)(v:Int):Nn N {g with x:={g.x with lk:=v}} {s with lk:=v}TL(W.setCell⟨N,0,none⟩(.int .i32 v))∧W.grownBy(W.setCell⟨N,0,none⟩(.int .i32 v))(some N):=by
 have hg:W.grownBy(W.setCell⟨N,0,none⟩(.int .i32 v))(some N):=aa(aC _(some N))0 _;obtain⟨e1,e2,e3,e4,e5,e6,e7,e8,e9⟩:=n.eq;have hrs:=n.rs.kept(W':=W.setCell⟨N,0,none⟩(.int .i32 v))fun k hk=>hg.block k(n.rs.lt hk)fun e=>n.apart hk(.inl(Option.some.inj e));refine⟨⟨⟨n.cr.nd.j_ v,n.cr.mo.kept hg(by simpa using Ne.symm(Lf n.cr.nd n.cr.mo)),n.cr.tb.Jg(S:=fun k=>k=N)(Fx.grown hg fun k e=>by cases e;rfl) ?_,n.cr.ne⟩,⟨e1,e2,e3,e4,e5,e6,e7,e8,rfl⟩,⟨hrs.sn,hrs.sr,hrs.tm,hrs.hpo,hrs.pm,hrs.pc⟩,n.qA,n.H_⟩,hg⟩;rintro k rfl _;refine⟨fun e=> ?_,_,n.cr.nd,rz g.x⟩;obtain⟨D,⟨es,cl,hm,_⟩,_⟩:=n.cr.tb.map;rw [←e,show W.heap[k]?=_ from n.cr.nd]at hm;cases hm
theorem Nn.ZC {N:Nat} {g:bA} {s:St} {TL:List Hp.Tm} {W:World}(n:Nn N g s TL W)(hT:dM s TL):TL.length≤5000:=by
 rw [hT.fM,List.length_map];exact n.rs.sr.len
theorem ZH {h:List Hp.Tm} {f:Int→Option Nat}(p:PI h f):h.Pairwise fun a b=>a.2.1≠b.2.1:=by
 rw [List.pairwise_iff_getElem];intro i j hi hj hij e;have h1:=p.1 i _(List.getElem?_eq_getElem hi);have h2:=p.1 j _(List.getElem?_eq_getElem hj);rw [e,h2]at h1;have:=Option.some.inj h1;omega
theorem Nn.ids {N:Nat} {g:bA} {s:St} {TL:List Hp.Tm} {W:World}(n:Nn N g s TL W):TL.Pairwise fun a b=>a.2.1≠b.2.1:=by
 obtain⟨f,_,p⟩:=n.rs.tm.map;exact n.rs.pm.pairwise(ZH p)fun h=>Ne.symm h
def St.aQ(s:St):St:={s with lk:=1}
def St.freed(s:St):St:={s with lk:=0}
def St.rcv(s:St)(now fr:Int)(xs:List Int):St:=(s.aQ.receive now fr xs).freed
def St.brk(s:St)(now dX:Int):St:=(s.aQ.broken now dX).freed
def St.snd(s:St)(now d:Int)(t:ByteArray):St:=(s.aQ.sends now d t).freed
def St.j6(s:St)(now:Int):St:=(s.aQ.tick now).freed
def Az(N:Nat)(g:bA)(s s':St)(w:World)(o:Value)(w':World):Prop:=
 ∃g' dO aI bH bI,o=iE s'.aY s'.aZ aI bH bI∧Nn N g' s' dO w'∧dM s' dO∧w'.ownsRow w.heap.size 77 2 aI s'.aH.length(tT s'.aH)∧w'.ownsRow w.heap.size 56 2 bH s'.aR.length(tT s'.aR)∧w'.ownsRow w.heap.size 195 1 bI s'.aN.length(Im s'.aN)∧Fx(Ft N g s)w w'∧∀k,Ft N g' s' k→Ft N g s k∨(w.heap.size≤k∧k<w'.heap.size)
theorem Nn.Ib {N:Nat} {g:bA} {s:St} {TL:List Hp.Tm} {W:World}(n:Nn N g s TL W):W.cell?⟨N,0,none⟩=some(.int .i32 s.lk)∧W.frozen?⟨N,0,none⟩=false:=by
 have h:=n.cr.nd.cell.1;rw [n.eq.lk]at h;exact⟨h,n.cr.nd.free 0⟩
theorem D5(s:St):s.freed.finish=s.finish.freed:=by
 unfold St.finish;have e:s.freed.write=s.write.freed:=rfl;rw [e];show(if s.write.cnt>24 then _ else _)=_;split<;>rfl
theorem lV {k:Int} {j:Nat} {s:St}(h:s.Mid k j)(hj:j≤9000)(hA:∀y∈s.A,y.Ok)(hl:s.A.length≤8):s.finish.freed.Inv(k+1):=by
 have h':s.freed.Mid k j:=⟨h.me,h.seq,h.now,h.mem,⟨h.dom.mb,h.dom.on,h.dom.own⟩,h.cnt,h.a_,h.bd,h.aH,h.aN,h.aR,h.tn,h.tl,h.AB,h.y_,h.za,h.CW⟩;rw [←D5];exact zw h' hj rfl hA hl
theorem qB {k:Int} {s:St}(h:s.Inv k):s.aQ.me=s.me∧∀now,s.now≤now∧now≤4611686018427387904→(∀y∈s.A,y.Ok)→s.A.length≤8→(s.aQ.begin now).Mid k 1:=by
 refine⟨rfl,fun now hn hA hl=> ?_⟩;have h1:=NT h hA hl now hn;exact⟨h1.me,h1.seq,h1.now,h1.mem,⟨h1.dom.mb,h1.dom.on,h1.dom.own⟩,h1.cnt,h1.a_,h1.bd,h1.aH,h1.aN,h1.aR,h1.tn,h1.tl,h1.AB,h1.y_,h1.za,h1.CW⟩
theorem Vi {r:List Int}(hb:∀x∈r,0≤x∧x≤255)(k:Nat):bg(num r k):=by
 have:=K6 hb k;unfold bg;omega
theorem Ni {x0 x1 x2 x4:Int} {r:List Int}(hb:∀x∈r,0≤x∧x≤255):bg(fU x0 x1 x2 x4 r).aW:=by
 have h:=Vi hb;unfold fU;split
 ·exact h 2
 split
 ·exact h 1
 split
 ·simp [bg]
 split
 ·simp [bg]
 ·simp [bg]
theorem zT(s:St)(fr:Int)(xs:List Int)(hb:∀x∈xs,0≤x∧x≤255)(h:∀q∈s.Q,q.txt.length≤4):Eff 5 s(s.hear fr xs):=by
 unfold St.hear;split
 ·exact(fH _ _).mono(by omega)
 ·exact GL _ _ _ _(Ni fun x hx=>hb x(List.mem_of_mem_drop hx))h
theorem abx {N B:Nat} {g:bA} {s:St} {TL:List Hp.Tm} {w:World}(n:Nd N B g s TL w)(now:Int)(h0:0≤now∧now≤4611686018427387904)(hl:TL.length≤1000000):
  Calls Tryz.prog 114 #[.pointer(some⟨g.x.Tm,0,none⟩),.int .u64 now]w fun e w'=>∃h' v' dO d b,e=.returned(.tuple #[.int .i64 d,.bool b])∧Nd N B {g with hp:=h',tv:=v'}s dO w'∧Up B(Ft N g s)(Ft N {g with hp:=h',tv:=v'}s)w w'∧((b=true∧∃x,x.2.2=d∧x.1≤now∧(∀y∈TL,Hp.Le x y)∧(x::dO).Perm TL)∨(b=false∧(∀y∈TL,now<y.1)∧dO=TL)):=by
 have hr:=n.nn.rs;refine(Ul 0 g.x.Tm g.Mt s.tl g.hp g.tv w hr.tm(by rw [hr.pm.fM];exact hl)hr.hpo now h0.1(by omega)).mono ?_;rintro e w'⟨h',v',h1,h2,h3,h4,h5⟩;have hnd:=n.nn.qA;simp only [List.nodup_cons,List.mem_cons,List.not_mem_nil,or_false,not_or]at hnd;obtain⟨_,_,⟨d1,d2⟩,d3,_⟩:=hnd;have hin:∀k,k=g.x.Tm∨k=g.Mt∨g.tv.ownBlock=some k→jF g.x g.h g.u g.Mt g.tv s k:=fun k hk=> .inr(.inr(hk.elim .inl fun h=> .inr(h.elim .inl fun h=> .inr(.inl h))));have hf:Fx(fun k=>k=g.x.Tm∨k=g.Mt∨g.tv.ownBlock=some k)w w':=⟨h2.os,h2.tape,h2.output,h2.size,fun k hk hn=>h2.block k hk(fun e=>hn(.inl e))(fun e=>hn(.inr(.inl e)))(fun e=>hn(.inr(.inr e.symm)))⟩;have hne:∀ {k:Nat} {o:Obj},w.heap[k]?=some o→k≠g.Mt→(∀c,o≠ .cells c 165(0,0))→(∀c,o≠ .cells c 254(0,0))→w'.heap[k]?=w.heap[k]?:=by
  intro k o ho hk c1 c2;refine hf.block k(aD ho) ?_;rintro(rfl|h|h)
  ·rw [show w.heap[g.x.Tm]?=_ from hr.tm.blk]at ho;exact c1 _(Option.some.inj ho).symm
  ·exact hk h
  ·obtain⟨c,hc⟩:=aP hr.tm.row h;rw [hc]at ho;exact c2 _(Option.some.inj ho).symm
 have hN:w'.heap[N]?=w.heap[N]?:=hne(n.nn.cr.nd)(fun e=>by
  obtain⟨f,p1,_⟩:=hr.tm.map;obtain⟨es,cl,hm⟩:=p1.obj;rw [←e,show w.heap[N]?=_ from n.nn.cr.nd]at hm;cases hm)(fun c e=>by cases e)(fun c e=>by cases e)
 have hS:wG g.x.qf g.h g.u s.Q w':=hr.sr.kept fun k hk=>by
  obtain⟨o,ho,⟨rfl,_,_,rfl⟩|⟨c,rfl⟩|⟨c,rfl⟩⟩:=hr.sr.kind hk
  ·exact hne ho d3(fun c e=>by cases e)(fun c e=>by cases e)
  ·refine hne ho ?_(fun c e=>by cases e)(fun c e=>by cases e);rintro rfl;obtain⟨f,p1,_⟩:=hr.tm.map;obtain⟨es,cl,hm⟩:=p1.obj;rw [hm]at ho;cases ho
  ·refine hne ho ?_(fun c e=>by cases e)(fun c e=>by cases e);rintro rfl;obtain⟨f,p1,_⟩:=hr.tm.map;obtain⟨es,cl,hm⟩:=p1.obj;rw [hm]at ho;cases ho
 have hM:wI g.x.Ms s.tn s.mem w':=hr.sn.block(by
  obtain⟨es,cl,hm⟩:=hr.sn.obj;exact hne hm d2(fun c e=>by cases e)(fun c e=>by cases e))
 have hP:=bD(W':=w')hr.pc fun k hk=>(by
  obtain⟨c,hc⟩:=aP hr.pc hk;refine hne hc ?_(fun c e=>by cases e)(fun c e=>by cases e);rintro rfl;obtain⟨f,p1,_⟩:=hr.tm.map;obtain⟨es,cl,hm⟩:=p1.obj;rw [hm]at hc;cases hc)
 obtain⟨p,u⟩:=n.rest(s':=s)(dO:=h')(n.nn.cr.nd.block hN)rfl rfl n.nn.eq(h':=g.h)(u':=g.u)(Et:=g.Mt)(hp':=h')(tv':=v')
  ⟨hM,hS,h1,h4,.refl _,hP⟩(hf.mono fun k hk=> .inr(hin k hk))(fun k hk=> .inl(by unfold jF at hk ⊢;rw [h3]at hk;exact hk))⟨rfl,rfl,rfl⟩⟨rfl,rfl,rfl,rfl,rfl,rfl,rfl,rfl,rfl⟩
 rcases h5 with⟨x0,x1,rfl,hpm⟩|⟨hno,rfl,rfl⟩
 ·refine⟨h',v',h',_,true,rfl,p,u,.inl⟨rfl,_,rfl,x1,fun y hy=> ?_,hpm.trans hr.pm⟩⟩;obtain⟨j,hj,e⟩:=List.getElem_of_mem(hr.pm.mem_iff.2 hy);have:=hr.hpo.least j hj;rw [Hp.rD(List.getElem?_eq_getElem hj),e]at this;exact this
 ·obtain⟨p2,u2⟩:=n.rest(s':=s)(dO:=TL)(n.nn.cr.nd.block hN)rfl rfl n.nn.eq(h':=g.h)(u':=g.u)(Et:=g.Mt)(hp':=g.hp)(tv':=v')
   ⟨hM,hS,h1,h4,hr.pm,hP⟩(hf.mono fun k hk=> .inr(hin k hk))(fun k hk=> .inl(by unfold jF at hk ⊢;rw [h3]at hk;exact hk))⟨rfl,rfl,rfl⟩⟨rfl,rfl,rfl,rfl,rfl,rfl,rfl,rfl,rfl⟩
  refine⟨g.hp,v',TL,0,false,rfl,p2,u2,.inr⟨rfl,fun y hy=> ?_,rfl⟩⟩;have hy':=hr.pm.mem_iff.2 hy;obtain⟨j,hj,e⟩:=List.getElem_of_mem hy';have hl:=hr.hpo.least j hj;rw [Hp.rD(List.getElem?_eq_getElem hj),e,Hp.Le.iff]at hl;rcases hno with h|h
  ·omega
  ·omega
theorem Nd.ZN {N B:Nat} {g:bA} {s:St} {TL:List Hp.Tm} {W:World}(n:Nd N B g s TL W) {b:Nat} {cs:Array Value}(hc:W.heap[b]?=some(.cells cs 172(0,0))):¬Ft N g s b∧¬iW B g.a b:=by
 refine⟨fun h=> ?_,fun h=>n.ac.kinds h hc⟨fun c e=>(by cases e),fun c e=>(by cases e),fun c e=>(by cases e),fun c e=>(by cases e),fun c e=>(by cases e)⟩⟩;rcases h with(rfl|rfl|hT)|hk
 ·rw [show W.heap[b]?=_ from n.nn.cr.nd]at hc;cases hc
 ·obtain⟨es,cl,hm⟩:=n.nn.cr.mo.obj;rw [hm]at hc;cases hc
 ·refine n.nn.cr.tb.not(fun e=> ?_)hc⟨fun c e=>(by cases e),fun c e=>(by cases e),fun c e=>(by cases e)⟩hT;obtain⟨D,⟨es,cl,hm,_⟩,_⟩:=n.nn.cr.tb.map;rw [←e,hc]at hm;cases hm
 ·obtain⟨o,ho,⟨_,es,cl,rfl⟩|⟨h,_⟩⟩:=n.nn.rs.kind hk
  ·rw [ho]at hc;cases hc
  ·rw [ho]at hc;cases hc;exact h⟨fun c e=>(by cases e),fun c e=>(by cases e),fun c e=>(by cases e),fun c e=>(by cases e),fun c e=>(by cases e)⟩
end Go.Proofs.YtakaadcpaeiccabGreat
namespace Go.Proofs.YtakaadcpaeiccabGreat.U8
open Go.Sort
def UC(d:Array Int):List Value:=d.toList.map(Value.int .u64)
theorem JV {d:Array Int} {j:Nat}(hj:j<d.size):(UC d)[j]?=some(.int .u64 d[j]!):=by
 simp [UC,hj]
theorem wE(d:Array Int)(j:Nat)(x:Int):(UC d).set j(.int .u64 x)=UC(d.setIfInBounds j x):=by
 simp [UC,List.map_set]
structure SR(base g cap n:Nat)(d:Array Int)(W:World):Prop where
 size:d.size=n
 row:W.ownsRow base 35 1(.slice(some⟨g,0,none⟩)n cap)n(UC d)
theorem SR.cell {base g cap n:Nat} {d:Array Int} {W:World}(h:SR base g cap n d W) {j:Nat}(hj:j<n):W.cell?⟨g,j,none⟩=some(.int .u64 d[j]!):=
 (h.row.cellAt j(by omega)).trans(JV(by rw [h.size];exact hj))
theorem SR.free {base g cap n:Nat} {d:Array Int} {W:World}(h:SR base g cap n d W)(j:Nat):W.frozen?⟨g,j,none⟩=false:=h.row.frozenAt j
theorem SR.drewN {base g cap n:Nat} {d:Array Int} {W:World}(h:SR base g cap n d W)(q:Nat):SR base g cap n d(W.drewN q):=
 ⟨h.size,h.row.kept(row:=none)⟨rfl,rfl,rfl,Nat.le_refl _,fun _ _ _=>rfl⟩(.inr(by simp [Value.ownBlock]))⟩
theorem SR.swap {base g cap n:Nat} {d:Array Int} {W:World}(h:SR base g cap n d W)(i j:Nat):
  SR base g cap n(swp d i j)((W.setCell⟨g,i,none⟩(.int .u64 d[j]!)).setCell⟨g,j,none⟩(.int .u64 d[i]!)):=by
 have h1:=(h.row.stored i(.int .u64 d[j]!)).1;have h2:=(h1.stored j(.int .u64 d[i]!)).1;rw [wE,wE]at h2;exact⟨by rw [swp_size];exact h.size,h2⟩
theorem vS(x:Int)(w:World):Calls Tryz.prog 221 #[.int .u64 x]w fun e w'=>e=.returned(.bool false)∧w'=w:=by
 go_enter Tryz.func221,Tryz.ntmps221
 go_wp2
 go_ret
 exact⟨by simp,rfl⟩
theorem vw(x y:Int)(w:World):Calls Tryz.prog 211 #[.int .u64 x,.int .u64 y]w fun e w'=>e=.returned(.bool(ltInt x y))∧w'=w:=by
 go_enter Tryz.func211,Tryz.ntmps211
 go_wp2_with(go_at_call 221;refine(vS _ _).mono ?_;rintro e w'⟨rfl,rfl⟩)
 go_ret
 exact⟨rfl,rfl⟩
theorem nC(base g cap n a b:Nat)(d:Array Int)(w:World)(h:SR base g cap n d w)(hab:a≤b)(hb:b≤n)(hn:n≤1000000):
  Calls Tryz.prog 205 #[.slice(some⟨g,0,none⟩)n cap,.int .i64 a,.int .i64 b]w fun e w'=>e=.returned(.tuple #[])∧SR base g cap n(insertionSort ltInt d a b)w'∧w.grownBy w'(some g):=by
 go_enter Tryz.func205,Tryz.ntmps205
 go_wp2_with fail
 go_loopw [6](fun vi wr=>∃(i:Nat)(dk:Array Int),vi=.int .i64 i∧a<i∧i≤b+1∧SR base g cap n dk wr∧w.grownBy wr(some g)∧insOuter ltInt a b i dk=insertionSort ltInt d a b)(fun vi _=>b+1 - (intOf vi).toNat)
 case atStart=>exact⟨a+1,d,by go_num,by omega,by omega,h,mV _ _,rfl⟩
 case round=>
  clear h;obtain⟨i,dk,rfl,hai,hib,h,hg,hO⟩:=hrel;have HO:=(show Hid _ from hO);clear hO;by_cases hlt:i<b
  ·have hix:(i:Int)<(b:Int):=by omega
   go_wp2_with fail
   go_loopw [7](fun vj wr2=>∃(j:Nat)(dj:Array Int),vj=.int .i64 j∧a≤j∧j≤i∧SR base g cap n dj wr2∧w.grownBy wr2(some g)∧insInner ltInt a j dj=insInner ltInt a i dk)(fun vj _=>(intOf vj).toNat)
   case atStart=>exact⟨i,dk,rfl,by omega,Nat.le_refl _,h,hg,rfl⟩
   case round=>
    clear h hg;obtain⟨j,dj,rfl,haj,hji,h,hg,hI⟩:=hrel;have hjn:(j:Int)<(n:Int):=by omega
    have aeM:(j:Int) - 1<(n:Int):=by omega
    by_cases hja:a<j
    ·have hjp:(1:Int)≤(j:Int):=by omega
     have c0:=h.cell(j:=j)(by omega);have c1:=h.cell(j:=j - 1)(by omega);have f0:=h.free j;have f1:=h.free(j - 1);have hq:(j:Int) - 1=((j - 1:Nat):Int):=by omega
     have hs:=h.swap j(j - 1);have hgs:=fun u v=>pz wr g j(j - 1)u v;have hgo:=Bp a j dj hja;have hst:=mJ a j dj;generalize hX:dj[j]! =X at c0 hs hgo hst;generalize hY:dj[j - 1]! =Y at c1 hs hgo hst;have hJn:((j - 1:Nat):Int)<(n:Int):=by omega
     have hj0:(0:Int)≤(j:Int) - 1:=by omega
     generalize hJ:j - 1=J at c1 f1 hq hs hgs hgo hst hJn;have HJ:=(show Hid _ from hJ);have HI:=(show Hid _ from hI);have HS:=(show Hid _ from hst);clear hJ hI hst;have hdj:decide(a<j)=true:=decide_eq_true hja;go_wp2_with fail
     go_quiet(first|(go_at_call 211;refine Calls.quiet_of_same(vw _ _ _)))
     cases hl:ltInt X Y
     ·go_wp2
      go_roundw
      case rel=>exact⟨i+1,dj,by go_num,by omega,by omega,h.drewN _,hg.trans(nY _ _ _),by rw [←HO.out,qY _ _ _ _ hlt,←HI.out,HS.out(.inr hl)]⟩
      case measure=>simp [intOf];omega
     ·have hs':=(h.drewN(nq+1)).swap j J;have hg':=hg.trans((nY wr(nq+1)(some g)).trans(pz _ g j J(.int .u64 dj[J]!)(.int .u64 dj[j]!)));rw [hX,←HJ.out,hY,HJ.out]at hs' hg';have hJj:J+1=j:=by have:=HJ.out;omega
      clear hX hY;go_wp2_with fail
      go_region
      all_goals go_wp2
      go_roundw
      case rel=>exact⟨J,swp dj j J,rfl,by omega,by omega,hs',hg',by rw [←HI.out,hgo hl]⟩
      case measure=>simp [intOf];omega
    ·have hdj:decide(a<j)=false:=decide_eq_false hja;have hst:=mJ a j dj(.inl(by omega));go_wp2_with fail
     go_quiet(fail)
     go_wp2
     go_roundw
     case rel=>exact⟨i+1,dj,by go_num,by omega,by omega,h.drewN _,hg.trans(nY _ _ _),by rw [←HO.out,qY _ _ _ _ hlt,←hI,hst]⟩
     case measure=>simp [intOf];omega
  ·have hend:insOuter ltInt a b i dk=dk:=wM a b i dk hlt;rw [HO.out]at hend;rw [←hend]at h;go_wp2
   go_returns
   exact⟨rfl,h,hg⟩
def PQ(base g cap n a b:Nat)(d:Array Int)(w:World)(e:Ending)(w':World):Prop:=
 e=.returned(.tuple #[])∧∃d',SR base g cap n d' w'∧PermIn a b d d'∧SortedIn ltInt a b d'∧w.grownBy w'(some g)
theorem Da(base g cap n r:Nat)(d:Array Int)(w:World)(h:SR base g cap n d w)(hn:n≤12):
  Calls Tryz.prog 195 #[.slice(some⟨g,0,none⟩)n cap,.int .i64 0,.int .i64 n,.int .i64 r]w(PQ base g cap n 0 n d w):=by
 have aeS:decide((n:Int)≤12)=true:=decide_eq_true(by omega);have acQ:decide(n≤12)=true:=decide_eq_true hn;obtain⟨i1,i2⟩:=insertionSort_holds swo_ltInt d 0 n(Nat.zero_le _)(by rw [h.size];exact Nat.le_refl _);go_enter Tryz.func195,Tryz.ntmps195
 go_wp2_with fail
 go_loopw [1,2](fun va vb wr=>va=.int .i64 0∧vb=.int .i64 n∧SR base g cap n d wr∧w.grownBy wr(some g))(fun _ _ _=>0)
 case atStart=>exact⟨rfl,rfl,h,mV _ _⟩
 case round=>
  obtain⟨rfl,rfl,h1,hg⟩:=hrel;have hcall:=(show Hid _ from nC base g cap n 0 n d _ h1(Nat.zero_le _)(Nat.le_refl _)(by omega));clear h h1;go_wp2_with fail
  refine Calls.mono hcall.out ?_;rintro e W2⟨rfl,h2,hg2⟩;clear hcall;go_wp2
  go_returns
  exact⟨rfl,_,h2,i1,i2,hg.trans hg2⟩
theorem uq(base g cap n:Nat)(d:Array Int)(w:World)(h:SR base g cap n d w)(hn:n≤12):
  Calls Tryz.prog 177 #[.slice(some⟨g,0,none⟩)n cap]w(PQ base g cap n 0 n d w):=by
 go_enter Tryz.func177,Tryz.ntmps177
 go_wp2_with fail
 refine(Dw n(by omega)_).mono ?_;rintro e w1⟨r,rfl,hr,_,rfl⟩;have HP:=(show Hid _ from Da base g cap n r d _ h hn);go_wp2_with fail
 refine Calls.mono HP.out ?_;rintro e w2⟨rfl,d',h',hp,hs,hg⟩;clear HP;go_wp2
 go_returns
 exact⟨rfl,d',h',hp,hs,hg⟩
end Go.Proofs.YtakaadcpaeiccabGreat.U8
