import Derived.Test.YtakaadcpaeiccabGreatC16
set_option maxHeartbeats 2000000
set_option maxRecDepth 100000
namespace Go.Proofs.YtakaadcpaeiccabGreat
structure Mm where
 fr:Int
 id:Int
 dF:Int
 iJ:Int
def Mm.key(e:Mm):Int×Int:=(e.fr,e.id)
def oN(E:List Mm)(q:Int×Int)(now:Int):Bool:=E.any fun e=>decide(e.key=q)&&decide(now<e.dF)
def dU(E:List Mm)(q:Int×Int)(dF iJ:Int):List Mm:=E.filter(fun e=>!decide(e.key=q))++ [⟨q.1,q.2,dF,iJ⟩]
def dR(E:List Mm)(q:Int×Int)(dF iJ:Int):List Mm:=if 16<(dU E q dF iJ).length then(dU E q dF iJ).tail else dU E q dF iJ
structure Sr where
 dest:Int
 txt:List ByteArray
 aS:Int
 ret:Nat
 due:Int
 id:Int
 out:Bool
structure St where
 me:Int
 seq:Int
 bZ:Int
 dz:Int
 eF:Int
 A:List Rt
 mem:List Mm
 tn:Int
 f:Int→Option Int
 own:Int
 cnt:Int
 Q:List Sr
 tl:Int
 pc:List Int
 now:Int
 a_:List(Bool×Int×Int)
 aH:List(Int×ByteArray)
 aR:List(Int×ByteArray)
 aN:List Int
 aZ:Bool
 lk:Int
namespace St
def write(s:St):St:={s with f:=(bE s.seq s.own s.f s.A).1,own:=Dp s.seq s.own,cnt:=s.cnt+(bE s.seq s.own s.f s.A).2.length,a_:=s.a_++(bE s.seq s.own s.f s.A).2}
def drop(s:St)(r:Int):St:={s with aN:=s.aN++ [r]}
def send(s:St)(t:Int)(p:ah)(L:List(Int×Int)):St:={s with aH:=s.aH++ [(t,strOfNums(mF p L))]}
def mi(s:St)(t:Int)(L:List(Int×Int)):St:={s with aH:=s.aH++PK t L}
def kN(s:St)(t d:Int):St:=s.mi t [(d,dY s.A d)]
def begin(s:St)(now:Int):St:={s with now:=now,A:=iG s.A now,a_:=[],aH:=[],aR:=[],aN:=[],aZ:=false}.write
def cmp(s:St):List(Bool×Int×Int):=dw(some s.own)++fV s.f(s.A.map(·.dest))
def finish(s:St):St:=
 if s.write.cnt>24 then {s.write with a_:=s.write.cmp,cnt:=s.write.cmp.length,aZ:=true}else s.write
def aY(s:St):ByteArray:=strOfNums(bn s.a_)
def far(h:Int):Int:=min(h+1)255
def answer(s:St)(p:ah):St:=
 if(bF s.A p.aI s.now).2 then s.send(bF s.A p.aI s.now).1.next {p with aS:=8,kind:=2} []else s.drop 3
def sZ(hops d q fm life:Int):ah:=⟨0,0,hops,false,0,d,q,fm,0,life,none,0,0,⟨#[]⟩⟩
def iH(s:St)(p:ah):St:={s with seq:=max s.seq p.aW}.answer(sZ 0 s.me(max s.seq p.aW)p.aI 6000)
def gT(s:St)(p:ah)(r:Rt):St:=
 {s with A:=kX(if(bF s.A p.aI s.now).2 then kX s.A p.dest(bF s.A p.aI s.now).1.next else s.A)p.aI r.next}.answer(sZ r.hops p.dest r.seq p.aI((r.exp - s.now)%4294967296))
def askOn(s:St)(p:ah):St:=
 s.send 0 {p with aS:=p.aS - 1,hops:=far p.hops,aW:=if(aJ s.A p.dest).isSome then max p.aW(dY s.A p.dest)else p.aW,iK:=if(aJ s.A p.dest).isSome then false else p.iK} []
def asked(s:St)(p:ah):St:=
 if p.dest=s.me then s.iH p
 else if(bF s.A p.dest s.now).2&&(p.iK||decide((bF s.A p.dest s.now).1.seq≥p.aW))then s.gT p(bF s.A p.dest s.now).1
 else if p.aS=1 then s.drop 4 else s.askOn p
def learn(s:St)(fr:Int)(p:ah):St:=
 if(iD s.me s.A p.aI p.dm(far p.hops)fr(s.now+3000)).2=4 then {s with A:=(iD s.me s.A p.aI p.dm(far p.hops)fr(s.now+3000)).1}.drop 2
 else if(iD s.me s.A p.aI p.dm(far p.hops)fr(s.now+3000)).2=3 then {s with A:=iy(iD s.me s.A p.aI p.dm(far p.hops)fr(s.now+3000)).1 p.aI(s.now+3000)}.asked p
 else {s with A:=(iD s.me s.A p.aI p.dm(far p.hops)fr(s.now+3000)).1}.asked p
def dE(s:St)(fr:Int)(p:ah):St:=
 if p.aI=s.me∨oN s.mem(p.aI,p.id)s.now then s.drop 1
 else {s with mem:=dR s.mem(p.aI,p.id)(s.now+1280)s.tn,tn:=s.tn+1}.learn fr p
def Ed(i d me:Int)(t:ByteArray):ah:=⟨8,9,0,false,i,d,0,me,0,0,none,0,0,t⟩
def aX(s:St)(d:Int)(t:ByteArray):St:=
 if(bF s.A d s.now).2 then {s with eF:=(s.eF+1)%4294967296,A:=iy s.A d(s.now+3000)}.send(bF s.A d s.now).1.next(Ed((s.eF+1)%4294967296)d s.me t) []
 else s
def jD(Q:List Sr)(d:Int):Option Sr:=Q.find? fun q=>decide(q.dest=d)
def bP(s:St)(d:Int):St:=
 match jD s.Q d with
 |none=>s
 |some q=>if(bF s.A d s.now).2 then {q.txt.foldl(fun s t=>s.aX d t)s with Q:=s.Q.filter fun z=>!decide(z.dest=d)}else s
def il(s:St)(fr:Int)(p:ah):St:=
 if(bF s.A p.aI s.now).2 then
  {s with A:=iy(kX(kX s.A p.dest(bF s.A p.aI s.now).1.next)p.aI fr)p.aI(s.now+3000)}.send(bF s.A p.aI s.now).1.next {p with aS:=p.aS - 1,hops:=far p.hops} []
 else s.drop 3
def eT(s:St)(fr:Int)(p:ah):St:=
 if p.dest=s.me then s.drop 1
 else
  let u:=iD s.me s.A p.dest p.aW(far p.hops)fr(s.now+p.life)
  let s:={s with A:=u.1}
  if u.2=4 then s.drop 2
  else if p.aI=s.me then(if u.2=3 then(s.bP p.dest).drop 7 else s.bP p.dest)
  else if p.aS=1 then s.drop 4
  else s.il fr p
def FU(fr:Int)(z:List Rt×Bool×List(Int×Int))(l:Int×Int):List Rt×Bool×List(Int×Int):=
 if l9 z.1 fr l.1 then(gm z.1 fr l.1 l.2,true,if((aJ z.1 l.1).any fun y=>decide(0<y.bB.length))then z.2.2++ [(l.1,dY(gm z.1 fr l.1 l.2)l.1)]else z.2.2)else z
def gD(s:St)(fr:Int)(L:List(Int×Int)):St:=
 let z:=L.foldl(FU fr)(s.A,false,[])
 let s:={s with A:=z.1}
 (if z.2.1 then s else s.drop 7).mi 0 z.2.2
def pQ(y:Rt):Rt:={y with seq:=gr y.seq}
def fu(s:St)(fr:Int)(p:ah):St:=
 if p.dest=s.me then {s with aR:=s.aR++ [(p.aI,p.pay)]}
 else if p.aS=1 then s.drop 4
 else if(bF s.A p.dest s.now).2 then {s with A:=iy(iy s.A p.dest(s.now+3000))p.aI(s.now+3000)}.send(bF s.A p.dest s.now).1.next {p with aS:=p.aS - 1} []
 else {s.drop 3 with A:=gI s.A p.dest pQ}.kN fr p.dest
def ed(s:St)(fr:Int)(p:ah):St:=
 if p.kind=9∧p.dest≠s.me then {(s.drop 8).kN fr p.dest with bZ:=s.now+2000}else s.drop 8
def gu(s:St)(fr:Int)(p:ah)(L:List(Int×Int)):St:=
 if s.now<s.bZ then s.ed fr p
 else if p.kind=1 then s.dE fr p
 else if p.kind=2 then s.eT fr p
 else if p.kind=3 then s.gD fr L
 else s.fu fr p
def hear(s:St)(fr:Int)(xs:List Int):St:=
 if uM xs=false∨fr=0∨fr=s.me then s.drop 0
 else s.gu fr(fU(xs.getD 0 0)(xs.getD 1 0)(xs.getD 2 0)(xs.getD 4 0)(xs.drop 5))(jX(xs.getD 1 0)(xs.getD 4 0)(xs.drop 5))
def receive(s:St)(now fr:Int)(xs:List Int):St:=((s.begin now).hear fr xs).finish
def broken(s:St)(now dX:Int):St:=
 let s:=s.begin now
 ({s with A:=s.A.map(bY dX 0)}.mi 0(nG dX s.A)).finish
def full(pc:List Int)(now:Int):Bool:=decide(pc.length=5)&&(decide(now<1000)||decide(pc.getD 0 0>now - 1000))
def dH(pc:List Int)(now:Int):List Int:=(if pc.length=5 then pc.tail else pc)++ [now]
def Fb(aS:Int)(iK:Bool)(i d q me sq:Int):ah:=⟨aS,1,0,iK,i,d,q,me,sq,0,none,0,0,⟨#[]⟩⟩
def kM(s:St)(d aS:Int):St:=
 let s1:={s with seq:=gr s.seq,dz:=(s.dz+1)%4294967296}.write
 {s1 with pc:=dH s1.pc s1.now,mem:=dR s1.mem(s1.me,s1.dz)(s1.now+1280)s1.tn,tn:=s1.tn+1}.send 0(Fb aS(!(aJ s1.A d).isSome)s1.dz d(dY s1.A d)s1.me s1.seq) []
def di(Q:List Sr)(q:Sr):List Sr:=Q.map fun z=>if z.dest=q.dest then q else z
def ask(s:St)(q:Sr):St:=
 if full s.pc s.now then let s:=s.drop 9;{s with tl:=s.tl+1,Q:=di s.Q {q with due:=s.now+1000,id:=s.tl+1,out:=false}}
 else if s.now<s.bZ then let s:=s.drop 8;{s with tl:=s.tl+1,Q:=di s.Q {q with due:=s.now+1000,id:=s.tl+1,out:=false}}
 else let s:=s.kM q.dest q.aS;{s with tl:=s.tl+1,Q:=di s.Q {q with due:=s.now+80 * (q.aS+2)* 2 ^ q.ret,id:=s.tl+1,out:=true}}
def iA(d:Int)(t:ByteArray):Sr:=⟨d,[t],1,0,0,0,false⟩
def hold(s:St)(q:Sr)(t:ByteArray):St×Sr:=
 if q.txt.length=4 then(s.drop 6,{q with txt:=q.txt.tail++ [t]})else(s,{q with txt:=q.txt++ [t]})
def gG(s:St)(d:Int)(t:ByteArray):St:=
 match jD s.Q d with
 |some q=> {(s.hold q t).1 with Q:=di s.Q(s.hold q t).2}
 |none=> {s with Q:=s.Q++ [iA d t]}.ask(iA d t)
def sends(s:St)(now d:Int)(t:ByteArray):St:=
 let s:=s.begin now
 (if(bF s.A d s.now).2 then s.aX d t else s.gG d t).finish
def XH(s:St)(d:Int):St:={s with Q:=s.Q.filter fun z=>!decide(z.dest=d)}
def widen(s:St)(q:Sr):St:=
 if q.aS+2≤5 then s.ask {q with aS:=q.aS+2}
 else if q.aS<8 then s.ask {q with aS:=8}
 else if q.ret<2 then s.ask {q with ret:=q.ret+1}
 else {s with aN:=s.aN++List.replicate q.txt.length 5}.XH q.dest
def step(s:St)(q:Sr):St:=
 if(bF s.A q.dest s.now).2 then s.bP q.dest
 else if q.out then s.widen q else s.ask q
def NF(a b:Sr):Bool:=decide(a.due<b.due)||(decide(a.due=b.due)&&decide(a.id≤b.id))
def j3(Q:List Sr)(now:Int):List Sr:=(Q.filter fun q=>decide(q.due≤now)).mergeSort NF
def tick(s:St)(now:Int):St:=
 let s:=s.begin now
 ((j3 s.Q now).foldl step s).finish
end St
open Go.RowKit Go.Maps
structure wI(Ms:Nat)(tn:Int)(E:List Mm)(W:World):Prop where
 map:∃g,kL W Ms g E.length∧(∀e∈E,g e.key=some(e.dF,e.iJ))∧∀k m,vC k→g k=some m→∃e∈E,e.key=k∧m=(e.dF,e.iJ)
 ok:∀e∈E,vC e.key∧0≤e.dF∧0≤e.iJ∧e.iJ<tn
 wC:E.Pairwise fun a b=>a.dF≤b.dF∧a.iJ<b.iJ∧a.key≠b.key
 len:E.length≤16
 tn0:0≤tn
theorem wI.block {Ms:Nat} {tn:Int} {E:List Mm} {W W':World}(h:wI Ms tn E W)(he:W'.heap[Ms]?=W.heap[Ms]?):wI Ms tn E W':=by
 obtain⟨⟨g,h1,h2,h3⟩,h4,h5,h6,h7⟩:=h;exact⟨⟨g,h1.block he,h2,h3⟩,h4,h5,h6,h7⟩
theorem wI.lt {Ms:Nat} {tn:Int} {E:List Mm} {W:World}(h:wI Ms tn E W):Ms<W.heap.size:=by
 obtain⟨g,h1,_⟩:=h.map;exact h1.lt
theorem wI.obj {Ms:Nat} {tn:Int} {E:List Mm} {W:World}(h:wI Ms tn E W):∃es cl,W.heap[Ms]?=some(.map es cl):=by
 obtain⟨g,h1,_⟩:=h.map;exact h1.obj
theorem wI.made(w:World):wI w.heap.size 0 [](w.alloc(.map #[]0)):=
 ⟨⟨_,kL.made w,fun e he=>by simp at he,fun k m _ h=>by cases h⟩,fun e he=>by simp at he,List.Pairwise.nil,by simp,by simp⟩
theorem wI.has_eq {Ms:Nat} {tn:Int} {E:List Mm} {W:World} {g:Int×Int→Option(Int×Int)}(_h:wI Ms tn E W)(h2:∀e∈E,g e.key=some(e.dF,e.iJ))(h3:∀k m,vC k→g k=some m→∃e∈E,e.key=k∧m=(e.dF,e.iJ)) {q:Int×Int}(hq:vC q) {now:Int}(hn:0≤now):
  decide(now<((g q).getD(0,0)).1)=oN E q now:=by
 unfold oN;cases hg:g q with
 |none=>
  simp only [Option.vZ];rw [decide_eq_false(by omega)];symm;rw [List.any_eq_false];intro e he hc;simp only [Bool.and_eq_true,decide_eq_true_eq]at hc;have:=h2 e he;rw [hc.1,hg]at this;cases this
 |some m=>
  obtain⟨e,he,hk,rfl⟩:=h3 q m hq hg;simp only [Option.getD_some];by_cases hlt:now<e.dF
  ·rw [decide_eq_true hlt];symm;rw [List.any_eq_true];exact⟨e,he,by simp [hk,hlt]⟩
  ·rw [decide_eq_false hlt];symm;rw [List.any_eq_false];intro e' he' hc;simp only [Bool.and_eq_true,decide_eq_true_eq]at hc;have h4:=h2 e' he';rw [hc.1,hg]at h4;simp only [Option.some.injEq,Prod.mk.injEq]at h4;omega
@[reducible] def fA (q : Int × Int) : Obj := .cells #[.int .u32 q.1, .int .u32 q.2] 261
@[reducible] def l8 (m : Int × Int) : Obj := .cells #[.int .u64 m.1, .int .i64 m.2] 279
theorem Jc(a b:Int×Int)(w:World):
  Calls Tryz.prog 196 #[wo a,wo b]w fun e w'=>e=.returned(.bool(if a.1=b.1 then decide(a.2<b.2)else decide(a.1<b.1)))∧Below w.heap.size w w':=by
 obtain⟨a1,a2⟩:=a;obtain⟨b1,b2⟩:=b;have hB:Below w.heap.size w((w.alloc(l8(a1,a2))).alloc(l8(b1,b2))):=((Below.refl _ _).alloc(Nat.le_refl _)_).alloc(by simp)_;dsimp only [l8]at hB;dsimp only [wo];by_cases h:a1=b1
 ·subst h;have e:(a1 !=a1)=false:=by simp
  rw [if_pos rfl];go_enter Tryz.func196,Tryz.ntmps196
  go_wp2
  all_goals(go_ret;exact⟨rfl,hB⟩)
 ·have e:(a1 !=b1)=true:=by simpa using h
  rw [if_neg h];go_enter Tryz.func196,Tryz.ntmps196
  go_wp2
  all_goals(go_ret;exact⟨rfl,hB⟩)
theorem aa6(a b:Int)(w:World):(Instr.field 279(.agg #[.int .u64 a,.int .i64 b])0).run Tryz.prog w=.ok(.int .u64 a)w:=by kernel_rfl
theorem Qt(N:Nat)(x:lF)(E:List Mm)(q:Int×Int)(hq:vC q)(now:Int)(hn:0≤now)(w:World)(hN:ib N x w)(hs:wI x.Ms x.tn E w):
  Calls Tryz.prog 160 #[.pointer(some⟨N,8,none⟩),jr q,.int .u64 now]w fun e w'=>e=.returned(.bool(oN E q now))∧Below w.heap.size w w':=by
 obtain⟨g,h1,h2,h3⟩:=hs.map;have hE:=(show Hid _ from hs.has_eq h2 h3 hq hn);have hb0:Below w.heap.size w(w.alloc(fA q)):=(Below.refl _ _).alloc(Nat.le_refl _)_;have hC:=heap_alloc_new w(fA q);have hN1:=hN.later hb0;have hg1:=h1.block(hb0.block _ h1.lt);clear hs hN h1 h2 h3;dsimp only [fA]at hb0 hC hN1 hg1;dsimp only [jr];go_enter Tryz.func160,Tryz.ntmps160
 go_upto_region 1 with(fail)
 generalize World.alloc _ _=W1 at hb0 hC hN1 hg1 ⊢;generalize w.heap.size=C at hC ⊢;obtain⟨n0,n2,n3,n4,n5,n6,n7,n8,n9,n10⟩:=hN1.cell;have c0:W1.cell?⟨C,0,none⟩=some(.int .u32 q.1):=cell_of_row _ _ 0 _ _ _ hC;have c1:W1.cell?⟨C,1,none⟩=some(.int .u32 q.2):=cell_of_row _ _ 1 _ _ _ hC;have hl0:=hg1.look hq;have hl1:=(show kL W1.drew _ _ _ from hg1).look hq;have hbq:Hid(∀k,Below w.heap.size w(W1.drewN k)):=fun k=>below_drewN hb0 k;dsimp only [jr]at hl0 hl1;generalize hv:(g q).getD(0,0)=m at hE hl0 hl1;clear hv hg1 hN1 hC hb0;dsimp only [wo]at hl0 hl1;have vU:=fun w=>aa6 m.1 m.2 w;have hbd:Below w.heap.size w W1.drew:=hbq.out 1;go_region
 go_wp2
 go_ret
 exact⟨kT hE.out,hbd⟩
def Ac(a b:Mm):Prop:=if a.dF=b.dF then a.iJ<b.iJ else a.dF<b.dF
def vB(E:List Mm)(left:Lit→Bool)(an:Bool)(f l:Int×Int):Prop:=
 if an then ∃e∈E,left(gU e.key)=false∧f=e.key∧l=(e.dF,e.iJ)∧∀z∈E,left(gU z.key)=false→¬Ac z e
 else ∀e∈E,left(gU e.key)=true
theorem vB.done {e0:Mm} {E:List Mm} {left:Lit→Bool} {an:Bool} {f l:Int×Int}(h:vB(e0::E)left an f l)(hl:∀kl,left kl=false)(ha:(e0::E).Pairwise fun a b=>a.dF≤b.dF∧a.iJ<b.iJ∧a.key≠b.key):f=e0.key:=by
 unfold vB at h;split at h
 ·obtain⟨e,he,_,rfl,_,h⟩:=h;rcases List.mem_cons.1 he with rfl|he
  ·rfl
  ·exfalso;refine h e0(List.mem_cons_self ..)(hl _) ?_;have:=(List.pairwise_cons.1 ha).1 e he;unfold Ac;split<;>omega
 ·have:=h e0(List.mem_cons_self ..);rw [hl]at this;cases this
theorem vB.yes {E:List Mm}(hE:∀e∈E,vC e.key)(hu:E.Pairwise fun a b=>a.dF≤b.dF∧a.iJ<b.iJ∧a.key≠b.key) {left:Lit→Bool} {an:Bool} {f l:Int×Int}(h:vB E left an f l) {e:Mm}(he:e∈E)(hq:left(gU e.key)=true)(hb:an=true→(if e.dF=l.1 then e.iJ<l.2 else e.dF<l.1)):
  vB E(fun z=>left z&&!z.sameKey(gU e.key))true e.key(e.dF,e.iJ):=by
 have hkey:∀z∈E,gU z.key=gU e.key→z=e:=by
  intro z hz hq;have hk:=uz(hE z hz)(hE e he)hq;by_cases Oa:z=e
  ·exact Oa
  ·exfalso;obtain⟨i,hi,rfl⟩:=List.mem_iff_getElem.1 hz;obtain⟨j,hj,rfl⟩:=List.mem_iff_getElem.1 he;rcases Nat.lt_trichotomy i j with hij|hij|hij
   ·exact(List.pairwise_iff_getElem.1 hu i j hi hj hij).2.2 hk
   ·subst hij;exact Oa rfl
   ·exact(List.pairwise_iff_getElem.1 hu j i hj hi hij).2.2 hk.symm
 unfold vB at h ⊢;rw [if_pos rfl];refine⟨e,he,by simp [gU,Lit.sameKey],rfl,rfl,fun z hz hl=> ?_⟩;by_cases Oa:gU z.key=gU e.key
 ·rw [hkey z hz Oa];unfold Ac;simp
 ·have hlz:left(gU z.key)=false:=by
   cases hc:left(gU z.key)with
   |false=>rfl
   |true=>
    exfalso;dsimp only at hl;rw [hc,Bool.true_and]at hl;have:(gU z.key).sameKey(gU e.key)=true:=by simpa using hl
    exact Oa(by simpa [gU,Lit.sameKey]using this)
  cases han:an with
  |false=>
   rw [han]at h;have:=h z hz;rw [hlz]at this;cases this
  |true=>
   rw [han,if_pos rfl]at h;obtain⟨e1,he1,_,_,rfl,h⟩:=h;have h1:=h z hz hlz;have h2:=hb han;unfold Ac at h1 ⊢;dsimp only at h2;intro h3;apply h1;split at h3<;>split at h2<;>split<;>omega
theorem vB.no {E:List Mm}(hE:∀e∈E,vC e.key)(hu:E.Pairwise fun a b=>a.dF≤b.dF∧a.iJ<b.iJ∧a.key≠b.key) {left:Lit→Bool} {f l:Int×Int}(h:vB E left true f l) {e:Mm}(he:e∈E)(hb:¬(if e.dF=l.1 then e.iJ<l.2 else e.dF<l.1)):
  vB E(fun z=>left z&&!z.sameKey(gU e.key))true f l:=by
 unfold vB at h ⊢;rw [if_pos rfl]at h ⊢;obtain⟨e1,he1,hl1,rfl,rfl,h⟩:=h;refine⟨e1,he1,by simp [hl1],rfl,rfl,fun z hz hl=> ?_⟩;by_cases hlz:left(gU z.key)=false
 ·exact h z hz hlz
 ·have hc:left(gU z.key)=true:=by simpa using hlz
  dsimp only at hl;rw [hc,Bool.true_and]at hl;have:(gU z.key).sameKey(gU e.key)=true:=by simpa using hl
  have hk:=uz(hE z hz)(hE e he)(by simpa [gU,Lit.sameKey]using this);have Oa:z=e:=by
   by_cases Oa:z=e
   ·exact Oa
   ·exfalso;obtain⟨i,hi,rfl⟩:=List.mem_iff_getElem.1 hz;obtain⟨j,hj,rfl⟩:=List.mem_iff_getElem.1 he;rcases Nat.lt_trichotomy i j with hij|hij|hij
    ·exact(List.pairwise_iff_getElem.1 hu i j hi hj hij).2.2 hk
    ·subst hij;exact Oa rfl
    ·exact(List.pairwise_iff_getElem.1 hu j i hj hi hij).2.2 hk.symm
  rw [Oa];unfold Ac;exact hb
end Go.Proofs.YtakaadcpaeiccabGreat
