import Derived.Test.YtakaadcpaeiccabGreatC10
set_option maxHeartbeats 4000000
set_option maxRecDepth 100000
namespace Go.Proofs.YtakaadcpaeiccabGreat
structure Mm where
 fr:Int
 id:Int
 dK:Int
 je:Int
def Mm.key(e:Mm):Int×Int:=(e.fr,e.id)
def pE(E:List Mm)(q:Int×Int)(now:Int):Bool:=E.any λe=>decide (e.key=q)&&decide (now<e.dK)
def dZ(E:List Mm)(q:Int×Int)(dK je:Int):List Mm:=E.filter (λe=>!decide (e.key=q))++ [⟨q.1,q.2,dK,je⟩]
def dW(E:List Mm)(q:Int×Int)(dK je:Int):List Mm:=if 16<(dZ E q dK je).length then(dZ E q dK je).tail else dZ E q dK je
structure Sr where
 dest:Int
 txt:List ByteArray
 ttl:Int
 ret:Nat
 due:Int
 id:Int
 out:Bool
structure St where
 me:Int
 seq:Int
 cZ:Int
 dB:Int
 fu:Int
 A:List Rt
 mem:List Mm
 tn:Int
 f:Int->Option Int
 own:Int
 cnt:Int
 Q:List Sr
 tl:Int
 pc:List Int
 now:Int
 bA:List (Bool×Int×Int)
 aL:List (Int×ByteArray)
 aY:List (Int×ByteArray)
 aT:List Int
 bC:Bool
 lk:Int
namespace St
def write(s:St):St:={s with f:=(bL s.seq s.own s.f s.A).1,own:=Es s.seq s.own,cnt:=s.cnt+(bL s.seq s.own s.f s.A).2.length,bA:=s.bA++(bL s.seq s.own s.f s.A).2}
def drop(s:St)(r:Int):St:={s with aT:=s.aT++ [r]}
def send(s:St)(t:Int)(p:aF)(L:List (Int×Int)):St:={s with aL:=s.aL++ [(t,strOfNums (nJ p L))]}
def lose(s:St)(t:Int)(L:List (Int×Int)):St:={s with aL:=s.aL++Qs t L}
def lJ(s:St)(t d:Int):St:=s.lose t [(d,eG s.A d)]
def begin(s:St)(now:Int):St:={s with now:=now,A:=ja s.A now,bA:=[],aL:=[],aY:=[],aT:=[],bC:=false}.write
def cmp(s:St):List (Bool×Int×Int):=dz (some s.own)++gM s.f (s.A.map (·.dest))
def finish(s:St):St:=
 if s.write.cnt>24 then {s.write with bA:=s.write.cmp,cnt:=s.write.cmp.length,bC:=true}else s.write
def bn(s:St):ByteArray:=strOfNums (bE s.bA)
def far(h:Int):Int:=min (h+1) 255
def answer(s:St)(p:aF):St:=
 if (bN s.A p.aK s.now).2 then s.send (bN s.A p.aK s.now).1.next {p with ttl:=8,kind:=2} []else s.drop 3
def uf(hops d q fm life:Int):aF:=⟨0,0,hops,false,0,d,q,fm,0,life,none,0,0,⟨#[]⟩⟩
def jc(s:St)(p:aF):St:={s with seq:=max s.seq p.a_}.answer (uf 0 s.me (max s.seq p.a_) p.aK 6000)
def iD(s:St)(p:aF)(r:Rt):St:=
 {s with A:=lY (if (bN s.A p.aK s.now).2 then lY s.A p.dest (bN s.A p.aK s.now).1.next else s.A) p.aK r.next}.answer (uf r.hops p.dest r.seq p.aK ((r.exp - s.now)%4294967296))
def askOn(s:St)(p:aF):St:=
 s.send 0 {p with ttl:=p.ttl - 1,hops:=far p.hops,a_:=if (aJ s.A p.dest).isSome then max p.a_ (eG s.A p.dest)else p.a_,unk:=if (aJ s.A p.dest).isSome then false else p.unk} []
def asked(s:St)(p:aF):St:=
 if p.dest=s.me then s.jc p
 else if (bN s.A p.dest s.now).2&&(p.unk||decide ((bN s.A p.dest s.now).1.seq>=p.a_))then s.iD p (bN s.A p.dest s.now).1
 else if p.ttl=1 then s.drop 4 else s.askOn p
def learn(s:St)(fr:Int)(p:aF):St:=
 if (iX s.me s.A p.aK p.dx (far p.hops) fr (s.now+3000)).2=4 then {s with A:=(iX s.me s.A p.aK p.dx (far p.hops) fr (s.now+3000)).1}.drop 2
 else if (iX s.me s.A p.aK p.dx (far p.hops) fr (s.now+3000)).2=3 then {s with A:=iQ (iX s.me s.A p.aK p.dx (far p.hops) fr (s.now+3000)).1 p.aK (s.now+3000)}.asked p
 else {s with A:=(iX s.me s.A p.aK p.dx (far p.hops) fr (s.now+3000)).1}.asked p
def dJ(s:St)(fr:Int)(p:aF):St:=
 if p.aK=s.me∨pE s.mem (p.aK,p.id) s.now then s.drop 1
 else {s with mem:=dW s.mem (p.aK,p.id) (s.now+1280) s.tn,tn:=s.tn+1}.learn fr p
def Fb(i d me:Int)(t:ByteArray):aF:=⟨8,9,0,false,i,d,0,me,0,0,none,0,0,t⟩
def bg(s:St)(d:Int)(t:ByteArray):St:=
 if (bN s.A d s.now).2 then {s with fu:=(s.fu+1)%4294967296,A:=iQ s.A d (s.now+3000)}.send (bN s.A d s.now).1.next (Fb ((s.fu+1)%4294967296) d s.me t) []
 else s
def kg(Q:List Sr)(d:Int):Option Sr:=Q.find? λq=>decide (q.dest=d)
def sendAll(s:St)(d:Int):St:=
 match kg s.Q d with
 |none=>s
 |some q=>if (bN s.A d s.now).2 then {q.txt.foldl (λs t=>s.bg d t) s with Q:=s.Q.filter λz=>!decide (z.dest=d)}else s
def iN(s:St)(fr:Int)(p:aF):St:=
 if (bN s.A p.aK s.now).2 then
  {s with A:=iQ (lY (lY s.A p.dest (bN s.A p.aK s.now).1.next) p.aK fr) p.aK (s.now+3000)}.send (bN s.A p.aK s.now).1.next {p with ttl:=p.ttl - 1,hops:=far p.hops} []
 else s.drop 3
def fF(s:St)(fr:Int)(p:aF):St:=
 if p.dest=s.me then s.drop 1
 else
  let u:=iX s.me s.A p.dest p.a_ (far p.hops) fr (s.now+p.life)
  let s:={s with A:=u.1}
  if u.2=4 then s.drop 2
  else if p.aK=s.me then(if u.2=3 then(s.sendAll p.dest).drop 7 else s.sendAll p.dest)
  else if p.ttl=1 then s.drop 4
  else s.iN fr p
def GY(fr:Int)(z:List Rt×Bool×List (Int×Int))(l:Int×Int):List Rt×Bool×List (Int×Int):=
 if mY z.1 fr l.1 then(gP z.1 fr l.1 l.2,true,if ((aJ z.1 l.1).any λy=>decide (0<y.bH.length))then z.2.2++ [(l.1,eG (gP z.1 fr l.1 l.2) l.1)]else z.2.2)else z
def gX(s:St)(fr:Int)(L:List (Int×Int)):St:=
 let z:=L.foldl (GY fr) (s.A,false,[])
 let s:={s with A:=z.1}
 (if z.2.1 then s else s.drop 7).lose 0 z.2.2
def qj(y:Rt):Rt:={y with seq:=gr y.seq}
def fP(s:St)(fr:Int)(p:aF):St:=
 if p.dest=s.me then {s with aY:=s.aY++ [(p.aK,p.pay)]}
 else if p.ttl=1 then s.drop 4
 else if (bN s.A p.dest s.now).2 then {s with A:=iQ (iQ s.A p.dest (s.now+3000)) p.aK (s.now+3000)}.send (bN s.A p.dest s.now).1.next {p with ttl:=p.ttl - 1} []
 else {s.drop 3 with A:=h_ s.A p.dest qj}.lJ fr p.dest
def eT(s:St)(fr:Int)(p:aF):St:=
 if p.kind=9∧p.dest≠s.me then {(s.drop 8).lJ fr p.dest with cZ:=s.now+2000}else s.drop 8
def gU(s:St)(fr:Int)(p:aF)(L:List (Int×Int)):St:=
 if s.now<s.cZ then s.eT fr p
 else if p.kind=1 then s.dJ fr p
 else if p.kind=2 then s.fF fr p
 else if p.kind=3 then s.gX fr L
 else s.fP fr p
def hear(s:St)(fr:Int)(xs:List Int):St:=
 if vH xs=false∨fr=0∨fr=s.me then s.drop 0
 else s.gU fr (iY (xs.getD 0 0) (xs.getD 1 0) (xs.getD 2 0) (xs.getD 4 0) (xs.drop 5)) (nD (xs.getD 1 0) (xs.getD 4 0) (xs.drop 5))
def receive(s:St)(now fr:Int)(xs:List Int):St:=((s.begin now).hear fr xs).finish
def broken(s:St)(now eB:Int):St:=
 let s:=s.begin now
 ({s with A:=s.A.map (bY eB 0)}.lose 0 (ol eB s.A)).finish
def full(pc:List Int)(now:Int):Bool:=decide (pc.length=5)&&(decide (now<1000)||decide (pc.getD 0 0>now - 1000))
def dM(pc:List Int)(now:Int):List Int:=(if pc.length=5 then pc.tail else pc)++ [now]
def Gi(ttl:Int)(unk:Bool)(i d q me sq:Int):aF:=⟨ttl,1,0,unk,i,d,q,me,sq,0,none,0,0,⟨#[]⟩⟩
def request(s:St)(d ttl:Int):St:=
 let s1:={s with seq:=gr s.seq,dB:=(s.dB+1)%4294967296}.write
 {s1 with pc:=dM s1.pc s1.now,mem:=dW s1.mem (s1.me,s1.dB) (s1.now+1280) s1.tn,tn:=s1.tn+1}.send 0 (Gi ttl (!(aJ s1.A d).isSome) s1.dB d (eG s1.A d) s1.me s1.seq) []
def dm(Q:List Sr)(q:Sr):List Sr:=Q.map λz=>if z.dest=q.dest then q else z
def ask(s:St)(q:Sr):St:=
 if full s.pc s.now then let s:=s.drop 9;{s with tl:=s.tl+1,Q:=dm s.Q {q with due:=s.now+1000,id:=s.tl+1,out:=false}}
 else if s.now<s.cZ then let s:=s.drop 8;{s with tl:=s.tl+1,Q:=dm s.Q {q with due:=s.now+1000,id:=s.tl+1,out:=false}}
 else let s:=s.request q.dest q.ttl;{s with tl:=s.tl+1,Q:=dm s.Q {q with due:=s.now+80 * (q.ttl+2)* 2 ^ q.ret,id:=s.tl+1,out:=true}}
def iR(d:Int)(t:ByteArray):Sr:=⟨d,[t],1,0,0,0,false⟩
def hold(s:St)(q:Sr)(t:ByteArray):St×Sr:=
 if q.txt.length=4 then(s.drop 6,{q with txt:=q.txt.tail++ [t]})else(s,{q with txt:=q.txt++ [t]})
def await(s:St)(d:Int)(t:ByteArray):St:=
 match kg s.Q d with
 |some q=> {(s.hold q t).1 with Q:=dm s.Q (s.hold q t).2}
 |none=> {s with Q:=s.Q++ [iR d t]}.ask (iR d t)
def sends(s:St)(now d:Int)(t:ByteArray):St:=
 let s:=s.begin now
 (if (bN s.A d s.now).2 then s.bg d t else s.await d t).finish
def Yv(s:St)(d:Int):St:={s with Q:=s.Q.filter λz=>!decide (z.dest=d)}
def widen(s:St)(q:Sr):St:=
 if q.ttl+2<=5 then s.ask {q with ttl:=q.ttl+2}
 else if q.ttl<8 then s.ask {q with ttl:=8}
 else if q.ret<2 then s.ask {q with ret:=q.ret+1}
 else {s with aT:=s.aT++List.replicate q.txt.length 5}.Yv q.dest
def step(s:St)(q:Sr):St:=
 if (bN s.A q.dest s.now).2 then s.sendAll q.dest
 else if q.out then s.widen q else s.ask q
def Ox(a b:Sr):Bool:=decide (a.due<b.due)||(decide (a.due=b.due)&&decide (a.id<=b.id))
def kT(Q:List Sr)(now:Int):List Sr:=(Q.filter λq=>decide (q.due<=now)).mergeSort Ox
def tick(s:St)(now:Int):St:=
 let s:=s.begin now
 ((kT s.Q now).foldl step s).finish
end St
open Go.RowKit Go.Maps
variable{tn:Int}{E:List Mm}{Ms:Nat}{W:World}
structure xJ(Ms:Nat)(tn:Int)(E:List Mm)(W:World):Prop where
 map:∃g,lI W Ms g E.length∧(∀e∈E,g e.key=some (e.dK,e.je))∧∀k m,wm k->g k=some m->∃e∈E,e.key=k∧m=(e.dK,e.je)
 ok:∀e∈E,wm e.key∧0<=e.dK∧0<=e.je∧e.je<tn
 xD:E.Pairwise λa b=>a.dK<=b.dK∧a.je<b.je∧a.key≠b.key
 len:E.length<=16
 tn0:0<=tn
theorem xJ.block{W':World}(h:xJ Ms tn E W)(he:W'.heap[Ms]?=W.heap[Ms]?):xJ Ms tn E W':=by
 obtain⟨⟨g,h1,h2,h3⟩,h4,h5,h6,h7⟩:=h;exact⟨⟨g,h1.block he,h2,h3⟩,h4,h5,h6,h7⟩
theorem xJ.lt(h:xJ Ms tn E W):Ms<W.heap.size:=by
 obtain⟨g,h1,_⟩:=h.map;exact h1.lt
theorem xJ.obj(h:xJ Ms tn E W):∃es cl,W.heap[Ms]?=some (.map es cl):=by
 obtain⟨g,h1,_⟩:=h.map;exact h1.obj
theorem xJ.made(w:World):xJ w.heap.size 0 [] (w.alloc (.map #[] 0)):=
 ⟨⟨_,lI.made w,λe he=>by simp at he,λk m _ h=>by cases h⟩,λe he=>by simp at he,List.Pairwise.nil,by simp,by simp⟩
theorem xJ.has_eq{g:Int×Int->Option (Int×Int)}(_h:xJ Ms tn E W)(h2:∀e∈E,g e.key=some (e.dK,e.je))(h3:∀k m,wm k->g k=some m->∃e∈E,e.key=k∧m=(e.dK,e.je)){q:Int×Int}(hq:wm q){now:Int}(hn:0<=now):
  decide (now<((g q).getD (0,0)).1)=pE E q now:=by
 unfold pE;cases hg:g q with
 |none=>
  simp only[Option.getD_none];rw[fB (by omega)];symm;rw[List.any_eq_false];intro e he hc;simp only[fG,jh]at hc;have:=h2 e he;rw[hc.1,hg]at this;cases this
 |some m=>
  obtain⟨e,he,hk,rfl⟩:=h3 q m hq hg;simp only[Option.getD_some];by_cases hlt:now<e.dK
  ·rw[gu hlt];symm;rw[List.any_eq_true];exact⟨e,he,by simp[hk,hlt]⟩
  ·rw[fB hlt];symm;rw[List.any_eq_false];intro e' he' hc;simp only[fG,jh]at hc;have h4:=h2 e' he';rw[hc.1,hg]at h4;simp only[Option.some.injEq,Prod.mk.injEq]at h4;omega
@[reducible] def fQ(q : Int × Int): Obj := .cells #[.int .u32 q.1, .int .u32 q.2] 261
@[reducible] def mX(m : Int × Int): Obj := .cells #[.int .u64 m.1, .int .i64 m.2] 279
theorem J4(a b:Int×Int)(w:World):
  Calls Tryz.prog 196 #[xu a,xu b] w λe w'=>e=.returned (.bool (if a.1=b.1 then decide (a.2<b.2)else decide (a.1<b.1)))∧Below w.heap.size w w':=by
 obtain⟨a1,a2⟩:=a;obtain⟨b1,b2⟩:=b;have hB:Below w.heap.size w ((w.alloc (mX (a1,a2))).alloc (mX (b1,b2))):=(bq).alloc (by simp) _;dsimp only[mX]at hB;dsimp only[xu];by_cases h:a1=b1
 ·subst h;have e:(a1 !=a1)=false:=by simp
  rw[aQ rfl];go_enter Tryz.func196,Tryz.ntmps196;go_wp2;all_goals (go_ret;exact⟨rfl,hB⟩)
 ·have e:(a1 !=b1)=true:=by simpa using h
  rw[aM h];go_enter Tryz.func196,Tryz.ntmps196;go_wp2;all_goals (go_ret;exact⟨rfl,hB⟩)
theorem abO(a b:Int)(w:World):(Instr.field 279 (.agg #[.int .u64 a,.int .i64 b]) 0).run Tryz.prog w=.ok (.int .u64 a) w:=by kernel_rfl
theorem Rb(N:Nat)(x:nu)(E:List Mm)(q:Int×Int)(hq:wm q)(now:Int)(hn:0<=now)(w:World)(hN:iI N x w)(hs:xJ x.Ms x.tn E w):
  Calls Tryz.prog 160 #[.pointer (some ⟨N,8,none⟩),jX q,.int .u64 now] w λe w'=>e=.returned (.bool (pE E q now))∧Below w.heap.size w w':=by
 obtain⟨g,h1,h2,h3⟩:=hs.map;have hE:=(show Hid _ from hs.has_eq h2 h3 hq hn);have hb0:Below w.heap.size w (w.alloc (fQ q)):=bq;have hC:=bS w (fQ q);have hN1:=hN.later hb0;have hg1:=h1.block (hb0.block _ h1.lt);clear hs hN h1 h2 h3;dsimp only[fQ]at hb0 hC hN1 hg1;dsimp only[jX];go_enter Tryz.func160,Tryz.ntmps160;go_upto_region 1 with(fail);generalize World.alloc _ _=W1 at hb0 hC hN1 hg1 ⊢;generalize w.heap.size=C at hC ⊢;obtain⟨n0,n2,n3,n4,n5,n6,n7,n8,n9,n10⟩:=hN1.cell;have c0:W1.cell? ⟨C,0,none⟩=some (.int .u32 q.1):=aH _ _ 0 _ _ _ hC;have c1:W1.cell? ⟨C,1,none⟩=some (.int .u32 q.2):=aH _ _ 1 _ _ _ hC;have hl0:=hg1.look hq;have hl1:=(show lI W1.drew _ _ _ from hg1).look hq;have hbq:Hid (∀k,Below w.heap.size w (W1.drewN k)):=λk=>below_drewN hb0 k;dsimp only[jX]at hl0 hl1;generalize hv:(g q).getD (0,0)=m at hE hl0 hl1;clear hv hg1 hN1 hC hb0;dsimp only[xu]at hl0 hl1;have wU:=λw=>abO m.1 m.2 w;have hbd:Below w.heap.size w W1.drew:=hbq.out 1;go_region
 go_wp2;go_ret;exact⟨lS hE.out,hbd⟩
def Be(a b:Mm):Prop:=if a.dK=b.dK then a.je<b.je else a.dK<b.dK
def v_(E:List Mm)(left:Lit->Bool)(an:Bool)(f l:Int×Int):Prop:=
 if an then ∃e∈E,left (iF e.key)=false∧f=e.key∧l=(e.dK,e.je)∧∀z∈E,left (iF z.key)=false->¬Be z e
 else ∀e∈E,left (iF e.key)=true
theorem v_.done{e0:Mm}{left:Lit->Bool}{an:Bool}{f l:Int×Int}(h:v_ (e0::E) left an f l)(hl:∀kl,left kl=false)(ha:(e0::E).Pairwise λa b=>a.dK<=b.dK∧a.je<b.je∧a.key≠b.key):f=e0.key:=by
 unfold v_ at h;split at h
 ·obtain⟨e,he,_,rfl,_,h⟩:=h;rcases fo.1 he with rfl|he
  ·rfl
  ·exfalso;refine h e0 (iK ..) (hl _)?_;have:=(List.pairwise_cons.1 ha).1 e he;unfold Be;split<;>omega
 ·have:=h e0 (iK ..);rw[hl]at this;cases this
theorem v_.yes(hE:∀e∈E,wm e.key)(hu:E.Pairwise λa b=>a.dK<=b.dK∧a.je<b.je∧a.key≠b.key){left:Lit->Bool}{an:Bool}{f l:Int×Int}(h:v_ E left an f l){e:Mm}(he:e∈E)(hq:left (iF e.key)=true)(hb:an=true->(if e.dK=l.1 then e.je<l.2 else e.dK<l.1)):
  v_ E (λz=>left z&&!z.sameKey (iF e.key)) true e.key (e.dK,e.je):=by
 have hkey:∀z∈E,iF z.key=iF e.key->z=e:=by
  intro z hz hq;have hk:=uZ (hE z hz) (hE e he) hq;by_cases OY:z=e
  ·exact OY
  ·exfalso;obtain⟨i,hi,rfl⟩:=List.mem_iff_getElem.1 hz;obtain⟨j,hj,rfl⟩:=List.mem_iff_getElem.1 he;rcases Nat.lt_trichotomy i j with hij|hij|hij
   ·exact(List.pairwise_iff_getElem.1 hu i j hi hj hij).2.2 hk
   ·subst hij;exact OY rfl
   ·exact(List.pairwise_iff_getElem.1 hu j i hj hi hij).2.2 hk.symm
 unfold v_ at h ⊢;rw[aQ rfl];refine⟨e,he,by simp[iF,Lit.sameKey],rfl,rfl,λz hz hl=> ?_⟩;by_cases OY:iF z.key=iF e.key
 ·rw[hkey z hz OY];unfold Be;simp
 ·have hlz:left (iF z.key)=false:=by
   cases hc:left (iF z.key)with
   |false=>rfl
   |true=>
    exfalso;dsimp only at hl;rw[hc,Bool.true_and]at hl;have:(iF z.key).sameKey (iF e.key)=true:=by simpa using hl
    exact OY (by simpa[iF,Lit.sameKey]using this)
  cases han:an with
  |false=>
   rw[han]at h;have:=h z hz;rw[hlz]at this;cases this
  |true=>
   rw[han,aQ rfl]at h;obtain⟨e1,he1,_,_,rfl,h⟩:=h;have h1:=h z hz hlz;have h2:=hb han;unfold Be at h1 ⊢;dsimp only at h2;intro h3;apply h1;split at h3<;>split at h2<;>split<;>omega
theorem v_.no(hE:∀e∈E,wm e.key)(hu:E.Pairwise λa b=>a.dK<=b.dK∧a.je<b.je∧a.key≠b.key){left:Lit->Bool}{f l:Int×Int}(h:v_ E left true f l){e:Mm}(he:e∈E)(hb:¬(if e.dK=l.1 then e.je<l.2 else e.dK<l.1)):
  v_ E (λz=>left z&&!z.sameKey (iF e.key)) true f l:=by
 unfold v_ at h ⊢;rw[aQ rfl]at h ⊢;obtain⟨e1,he1,hl1,rfl,rfl,h⟩:=h;refine⟨e1,he1,by simp[hl1],rfl,rfl,λz hz hl=> ?_⟩;by_cases hlz:left (iF z.key)=false
 ·exact h z hz hlz
 ·have hc:left (iF z.key)=true:=by simpa using hlz
  dsimp only at hl;rw[hc,Bool.true_and]at hl;have:(iF z.key).sameKey (iF e.key)=true:=by simpa using hl
  have hk:=uZ (hE z hz) (hE e he) (by simpa[iF,Lit.sameKey]using this);have OY:z=e:=by
   by_cases OY:z=e
   ·exact OY
   ·exfalso;obtain⟨i,hi,rfl⟩:=List.mem_iff_getElem.1 hz;obtain⟨j,hj,rfl⟩:=List.mem_iff_getElem.1 he;rcases Nat.lt_trichotomy i j with hij|hij|hij
    ·exact(List.pairwise_iff_getElem.1 hu i j hi hj hij).2.2 hk
    ·subst hij;exact OY rfl
    ·exact(List.pairwise_iff_getElem.1 hu j i hj hi hij).2.2 hk.symm
  rw[OY];unfold Be;exact hb
variable{tn:Int}{q:Int×Int}{E:List Mm}{left:Lit->Bool}{B Ms n r:Nat}{W W':World}
theorem zJ{k:Nat}{o:Obj}(h:W.heap[k]?=some o):k<W.heap.size:=(g_.1 h).1
theorem J3{v:Value}{y:DataW Unit×List MemPlace}(h:Ew v=some y):∃c,v=xu c:=by
 obtain⟨m,h1,_⟩:=GX h;exact⟨m,h1⟩
theorem Ut{a b:Int×Int}(h:jX a=jX b):a=b:=by
 unfold jX at h;simp only[Value.agg.injEq,Array.mk.injEq,List.cons.injEq,Value.int.injEq,true_and,and_true]at h;exact Prod.ext h.1 h.2
def QB(B:Nat)(q:Int×Int)(W:World):Prop:=W.heap[B]?=some (fQ q)
def I7(B:Nat)(m:Int×Int)(W:World):Prop:=W.heap[B]?=some (mX m)
theorem QB.cell(h:QB B q W):W.cell? ⟨B,0,none⟩=some (.int .u32 q.1)∧W.cell? ⟨B,1,none⟩=some (.int .u32 q.2):=⟨aH _ _ 0 _ _ _ h,aH _ _ 1 _ _ _ h⟩
theorem QB.free(h:QB B q W)(i:Nat):W.frozen? ⟨B,i,none⟩=false:=by
 unfold World.frozen?;rw[show W.heap[(⟨B,i,none⟩:Addr).block]?=some (fQ q)from h];try rfl
theorem I7.cell(h:I7 B q W):W.cell? ⟨B,0,none⟩=some (.int .u64 q.1)∧W.cell? ⟨B,1,none⟩=some (.int .i64 q.2):=⟨aH _ _ 0 _ _ _ h,aH _ _ 1 _ _ _ h⟩
theorem I7.free(h:I7 B q W)(i:Nat):W.frozen? ⟨B,i,none⟩=false:=by
 unfold World.frozen?;rw[show W.heap[(⟨B,i,none⟩:Addr).block]?=some (mX q)from h];try rfl
theorem QB.set(h:QB B q W)(p:Int×Int):QB B p ((W.setCell ⟨B,0,none⟩ (.int .u32 p.1)).setCell ⟨B,1,none⟩ (.int .u32 p.2)):=by
 unfold QB at h ⊢;simp[World.setCell,dX,h]
theorem I7.set(h:I7 B q W)(p:Int×Int):I7 B p ((W.setCell ⟨B,0,none⟩ (.int .u64 p.1)).setCell ⟨B,1,none⟩ (.int .i64 p.2)):=by
 unfold I7 at h ⊢;simp[World.setCell,dX,h]
theorem pG{H:Type}{P:Program}{k:TypeId}{R:Value->Option (DataW H×List MemPlace)}{b:Nat}{D:DataW H}{cnt:Nat}(h:W.ranges P k R b r n D left cnt)(hb:Below W.heap.size W W'):W'.ranges P k R b r n D left cnt:=
 h.kept (row:=none) ⟨hb.os,hb.tape,hb.output,hb.size,λi hi _=>hb.block i hi⟩ (by simp) (by simp)
structure Qm(Ms r n w0:Nat)(D:DataW Unit)(E:List Mm)(wb:World)(left:Lit->Bool)(cnt:Nat)(an:Bool)(f l:Int×Int)(W:World):Prop where
 rg:W.ranges Tryz.prog 261 Ew Ms r n D left cnt
 fi:v_ E left an f l
 r0:QB w0 (0,0) W
 f0:QB (w0+1) f W
 l0:I7 (w0+2) l W
 be:Below w0 wb W
 sz:w0+4<=W.heap.size
theorem Qm.put{w0:Nat}{D:DataW Unit}{wb:World}{cnt:Nat}{f l:Int×Int}(rg:W.ranges Tryz.prog 261 Ew Ms r n D left cnt)(r0:QB w0 (0,0) W)(f0:QB (w0+1) f W)(l0:I7 (w0+2) l W)(be:Below w0 wb W)(sz:w0+4<=W.heap.size)(hr:r=w0+3)(hM:Ms<w0){p m:Int×Int}(fi:v_ E left true p m):
  Qm Ms r n w0 D E wb left cnt true p m ((((W.setCell ⟨w0+1,0,none⟩ (.int .u32 p.1)).setCell ⟨w0+1,1,none⟩ (.int .u32 p.2)).setCell ⟨w0+1+1,0,none⟩ (.int .u64 m.1)).setCell ⟨w0+1+1,1,none⟩ (.int .i64 m.2)).drew:=by
 have hg1:W.grownBy ((W.setCell ⟨w0+1,0,none⟩ (.int .u32 p.1)).setCell ⟨w0+1,1,none⟩ (.int .u32 p.2)) (some (w0+1)):=ah (ah (aC _ (some (w0+1))) 0 _) 1 _;have hf1:=f0.set p;have hr1:=rg.kept hg1 (by simp;omega) (by simp;omega);have h01:QB w0 (0,0) _:=(hg1.block w0 (by omega) (by simp)).trans r0;have hl1:I7 (w0+2) l _:=(hg1.block (w0+2) (by omega) (by simp)).trans l0;have hb1:=be.grown hg1 (by omega) (λk e=>by cases e;omega);have hs1:=hg1.size;generalize ((W.setCell ⟨w0+1,0,none⟩ (.int .u32 p.1)).setCell ⟨w0+1,1,none⟩ (.int .u32 p.2))=W1 at hf1 hr1 h01 hl1 hb1 hs1 ⊢;have hg2:W1.grownBy ((W1.setCell ⟨w0+1+1,0,none⟩ (.int .u64 m.1)).setCell ⟨w0+1+1,1,none⟩ (.int .i64 m.2)) (some (w0+1+1)):=ah (ah (aC _ (some (w0+1+1))) 0 _) 1 _;have hl2:=hl1.set m;have hr2:=hr1.kept hg2 (by simp;omega) (by simp;omega);have h02:QB w0 (0,0) _:=(hg2.block w0 (by omega) (by simp;omega)).trans h01;have hf2:QB (w0+1) p _:=(hg2.block (w0+1) (by omega) (by simp)).trans hf1;have hb2:=hb1.grown hg2 (by omega) (λk e=>by cases e;omega);have hs2:=hg2.size;exact⟨hr2,fi,h02,hf2,hl2,hb2.drew,dH sz (dH hs1 hs2)⟩
theorem Iq(N:Nat)(x:nu)(e0:Mm)(E:List Mm)(w:World)(hN:iI N x w)(hs:∃g,lI w x.Ms g (e0::E).length∧(∀e∈e0::E,g e.key=some (e.dK,e.je))∧∀k m,wm k->g k=some m->∃e∈e0::E,e.key=k∧m=(e.dK,e.je))(hok:∀e∈e0::E,wm e.key∧0<=e.dK∧0<=e.je∧e.je<x.tn)(hasc:(e0::E).Pairwise λa b=>a.dK<=b.dK∧a.je<b.je∧a.key≠b.key):
  Calls Tryz.prog 178 #[.pointer (some ⟨N,8,none⟩)] w λe w'=>e=.returned (jX e0.key)∧Below w.heap.size w w':=by
 obtain⟨g,hmq,h4,h5⟩:=hs;have abx:=hmq.lt;obtain⟨D,h1,hsz,h3⟩:=hmq;have h3':=(show Hid _ from h3);have h5':=(show Hid _ from h5);have hhas:Hid (∀e∈e0::E,Maps.has D (iF e.key)=true):=by
  intro e he;rw[(h3 _ (hok e he).1).1,h4 e he];rfl
 have hb3:Below w.heap.size w (((w.alloc (fQ (0,0))).alloc (fQ (0,0))).alloc (mX (0,0))):=((bq).alloc (by simp) _).alloc (by simp;omega) _;have hR:QB w.heap.size (0,0) (((w.alloc (fQ (0,0))).alloc (fQ (0,0))).alloc (mX (0,0))):=
  (((aV _ ((w.alloc (fQ (0,0))).alloc (fQ (0,0)))).alloc (aD _) _).block w.heap.size (by simp;omega)).trans ((((aV _ (w.alloc (fQ (0,0)))).alloc (aD _) _).block w.heap.size (by simp)).trans (bS w _))
 have hF:QB (w.heap.size+1) (0,0) (((w.alloc (fQ (0,0))).alloc (fQ (0,0))).alloc (mX (0,0))):=by
  have h1:=((aV _ ((w.alloc (fQ (0,0))).alloc (fQ (0,0)))).alloc (aD _) (mX (0,0))).block (w.heap.size+1) (by simp);have h2:=bS (w.alloc (fQ (0,0))) (fQ (0,0));rw[World.size_alloc]at h2;exact h1.trans h2
 have hL:I7 (w.heap.size+2) (0,0) (((w.alloc (fQ (0,0))).alloc (fQ (0,0))).alloc (mX (0,0))):=by
  have:=bS ((w.alloc (fQ (0,0))).alloc (fQ (0,0))) (mX (0,0));rw[World.size_alloc,World.size_alloc]at this;exact this
 have Ca:(((w.alloc (fQ (0,0))).alloc (fQ (0,0))).alloc (mX (0,0))).heap.size=w.heap.size+3:=by simp
 have AB:=hN.later hb3;have VP:(((w.alloc (fQ (0,0))).alloc (fQ (0,0))).alloc (mX (0,0))).ownsMap Tryz.prog 261 Ew x.Ms (e0::E).length D:=by
  obtain⟨es,clock,hb,Ft,hs,hD⟩:=h1;exact⟨es,clock,(hb3.block _ (zJ hb)).trans hb,Ft,hs,hD⟩
 clear h3 h5 h1 hN h4 hsz;dsimp only[fQ,mX]at hb3 hR hF hL AB VP Ca;go_enter Tryz.func178,Tryz.ntmps178;go_upto_region 3 with(fail);generalize World.alloc (World.alloc (World.alloc _ _) _) _=W3 at hb3 hR hF hL AB VP Ca ⊢;obtain⟨n0,n2,n3,n4,n5,n6,n7,n8,n9,n10⟩:=AB.cell;go_wp2_with(at_range;refine wpList_range_own _ rfl _ 111 rfl 261 279 qK Tryz.underlying111 _ x.Ms (e0::E).length _ rfl VP ?_;intro w0 hrg0 hg0 hs0);go_frame;generalize hnn:(e0::E).length=nn at hrg0;clear hnn;replace Ca:=(show Hid _ from Ca);generalize Pe:W3.heap.size=R3 at hrg0 ⊢;replace Pe:=(show Hid _ from Pe);go_loopw [5] (λav wr=>∃(left:Lit->Bool) (cnt:Nat) (an:Bool) (f l:Int×Int),av=.bool an∧Qm x.Ms R3 nn w.heap.size D (e0::E) w left cnt an f l wr) (λ_ wr=>wr.rangeLeft x.Ms R3)
 case atStart=>
  have hb:Below W3.heap.size W3 w0:=⟨hg0.os,hg0.tape,hg0.output,hg0.size,λk hk=>hg0.block k hk (by simp)⟩;have agc:=Ca.out;have abu:=Pe.out;exact⟨_,_,false,(0,0),(0,0),rfl,hrg0,by unfold v_;rw[aM (by simp)];exact hhas.out,(hb.block _ (by omega)).trans hR,(hb.block _ (by omega)).trans hF,(hb.block _ (by omega)).trans hL,hb3.trans (hb.mono hb3.size),by omega⟩
 case round=>
  clear hb3 hR hF hL AB VP n0 n2 n3 n4 n5 n6 n7 n8 n9 n10 hrg0 hg0 hs0;obtain⟨left,cnt,an,f,l,rfl,hr⟩:=hrel;go_wp2_with(at_next;refine wpList_next_ranges _ rfl _ rfl 261 qK Ew jX xu (λkey kl hk=>by obtain⟨q,hq,_⟩:=Hf hk;exact⟨q,hq⟩) (λv y hv=>J3 hv) x.Ms R3 nn _ _ _ rfl hr.rg ?_ ?_)
  ·intro hc0 hl0;obtain rfl:=hr.fi.done hl0 hasc;obtain⟨_,_,hr0,hf0,_,hbe,hsz⟩:=hr;obtain⟨c0,c1⟩:=hf0.cell;obtain⟨r0,r1⟩:=hr0.cell;have z0:=hr0.free 0;have z1:=hr0.free 1;have hst:=hr0.set e0.key;have hbs:Below w.heap.size w ((wr.setCell ⟨w.heap.size,0,none⟩ (.int .u32 e0.key.1)).setCell ⟨w.heap.size,1,none⟩ (.int .u32 e0.key.2)):=(hbe.setCell (p:=⟨w.heap.size,0,none⟩) (aD _) _).setCell (p:=⟨w.heap.size,1,none⟩) (aD _) _;clear hr0 hf0 hbe;go_wp2;generalize World.setCell _ _ _=W9 at hst hbs ⊢;obtain⟨p0,p1⟩:=hst.cell;exact bodyPost_ret (v:=jX e0.key) (by simp[results,Tryz.results178,go_sem,p0,p1,jX]) rfl ⟨rfl,hbs⟩
  ·intro q1 q2 m1 m2 kl yd yp w2 cnt2 hkey hlk hv hat hrg2 hlt hg2 hs2 hen;obtain⟨q',hq',hqo,rfl⟩:=Hf hkey;obtain rfl:(q1,q2)=q':=Ut hq';have h3x:=(h3'.out _ hqo).2;rw[hat]at h3x;rw[Eu]at hv;have lq:=congrArg Prod.fst (Option.some.inj hv);dsimp only at lq;rw[<-lq]at h3x;have hsome:=(h3'.out _ hqo).1;rw[has_true_of_atKey hat]at hsome;obtain⟨mm,hmm⟩:=Option.isSome_iff_exists.1 hsome.symm;rw[hmm]at h3x;have hme:=II h3x;simp only[Option.getD_some]at hme;subst hme;obtain⟨e,he,hek,hee⟩:=h5'.out _ _ hqo hmm;obtain⟨rfl,rfl⟩:=Prod.mk.injEq .. ▸hee;have hrl:=hr.rg.left_eq;obtain⟨_,hfi,hr0,hf0,hl0,hbe,hsz⟩:=hr;have abu:=(show Hid (R3=w.heap.size+3)from by show _=_;rw[<-Pe.out,Ca.out]);have afB:=abu.out;have uo:∀k,k<w.heap.size+3->w2.heap[k]?=wr.heap[k]?:=λk hk=>hg2.block k (by omega) (by intro e;cases e;omega);have hB2:Below w.heap.size w w2:=hbe.trans ⟨hg2.os,hg2.tape,hg2.output,hg2.size,λk hk=>uo k (by omega)⟩;have k0:QB w.heap.size (0,0) w2:=(uo _ (by omega)).trans hr0;have kf:QB (w.heap.size+1) f w2:=(uo _ (by omega)).trans hf0;have kl:I7 (w.heap.size+2) l w2:=(uo _ (by omega)).trans hl0;have hb4:Below w2.heap.size w2 ((w2.alloc (fQ (q1,q2))).alloc (mX (e.dK,e.je))):=(bq).alloc (by simp) _;have BO:QB w2.heap.size (q1,q2) ((w2.alloc (fQ (q1,q2))).alloc (mX (e.dK,e.je))):=(((aV _ (w2.alloc (fQ (q1,q2)))).alloc (aD _) _).block _ (by simp)).trans (bS w2 _);have Cf:I7 (w2.heap.size+1) (e.dK,e.je) ((w2.alloc (fQ (q1,q2))).alloc (mX (e.dK,e.je))):=by
    have:=bS (w2.alloc (fQ (q1,q2))) (mX (e.dK,e.je));rw[World.size_alloc]at this;exact this
   have hme:Hid (cnt2<wr.rangeLeft x.Ms R3):=by
    show _<_;rw[hrl];exact hlt
   have H7:=pG hrg2 hb4;have hs4:w.heap.size+4<=((w2.alloc (fQ (q1,q2))).alloc (mX (e.dK,e.je))).heap.size:=by simp;omega
   have j0:QB w.heap.size (0,0) ((w2.alloc (fQ (q1,q2))).alloc (mX (e.dK,e.je))):=(hb4.block _ (by omega)).trans k0;have jf:QB (w.heap.size+1) f ((w2.alloc (fQ (q1,q2))).alloc (mX (e.dK,e.je))):=(hb4.block _ (by omega)).trans kf;have jl:I7 (w.heap.size+2) l ((w2.alloc (fQ (q1,q2))).alloc (mX (e.dK,e.je))):=(hb4.block _ (by omega)).trans kl;have hB4:=hB2.trans (hb4.mono hB2.size);have hl2:w.heap.size+4<=w2.heap.size:=by omega
   clear afB k0 kf kl hb4 hrg2 hB2 hg2 uo hs2 hr0 hf0 hl0 hbe hat hv lq h3x hmm hsome hkey hq';dsimp only[jX,xu]at hen;dsimp only[jX,xu];dsimp only[fQ,mX]at BO Cf H7 hs4 j0 jf jl hB4;go_upto_region 6 with(fail);generalize World.alloc (World.alloc _ _) _=W4 at BO Cf H7 hs4 j0 jf jl hB4 ⊢;generalize w2.heap.size=C at BO Cf hl2 ⊢;have aaW:∀z∈e0::E,wm z.key:=λz hz=>(hok z hz).1;have hput:Hid (∀W5,Below W4.heap.size W4 W5->(if an then(if e.dK=l.1 then e.je<l.2 else e.dK<l.1)else True)->Qm x.Ms R3 nn w.heap.size D (e0::E) w (λz=>left z&&!z.sameKey (iF (q1,q2))) cnt2 true (q1,q2) (e.dK,e.je) ((((W5.setCell ⟨w.heap.size+1,0,none⟩ (.int .u32 q1)).setCell ⟨w.heap.size+1,1,none⟩ (.int .u32 q2)).setCell ⟨w.heap.size+1+1,0,none⟩ (.int .u64 e.dK)).setCell ⟨w.heap.size+1+1,1,none⟩ (.int .i64 e.je)).drew):=λW5 h5 hc=>by
    have hz5:=h5.size;refine Qm.put (p:=(q1,q2)) (m:=(e.dK,e.je)) (pG H7 h5) ((h5.block _ (by omega)).trans j0) ((h5.block _ (by omega)).trans jf) ((h5.block _ (by omega)).trans jl) (hB4.trans (h5.mono hB4.size)) (by omega) abu.out abx ?_;rw[<-hek];refine hfi.yes aaW hasc he (by rw[hek];exact hlk) λh=> ?_;rw[aQ h]at hc;exact hc
   have hkeep:Hid (∀W5,Below W4.heap.size W4 W5->an=true->¬(if e.dK=l.1 then e.je<l.2 else e.dK<l.1)->Qm x.Ms R3 nn w.heap.size D (e0::E) w (λz=>left z&&!z.sameKey (iF (q1,q2))) cnt2 true f l W5):=λW5 h5 ha hc=>by
    subst ha;have hz5:=h5.size;refine⟨pG H7 h5,?_,(h5.block _ (by omega)).trans j0,(h5.block _ (by omega)).trans jf,(h5.block _ (by omega)).trans jl,hB4.trans (h5.mono hB4.size),by omega⟩;rw[<-hek];exact hfi.no aaW hasc he hc
   have hcl:Hid (∀W5,Below W4.heap.size W4 W5->QB C (q1,q2) W5∧I7 (C+1) (e.dK,e.je) W5∧QB (w.heap.size+1) f W5∧I7 (w.heap.size+2) l W5):=λW5 h5=>
    ⟨(h5.block _ (zJ BO)).trans BO,(h5.block _ (zJ Cf)).trans Cf,(h5.block _ (by omega)).trans jf,(h5.block _ (by omega)).trans jl⟩
   clear aaW hfi H7 j0 jf jl hB4 hs4 hasc BO Cf;cases an
   ·obtain⟨BO,Cf,jf,jl⟩:=hcl.out W4 (aV _ _);obtain⟨a0,a1⟩:=BO.cell;obtain⟨b0,b1⟩:=Cf.cell;obtain⟨d0,d1⟩:=jf.cell;obtain⟨g0,g1⟩:=jl.cell;have y0:=jf.free 0;have y1:=jf.free 1;have y2:=jl.free 0;have y3:=jl.free 1;dsimp only at a0 a1 b0 b1;have hF:=hput.out W4 (aV _ _) (by simp);clear hput hkeep hcl BO Cf jf jl;go_wp2_with fail;go_region
    generalize World.drew _=W9 at hF ⊢;go_wp2_with fail;go_roundw
    case rel=>exact⟨_,cnt2,true,_,_,rfl,hF⟩
    case measure=>rw[hF.rg.left_eq];exact hme.out
   ·obtain⟨BO,Cf,jf,jl⟩:=hcl.out W4 (aV _ _);obtain⟨a0,a1⟩:=BO.cell;obtain⟨b0,b1⟩:=Cf.cell;obtain⟨d0,d1⟩:=jf.cell;obtain⟨g0,g1⟩:=jl.cell;dsimp only at a0 a1 b0 b1;clear BO Cf jf jl;go_wp2_with fail;refine aU (J4 (e.dK,e.je) l W4)?_;rintro r W5 ⟨rfl,hb5⟩;clear a0 a1 b0 b1 d0 d1 g0 g1;obtain⟨BO,Cf,jf,jl⟩:=hcl.out W5 hb5;obtain⟨a0,a1⟩:=BO.cell;obtain⟨b0,b1⟩:=Cf.cell;obtain⟨d0,d1⟩:=jf.cell;obtain⟨g0,g1⟩:=jl.cell;have y0:=jf.free 0;have y1:=jf.free 1;have y2:=jl.free 0;have y3:=jl.free 1;dsimp only at a0 a1 b0 b1;by_cases hc:(if e.dK=l.1 then e.je<l.2 else e.dK<l.1)
    ·have hF:=hput.out W5 hb5 (by rw[aQ trivial];exact hc);have hbt:(if e.dK=l.1 then decide (e.je<l.2)else decide (e.dK<l.1))=true:=by
      split at hc<;>simp_all
     dsimp only;rw[hbt];clear hput hkeep hcl BO Cf jf jl hc hbt;go_wp2_with fail;go_region
     generalize World.drew _=W9 at hF ⊢;go_wp2_with fail;go_roundw
     case rel=>exact⟨_,cnt2,true,_,_,rfl,hF⟩
     case measure=>rw[hF.rg.left_eq];exact hme.out
    ·have hF:=hkeep.out W5 hb5 trivial hc;have hbt:(if e.dK=l.1 then decide (e.je<l.2)else decide (e.dK<l.1))=false:=by
      split at hc<;>simp_all
     dsimp only;rw[hbt];clear hput hkeep hcl BO Cf jf jl hc hbt;go_wp2_with fail;go_roundw
     case rel=>exact⟨_,cnt2,true,_,_,rfl,hF⟩
     case measure=>rw[hF.rg.left_eq];exact hme.out
theorem AQ{α:Type}(p:α->Bool):∀l:List α,(l.filter p).length+(l.filter λx=>!p x).length=l.length
 | []=>rfl
 |x::l=>by
  have:=AQ p l;cases h:p x<;>simp[h]<;>omega
theorem xJ.put{g:Int×Int->Option (Int×Int)}(h:xJ Ms tn E W)(h2:∀e∈E,g e.key=some (e.dK,e.je))(h3:∀k m,wm k->g k=some m->∃e∈E,e.key=k∧m=(e.dK,e.je)){q:Int×Int}(hq:wm q){dK:Int}(h0:0<=dK)(hm:∀e∈E,e.dK<=dK)
  (hM:lI W' Ms (qJ g q (some (dK,tn))) (if (g q).isSome then E.length else E.length+1)):
  ∃g',lI W' Ms g' (dZ E q dK tn).length∧(∀e∈dZ E q dK tn,g' e.key=some (e.dK,e.je))∧(∀k m,wm k->g' k=some m->∃e∈dZ E q dK tn,e.key=k∧m=(e.dK,e.je))∧(∀e∈dZ E q dK tn,wm e.key∧0<=e.dK∧0<=e.je∧e.je<tn+1)∧(dZ E q dK tn).Pairwise (λa b=>a.dK<=b.dK∧a.je<b.je∧a.key≠b.key)∧(dZ E q dK tn).length<=17:=by
 have hk:(⟨q.1,q.2,dK,tn⟩:Mm).key=q:=rfl;have htn:=h.tn0;have hmem:∀e,e∈dZ E q dK tn ↔ (e∈E∧e.key≠q)∨e=⟨q.1,q.2,dK,tn⟩:=by
  intro e;unfold dZ;simp[d_,List.mem_filter]
 have hfl:(E.filter λe=>!decide (e.key=q)).length<=E.length:=List.length_filter_le ..;have hlen:(dZ E q dK tn).length=if (g q).isSome then E.length else E.length+1:=by
  unfold dZ;rw[dw,List.length_singleton];cases hg:g q with
  |none=>
   have:E.filter (λe=>!decide (e.key=q))=E:=List.filter_eq_self.2 λe he=>by
    have:e.key≠q:=λhc=>by
     have:=h2 e he;rw[hc,hg]at this;cases this
    simp[this]
   rw[this];simp
  |some m=>
   obtain⟨e,he,hek,_⟩:=h3 q m hq hg;have hcount:(E.filter λe=>decide (e.key=q)).length=1:=by
    have hnd:(E.filter λe=>decide (e.key=q)).Pairwise (λa b=>a.key≠b.key):=(h.xD.imp λh=>h.2.2).filter _;have hall:∀z∈E.filter (λe=>decide (e.key=q)),z.key=q:=λz hz=>by simpa using(List.mem_filter.1 hz).2
    have hin:e∈E.filter (λe=>decide (e.key=q)):=List.mem_filter.2 ⟨he,by simpa using hek⟩;generalize E.filter (λe=>decide (e.key=q))=F at hnd hall hin ⊢
    match F,hnd,hall,hin with
    | [],_,_,hin=>simp at hin
    | [_],_,_,_=>rfl
    |a::b::r,hnd,hall,_=>
     exfalso;have h1:=(List.pairwise_cons.1 hnd).1 b (iK ..);exact h1 ((hall a (iK ..)).trans (hall b (jS _ (iK ..))).symm)
   have hsum:=AQ (λe:Mm=>decide (e.key=q)) E;simp only[Option.isSome_some,if_true];omega
 refine⟨_,by rw[hlen];exact hM,λe he=> ?_,λk m hk hg=> ?_,λe he=> ?_,?_,by rw[hlen];have:=h.len;split<;>omega⟩
 ·rcases(hmem e).1 he with⟨he,hne⟩|rfl
  ·simp only[qJ,aM hne];exact h2 e he
  ·simp[qJ,Mm.key]
 ·unfold qJ at hg;split at hg
  ·rename_i hkq;subst hkq;exact⟨_,(hmem _).2 (.inr rfl),rfl,(Option.some.inj hg).symm⟩
  ·rename_i hkq;obtain⟨e,he,hek,hm⟩:=h3 k m hk hg;exact⟨e,(hmem e).2 (.inl ⟨he,by rw[hek];exact hkq⟩),hek,hm⟩
 ·rcases(hmem e).1 he with⟨he,_⟩|rfl
  ·have:=h.ok e he;exact⟨this.1,this.2.1,this.2.2.1,by omega⟩
  ·exact⟨hq,h0,htn,by dsimp only;omega⟩
 ·unfold dZ;refine List.pairwise_append.2 ⟨h.xD.filter _,by simp,λa ha b hb=> ?_⟩;rw[fe]at hb;subst hb;obtain⟨ha1,ha2⟩:=List.mem_filter.1 ha;have:=h.ok a ha1;exact⟨hm a ha1,this.2.2.2,by show a.key≠q;simpa using ha2⟩
theorem WG{e0:Mm}{g:Int×Int->Option (Int×Int)}(h2:∀e∈e0::E,g e.key=some (e.dK,e.je))(h3:∀k m,wm k->g k=some m->∃e∈e0::E,e.key=k∧m=(e.dK,e.je))(hok:∀e∈e0::E,wm e.key∧0<=e.dK∧0<=e.je∧e.je<tn)(ha:(e0::E).Pairwise λa b=>a.dK<=b.dK∧a.je<b.je∧a.key≠b.key)(hl:(e0::E).length<=17)(ht:0<=tn)
  (hM:lI W' Ms (qJ g e0.key none) ((e0::E).length - 1)):xJ Ms tn E W':=by
 have hp:=List.pairwise_cons.1 ha;refine⟨⟨_,hM,λe he=> ?_,λk m hk hg=> ?_⟩,λe he=>hok e (jS _ he),hp.2,by simpa using hl,ht⟩
 ·have:=(hp.1 e he).2.2;simp only[qJ,aM (Ne.symm this)];exact h2 e (jS _ he)
 ·unfold qJ at hg;split at hg
  ·cases hg
  ·rename_i hne;obtain⟨e,he,hek,hm⟩:=h3 k m hk hg;rcases fo.1 he with rfl|he
   ·exact absurd hek.symm hne
   ·exact⟨e,he,hek,hm⟩
theorem Ga(N:Nat)(x:nu)(E:List Mm)(q:Int×Int)(hq:wm q)(dK:Int)(h0:0<=dK)(hm:∀e∈E,e.dK<=dK)(htn:x.tn<=4611686018427387904)(w:World)(hN:iI N x w)(hs:xJ x.Ms x.tn E w):
  Calls Tryz.prog 156 #[.pointer (some ⟨N,8,none⟩),jX q,.int .u64 dK] w λe w'=>e=.returned (.tuple #[])∧iI N {x with tn:=x.tn+1} w'∧xJ x.Ms (x.tn+1) (dW E q dK x.tn) w'∧Fx (λk=>k=N∨k=x.Ms) w w':=by
 obtain⟨g,h1,h2,h3⟩:=hs.map;have agx:=hs.len;have agm:=hs.tn0;have hNM:N≠x.Ms:=λe=>by
  obtain⟨es,cl,hM⟩:=hs.obj;rw[<-e,show w.heap[N]?=_ from hN]at hM;cases hM
 have hb0:Below w.heap.size w (w.alloc (fQ q)):=bq;have hC:=bS w (fQ q);have hN1:=hN.later hb0;have hg1:=h1.block (hb0.block _ h1.lt);have hF1:Fx (λk=>k=N∨k=x.Ms) w (w.alloc (fQ q)):=Fx.below hb0;have Uk:w.heap.size<(w.alloc (fQ q)).heap.size:=by simp
 have hne:w.heap.size≠N∧w.heap.size≠x.Ms:=⟨λe=>by have:=hN.lt;omega,λe=>by have:=hs.lt;omega⟩;have HP:=(show Hid _ from λW' hM=>xJ.put (W':=W') hs h2 h3 hq h0 hm hM);clear hs hN h1 h2 h3 hm;dsimp only[fQ]at hb0 hC hN1 hg1 hF1 Uk;dsimp only[jX];have hsa:Hid (dW E q dK x.tn=if 16<(dZ E q dK x.tn).length then(dZ E q dK x.tn).tail else dZ E q dK x.tn):=rfl;generalize dW E q dK x.tn=R at hsa ⊢;go_enter Tryz.func156,Tryz.ntmps156;go_upto_region 1 with(fail);generalize World.alloc _ _=W1 at hb0 hC hN1 hg1 hF1 Uk ⊢;generalize w.heap.size=C at hC Uk hne ⊢;obtain⟨n0,n2,n3,n4,n5,n6,n7,n8,n9,n10⟩:=hN1.cell;have c0:W1.cell? ⟨C,0,none⟩=some (.int .u32 q.1):=aH _ _ 0 _ _ _ hC;have c1:W1.cell? ⟨C,1,none⟩=some (.int .u32 q.2):=aH _ _ 1 _ _ _ hC;obtain⟨W3,hr3,oM,O5⟩:=(show lI W1.drew _ _ _ from hg1).put (by unfold maxLen;omega) hq (dK,x.tn);dsimp only[jX,xu]at hr3;have TN:W1.grownBy W3 (some x.Ms):=⟨O5.os,O5.tape,O5.output,O5.size,O5.block⟩;have AB:=hN1.kept TN (by simpa using Ne.symm hNM);have yg:=hF1.trans (Fx.grown (S:=λk=>k=x.Ms) TN (λk e=>by cases e;rfl)) (λi _ h=> .inr h);have hP3:=HP.out W3 oM;clear hg1 hN1 hF1 oM HP hC hb0;go_region
 clear n0 n2 n3 n4 n5 n6 n7 n8 n9 n10 c0 c1 hr3 O5 TN;obtain⟨g',k1,k2,k3,k4,k5,k6⟩:=hP3;generalize dZ E q dK x.tn=L at k1 k2 k3 k4 k5 k6 hsa;obtain⟨n0,n2,n3,n4,n5,n6,n7,n8,n9,n10⟩:=AB.cell;have f9:=AB.free 9;have hg4:W3.grownBy (W3.setCell ⟨N,9,none⟩ (.int .i64 (x.tn+1))) (some N):=ah (aC _ (some N)) 9 _;have BQ:=AB.acA (x.tn+1);have k14:=k1.block (hg4.block _ k1.lt (by simpa using Ne.symm hNM));have sS:=yg.trans (Fx.grown (S:=λk=>k=N) hg4 (λk e=>by cases e;rfl)) (λi _ h=> .inl h);have hwr:wrap64 (x.tn+1)=x.tn+1:=by unfold wrap64;omega
 clear AB k1 yg hg4;go_upto_region 3 with(fail);generalize World.setCell _ _ _=W4 at BQ k14 sS ⊢;clear n0 n2 n3 n4 n5 n6 n7 n8 n9 n10 f9 hwr;obtain⟨n0,n2,n3,n4,n5,n6,n7,n8,n9,n10⟩:=BQ.cell;have hlen:=λty=>k14.len ty;generalize hnl:L.length=nl at hlen;replace hnl:=(show Hid _ from hnl);by_cases hl:16<L.length
 ·have hlb:decide ((16:Int)<(nl:Int))=true:=gu (by have:=hnl.out;omega);have hR:=hsa.out;rw[aQ hl]at hR;subst hR;obtain⟨e0,L',rfl⟩:∃e0 L',L=e0::L':=by
   cases L with
   |nil=>simp at hl
   |cons a b=>exact⟨a,b,rfl⟩
  have HF:Hid (∀W5,Below W4.heap.size W4 W5->Calls Tryz.prog 178 #[.pointer (some ⟨N,8,none⟩)] W5 λe w'=>e=.returned (jX e0.key)∧Below W4.heap.size W4 w'):=by
   intro W5 h5;refine(Iq N {x with tn:=x.tn+1} e0 L' W5 (BQ.later h5) ⟨_,k14.block (h5.block _ k14.lt),k2,k3⟩ k4 k5).mono ?_;rintro e w' ⟨rfl,hb⟩;exact⟨rfl,h5.trans (hb.mono h5.size)⟩
  have HD:Hid (∀W5,Below W4.heap.size W4 W5->W5.cell? ⟨N,8,none⟩=some (.map (some x.Ms))∧∃W6,(Builtin.delete_ #[111,261] 0 #[.map (some x.Ms),jX e0.key]).run Tryz.prog W5=.ok (.tuple #[]) W6∧W6.cell? ⟨N,8,none⟩=some (.map (some x.Ms))∧iI N {x with tn:=x.tn+1} W6∧xJ x.Ms (x.tn+1) L' W6∧Fx (λk=>k=N∨k=x.Ms) w W6):=by
   intro W5 h5;have oh:=k14.block (h5.block _ k14.lt);obtain⟨W6,sN,EF,jr⟩:=oh.del (k4 e0 (iK ..)).1 0 (by rw[k2 e0 (iK ..)];rfl);have Qw:=(BQ.later h5).kept jr (by simpa using Ne.symm hNM);exact⟨(BQ.later h5).cell.2.2.2.2.2.1,W6,sN,Qw.cell.2.2.2.2.2.1,Qw,WG k2 k3 k4 k5 k6 (by omega) EF,(sS.trans (Fx.below (S:=λ_=>False) h5) (λ_ _ h=>h.elim)).trans (Fx.grown (S:=λk=>k=x.Ms) jr (λk e=>by cases e;rfl)) (λi _ h=> .inr h)⟩
  clear BQ k14 sS k2 k3 k4 k5 k6 hl;dsimp only[jX]at HF HD;go_wp2_with fail;go_region_law (first
   |(go_simp;go_at_call 178;refine(HF.out _ (by first|exact aV _ _|exact(aV _ _).drew|exact below_drewN (aV _ _) _)).mono ?_;rintro e w5 ⟨rfl,hb5⟩;obtain⟨O_,W6,sN,hc6,Qw,X0,VN⟩:=HD.out _ hb5))
  all_goals
   go_wp2;go_returns;exact⟨rfl,Qw,X0,VN⟩
 ·have hlb:decide ((16:Int)<(nl:Int))=false:=fB (by have:=hnl.out;omega);have hR:=hsa.out;rw[aM hl]at hR;replace hR:=(show Hid _ from hR);have hfin:xJ x.Ms (x.tn+1) L W4:=⟨⟨g',k14,k2,k3⟩,k4,k5,by omega,by omega⟩;clear k14 k2 k3 k4 k5 k6 hl;go_wp2;go_returns;exact⟨rfl,BQ,hR.out▸hfin,sS⟩
open Hp
variable{last:Int}{f:Int->Option Nat}{M T:Nat}{v:Value}{W:World}
def PI(h:List Tm)(f:Int->Option Nat):Prop:=
 (∀i x,h[i]?=some x->f x.2.1=some i)∧∀k i,f k=some i->∃x,h[i]?=some x∧x.2.1=k
theorem PI.sw{h:List Tm}(p:PI h f){i j:Nat}(hi:i<h.length)(hj:j<h.length):
  PI (sw h i j) (upd (upd f (at' h j).2.1 (some i)) (at' h i).2.1 (some j)):=by
 have pi:=p.1 i _ (jC hi);have pj:=p.1 j _ (jC hj);have hs:=yA hi hj;constructor
 ·intro k x hx;have hk:k<h.length:=by
   rcases Nat.lt_or_ge k (Hp.sw h i j).length with a|a
   ·rw[dL]at a;exact a
   ·rw[List.getElem?_eq_none a]at hx;cases hx
  have e:=rZ hx;rw[hs]at e;by_cases h1:k=j
  ·rw[aQ h1]at e;rw[<-e,h1];simp[upd]
  ·rw[aM h1]at e;by_cases h2:k=i
   ·rw[aQ h2]at e;rw[<-e,h2];unfold upd;by_cases h3:(at' h j).2.1=(at' h i).2.1
    ·rw[h3,pi]at pj;cases pj;exact absurd h2 h1
    ·rw[aM h3,aQ rfl]
   ·rw[aM h2]at e;have pk:=p.1 k _ (jC hk);rw[e]at pk;unfold upd;by_cases h3:x.2.1=(at' h i).2.1
    ·rw[h3,pi]at pk;cases pk;exact absurd rfl h2
    ·rw[aM h3];by_cases h4:x.2.1=(at' h j).2.1
     ·rw[h4,pj]at pk;cases pk;exact absurd rfl h1
     ·rw[aM h4,pk]
 ·intro k n hn;unfold upd at hn;have hl:(Hp.sw h i j).length=h.length:=dL h i j;by_cases h1:k=(at' h i).2.1
  ·rw[aQ h1]at hn;cases hn;exact⟨_,jC (by omega),by rw[hs,aQ rfl,h1]⟩
  ·rw[aM h1]at hn;by_cases h2:k=(at' h j).2.1
   ·rw[aQ h2]at hn;cases hn;refine⟨_,jC (by omega),?_⟩;rw[hs,aQ rfl];by_cases h3:i=j
    ·subst h3;exact absurd h2 h1
    ·rw[aM h3,h2]
   ·rw[aM h2]at hn;obtain⟨x,hx,hk⟩:=p.2 k n hn;have hnl:n<h.length:=by
     rcases Nat.lt_or_ge n h.length with a|a
     ·exact a
     ·rw[List.getElem?_eq_none a]at hx;cases hx
    refine⟨x,?_,hk⟩;rw[jC (by omega),hs];have e:=rZ hx;rw[aM (by rintro rfl;rw[e]at h2;exact h2 hk.symm),aM (by rintro rfl;rw[e]at h1;exact h1 hk.symm),e]
theorem PI.add{h:List Tm}(p:PI h f){x:Tm}(hx:f x.2.1=none):PI (h++ [x]) (upd f x.2.1 (some h.length)):=by
 constructor
 ·intro i y hy;unfold upd;by_cases hi:i<h.length
  ·rw[List.getElem?_append_left hi]at hy;have:=p.1 i y hy;rw[aM (λe=>by rw[e,hx]at this;cases this),this]
  ·rw[List.getElem?_append_right (by omega)]at hy;have:i - h.length=0:=by
    rcases Nat.eq_zero_or_pos (i - h.length)with a|a
    ·exact a
    ·rw[List.getElem?_eq_none (by simp;omega)]at hy;cases hy
   rw[this]at hy;simp at hy;subst hy;rw[aQ rfl]
   congr 1
   omega
 ·intro k i hk;unfold upd at hk;by_cases e:k=x.2.1
  ·rw[aQ e]at hk;cases hk;exact⟨x,by simp,e.symm⟩
  ·rw[aM e]at hk;obtain⟨y,hy,he⟩:=p.2 k i hk;have hi:i<h.length:=by
    rcases Nat.lt_or_ge i h.length with a|a
    ·exact a
    ·rw[List.getElem?_eq_none a]at hy;cases hy
   exact⟨y,by rw[List.getElem?_append_left hi];exact hy,he⟩
theorem PI.cut{h:List Tm}(p:PI h f){n:Nat}(hn:h.length=n+1):PI (h.take n) (upd f (at' h n).2.1 none):=by
 have pn:=p.1 n _ (jC (by omega));constructor
 ·intro i x hx;rw[List.getElem?_take]at hx;split at hx
  ·rename_i hi;have pi:=p.1 i x hx;unfold upd;rw[aM (λe=>by rw[e,pn]at pi;cases pi;omega),pi]
  ·cases hx
 ·intro k i hk;unfold upd at hk;split at hk
  ·cases hk
  ·rename_i e;obtain⟨x,hx,he⟩:=p.2 k i hk;refine⟨x,?_,he⟩;rw[List.getElem?_take];split
   ·exact hx
   ·rename_i hi;have hil:i<h.length:=by
     rcases Nat.lt_or_ge i h.length with a|a
     ·exact a
     ·rw[List.getElem?_eq_none a]at hx;cases hx
    obtain rfl:i=n:=by omega
    rw[rZ hx]at e;exact absurd he.symm e
def Lu(x:Tm):List Value:=[.int .u64 x.1,.int .i64 x.2.1,.int .i64 x.2.2]
def TC(h:List Tm):List Value:=h.flatMap Lu
theorem oV(h:List Tm):(TC h).length=h.length * 3:=rF Lu 3 (λ_=>rfl) h
theorem tq{h:List Tm}{i:Nat}(hi:i<h.length):(TC h)[i * 3]?=some (.int .u64 (at' h i).1)∧(TC h)[i * 3+1]?=some (.int .i64 (at' h i).2.1)∧(TC h)[i * 3+2]?=some (.int .i64 (at' h i).2.2):=
 ⟨kN Lu 3 (by decide) (λ_=>rfl) h i 0 (by decide) (jC hi),kN Lu 3 (by decide) (λ_=>rfl) h i 1 (by decide) (jC hi),kN Lu 3 (by decide) (λ_=>rfl) h i 2 (by decide) (jC hi)⟩
theorem Qa(a b:List Tm):TC (a++b)=TC a++TC b:=by simp[TC]
def TOk(x:Tm):Prop:=(0<=x.1∧x.1<18446744073709551616)∧o6 x.2.1∧o6 x.2.2
def vW(T M:Nat)(last:Int)(v:Value)(W:World):Prop:=W.heap[T]?=some (.cells #[v,.map (some M),.int .i64 last] 165)
theorem vW.cell(h:vW T M last v W):
  W.cell? ⟨T,0,none⟩=some v∧W.cell? ⟨T,1,none⟩=some (.map (some M))∧W.cell? ⟨T,2,none⟩=some (.int .i64 last):=
 ⟨aH W T 0 _ _ _ h,aH W T 1 _ _ _ h,aH W T 2 _ _ _ h⟩
theorem vW.free(h:vW T M last v W)(i:Nat):W.frozen? ⟨T,i,none⟩=false:=by
 unfold vW at h;simp[World.frozen?,h]
theorem vW.lt(h:vW T M last v W):T<W.heap.size:=(g_.1 h).1
structure TR(base T M:Nat)(last:Int)(h:List Tm)(v:Value)(W:World):Prop where
 blk:vW T M last v W
 row:W.ownsRow base 254 3 v h.length (TC h)
 map:∃f,kU W M f h.length∧PI h f
 ok:∀x∈h,TOk x
 bT:base<=T
 bM:base<=M
theorem TR.shape{base:Nat}{h:List Tm}(r:TR base T M last h v W)(h0:0<h.length):∃g cap,v=.slice (some ⟨g,0,none⟩) h.length cap∧base<=g:=by
 refine bV r.row h0
theorem TR.apart{base:Nat}{h:List Tm}(r:TR base T M last h v W):T≠M∧some T≠v.ownBlock∧some M≠v.ownBlock:=by
 have hb:=r.blk;obtain⟨f,⟨D,⟨es,clock,hm,_⟩,_⟩,_⟩:=r.map;refine⟨?_,?_,?_⟩
 ·rintro rfl;unfold vW at hb;rw[hb]at hm;cases hm
 ·intro e;rcases r.row.2 with⟨rfl,_⟩|⟨g,cap,cur,rfl,_,hg,_⟩
  ·simp[Value.ownBlock]at e
  ·simp[Value.ownBlock]at e;subst e;unfold vW at hb;rw[hb]at hg;simp at hg
 ·intro e;rcases r.row.2 with⟨rfl,_⟩|⟨g,cap,cur,rfl,_,hg,_⟩
  ·simp[Value.ownBlock]at e
  ·simp[Value.ownBlock]at e;subst e;rw[hm]at hg;cases hg
structure Fr(T M:Nat)(v:Value)(W W':World):Prop where
 os:W'.os=W.os
 tape:W'.tape=W.tape
 output:W'.output=W.output
 size:W.heap.size<=W'.heap.size
 block:∀k,k<W.heap.size->k≠T->k≠M->some k≠v.ownBlock->W'.heap[k]?=W.heap[k]?
theorem Fr.refl(T M:Nat)(v:Value)(W:World):Fr T M v W W:=⟨rfl,rfl,rfl,aD _,λ_ _ _ _ _=>rfl⟩
theorem Fr.trans{v':Value}{W1 W2:World}(a:Fr T M v W W1)(b:Fr T M v' W1 W2)(hv:v'.ownBlock=v.ownBlock∨∀k,v'.ownBlock=some k->W.heap.size<=k):Fr T M v W W2:=by
 refine⟨b.os.trans a.os,b.tape.trans a.tape,b.output.trans a.output,dH a.size b.size,λk hk h1 h2 h3=> ?_⟩;rw[b.block k (f_ hk a.size) h1 h2 ?_]
 ·exact a.block k hk h1 h2 h3
 ·rcases hv with hv|hv
  ·rw[hv];exact h3
  ·intro e;have:=hv k e.symm;omega
theorem Fr.grown{W':World}{r:Option Nat}(h:W.grownBy W' r)(hr:r=none∨r=some T∨r=some M∨r=v.ownBlock):Fr T M v W W':=by
 refine⟨h.os,h.tape,h.output,h.size,λk hk h1 h2 h3=>h.block k hk ?_⟩;rcases hr with rfl|rfl|rfl|rfl
 ·simp
 ·simpa using h1
 ·simpa using h2
 ·exact h3
end Go.Proofs.YtakaadcpaeiccabGreat
