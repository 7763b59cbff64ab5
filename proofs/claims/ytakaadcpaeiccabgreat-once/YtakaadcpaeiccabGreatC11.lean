import Derived.Test.YtakaadcpaeiccabGreatC10
set_option maxHeartbeats 4000000
set_option maxRecDepth 100000
namespace Go.Proofs.YtakaadcpaeiccabGreat
structure Mm where
 fr:Int
 id:Int
 dL:Int
 jc:Int
def Mm.key(e:Mm):Int×Int:=(e.fr,e.id)
def pu(E:List Mm)(q:Int×Int)(now:Int):Bool:=E.any λe=>decide (e.key=q)&&decide (now<e.dL)
def eB(E:List Mm)(q:Int×Int)(dL jc:Int):List Mm:=E.filter (λe=>!decide (e.key=q))++ [⟨q.1,q.2,dL,jc⟩]
def dP(E:List Mm)(q:Int×Int)(dL jc:Int):List Mm:=if 16<(eB E q dL jc).length then(eB E q dL jc).tail else eB E q dL jc
structure Sr where
 dest:Int
 txt:List ByteArray
 ttl:Int
 ret:Nat
 due:Int
 id:Int
 out:Bool
structure St where
 me:Int
 seq:Int
 cZ:Int
 dm:Int
 eG:Int
 A:List Rt
 mem:List Mm
 tn:Int
 f:Int->Option Int
 own:Int
 cnt:Int
 Q:List Sr
 tl:Int
 pc:List Int
 now:Int
 bg:List (Bool×Int×Int)
 aI:List (Int×ByteArray)
 aR:List (Int×ByteArray)
 aQ:List Int
 bn:Bool
 lk:Int
namespace St
def write(s:St):St:={s with f:=(bJ s.seq s.own s.f s.A).1,own:=E9 s.seq s.own,cnt:=s.cnt+(bJ s.seq s.own s.f s.A).2.length,bg:=s.bg++(bJ s.seq s.own s.f s.A).2}
def drop(s:St)(r:Int):St:={s with aQ:=s.aQ++ [r]}
def send(s:St)(t:Int)(p:aD)(L:List (Int×Int)):St:={s with aI:=s.aI++ [(t,strOfNums (jU p L))]}
def lose(s:St)(t:Int)(L:List (Int×Int)):St:={s with aI:=s.aI++Pw t L}
def kE(s:St)(t d:Int):St:=s.lose t [(d,eT s.A d)]
def begin(s:St)(now:Int):St:={s with now:=now,A:=iW s.A now,bg:=[],aI:=[],aR:=[],aQ:=[],bn:=false}.write
def cmp(s:St):List (Bool×Int×Int):=dz (some s.own)++gM s.f (s.A.map (·.dest))
def finish(s:St):St:=
 if s.write.cnt>24 then {s.write with bg:=s.write.cmp,cnt:=s.write.cmp.length,bn:=true}else s.write
def aZ(s:St):ByteArray:=strOfNums (bB s.bg)
def far(h:Int):Int:=min (h+1) 255
def answer(s:St)(p:aD):St:=
 if (bH s.A p.aJ s.now).2 then s.send (bH s.A p.aJ s.now).1.next {p with ttl:=8,kind:=2} []else s.drop 3
def uj(hops d q fm life:Int):aD:=⟨0,0,hops,false,0,d,q,fm,0,life,none,0,0,⟨#[]⟩⟩
def iG(s:St)(p:aD):St:={s with seq:=max s.seq p.aX}.answer (uj 0 s.me (max s.seq p.aX) p.aJ 6000)
def gK(s:St)(p:aD)(r:Rt):St:=
 {s with A:=kZ (if (bH s.A p.aJ s.now).2 then kZ s.A p.dest (bH s.A p.aJ s.now).1.next else s.A) p.aJ r.next}.answer (uj r.hops p.dest r.seq p.aJ ((r.exp - s.now)%4294967296))
def askOn(s:St)(p:aD):St:=
 s.send 0 {p with ttl:=p.ttl - 1,hops:=far p.hops,aX:=if (aK s.A p.dest).isSome then max p.aX (eT s.A p.dest)else p.aX,unk:=if (aK s.A p.dest).isSome then false else p.unk} []
def asked(s:St)(p:aD):St:=
 if p.dest=s.me then s.iG p
 else if (bH s.A p.dest s.now).2&&(p.unk||decide ((bH s.A p.dest s.now).1.seq>=p.aX))then s.gK p (bH s.A p.dest s.now).1
 else if p.ttl=1 then s.drop 4 else s.askOn p
def learn(s:St)(fr:Int)(p:aD):St:=
 if (iP s.me s.A p.aJ p.dw (far p.hops) fr (s.now+3000)).2=4 then {s with A:=(iP s.me s.A p.aJ p.dw (far p.hops) fr (s.now+3000)).1}.drop 2
 else if (iP s.me s.A p.aJ p.dw (far p.hops) fr (s.now+3000)).2=3 then {s with A:=iO (iP s.me s.A p.aJ p.dw (far p.hops) fr (s.now+3000)).1 p.aJ (s.now+3000)}.asked p
 else {s with A:=(iP s.me s.A p.aJ p.dw (far p.hops) fr (s.now+3000)).1}.asked p
def bV(s:St)(fr:Int)(p:aD):St:=
 if p.aJ=s.me∨pu s.mem (p.aJ,p.id) s.now then s.drop 1
 else {s with mem:=dP s.mem (p.aJ,p.id) (s.now+1280) s.tn,tn:=s.tn+1}.learn fr p
def C8(i d me:Int)(t:ByteArray):aD:=⟨8,9,0,false,i,d,0,me,0,0,none,0,0,t⟩
def aN(s:St)(d:Int)(t:ByteArray):St:=
 if (bH s.A d s.now).2 then {s with eG:=(s.eG+1)%4294967296,A:=iO s.A d (s.now+3000)}.send (bH s.A d s.now).1.next (C8 ((s.eG+1)%4294967296) d s.me t) []
 else s
def j6(Q:List Sr)(d:Int):Option Sr:=Q.find? λq=>decide (q.dest=d)
def sendAll(s:St)(d:Int):St:=
 match j6 s.Q d with
 |none=>s
 |some q=>if (bH s.A d s.now).2 then {q.txt.foldl (λs t=>s.aN d t) s with Q:=s.Q.filter λz=>!decide (z.dest=d)}else s
def iD(s:St)(fr:Int)(p:aD):St:=
 if (bH s.A p.aJ s.now).2 then
  {s with A:=iO (kZ (kZ s.A p.dest (bH s.A p.aJ s.now).1.next) p.aJ fr) p.aJ (s.now+3000)}.send (bH s.A p.aJ s.now).1.next {p with ttl:=p.ttl - 1,hops:=far p.hops} []
 else s.drop 3
def dN(s:St)(fr:Int)(p:aD):St:=
 if p.dest=s.me then s.drop 1
 else
  let u:=iP s.me s.A p.dest p.aX (far p.hops) fr (s.now+p.life)
  let s:={s with A:=u.1}
  if u.2=4 then s.drop 2
  else if p.aJ=s.me then(if u.2=3 then(s.sendAll p.dest).drop 7 else s.sendAll p.dest)
  else if p.ttl=1 then s.drop 4
  else s.iD fr p
def Ff(fr:Int)(z:List Rt×Bool×List (Int×Int))(l:Int×Int):List Rt×Bool×List (Int×Int):=
 if mR z.1 fr l.1 then(gT z.1 fr l.1 l.2,true,if ((aK z.1 l.1).any λy=>decide (0<y.bN.length))then z.2.2++ [(l.1,eT (gT z.1 fr l.1 l.2) l.1)]else z.2.2)else z
def fC(s:St)(fr:Int)(L:List (Int×Int)):St:=
 let z:=L.foldl (Ff fr) (s.A,false,[])
 let s:={s with A:=z.1}
 (if z.2.1 then s else s.drop 7).lose 0 z.2.2
def oM(y:Rt):Rt:={y with seq:=gr y.seq}
def dU(s:St)(fr:Int)(p:aD):St:=
 if p.dest=s.me then {s with aR:=s.aR++ [(p.aJ,p.pay)]}
 else if p.ttl=1 then s.drop 4
 else if (bH s.A p.dest s.now).2 then {s with A:=iO (iO s.A p.dest (s.now+3000)) p.aJ (s.now+3000)}.send (bH s.A p.dest s.now).1.next {p with ttl:=p.ttl - 1} []
 else {s.drop 3 with A:=gV s.A p.dest oM}.kE fr p.dest
def dA(s:St)(fr:Int)(p:aD):St:=
 if p.kind=9∧p.dest≠s.me then {(s.drop 8).kE fr p.dest with cZ:=s.now+2000}else s.drop 8
def gF(s:St)(fr:Int)(p:aD)(L:List (Int×Int)):St:=
 if s.now<s.cZ then s.dA fr p
 else if p.kind=1 then s.bV fr p
 else if p.kind=2 then s.dN fr p
 else if p.kind=3 then s.fC fr L
 else s.dU fr p
def hear(s:St)(fr:Int)(xs:List Int):St:=
 if qB xs=false∨fr=0∨fr=s.me then s.drop 0
 else s.gF fr (iY (xs.getD 0 0) (xs.getD 1 0) (xs.getD 2 0) (xs.getD 4 0) (xs.drop 5)) (m_ (xs.getD 1 0) (xs.getD 4 0) (xs.drop 5))
def receive(s:St)(now fr:Int)(xs:List Int):St:=((s.begin now).hear fr xs).finish
def broken(s:St)(now d_:Int):St:=
 let s:=s.begin now
 ({s with A:=s.A.map (bQ d_ 0)}.lose 0 (nC d_ s.A)).finish
def full(pc:List Int)(now:Int):Bool:=decide (pc.length=5)&&(decide (now<1000)||decide (pc.getD 0 0>now - 1000))
def dJ(pc:List Int)(now:Int):List Int:=(if pc.length=5 then pc.tail else pc)++ [now]
def G8(ttl:Int)(unk:Bool)(i d q me sq:Int):aD:=⟨ttl,1,0,unk,i,d,q,me,sq,0,none,0,0,⟨#[]⟩⟩
def request(s:St)(d ttl:Int):St:=
 let s1:={s with seq:=gr s.seq,dm:=(s.dm+1)%4294967296}.write
 {s1 with pc:=dJ s1.pc s1.now,mem:=dP s1.mem (s1.me,s1.dm) (s1.now+1280) s1.tn,tn:=s1.tn+1}.send 0 (G8 ttl (!(aK s1.A d).isSome) s1.dm d (eT s1.A d) s1.me s1.seq) []
def bR(Q:List Sr)(q:Sr):List Sr:=Q.map λz=>if z.dest=q.dest then q else z
def ask(s:St)(q:Sr):St:=
 if full s.pc s.now then let s:=s.drop 9;{s with tl:=s.tl+1,Q:=bR s.Q {q with due:=s.now+1000,id:=s.tl+1,out:=false}}
 else if s.now<s.cZ then let s:=s.drop 8;{s with tl:=s.tl+1,Q:=bR s.Q {q with due:=s.now+1000,id:=s.tl+1,out:=false}}
 else let s:=s.request q.dest q.ttl;{s with tl:=s.tl+1,Q:=bR s.Q {q with due:=s.now+80 * (q.ttl+2)* 2 ^ q.ret,id:=s.tl+1,out:=true}}
def ic(d:Int)(t:ByteArray):Sr:=⟨d,[t],1,0,0,0,false⟩
def hold(s:St)(q:Sr)(t:ByteArray):St×Sr:=
 if q.txt.length=4 then(s.drop 6,{q with txt:=q.txt.tail++ [t]})else(s,{q with txt:=q.txt++ [t]})
def await(s:St)(d:Int)(t:ByteArray):St:=
 match j6 s.Q d with
 |some q=> {(s.hold q t).1 with Q:=bR s.Q (s.hold q t).2}
 |none=> {s with Q:=s.Q++ [ic d t]}.ask (ic d t)
def sends(s:St)(now d:Int)(t:ByteArray):St:=
 let s:=s.begin now
 (if (bH s.A d s.now).2 then s.aN d t else s.await d t).finish
def YQ(s:St)(d:Int):St:={s with Q:=s.Q.filter λz=>!decide (z.dest=d)}
def widen(s:St)(q:Sr):St:=
 if q.ttl+2<=5 then s.ask {q with ttl:=q.ttl+2}
 else if q.ttl<8 then s.ask {q with ttl:=8}
 else if q.ret<2 then s.ask {q with ret:=q.ret+1}
 else {s with aQ:=s.aQ++List.replicate q.txt.length 5}.YQ q.dest
def step(s:St)(q:Sr):St:=
 if (bH s.A q.dest s.now).2 then s.sendAll q.dest
 else if q.out then s.widen q else s.ask q
def KA(a b:Sr):Bool:=decide (a.due<b.due)||(decide (a.due=b.due)&&decide (a.id<=b.id))
def j_(Q:List Sr)(now:Int):List Sr:=(Q.filter λq=>decide (q.due<=now)).mergeSort KA
def tick(s:St)(now:Int):St:=
 let s:=s.begin now
 ((j_ s.Q now).foldl step s).finish
end St
open Go.RowKit Go.Maps
variable{tn:Int}{E:List Mm}{Ms:Nat}{W:World}
structure yo(Ms:Nat)(tn:Int)(E:List Mm)(W:World):Prop where
 map:∃g,lF W Ms g E.length∧(∀e∈E,g e.key=some (e.dL,e.jc))∧∀k m,wK k->g k=some m->∃e∈E,e.key=k∧m=(e.dL,e.jc)
 ok:∀e∈E,wK e.key∧0<=e.dL∧0<=e.jc∧e.jc<tn
 y_:E.Pairwise λa b=>a.dL<=b.dL∧a.jc<b.jc∧a.key≠b.key
 len:E.length<=16
 tn0:0<=tn
theorem yo.block{W':World}(h:yo Ms tn E W)(he:W'.heap[Ms]?=W.heap[Ms]?):yo Ms tn E W':=by
 obtain⟨⟨g,h1,h2,h3⟩,h4,h5,h6,h7⟩:=h;exact⟨⟨g,h1.block he,h2,h3⟩,h4,h5,h6,h7⟩
theorem yo.lt(h:yo Ms tn E W):Ms<W.heap.size:=by
 obtain⟨g,h1,_⟩:=h.map;exact h1.lt
theorem yo.obj(h:yo Ms tn E W):∃es cl,W.heap[Ms]?=some (.map es cl):=by
 obtain⟨g,h1,_⟩:=h.map;exact h1.obj
theorem yo.made(w:World):yo w.heap.size 0 [] (w.alloc (.map #[] 0)):=
 ⟨⟨_,lF.made w,λe he=>by simp at he,λk m _ h=>by cases h⟩,λe he=>by simp at he,List.Pairwise.nil,by simp,by simp⟩
theorem yo.has_eq{g:Int×Int->Option (Int×Int)}(_h:yo Ms tn E W)(h2:∀e∈E,g e.key=some (e.dL,e.jc))(h3:∀k m,wK k->g k=some m->∃e∈E,e.key=k∧m=(e.dL,e.jc)){q:Int×Int}(hq:wK q){now:Int}(hn:0<=now):
  decide (now<((g q).getD (0,0)).1)=pu E q now:=by
 unfold pu;cases hg:g q with
 |none=>
  simp only[Option.getD_none];rw[fD (by omega)];symm;rw[List.any_eq_false];intro e he hc;simp only[eF,iM]at hc;have:=h2 e he;rw[hc.1,hg]at this;cases this
 |some m=>
  obtain⟨e,he,hk,rfl⟩:=h3 q m hq hg;simp only[Option.getD_some];by_cases hlt:now<e.dL
  ·rw[gu hlt];symm;rw[List.any_eq_true];exact⟨e,he,by simp[hk,hlt]⟩
  ·rw[fD hlt];symm;rw[List.any_eq_false];intro e' he' hc;simp only[eF,iM]at hc;have h4:=h2 e' he';rw[hc.1,hg]at h4;simp only[Option.some.injEq,Prod.mk.injEq]at h4;omega
@[reducible] def fQ(q : Int × Int): Obj := .cells #[.int .u32 q.1, .int .u32 q.2] 261
@[reducible] def mQ(m : Int × Int): Obj := .cells #[.int .u64 m.1, .int .i64 m.2] 279
theorem KI(a b:Int×Int)(w:World):
  Calls Tryz.prog 196 #[xW a,xW b] w λe w'=>e=.returned (.bool (if a.1=b.1 then decide (a.2<b.2)else decide (a.1<b.1)))∧Below w.heap.size w w':=by
 obtain⟨a1,a2⟩:=a;obtain⟨b1,b2⟩:=b;have hB:Below w.heap.size w ((w.alloc (mQ (a1,a2))).alloc (mQ (b1,b2))):=(bC).alloc (by simp) _;dsimp only[mQ]at hB;dsimp only[xW];by_cases h:a1=b1
 ·subst h;have e:(a1 !=a1)=false:=by simp
  rw[aM rfl];go_enter Tryz.func196,Tryz.ntmps196;go_wp2;all_goals (go_ret;exact⟨rfl,hB⟩)
 ·have e:(a1 !=b1)=true:=by simpa using h
  rw[aH h];go_enter Tryz.func196,Tryz.ntmps196;go_wp2;all_goals (go_ret;exact⟨rfl,hB⟩)
theorem ab5(a b:Int)(w:World):(Instr.field 279 (.agg #[.int .u64 a,.int .i64 b]) 0).run Tryz.prog w=.ok (.int .u64 a) w:=by kernel_rfl
theorem RL(N:Nat)(x:mX)(E:List Mm)(q:Int×Int)(hq:wK q)(now:Int)(hn:0<=now)(w:World)(hN:iI N x w)(hs:yo x.Ms x.tn E w):
  Calls Tryz.prog 160 #[.pointer (some ⟨N,8,none⟩),jV q,.int .u64 now] w λe w'=>e=.returned (.bool (pu E q now))∧Below w.heap.size w w':=by
 obtain⟨g,h1,h2,h3⟩:=hs.map;have hE:=(show Hid _ from hs.has_eq h2 h3 hq hn);have hb0:Below w.heap.size w (w.alloc (fQ q)):=bC;have hC:=bS w (fQ q);have hN1:=hN.later hb0;have hg1:=h1.block (hb0.block _ h1.lt);clear hs hN h1 h2 h3;dsimp only[fQ]at hb0 hC hN1 hg1;dsimp only[jV];go_enter Tryz.func160,Tryz.ntmps160;go_upto_region 1 with(fail);generalize World.alloc _ _=W1 at hb0 hC hN1 hg1 ⊢;generalize w.heap.size=C at hC ⊢;obtain⟨n0,n2,n3,n4,n5,n6,n7,n8,n9,n10⟩:=hN1.cell;have c0:W1.cell? ⟨C,0,none⟩=some (.int .u32 q.1):=aG _ _ 0 _ _ _ hC;have c1:W1.cell? ⟨C,1,none⟩=some (.int .u32 q.2):=aG _ _ 1 _ _ _ hC;have hl0:=hg1.look hq;have hl1:=(show lF W1.drew _ _ _ from hg1).look hq;have hbq:Hid (∀k,Below w.heap.size w (W1.drewN k)):=λk=>below_drewN hb0 k;dsimp only[jV]at hl0 hl1;generalize hv:(g q).getD (0,0)=m at hE hl0 hl1;clear hv hg1 hN1 hC hb0;dsimp only[xW]at hl0 hl1;have xN:=λw=>ab5 m.1 m.2 w;have hbd:Below w.heap.size w W1.drew:=hbq.out 1;go_region
 go_wp2;go_ret;exact⟨lM hE.out,hbd⟩
def BU(a b:Mm):Prop:=if a.dL=b.dL then a.jc<b.jc else a.dL<b.dL
def wJ(E:List Mm)(left:Lit->Bool)(an:Bool)(f l:Int×Int):Prop:=
 if an then ∃e∈E,left (iE e.key)=false∧f=e.key∧l=(e.dL,e.jc)∧∀z∈E,left (iE z.key)=false->¬BU z e
 else ∀e∈E,left (iE e.key)=true
theorem wJ.done{e0:Mm}{left:Lit->Bool}{an:Bool}{f l:Int×Int}(h:wJ (e0::E) left an f l)(hl:∀kl,left kl=false)(ha:(e0::E).Pairwise λa b=>a.dL<=b.dL∧a.jc<b.jc∧a.key≠b.key):f=e0.key:=by
 unfold wJ at h;split at h
 ·obtain⟨e,he,_,rfl,_,h⟩:=h;rcases eD.1 he with rfl|he
  ·rfl
  ·exfalso;refine h e0 (gm ..) (hl _) ?_;have:=(List.pairwise_cons.1 ha).1 e he;unfold BU;split<;>omega
 ·have:=h e0 (gm ..);rw[hl]at this;cases this
theorem wJ.yes(hE:∀e∈E,wK e.key)(hu:E.Pairwise λa b=>a.dL<=b.dL∧a.jc<b.jc∧a.key≠b.key){left:Lit->Bool}{an:Bool}{f l:Int×Int}(h:wJ E left an f l){e:Mm}(he:e∈E)(hq:left (iE e.key)=true)(hb:an=true->(if e.dL=l.1 then e.jc<l.2 else e.dL<l.1)):
  wJ E (λz=>left z&&!z.sameKey (iE e.key)) true e.key (e.dL,e.jc):=by
 have hkey:∀z∈E,iE z.key=iE e.key->z=e:=by
  intro z hz hq;have hk:=vC (hE z hz) (hE e he) hq;by_cases Pz:z=e
  ·exact Pz
  ·exfalso;obtain⟨i,hi,rfl⟩:=List.mem_iff_getElem.1 hz;obtain⟨j,hj,rfl⟩:=List.mem_iff_getElem.1 he;rcases Nat.lt_trichotomy i j with hij|hij|hij
   ·exact(List.pairwise_iff_getElem.1 hu i j hi hj hij).2.2 hk
   ·subst hij;exact Pz rfl
   ·exact(List.pairwise_iff_getElem.1 hu j i hj hi hij).2.2 hk.symm
 unfold wJ at h ⊢;rw[aM rfl];refine⟨e,he,by simp[iE,Lit.sameKey],rfl,rfl,λz hz hl=> ?_⟩;by_cases Pz:iE z.key=iE e.key
 ·rw[hkey z hz Pz];unfold BU;simp
 ·have hlz:left (iE z.key)=false:=by
   cases hc:left (iE z.key)with
   |false=>rfl
   |true=>
    exfalso;dsimp only at hl;rw[hc,Bool.true_and]at hl;have:(iE z.key).sameKey (iE e.key)=true:=by simpa using hl
    exact Pz (by simpa[iE,Lit.sameKey]using this)
  cases han:an with
  |false=>
   rw[han]at h;have:=h z hz;rw[hlz]at this;cases this
  |true=>
   rw[han,aM rfl]at h;obtain⟨e1,he1,_,_,rfl,h⟩:=h;have h1:=h z hz hlz;have h2:=hb han;unfold BU at h1 ⊢;dsimp only at h2;intro h3;apply h1;split at h3<;>split at h2<;>split<;>omega
theorem wJ.no(hE:∀e∈E,wK e.key)(hu:E.Pairwise λa b=>a.dL<=b.dL∧a.jc<b.jc∧a.key≠b.key){left:Lit->Bool}{f l:Int×Int}(h:wJ E left true f l){e:Mm}(he:e∈E)(hb:¬(if e.dL=l.1 then e.jc<l.2 else e.dL<l.1)):
  wJ E (λz=>left z&&!z.sameKey (iE e.key)) true f l:=by
 unfold wJ at h ⊢;rw[aM rfl]at h ⊢;obtain⟨e1,he1,hl1,rfl,rfl,h⟩:=h;refine⟨e1,he1,by simp[hl1],rfl,rfl,λz hz hl=> ?_⟩;by_cases hlz:left (iE z.key)=false
 ·exact h z hz hlz
 ·have hc:left (iE z.key)=true:=by simpa using hlz
  dsimp only at hl;rw[hc,Bool.true_and]at hl;have:(iE z.key).sameKey (iE e.key)=true:=by simpa using hl
  have hk:=vC (hE z hz) (hE e he) (by simpa[iE,Lit.sameKey]using this);have Pz:z=e:=by
   by_cases Pz:z=e
   ·exact Pz
   ·exfalso;obtain⟨i,hi,rfl⟩:=List.mem_iff_getElem.1 hz;obtain⟨j,hj,rfl⟩:=List.mem_iff_getElem.1 he;rcases Nat.lt_trichotomy i j with hij|hij|hij
    ·exact(List.pairwise_iff_getElem.1 hu i j hi hj hij).2.2 hk
    ·subst hij;exact Pz rfl
    ·exact(List.pairwise_iff_getElem.1 hu j i hj hi hij).2.2 hk.symm
  rw[Pz];unfold BU;exact hb
variable{tn:Int}{q:Int×Int}{E:List Mm}{left:Lit->Bool}{B Ms n r:Nat}{W W':World}
theorem Ak{k:Nat}{o:Obj}(h:W.heap[k]?=some o):k<W.heap.size:=(iC.1 h).1
theorem KH{v:Value}{y:DataW Unit×List MemPlace}(h:Fb v=some y):∃c,v=xW c:=by
 obtain⟨m,h1,_⟩:=Ip h;exact⟨m,h1⟩
theorem UM{a b:Int×Int}(h:jV a=jV b):a=b:=by
 unfold jV at h;simp only[Value.agg.injEq,Array.mk.injEq,List.cons.injEq,Value.int.injEq,true_and,and_true]at h;exact Prod.ext h.1 h.2
def QB(B:Nat)(q:Int×Int)(W:World):Prop:=W.heap[B]?=some (fQ q)
def JK(B:Nat)(m:Int×Int)(W:World):Prop:=W.heap[B]?=some (mQ m)
theorem QB.cell(h:QB B q W):W.cell? ⟨B,0,none⟩=some (.int .u32 q.1)∧W.cell? ⟨B,1,none⟩=some (.int .u32 q.2):=⟨aG _ _ 0 _ _ _ h,aG _ _ 1 _ _ _ h⟩
theorem QB.free(h:QB B q W)(i:Nat):W.frozen? ⟨B,i,none⟩=false:=by
 unfold World.frozen?;rw[show W.heap[(⟨B,i,none⟩:Addr).block]?=some (fQ q)from h];try rfl
theorem JK.cell(h:JK B q W):W.cell? ⟨B,0,none⟩=some (.int .u64 q.1)∧W.cell? ⟨B,1,none⟩=some (.int .i64 q.2):=⟨aG _ _ 0 _ _ _ h,aG _ _ 1 _ _ _ h⟩
theorem JK.free(h:JK B q W)(i:Nat):W.frozen? ⟨B,i,none⟩=false:=by
 unfold World.frozen?;rw[show W.heap[(⟨B,i,none⟩:Addr).block]?=some (mQ q)from h];try rfl
theorem QB.set(h:QB B q W)(p:Int×Int):QB B p ((W.setCell ⟨B,0,none⟩ (.int .u32 p.1)).setCell ⟨B,1,none⟩ (.int .u32 p.2)):=by
 unfold QB at h ⊢;simp[World.setCell,Array.getElem?_modify,h]
theorem JK.set(h:JK B q W)(p:Int×Int):JK B p ((W.setCell ⟨B,0,none⟩ (.int .u64 p.1)).setCell ⟨B,1,none⟩ (.int .i64 p.2)):=by
 unfold JK at h ⊢;simp[World.setCell,Array.getElem?_modify,h]
theorem pE{H:Type}{P:Program}{k:TypeId}{R:Value->Option (DataW H×List MemPlace)}{b:Nat}{D:DataW H}{cnt:Nat}(h:W.ranges P k R b r n D left cnt)(hb:Below W.heap.size W W'):W'.ranges P k R b r n D left cnt:=
 h.kept (row:=none) ⟨hb.os,hb.tape,hb.output,hb.size,λi hi _=>hb.block i hi⟩ (by simp) (by simp)
structure QX(Ms r n w0:Nat)(D:DataW Unit)(E:List Mm)(wb:World)(left:Lit->Bool)(cnt:Nat)(an:Bool)(f l:Int×Int)(W:World):Prop where
 rg:W.ranges Tryz.prog 261 Fb Ms r n D left cnt
 fi:wJ E left an f l
 r0:QB w0 (0,0) W
 f0:QB (w0+1) f W
 l0:JK (w0+2) l W
 be:Below w0 wb W
 sz:w0+4<=W.heap.size
theorem QX.put{w0:Nat}{D:DataW Unit}{wb:World}{cnt:Nat}{f l:Int×Int}(rg:W.ranges Tryz.prog 261 Fb Ms r n D left cnt)(r0:QB w0 (0,0) W)(f0:QB (w0+1) f W)(l0:JK (w0+2) l W)(be:Below w0 wb W)(sz:w0+4<=W.heap.size)(hr:r=w0+3)(hM:Ms<w0){p m:Int×Int}(fi:wJ E left true p m):
  QX Ms r n w0 D E wb left cnt true p m ((((W.setCell ⟨w0+1,0,none⟩ (.int .u32 p.1)).setCell ⟨w0+1,1,none⟩ (.int .u32 p.2)).setCell ⟨w0+1+1,0,none⟩ (.int .u64 m.1)).setCell ⟨w0+1+1,1,none⟩ (.int .i64 m.2)).drew:=by
 have hg1:W.grownBy ((W.setCell ⟨w0+1,0,none⟩ (.int .u32 p.1)).setCell ⟨w0+1,1,none⟩ (.int .u32 p.2)) (some (w0+1)):=ah (ah (aC _ (some (w0+1))) 0 _) 1 _;have hf1:=f0.set p;have hr1:=rg.kept hg1 (by simp;omega) (by simp;omega);have h01:QB w0 (0,0) _:=(hg1.block w0 (by omega) (by simp)).trans r0;have hl1:JK (w0+2) l _:=(hg1.block (w0+2) (by omega) (by simp)).trans l0;have hb1:=be.grown hg1 (by omega) (λk e=>by cases e;omega);have hs1:=hg1.size;generalize ((W.setCell ⟨w0+1,0,none⟩ (.int .u32 p.1)).setCell ⟨w0+1,1,none⟩ (.int .u32 p.2))=W1 at hf1 hr1 h01 hl1 hb1 hs1 ⊢;have hg2:W1.grownBy ((W1.setCell ⟨w0+1+1,0,none⟩ (.int .u64 m.1)).setCell ⟨w0+1+1,1,none⟩ (.int .i64 m.2)) (some (w0+1+1)):=ah (ah (aC _ (some (w0+1+1))) 0 _) 1 _;have hl2:=hl1.set m;have hr2:=hr1.kept hg2 (by simp;omega) (by simp;omega);have h02:QB w0 (0,0) _:=(hg2.block w0 (by omega) (by simp;omega)).trans h01;have hf2:QB (w0+1) p _:=(hg2.block (w0+1) (by omega) (by simp)).trans hf1;have hb2:=hb1.grown hg2 (by omega) (λk e=>by cases e;omega);have hs2:=hg2.size;exact⟨hr2,fi,h02,hf2,hl2,hb2.drew,dH sz (dH hs1 hs2)⟩
theorem Jf(N:Nat)(x:mX)(e0:Mm)(E:List Mm)(w:World)(hN:iI N x w)(hs:∃g,lF w x.Ms g (e0::E).length∧(∀e∈e0::E,g e.key=some (e.dL,e.jc))∧∀k m,wK k->g k=some m->∃e∈e0::E,e.key=k∧m=(e.dL,e.jc))(hok:∀e∈e0::E,wK e.key∧0<=e.dL∧0<=e.jc∧e.jc<x.tn)(hasc:(e0::E).Pairwise λa b=>a.dL<=b.dL∧a.jc<b.jc∧a.key≠b.key):
  Calls Tryz.prog 178 #[.pointer (some ⟨N,8,none⟩)] w λe w'=>e=.returned (jV e0.key)∧Below w.heap.size w w':=by
 obtain⟨g,hmq,h4,h5⟩:=hs;have abN:=hmq.lt;obtain⟨D,h1,hsz,h3⟩:=hmq;have h3':=(show Hid _ from h3);have h5':=(show Hid _ from h5);have hhas:Hid (∀e∈e0::E,Maps.has D (iE e.key)=true):=by
  intro e he;rw[(h3 _ (hok e he).1).1,h4 e he];rfl
 have hb3:Below w.heap.size w (((w.alloc (fQ (0,0))).alloc (fQ (0,0))).alloc (mQ (0,0))):=((bC).alloc (by simp) _).alloc (by simp;omega) _;have hR:QB w.heap.size (0,0) (((w.alloc (fQ (0,0))).alloc (fQ (0,0))).alloc (mQ (0,0))):=
  (((aU _ ((w.alloc (fQ (0,0))).alloc (fQ (0,0)))).alloc (aB _) _).block w.heap.size (by simp;omega)).trans ((((aU _ (w.alloc (fQ (0,0)))).alloc (aB _) _).block w.heap.size (by simp)).trans (bS w _))
 have hF:QB (w.heap.size+1) (0,0) (((w.alloc (fQ (0,0))).alloc (fQ (0,0))).alloc (mQ (0,0))):=by
  have h1:=((aU _ ((w.alloc (fQ (0,0))).alloc (fQ (0,0)))).alloc (aB _) (mQ (0,0))).block (w.heap.size+1) (by simp);have h2:=bS (w.alloc (fQ (0,0))) (fQ (0,0));rw[World.size_alloc]at h2;exact h1.trans h2
 have hL:JK (w.heap.size+2) (0,0) (((w.alloc (fQ (0,0))).alloc (fQ (0,0))).alloc (mQ (0,0))):=by
  have:=bS ((w.alloc (fQ (0,0))).alloc (fQ (0,0))) (mQ (0,0));rw[World.size_alloc,World.size_alloc]at this;exact this
 have CR:(((w.alloc (fQ (0,0))).alloc (fQ (0,0))).alloc (mQ (0,0))).heap.size=w.heap.size+3:=by simp
 have Bt:=hN.later hb3;have Wi:(((w.alloc (fQ (0,0))).alloc (fQ (0,0))).alloc (mQ (0,0))).ownsMap Tryz.prog 261 Fb x.Ms (e0::E).length D:=by
  obtain⟨es,clock,hb,Ft,hs,hD⟩:=h1;exact⟨es,clock,(hb3.block _ (Ak hb)).trans hb,Ft,hs,hD⟩
 clear h3 h5 h1 hN h4 hsz;dsimp only[fQ,mQ]at hb3 hR hF hL Bt Wi CR;go_enter Tryz.func178,Tryz.ntmps178;go_upto_region 3 with(fail);generalize World.alloc (World.alloc (World.alloc _ _) _) _=W3 at hb3 hR hF hL Bt Wi CR ⊢;obtain⟨n0,n2,n3,n4,n5,n6,n7,n8,n9,n10⟩:=Bt.cell;go_wp2_with(at_range;refine wpList_range_own _ rfl _ 111 rfl 261 279 qN Tryz.underlying111 _ x.Ms (e0::E).length _ rfl Wi ?_;intro w0 hrg0 hg0 hs0);go_frame;generalize hnn:(e0::E).length=nn at hrg0;clear hnn;replace CR:=(show Hid _ from CR);generalize P8:W3.heap.size=R3 at hrg0 ⊢;replace P8:=(show Hid _ from P8);go_loopw [5] (λav wr=>∃(left:Lit->Bool) (cnt:Nat) (an:Bool) (f l:Int×Int),av=.bool an∧QX x.Ms R3 nn w.heap.size D (e0::E) w left cnt an f l wr) (λ_ wr=>wr.rangeLeft x.Ms R3)
 case atStart=>
  have hb:Below W3.heap.size W3 w0:=⟨hg0.os,hg0.tape,hg0.output,hg0.size,λk hk=>hg0.block k hk (by simp)⟩;have agk:=CR.out;have abL:=P8.out;exact⟨_,_,false,(0,0),(0,0),rfl,hrg0,by unfold wJ;rw[aH (by simp)];exact hhas.out,(hb.block _ (by omega)).trans hR,(hb.block _ (by omega)).trans hF,(hb.block _ (by omega)).trans hL,hb3.trans (hb.mono hb3.size),by omega⟩
 case round=>
  clear hb3 hR hF hL Bt Wi n0 n2 n3 n4 n5 n6 n7 n8 n9 n10 hrg0 hg0 hs0;obtain⟨left,cnt,an,f,l,rfl,hr⟩:=hrel;go_wp2_with(at_next;refine wpList_next_ranges _ rfl _ rfl 261 qN Fb jV xW (λkey kl hk=>by obtain⟨q,hq,_⟩:=IC hk;exact⟨q,hq⟩) (λv y hv=>KH hv) x.Ms R3 nn _ _ _ rfl hr.rg ?_ ?_)
  ·intro hc0 hl0;obtain rfl:=hr.fi.done hl0 hasc;obtain⟨_,_,hr0,hf0,_,hbe,hsz⟩:=hr;obtain⟨c0,c1⟩:=hf0.cell;obtain⟨r0,r1⟩:=hr0.cell;have z0:=hr0.free 0;have z1:=hr0.free 1;have hst:=hr0.set e0.key;have hbs:Below w.heap.size w ((wr.setCell ⟨w.heap.size,0,none⟩ (.int .u32 e0.key.1)).setCell ⟨w.heap.size,1,none⟩ (.int .u32 e0.key.2)):=(hbe.setCell (p:=⟨w.heap.size,0,none⟩) (aB _) _).setCell (p:=⟨w.heap.size,1,none⟩) (aB _) _;clear hr0 hf0 hbe;go_wp2;generalize World.setCell _ _ _=W9 at hst hbs ⊢;obtain⟨p0,p1⟩:=hst.cell;exact bodyPost_ret (v:=jV e0.key) (by simp[results,Tryz.results178,go_sem,p0,p1,jV]) rfl ⟨rfl,hbs⟩
  ·intro q1 q2 m1 m2 kl yd yp w2 cnt2 hkey hlk hv hat hrg2 hlt hg2 hs2 hen;obtain⟨q',hq',hqo,rfl⟩:=IC hkey;obtain rfl:(q1,q2)=q':=UM hq';have h3x:=(h3'.out _ hqo).2;rw[hat]at h3x;rw[Fa]at hv;have kX:=congrArg Prod.fst (Option.some.inj hv);dsimp only at kX;rw[<-kX]at h3x;have hsome:=(h3'.out _ hqo).1;rw[has_true_of_atKey hat]at hsome;obtain⟨mm,hmm⟩:=Option.isSome_iff_exists.1 hsome.symm;rw[hmm]at h3x;have hme:=Jt h3x;simp only[Option.getD_some]at hme;subst hme;obtain⟨e,he,hek,hee⟩:=h5'.out _ _ hqo hmm;obtain⟨rfl,rfl⟩:=Prod.mk.injEq .. ▸hee;have hrl:=hr.rg.left_eq;obtain⟨_,hfi,hr0,hf0,hl0,hbe,hsz⟩:=hr;have abL:=(show Hid (R3=w.heap.size+3)from by show _=_;rw[<-P8.out,CR.out]);have afH:=abL.out;have uD:∀k,k<w.heap.size+3->w2.heap[k]?=wr.heap[k]?:=λk hk=>hg2.block k (by omega) (by intro e;cases e;omega);have hB2:Below w.heap.size w w2:=hbe.trans ⟨hg2.os,hg2.tape,hg2.output,hg2.size,λk hk=>uD k (by omega)⟩;have k0:QB w.heap.size (0,0) w2:=(uD _ (by omega)).trans hr0;have kf:QB (w.heap.size+1) f w2:=(uD _ (by omega)).trans hf0;have kl:JK (w.heap.size+2) l w2:=(uD _ (by omega)).trans hl0;have hb4:Below w2.heap.size w2 ((w2.alloc (fQ (q1,q2))).alloc (mQ (e.dL,e.jc))):=(bC).alloc (by simp) _;have Cy:QB w2.heap.size (q1,q2) ((w2.alloc (fQ (q1,q2))).alloc (mQ (e.dL,e.jc))):=(((aU _ (w2.alloc (fQ (q1,q2)))).alloc (aB _) _).block _ (by simp)).trans (bS w2 _);have CW:JK (w2.heap.size+1) (e.dL,e.jc) ((w2.alloc (fQ (q1,q2))).alloc (mQ (e.dL,e.jc))):=by
    have:=bS (w2.alloc (fQ (q1,q2))) (mQ (e.dL,e.jc));rw[World.size_alloc]at this;exact this
   have hme:Hid (cnt2<wr.rangeLeft x.Ms R3):=by
    show _<_;rw[hrl];exact hlt
   have IX:=pE hrg2 hb4;have hs4:w.heap.size+4<=((w2.alloc (fQ (q1,q2))).alloc (mQ (e.dL,e.jc))).heap.size:=by simp;omega
   have j0:QB w.heap.size (0,0) ((w2.alloc (fQ (q1,q2))).alloc (mQ (e.dL,e.jc))):=(hb4.block _ (by omega)).trans k0;have jf:QB (w.heap.size+1) f ((w2.alloc (fQ (q1,q2))).alloc (mQ (e.dL,e.jc))):=(hb4.block _ (by omega)).trans kf;have jl:JK (w.heap.size+2) l ((w2.alloc (fQ (q1,q2))).alloc (mQ (e.dL,e.jc))):=(hb4.block _ (by omega)).trans kl;have hB4:=hB2.trans (hb4.mono hB2.size);have hl2:w.heap.size+4<=w2.heap.size:=by omega
   clear afH k0 kf kl hb4 hrg2 hB2 hg2 uD hs2 hr0 hf0 hl0 hbe hat hv kX h3x hmm hsome hkey hq';dsimp only[jV,xW]at hen;dsimp only[jV,xW];dsimp only[fQ,mQ]at Cy CW IX hs4 j0 jf jl hB4;go_upto_region 6 with(fail);generalize World.alloc (World.alloc _ _) _=W4 at Cy CW IX hs4 j0 jf jl hB4 ⊢;generalize w2.heap.size=C at Cy CW hl2 ⊢;have abh:∀z∈e0::E,wK z.key:=λz hz=>(hok z hz).1;have hput:Hid (∀W5,Below W4.heap.size W4 W5->(if an then(if e.dL=l.1 then e.jc<l.2 else e.dL<l.1)else True)->QX x.Ms R3 nn w.heap.size D (e0::E) w (λz=>left z&&!z.sameKey (iE (q1,q2))) cnt2 true (q1,q2) (e.dL,e.jc) ((((W5.setCell ⟨w.heap.size+1,0,none⟩ (.int .u32 q1)).setCell ⟨w.heap.size+1,1,none⟩ (.int .u32 q2)).setCell ⟨w.heap.size+1+1,0,none⟩ (.int .u64 e.dL)).setCell ⟨w.heap.size+1+1,1,none⟩ (.int .i64 e.jc)).drew):=λW5 h5 hc=>by
    have hz5:=h5.size;refine QX.put (p:=(q1,q2)) (m:=(e.dL,e.jc)) (pE IX h5) ((h5.block _ (by omega)).trans j0) ((h5.block _ (by omega)).trans jf) ((h5.block _ (by omega)).trans jl) (hB4.trans (h5.mono hB4.size)) (by omega) abL.out abN ?_;rw[<-hek];refine hfi.yes abh hasc he (by rw[hek];exact hlk) λh=> ?_;rw[aM h]at hc;exact hc
   have hkeep:Hid (∀W5,Below W4.heap.size W4 W5->an=true->¬(if e.dL=l.1 then e.jc<l.2 else e.dL<l.1)->QX x.Ms R3 nn w.heap.size D (e0::E) w (λz=>left z&&!z.sameKey (iE (q1,q2))) cnt2 true f l W5):=λW5 h5 ha hc=>by
    subst ha;have hz5:=h5.size;refine⟨pE IX h5,?_,(h5.block _ (by omega)).trans j0,(h5.block _ (by omega)).trans jf,(h5.block _ (by omega)).trans jl,hB4.trans (h5.mono hB4.size),by omega⟩;rw[<-hek];exact hfi.no abh hasc he hc
   have hcl:Hid (∀W5,Below W4.heap.size W4 W5->QB C (q1,q2) W5∧JK (C+1) (e.dL,e.jc) W5∧QB (w.heap.size+1) f W5∧JK (w.heap.size+2) l W5):=λW5 h5=>
    ⟨(h5.block _ (Ak Cy)).trans Cy,(h5.block _ (Ak CW)).trans CW,(h5.block _ (by omega)).trans jf,(h5.block _ (by omega)).trans jl⟩
   clear abh hfi IX j0 jf jl hB4 hs4 hasc Cy CW;cases an
   ·obtain⟨Cy,CW,jf,jl⟩:=hcl.out W4 (aU _ _);obtain⟨a0,a1⟩:=Cy.cell;obtain⟨b0,b1⟩:=CW.cell;obtain⟨d0,d1⟩:=jf.cell;obtain⟨g0,g1⟩:=jl.cell;have y0:=jf.free 0;have y1:=jf.free 1;have y2:=jl.free 0;have y3:=jl.free 1;dsimp only at a0 a1 b0 b1;have hF:=hput.out W4 (aU _ _) (by simp);clear hput hkeep hcl Cy CW jf jl;go_wp2_with fail;go_region
    generalize World.drew _=W9 at hF ⊢;go_wp2_with fail;go_roundw
    case rel=>exact⟨_,cnt2,true,_,_,rfl,hF⟩
    case measure=>rw[hF.rg.left_eq];exact hme.out
   ·obtain⟨Cy,CW,jf,jl⟩:=hcl.out W4 (aU _ _);obtain⟨a0,a1⟩:=Cy.cell;obtain⟨b0,b1⟩:=CW.cell;obtain⟨d0,d1⟩:=jf.cell;obtain⟨g0,g1⟩:=jl.cell;dsimp only at a0 a1 b0 b1;clear Cy CW jf jl;go_wp2_with fail;refine aT (KI (e.dL,e.jc) l W4) ?_;rintro r W5 ⟨rfl,hb5⟩;clear a0 a1 b0 b1 d0 d1 g0 g1;obtain⟨Cy,CW,jf,jl⟩:=hcl.out W5 hb5;obtain⟨a0,a1⟩:=Cy.cell;obtain⟨b0,b1⟩:=CW.cell;obtain⟨d0,d1⟩:=jf.cell;obtain⟨g0,g1⟩:=jl.cell;have y0:=jf.free 0;have y1:=jf.free 1;have y2:=jl.free 0;have y3:=jl.free 1;dsimp only at a0 a1 b0 b1;by_cases hc:(if e.dL=l.1 then e.jc<l.2 else e.dL<l.1)
    ·have hF:=hput.out W5 hb5 (by rw[aM trivial];exact hc);have hbt:(if e.dL=l.1 then decide (e.jc<l.2)else decide (e.dL<l.1))=true:=by
      split at hc<;>simp_all
     dsimp only;rw[hbt];clear hput hkeep hcl Cy CW jf jl hc hbt;go_wp2_with fail;go_region
     generalize World.drew _=W9 at hF ⊢;go_wp2_with fail;go_roundw
     case rel=>exact⟨_,cnt2,true,_,_,rfl,hF⟩
     case measure=>rw[hF.rg.left_eq];exact hme.out
    ·have hF:=hkeep.out W5 hb5 trivial hc;have hbt:(if e.dL=l.1 then decide (e.jc<l.2)else decide (e.dL<l.1))=false:=by
      split at hc<;>simp_all
     dsimp only;rw[hbt];clear hput hkeep hcl Cy CW jf jl hc hbt;go_wp2_with fail;go_roundw
     case rel=>exact⟨_,cnt2,true,_,_,rfl,hF⟩
     case measure=>rw[hF.rg.left_eq];exact hme.out
theorem BG{α:Type}(p:α->Bool):∀l:List α,(l.filter p).length+(l.filter λx=>!p x).length=l.length
 | []=>rfl
 |x::l=>by
  have:=BG p l;cases h:p x<;>simp[h]<;>omega
theorem yo.put{g:Int×Int->Option (Int×Int)}(h:yo Ms tn E W)(h2:∀e∈E,g e.key=some (e.dL,e.jc))(h3:∀k m,wK k->g k=some m->∃e∈E,e.key=k∧m=(e.dL,e.jc)){q:Int×Int}(hq:wK q){dL:Int}(h0:0<=dL)(hm:∀e∈E,e.dL<=dL)
  (hM:lF W' Ms (qM g q (some (dL,tn))) (if (g q).isSome then E.length else E.length+1)):
  ∃g',lF W' Ms g' (eB E q dL tn).length∧(∀e∈eB E q dL tn,g' e.key=some (e.dL,e.jc))∧(∀k m,wK k->g' k=some m->∃e∈eB E q dL tn,e.key=k∧m=(e.dL,e.jc))∧(∀e∈eB E q dL tn,wK e.key∧0<=e.dL∧0<=e.jc∧e.jc<tn+1)∧(eB E q dL tn).Pairwise (λa b=>a.dL<=b.dL∧a.jc<b.jc∧a.key≠b.key)∧(eB E q dL tn).length<=17:=by
 have hk:(⟨q.1,q.2,dL,tn⟩:Mm).key=q:=rfl;have htn:=h.tn0;have hmem:∀e,e∈eB E q dL tn ↔ (e∈E∧e.key≠q)∨e=⟨q.1,q.2,dL,tn⟩:=by
  intro e;unfold eB;simp[List.mem_append,List.mem_filter]
 have hfl:(E.filter λe=>!decide (e.key=q)).length<=E.length:=List.length_filter_le ..;have hlen:(eB E q dL tn).length=if (g q).isSome then E.length else E.length+1:=by
  unfold eB;rw[dx,List.length_singleton];cases hg:g q with
  |none=>
   have:E.filter (λe=>!decide (e.key=q))=E:=List.filter_eq_self.2 λe he=>by
    have:e.key≠q:=λhc=>by
     have:=h2 e he;rw[hc,hg]at this;cases this
    simp[this]
   rw[this];simp
  |some m=>
   obtain⟨e,he,hek,_⟩:=h3 q m hq hg;have hcount:(E.filter λe=>decide (e.key=q)).length=1:=by
    have hnd:(E.filter λe=>decide (e.key=q)).Pairwise (λa b=>a.key≠b.key):=(h.y_.imp λh=>h.2.2).filter _;have hall:∀z∈E.filter (λe=>decide (e.key=q)),z.key=q:=λz hz=>by simpa using(List.mem_filter.1 hz).2
    have hin:e∈E.filter (λe=>decide (e.key=q)):=List.mem_filter.2 ⟨he,by simpa using hek⟩;generalize E.filter (λe=>decide (e.key=q))=F at hnd hall hin ⊢
    match F,hnd,hall,hin with
    | [],_,_,hin=>simp at hin
    | [_],_,_,_=>rfl
    |a::b::r,hnd,hall,_=>
     exfalso;have h1:=(List.pairwise_cons.1 hnd).1 b (gm ..);exact h1 ((hall a (gm ..)).trans (hall b (iJ _ (gm ..))).symm)
   have hsum:=BG (λe:Mm=>decide (e.key=q)) E;simp only[Option.isSome_some,if_true];omega
 refine⟨_,by rw[hlen];exact hM,λe he=> ?_,λk m hk hg=> ?_,λe he=> ?_,?_,by rw[hlen];have:=h.len;split<;>omega⟩
 ·rcases(hmem e).1 he with⟨he,hne⟩|rfl
  ·simp only[qM,aH hne];exact h2 e he
  ·simp[qM,Mm.key]
 ·unfold qM at hg;split at hg
  ·rename_i hkq;subst hkq;exact⟨_,(hmem _).2 (.inr rfl),rfl,(Option.some.inj hg).symm⟩
  ·rename_i hkq;obtain⟨e,he,hek,hm⟩:=h3 k m hk hg;exact⟨e,(hmem e).2 (.inl ⟨he,by rw[hek];exact hkq⟩),hek,hm⟩
 ·rcases(hmem e).1 he with⟨he,_⟩|rfl
  ·have:=h.ok e he;exact⟨this.1,this.2.1,this.2.2.1,by omega⟩
  ·exact⟨hq,h0,htn,by dsimp only;omega⟩
 ·unfold eB;refine List.pairwise_append.2 ⟨h.y_.filter _,by simp,λa ha b hb=> ?_⟩;rw[dO]at hb;subst hb;obtain⟨ha1,ha2⟩:=List.mem_filter.1 ha;have:=h.ok a ha1;exact⟨hm a ha1,this.2.2.2,by show a.key≠q;simpa using ha2⟩
theorem Xa{e0:Mm}{g:Int×Int->Option (Int×Int)}(h2:∀e∈e0::E,g e.key=some (e.dL,e.jc))(h3:∀k m,wK k->g k=some m->∃e∈e0::E,e.key=k∧m=(e.dL,e.jc))(hok:∀e∈e0::E,wK e.key∧0<=e.dL∧0<=e.jc∧e.jc<tn)(ha:(e0::E).Pairwise λa b=>a.dL<=b.dL∧a.jc<b.jc∧a.key≠b.key)(hl:(e0::E).length<=17)(ht:0<=tn)
  (hM:lF W' Ms (qM g e0.key none) ((e0::E).length - 1)):yo Ms tn E W':=by
 have hp:=List.pairwise_cons.1 ha;refine⟨⟨_,hM,λe he=> ?_,λk m hk hg=> ?_⟩,λe he=>hok e (iJ _ he),hp.2,by simpa using hl,ht⟩
 ·have:=(hp.1 e he).2.2;simp only[qM,aH (Ne.symm this)];exact h2 e (iJ _ he)
 ·unfold qM at hg;split at hg
  ·cases hg
  ·rename_i hne;obtain⟨e,he,hek,hm⟩:=h3 k m hk hg;rcases eD.1 he with rfl|he
   ·exact absurd hek.symm hne
   ·exact⟨e,he,hek,hm⟩
theorem GU(N:Nat)(x:mX)(E:List Mm)(q:Int×Int)(hq:wK q)(dL:Int)(h0:0<=dL)(hm:∀e∈E,e.dL<=dL)(htn:x.tn<=4611686018427387904)(w:World)(hN:iI N x w)(hs:yo x.Ms x.tn E w):
  Calls Tryz.prog 156 #[.pointer (some ⟨N,8,none⟩),jV q,.int .u64 dL] w λe w'=>e=.returned (.tuple #[])∧iI N {x with tn:=x.tn+1} w'∧yo x.Ms (x.tn+1) (dP E q dL x.tn) w'∧Fx (λk=>k=N∨k=x.Ms) w w':=by
 obtain⟨g,h1,h2,h3⟩:=hs.map;have agF:=hs.len;have agv:=hs.tn0;have hNM:N≠x.Ms:=λe=>by
  obtain⟨es,cl,hM⟩:=hs.obj;rw[<-e,show w.heap[N]?=_ from hN]at hM;cases hM
 have hb0:Below w.heap.size w (w.alloc (fQ q)):=bC;have hC:=bS w (fQ q);have hN1:=hN.later hb0;have hg1:=h1.block (hb0.block _ h1.lt);have hF1:Fx (λk=>k=N∨k=x.Ms) w (w.alloc (fQ q)):=Fx.below hb0;have UD:w.heap.size<(w.alloc (fQ q)).heap.size:=by simp
 have hne:w.heap.size≠N∧w.heap.size≠x.Ms:=⟨λe=>by have:=hN.lt;omega,λe=>by have:=hs.lt;omega⟩;have HP:=(show Hid _ from λW' hM=>yo.put (W':=W') hs h2 h3 hq h0 hm hM);clear hs hN h1 h2 h3 hm;dsimp only[fQ]at hb0 hC hN1 hg1 hF1 UD;dsimp only[jV];have hsa:Hid (dP E q dL x.tn=if 16<(eB E q dL x.tn).length then(eB E q dL x.tn).tail else eB E q dL x.tn):=rfl;generalize dP E q dL x.tn=R at hsa ⊢;go_enter Tryz.func156,Tryz.ntmps156;go_upto_region 1 with(fail);generalize World.alloc _ _=W1 at hb0 hC hN1 hg1 hF1 UD ⊢;generalize w.heap.size=C at hC UD hne ⊢;obtain⟨n0,n2,n3,n4,n5,n6,n7,n8,n9,n10⟩:=hN1.cell;have c0:W1.cell? ⟨C,0,none⟩=some (.int .u32 q.1):=aG _ _ 0 _ _ _ hC;have c1:W1.cell? ⟨C,1,none⟩=some (.int .u32 q.2):=aG _ _ 1 _ _ _ hC;obtain⟨W3,hr3,oJ,PN⟩:=(show lF W1.drew _ _ _ from hg1).put (by unfold maxLen;omega) hq (dL,x.tn);dsimp only[jV,xW]at hr3;have Uk:W1.grownBy W3 (some x.Ms):=⟨PN.os,PN.tape,PN.output,PN.size,PN.block⟩;have Bt:=hN1.kept Uk (by simpa using Ne.symm hNM);have yP:=hF1.trans (Fx.grown (S:=λk=>k=x.Ms) Uk (λk e=>by cases e;rfl)) (λi _ h=> .inr h);have hP3:=HP.out W3 oJ;clear hg1 hN1 hF1 oJ HP hC hb0;go_region
 clear n0 n2 n3 n4 n5 n6 n7 n8 n9 n10 c0 c1 hr3 PN Uk;obtain⟨g',k1,k2,k3,k4,k5,k6⟩:=hP3;generalize eB E q dL x.tn=L at k1 k2 k3 k4 k5 k6 hsa;obtain⟨n0,n2,n3,n4,n5,n6,n7,n8,n9,n10⟩:=Bt.cell;have f9:=Bt.free 9;have hg4:W3.grownBy (W3.setCell ⟨N,9,none⟩ (.int .i64 (x.tn+1))) (some N):=ah (aC _ (some N)) 9 _;have CB:=Bt.acU (x.tn+1);have k14:=k1.block (hg4.block _ k1.lt (by simpa using Ne.symm hNM));have tu:=yP.trans (Fx.grown (S:=λk=>k=N) hg4 (λk e=>by cases e;rfl)) (λi _ h=> .inl h);have hwr:wrap64 (x.tn+1)=x.tn+1:=by unfold wrap64;omega
 clear Bt k1 yP hg4;go_upto_region 3 with(fail);generalize World.setCell _ _ _=W4 at CB k14 tu ⊢;clear n0 n2 n3 n4 n5 n6 n7 n8 n9 n10 f9 hwr;obtain⟨n0,n2,n3,n4,n5,n6,n7,n8,n9,n10⟩:=CB.cell;have hlen:=λty=>k14.len ty;generalize hnl:L.length=nl at hlen;replace hnl:=(show Hid _ from hnl);by_cases hl:16<L.length
 ·have hlb:decide ((16:Int)<(nl:Int))=true:=gu (by have:=hnl.out;omega);have hR:=hsa.out;rw[aM hl]at hR;subst hR;obtain⟨e0,L',rfl⟩:∃e0 L',L=e0::L':=by
   cases L with
   |nil=>simp at hl
   |cons a b=>exact⟨a,b,rfl⟩
  have HF:Hid (∀W5,Below W4.heap.size W4 W5->Calls Tryz.prog 178 #[.pointer (some ⟨N,8,none⟩)] W5 λe w'=>e=.returned (jV e0.key)∧Below W4.heap.size W4 w'):=by
   intro W5 h5;refine(Jf N {x with tn:=x.tn+1} e0 L' W5 (CB.later h5) ⟨_,k14.block (h5.block _ k14.lt),k2,k3⟩ k4 k5).mono ?_;rintro e w' ⟨rfl,hb⟩;exact⟨rfl,h5.trans (hb.mono h5.size)⟩
  have HD:Hid (∀W5,Below W4.heap.size W4 W5->W5.cell? ⟨N,8,none⟩=some (.map (some x.Ms))∧∃W6,(Builtin.delete_ #[111,261] 0 #[.map (some x.Ms),jV e0.key]).run Tryz.prog W5=.ok (.tuple #[]) W6∧W6.cell? ⟨N,8,none⟩=some (.map (some x.Ms))∧iI N {x with tn:=x.tn+1} W6∧yo x.Ms (x.tn+1) L' W6∧Fx (λk=>k=N∨k=x.Ms) w W6):=by
   intro W5 h5;have nZ:=k14.block (h5.block _ k14.lt);obtain⟨W6,uz,PG,jk⟩:=nZ.del (k4 e0 (gm ..)).1 0 (by rw[k2 e0 (gm ..)];rfl);have Q_:=(CB.later h5).kept jk (by simpa using Ne.symm hNM);exact⟨(CB.later h5).cell.2.2.2.2.2.1,W6,uz,Q_.cell.2.2.2.2.2.1,Q_,Xa k2 k3 k4 k5 k6 (by omega) PG,(tu.trans (Fx.below (S:=λ_=>False) h5) (λ_ _ h=>h.elim)).trans (Fx.grown (S:=λk=>k=x.Ms) jk (λk e=>by cases e;rfl)) (λi _ h=> .inr h)⟩
  clear CB k14 tu k2 k3 k4 k5 k6 hl;dsimp only[jV]at HF HD;go_wp2_with fail;go_region_law (first
   |(go_simp;go_at_call 178;refine(HF.out _ (by first|exact aU _ _|exact(aU _ _).drew|exact below_drewN (aU _ _) _)).mono ?_;rintro e w5 ⟨rfl,hb5⟩;obtain⟨PY,W6,uz,hc6,Q_,Ym,Wd⟩:=HD.out _ hb5))
  all_goals
   go_wp2;go_returns;exact⟨rfl,Q_,Ym,Wd⟩
 ·have hlb:decide ((16:Int)<(nl:Int))=false:=fD (by have:=hnl.out;omega);have hR:=hsa.out;rw[aH hl]at hR;replace hR:=(show Hid _ from hR);have hfin:yo x.Ms (x.tn+1) L W4:=⟨⟨g',k14,k2,k3⟩,k4,k5,by omega,by omega⟩;clear k14 k2 k3 k4 k5 k6 hl;go_wp2;go_returns;exact⟨rfl,CB,hR.out▸hfin,tu⟩
open Hp
variable{last:Int}{f:Int->Option Nat}{M T:Nat}{v:Value}{W:World}
def PI(h:List Tm)(f:Int->Option Nat):Prop:=
 (∀i x,h[i]?=some x->f x.2.1=some i)∧∀k i,f k=some i->∃x,h[i]?=some x∧x.2.1=k
theorem PI.sw{h:List Tm}(p:PI h f){i j:Nat}(hi:i<h.length)(hj:j<h.length):
  PI (sw h i j) (upd (upd f (at' h j).2.1 (some i)) (at' h i).2.1 (some j)):=by
 have pi:=p.1 i _ (jy hi);have pj:=p.1 j _ (jy hj);have hs:=yZ hi hj;constructor
 ·intro k x hx;have hk:k<h.length:=by
   rcases Nat.lt_or_ge k (Hp.sw h i j).length with a|a
   ·rw[dM]at a;exact a
   ·rw[List.getElem?_eq_none a]at hx;cases hx
  have e:=sG hx;rw[hs]at e;by_cases h1:k=j
  ·rw[aM h1]at e;rw[<-e,h1];simp[upd]
  ·rw[aH h1]at e;by_cases h2:k=i
   ·rw[aM h2]at e;rw[<-e,h2];unfold upd;by_cases h3:(at' h j).2.1=(at' h i).2.1
    ·rw[h3,pi]at pj;cases pj;exact absurd h2 h1
    ·rw[aH h3,aM rfl]
   ·rw[aH h2]at e;have pk:=p.1 k _ (jy hk);rw[e]at pk;unfold upd;by_cases h3:x.2.1=(at' h i).2.1
    ·rw[h3,pi]at pk;cases pk;exact absurd rfl h2
    ·rw[aH h3];by_cases h4:x.2.1=(at' h j).2.1
     ·rw[h4,pj]at pk;cases pk;exact absurd rfl h1
     ·rw[aH h4,pk]
 ·intro k n hn;unfold upd at hn;have hl:(Hp.sw h i j).length=h.length:=dM h i j;by_cases h1:k=(at' h i).2.1
  ·rw[aM h1]at hn;cases hn;exact⟨_,jy (by omega),by rw[hs,aM rfl,h1]⟩
  ·rw[aH h1]at hn;by_cases h2:k=(at' h j).2.1
   ·rw[aM h2]at hn;cases hn;refine⟨_,jy (by omega),?_⟩;rw[hs,aM rfl];by_cases h3:i=j
    ·subst h3;exact absurd h2 h1
    ·rw[aH h3,h2]
   ·rw[aH h2]at hn;obtain⟨x,hx,hk⟩:=p.2 k n hn;have hnl:n<h.length:=by
     rcases Nat.lt_or_ge n h.length with a|a
     ·exact a
     ·rw[List.getElem?_eq_none a]at hx;cases hx
    refine⟨x,?_,hk⟩;rw[jy (by omega),hs];have e:=sG hx;rw[aH (by rintro rfl;rw[e]at h2;exact h2 hk.symm),aH (by rintro rfl;rw[e]at h1;exact h1 hk.symm),e]
theorem PI.add{h:List Tm}(p:PI h f){x:Tm}(hx:f x.2.1=none):PI (h++ [x]) (upd f x.2.1 (some h.length)):=by
 constructor
 ·intro i y hy;unfold upd;by_cases hi:i<h.length
  ·rw[List.getElem?_append_left hi]at hy;have:=p.1 i y hy;rw[aH (λe=>by rw[e,hx]at this;cases this),this]
  ·rw[List.getElem?_append_right (by omega)]at hy;have:i - h.length=0:=by
    rcases Nat.eq_zero_or_pos (i - h.length)with a|a
    ·exact a
    ·rw[List.getElem?_eq_none (by simp;omega)]at hy;cases hy
   rw[this]at hy;simp at hy;subst hy;rw[aM rfl]
   congr 1
   omega
 ·intro k i hk;unfold upd at hk;by_cases e:k=x.2.1
  ·rw[aM e]at hk;cases hk;exact⟨x,by simp,e.symm⟩
  ·rw[aH e]at hk;obtain⟨y,hy,he⟩:=p.2 k i hk;have hi:i<h.length:=by
    rcases Nat.lt_or_ge i h.length with a|a
    ·exact a
    ·rw[List.getElem?_eq_none a]at hy;cases hy
   exact⟨y,by rw[List.getElem?_append_left hi];exact hy,he⟩
theorem PI.cut{h:List Tm}(p:PI h f){n:Nat}(hn:h.length=n+1):PI (h.take n) (upd f (at' h n).2.1 none):=by
 have pn:=p.1 n _ (jy (by omega));constructor
 ·intro i x hx;rw[List.getElem?_take]at hx;split at hx
  ·rename_i hi;have pi:=p.1 i x hx;unfold upd;rw[aH (λe=>by rw[e,pn]at pi;cases pi;omega),pi]
  ·cases hx
 ·intro k i hk;unfold upd at hk;split at hk
  ·cases hk
  ·rename_i e;obtain⟨x,hx,he⟩:=p.2 k i hk;refine⟨x,?_,he⟩;rw[List.getElem?_take];split
   ·exact hx
   ·rename_i hi;have hil:i<h.length:=by
     rcases Nat.lt_or_ge i h.length with a|a
     ·exact a
     ·rw[List.getElem?_eq_none a]at hx;cases hx
    obtain rfl:i=n:=by omega
    rw[sG hx]at e;exact absurd he.symm e
def Mi(x:Tm):List Value:=[.int .u64 x.1,.int .i64 x.2.1,.int .i64 x.2.2]
def TC(h:List Tm):List Value:=h.flatMap Mi
theorem oQ(h:List Tm):(TC h).length=h.length * 3:=rJ Mi 3 (λ_=>rfl) h
theorem tJ{h:List Tm}{i:Nat}(hi:i<h.length):(TC h)[i * 3]?=some (.int .u64 (at' h i).1)∧(TC h)[i * 3+1]?=some (.int .i64 (at' h i).2.1)∧(TC h)[i * 3+2]?=some (.int .i64 (at' h i).2.2):=
 ⟨jh Mi 3 (by decide) (λ_=>rfl) h i 0 (by decide) (jy hi),jh Mi 3 (by decide) (λ_=>rfl) h i 1 (by decide) (jy hi),jh Mi 3 (by decide) (λ_=>rfl) h i 2 (by decide) (jy hi)⟩
theorem QI(a b:List Tm):TC (a++b)=TC a++TC b:=by simp[TC]
def TOk(x:Tm):Prop:=(0<=x.1∧x.1<18446744073709551616)∧oW x.2.1∧oW x.2.2
def wE(T M:Nat)(last:Int)(v:Value)(W:World):Prop:=W.heap[T]?=some (.cells #[v,.map (some M),.int .i64 last] 165)
theorem wE.cell(h:wE T M last v W):
  W.cell? ⟨T,0,none⟩=some v∧W.cell? ⟨T,1,none⟩=some (.map (some M))∧W.cell? ⟨T,2,none⟩=some (.int .i64 last):=
 ⟨aG W T 0 _ _ _ h,aG W T 1 _ _ _ h,aG W T 2 _ _ _ h⟩
theorem wE.free(h:wE T M last v W)(i:Nat):W.frozen? ⟨T,i,none⟩=false:=by
 unfold wE at h;simp[World.frozen?,h]
theorem wE.lt(h:wE T M last v W):T<W.heap.size:=(iC.1 h).1
structure TR(base T M:Nat)(last:Int)(h:List Tm)(v:Value)(W:World):Prop where
 blk:wE T M last v W
 row:W.ownsRow base 254 3 v h.length (TC h)
 map:∃f,kR W M f h.length∧PI h f
 ok:∀x∈h,TOk x
 bT:base<=T
 bM:base<=M
theorem TR.shape{base:Nat}{h:List Tm}(r:TR base T M last h v W)(h0:0<h.length):∃g cap,v=.slice (some ⟨g,0,none⟩) h.length cap∧base<=g:=by
 refine bY r.row h0
theorem TR.apart{base:Nat}{h:List Tm}(r:TR base T M last h v W):T≠M∧some T≠v.ownBlock∧some M≠v.ownBlock:=by
 have hb:=r.blk;obtain⟨f,⟨D,⟨es,clock,hm,_⟩,_⟩,_⟩:=r.map;refine⟨?_,?_,?_⟩
 ·rintro rfl;unfold wE at hb;rw[hb]at hm;cases hm
 ·intro e;rcases r.row.2 with⟨rfl,_⟩|⟨g,cap,cur,rfl,_,hg,_⟩
  ·simp[Value.ownBlock]at e
  ·simp[Value.ownBlock]at e;subst e;unfold wE at hb;rw[hb]at hg;simp at hg
 ·intro e;rcases r.row.2 with⟨rfl,_⟩|⟨g,cap,cur,rfl,_,hg,_⟩
  ·simp[Value.ownBlock]at e
  ·simp[Value.ownBlock]at e;subst e;rw[hm]at hg;cases hg
structure Fr(T M:Nat)(v:Value)(W W':World):Prop where
 os:W'.os=W.os
 tape:W'.tape=W.tape
 output:W'.output=W.output
 size:W.heap.size<=W'.heap.size
 block:∀k,k<W.heap.size->k≠T->k≠M->some k≠v.ownBlock->W'.heap[k]?=W.heap[k]?
theorem Fr.refl(T M:Nat)(v:Value)(W:World):Fr T M v W W:=⟨rfl,rfl,rfl,aB _,λ_ _ _ _ _=>rfl⟩
theorem Fr.trans{v':Value}{W1 W2:World}(a:Fr T M v W W1)(b:Fr T M v' W1 W2)(hv:v'.ownBlock=v.ownBlock∨∀k,v'.ownBlock=some k->W.heap.size<=k):Fr T M v W W2:=by
 refine⟨b.os.trans a.os,b.tape.trans a.tape,b.output.trans a.output,dH a.size b.size,λk hk h1 h2 h3=> ?_⟩;rw[b.block k (fO hk a.size) h1 h2 ?_]
 ·exact a.block k hk h1 h2 h3
 ·rcases hv with hv|hv
  ·rw[hv];exact h3
  ·intro e;have:=hv k e.symm;omega
theorem Fr.grown{W':World}{r:Option Nat}(h:W.grownBy W' r)(hr:r=none∨r=some T∨r=some M∨r=v.ownBlock):Fr T M v W W':=by
 refine⟨h.os,h.tape,h.output,h.size,λk hk h1 h2 h3=>h.block k hk ?_⟩;rcases hr with rfl|rfl|rfl|rfl
 ·simp
 ·simpa using h1
 ·simpa using h2
 ·exact h3
end Go.Proofs.YtakaadcpaeiccabGreat
