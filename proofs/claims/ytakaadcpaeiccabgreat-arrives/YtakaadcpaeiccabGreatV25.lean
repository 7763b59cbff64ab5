import Derived.Test.YtakaadcpaeiccabGreatV24
namespace Go.Proofs.YtakaadcpaeiccabGreat
theorem Qw{E:List Mm}{q:Int×Int}{dF iM now:Int}(h:now<dF):iR (dw E q dF iM) q now=true:=by
 have hm:∀L:List Mm,(⟨q.1,q.2,dF,iM⟩:Mm)∈L->iR L q now=true:=λL hL=>by
  unfold iR;rw[List.any_eq_true];exact⟨_,hL,by simp[Mm.key,h]⟩
 apply hm;unfold dw;split
 ·rename_i h1;unfold dK at h1 ⊢;rw[bU,List.length_singleton]at h1;cases hf:E.filter (λe=>!decide (e.key=q))with
  |nil=>rw[hf]at h1;simp at h1
  |cons x L=>simp
 ·unfold dK;simp
theorem V4{E:List Mm}{q:Int×Int}{dF iM:Int}{e:Mm}(h:e∈dw E q dF iM):e∈E∨e.id=q.2:=by
 have h1:e∈dK E q dF iM:=by
  unfold dw at h;split at h
  ·exact List.mem_of_mem_tail h
  ·exact h
 unfold dK at h1;rcases fu.1 h1 with h|h
 ·exact .inl (List.mem_filter.1 h).1
 ·rw[fM]at h;subst h;exact .inr rfl
theorem V3{E:List Mm}{q:Int×Int}{now w:Int}(h:∀e∈E,e.id<w)(hq:q.2=w):iR E q now=false:=by
 unfold iR;rw[List.any_eq_false];intro e he;have:=h e he;simp only[Mm.key,jr,not_and];intro e2;exfalso;have h2:=congrArg Prod.snd (of_decide_eq_true e2);dsimp only at h2;omega
structure adg(da w now:Int)(mem:List Mm)(la:Option (Int×Int×Int))(lp:Option (Int×Int)):Prop where
 on:∀h n,lp=some (h,n)->la=some (w+1,h,n)∧iR mem (da,w) now=true
 off:lp=none->(∀x,la=some x->x.1<w+1)∧∀e∈mem,e.id<w
structure ND(da db w now:Int)(me:Int)(lp:Option (Int×Int))(lb:Option (Int×Int×Int))(z:St):Prop where
 me:z.me=me
 bN:z.bN<=0
 seq:z.seq=1
 Q:z.Q=[]
 mem:∀e∈z.mem,e.id<w+1
 tk:∃la,TK da db z.A la lb∧adg da w now z.mem la lp
structure wm(z:St)(aF aO:List (Int×ByteArray)):Prop where
 aF:z.aF=aF
 aO:z.aO=aO
def sH(w:Int):Int:=if w=1 then 240 else if w=2 then 640 else 1200
def Nw(db w:Int)(t:ByteArray)(id:Int):Sr:=⟨db,[t],2 * w - 1,0,sH w,id,true⟩
structure NA(da db w:Int)(t:ByteArray)(wt:Bool)(lb:Option (Int×Int×Int))(z:St):Prop where
 me:z.me=da
 bN:z.bN<=0
 seq:z.seq=w+1
 b_:z.b_=w
 on:wt=true->z.eu=0∧∃id,z.Q=[Nw db w t id]
 off:wt=false->z.Q=[]
 pc:(z.pc.length:Int)<=w
 tk:TK da db z.A none lb
theorem ug{da db w now me:Int}{lp:Option (Int×Int)}{lb:Option (Int×Int×Int)}{s:St}{aF aO:List (Int×ByteArray)}(h:ND da db w now me lp lb s)(o:wm s aF aO):ND da db w now me lp lb s.finish.freed∧wm s.finish.freed aF aO:=by
 have f:=aR s;refine⟨⟨f.me.trans h.me,?_,f.seq.trans h.seq,f.Q.trans h.Q,?_,?_⟩,⟨f.aF.trans o.aF,f.aO.trans o.aO⟩⟩
 ·show s.finish.bN<=0;rw[f.bN];exact h.bN
 ·show ∀e∈s.finish.mem,_;rw[f.mem];exact h.mem
 ·show ∃la,TK da db s.finish.A la lb∧adg da w now s.finish.mem la lp;rw[f.mem,f.A];exact h.tk
theorem Af{da db w:Int}{t:ByteArray}{wt:Bool}{lb:Option (Int×Int×Int)}{s:St}{aF aO:List (Int×ByteArray)}(h:NA da db w t wt lb s)(o:wm s aF aO):NA da db w t wt lb s.finish.freed∧wm s.finish.freed aF aO:=by
 have f:=aR s;refine⟨⟨f.me.trans h.me,?_,f.seq.trans h.seq,f.b_.trans h.b_,λe=>⟨f.eu.trans (h.on e).1,?_⟩,λe=>f.Q.trans (h.off e),?_,?_⟩,⟨f.aF.trans o.aF,f.aO.trans o.aO⟩⟩
 ·show s.finish.bN<=0;rw[f.bN];exact h.bN
 ·obtain⟨id,e2⟩:=(h.on e).2;exact⟨id,f.Q.trans e2⟩
 ·show(s.finish.pc.length:Int)<=w;rw[f.pc];exact h.pc
 ·show TK da db s.finish.A none lb;rw[f.A];exact h.tk
theorem mQ{da db w now me t:Int}{lp:Option (Int×Int)}{lb:Option (Int×Int×Int)}{z:St}(h:ND da db w t me lp lb z)(hn:now<3000)(ht:lp=none∨t=now):ND da db w now me lp lb (z.locked.begin now)∧wm (z.locked.begin now) [] []:=by
 obtain⟨la,k1,k2⟩:=h.tk;refine⟨⟨h.me,h.bN,h.seq,h.Q,h.mem,la,?_,?_,k2.off⟩,rfl,rfl⟩
 ·show TK da db (iF z.A now) la lb;rw[k1.exp hn];exact k1
 ·intro a b e;rcases ht with ht|ht
  ·rw[ht]at e;cases e
  ·subst ht;exact k2.on a b e
theorem vC{da db w now:Int}{t:ByteArray}{wt:Bool}{lb:Option (Int×Int×Int)}{z:St}(h:NA da db w t wt lb z)(hn:now<3000):NA da db w t wt lb (z.locked.begin now)∧wm (z.locked.begin now) [] []:=by
 refine⟨⟨h.me,h.bN,h.seq,h.b_,h.on,h.off,h.pc,?_⟩,⟨rfl,rfl⟩⟩;show TK da db (iF z.A now) none lb;rw[h.tk.exp hn];exact h.tk
structure Ends(da db:Int)(t:ByteArray):Prop where
 ua:a_ da
 ub:a_ db
 a0:da≠0
 b0:db≠0
 ne:da≠db
 ts:t.size<=16
variable {da db w now me fr:Int} {t:ByteArray}
theorem zm{ttl d:Int}(E:Ends da db t)(hl:1<=ttl∧ttl<=8)(hd:0<=d∧d<=8)(hw:0<=w∧w<=8){s:St}(h0:fr≠0)(hm:fr≠s.me)(hs:¬s.now<s.bN):s.hear fr (aA (iP (nL ttl d w da db)))=s.bR fr (nL ttl d w da db):=by
 obtain⟨h1,h2⟩:=abN hl hd hw E.ua E.ub;obtain⟨L,e⟩:=ED h1 h2 rfl rfl rfl s h0 hm;rw[e];unfold St.fD;rw[ay hs];rfl
theorem Ml{ttl h:Int}(E:Ends da db t)(hl:1<=ttl∧ttl<=8)(hh:0<=h∧h<=8){s:St}(h0:fr≠0)(hm:fr≠s.me)(hs:¬s.now<s.bN):s.hear fr (aA (iP (nu ttl h da db)))=s.dM fr (nu ttl h da db):=by
 obtain⟨h1,h2⟩:=abO hl hh E.ua E.ub;obtain⟨L,e⟩:=ED h1 h2 rfl rfl rfl s h0 hm;rw[e];unfold St.fD;rw[ay hs];rfl
theorem Mq{ttl:Int}(E:Ends da db t)(hl:1<=ttl∧ttl<=8){s:St}(h0:fr≠0)(hm:fr≠s.me)(hs:¬s.now<s.bN):s.hear fr (aA (iP (sI ttl da db t)))=s.dU fr (sI ttl da db t):=by
 obtain⟨h1,h2⟩:=ac8 hl E.ts E.ua E.ub;obtain⟨L,e⟩:=ED h1 h2 rfl rfl rfl s h0 hm;rw[e];unfold St.fD;rw[ay hs];rfl
theorem Rv{z:St}{ttl d:Int}{x:Int×Int}{lb:Option (Int×Int×Int)}(E:Ends da db t)(h:ND da db w now me (some x) lb z)(hn:0<=now∧now<3000)(hl:1<=ttl∧ttl<=8)(hd:0<=d∧d<=8)(hw:0<=w∧w<=8)(h0:fr≠0)(hm:fr≠me):ND da db w now me (some x) lb (z.rcv now fr (aA (iP (nL ttl d w da db))))∧wm (z.rcv now fr (aA (iP (nL ttl d w da db)))) [] []:=by
 obtain⟨hb,ho⟩:=mQ h hn.2 (.inr rfl);refine ug (s:=(z.locked.begin now).hear fr _) ?_ ?_;all_goals
  rw[zm E hl hd hw h0 (by rw[hb.me];exact hm) (by have:=hb.bN;show ¬now<_;omega)];unfold St.bR;rw[aI (.inr (by obtain⟨la,_,k2⟩:=hb.tk;exact(k2.on x.1 x.2 rfl).2))]
 ·exact⟨hb.me,hb.bN,hb.seq,hb.Q,hb.mem,hb.tk⟩
 ·exact⟨ho.aF,ho.aO⟩
theorem Rz{z:St}{ttl d:Int}{wt:Bool}{lb:Option (Int×Int×Int)}(E:Ends da db t)(h:NA da db w t wt lb z)(hn:0<=now∧now<3000)(hl:1<=ttl∧ttl<=8)(hd:0<=d∧d<=8)(hw:0<=w∧w<=8)(h0:fr≠0)(hm:fr≠da):NA da db w t wt lb (z.rcv now fr (aA (iP (nL ttl d w da db))))∧wm (z.rcv now fr (aA (iP (nL ttl d w da db)))) [] []:=by
 obtain⟨hb,ho⟩:=vC h hn.2;refine Af (s:=(z.locked.begin now).hear fr _) ?_ ?_;all_goals
  rw[zm E hl hd hw h0 (by rw[hb.me];exact hm) (by have:=hb.bN;show ¬now<_;omega)];unfold St.bR;rw[aI (.inl hb.me.symm)]
 ·exact⟨hb.me,hb.bN,hb.seq,hb.b_,hb.on,hb.off,hb.pc,hb.tk⟩
 ·exact⟨ho.aF,ho.aO⟩
theorem GJ{s:St}{ttl d:Int}(E:Ends da db t)(h:ND da db w now me none none s)(ho:wm s [] [])(di:s.now=now)(hn:0<=now∧now<3000)(hma:me≠da)(hd:0<=d∧d<=8):∃u:St,s.bR fr (nL ttl d w da db)=u.asked (nL ttl d w da db)∧ND da db w now me (some (d+1,fr)) none u∧wm u [] []∧u.now=now:=by
 obtain⟨la,k1,k2⟩:=h.tk;obtain⟨k3,k4⟩:=k2.off rfl;have hno:¬((nL ttl d w da db).aH=s.me∨iR s.mem ((nL ttl d w da db).aH,(nL ttl d w da db).id) s.now=true):=by
  rw[V3 (w:=w) k4 rfl,h.me];simp;exact λe=>hma e.symm
 have Hz:St.far d=d+1:=by unfold St.far;omega
 obtain⟨u1,u2⟩:=k1.upd (me:=me) (q:=w+1) (hp:=d+1) (n:=fr) (e:=now+3000) E.ne (λe=>hma e.symm) E.a0 k3 (by omega);refine⟨{s with mem:=dw s.mem (da,w) (s.now+1280) s.tn,tn:=s.tn+1,A:=(fA me s.A da (w+1) (d+1) fr (now+3000)).1},?_,⟨h.me,h.bN,h.seq,h.Q,λe he=> ?_,_,u2,λa b e=> ?_,λe=>(by cases e)⟩,⟨ho.aF,ho.aO⟩,di⟩
 ·unfold St.bR;rw[ay hno];unfold St.learn;have e1:(fA s.me s.A (nL ttl d w da db).aH (nL ttl d w da db).dQ (St.far (nL ttl d w da db).hops) fr (s.now+3000))=fA me s.A da (w+1) (d+1) fr (now+3000):=by
   rw[h.me,di];show fA me s.A da (w+1) (St.far d) fr (now+3000)=_;rw[Hz]
  dsimp only;rw[e1,u1,ay (by decide),ay (by decide)];rfl
 ·rcases V4 he with he|he
  ·exact h.mem e he
  ·rw[he];show w<w+1;omega
 ·cases e;exact⟨rfl,Qw (by rw[di];omega)⟩
theorem abV{z:St}{ttl d t0:Int}(E:Ends da db t)(h:ND da db w t0 me none none z)(hn:0<=now∧now<3000)(hma:me≠da)(hmb:me≠db)(hl:1<=ttl∧ttl<=8)(hd:0<=d∧d<=8)(hw:0<=w∧w<=8)(h0:fr≠0)(hm:fr≠me):ND da db w now me (some (d+1,fr)) none (z.rcv now fr (aA (iP (nL ttl d w da db))))∧wm (z.rcv now fr (aA (iP (nL ttl d w da db)))) (if ttl=1 then []else [(0,iP (nL (ttl - 1) (d+1) w da db))]) []:=by
 obtain⟨hb,ho⟩:=mQ (now:=now) h hn.2 (.inl rfl);obtain⟨u,e,hu,hou,hun⟩:=GJ (ttl:=ttl) (fr:=fr) E hb ho rfl hn hma hd;have e2:u.asked (nL ttl d w da db)=if ttl=1 then u.drop 4 else u.send 0 (nL (ttl - 1) (d+1) w da db) []:=by
  obtain⟨la,k1,_⟩:=hu.tk;have hf:=k1.swap.miss u.now;have hlo:=k1.swap.off;unfold St.asked;rw[ay (by show ¬db=u.me;rw[hu.me];exact λe=>hmb e.symm)];rw[show(bE u.A (nL ttl d w da db).dest u.now).2=false from hf];rw[ay (by simp)];show(if ttl=1 then u.drop 4 else u.askOn (nL ttl d w da db))=_;unfold St.askOn;rw[show aK u.A (nL ttl d w da db).dest=none from hlo];have Hz:St.far (nL ttl d w da db).hops=d+1:=by unfold St.far nL;dsimp only;omega
  rw[Hz];rfl
 refine ug (s:=(z.locked.begin now).hear fr _) ?_ ?_;all_goals
  rw[zm E hl hd hw h0 (by rw[hb.me];exact hm) (by have:=hb.bN;show ¬now<_;omega),e,e2];split
 ·exact⟨hu.me,hu.bN,hu.seq,hu.Q,hu.mem,hu.tk⟩
 ·exact⟨hu.me,hu.bN,hu.seq,hu.Q,hu.mem,hu.tk⟩
 ·exact⟨hou.aF,hou.aO⟩
 ·refine⟨?_,hou.aO⟩;show u.aF++_=_;rw[hou.aF];rfl
theorem Rs{z:St}{ttl d t0:Int}(E:Ends da db t)(h:ND da db w t0 db none none z)(hn:0<=now∧now<3000)(hl:1<=ttl∧ttl<=8)(hd:0<=d∧d<=8)(hw:0<=w∧w<=8)(h0:fr≠0)(hm:fr≠db):ND da db w now db (some (d+1,fr)) none (z.rcv now fr (aA (iP (nL ttl d w da db))))∧wm (z.rcv now fr (aA (iP (nL ttl d w da db)))) [(fr,iP (nu 8 0 da db))] []:=by
 obtain⟨hb,ho⟩:=mQ (now:=now) h hn.2 (.inl rfl);obtain⟨u,e,hu,hou,hun⟩:=GJ (ttl:=ttl) (fr:=fr) E hb ho rfl hn (λe=>E.ne e.symm) hd;have e2:u.asked (nL ttl d w da db)=u.send fr (nu 8 0 da db) []:=by
  obtain⟨la,k1,k2⟩:=hu.tk;obtain⟨k3,_⟩:=k2.on _ _ rfl;subst k3;obtain⟨f1,_,_,f4⟩:=k1.find (now:=u.now) (by rw[hun];exact hn.2);have hsq:max u.seq (nL ttl d w da db).bA=1:=by rw[hu.seq];rfl
  unfold St.asked;rw[aI (by rw[hu.me];rfl)];have e0:({u with seq:=1}:St)=u:=by rw[<-hu.seq]
  unfold St.iG;rw[hsq,e0,hu.me];unfold St.answer;rw[show(St.su 0 db 1 (nL ttl d w da db).aH 6000).aH=da from rfl,aI f1,f4];rfl
 refine ug (s:=(z.locked.begin now).hear fr _) ?_ ?_;all_goals
  rw[zm E hl hd hw h0 (by rw[hb.me];exact hm) (by have:=hb.bN;show ¬now<_;omega),e,e2]
 ·exact⟨hu.me,hu.bN,hu.seq,hu.Q,hu.mem,hu.tk⟩
 ·refine⟨?_,hou.aO⟩;show u.aF++_=_;rw[hou.aF];rfl
theorem WE{z:St}{ttl h dj nx:Int}(E:Ends da db t)(hz:ND da db w now me (some (dj,nx)) none z)(hn:0<=now∧now<2000)(hma:me≠da)(hmb:me≠db)(hl:2<=ttl∧ttl<=8)(hh:0<=h∧h<=7)(h0:fr≠0)(hm:fr≠me):ND da db w now me (some (dj,nx)) (some (1,h+1,fr)) (z.rcv now fr (aA (iP (nu ttl h da db))))∧wm (z.rcv now fr (aA (iP (nu ttl h da db)))) [(nx,iP (nu (ttl - 1) (h+1) da db))] []:=by
 obtain⟨hb,ho⟩:=mQ hz (by omega) (.inr rfl);obtain⟨la,k1,k2⟩:=hb.tk;obtain⟨k3,k3s⟩:=k2.on _ _ rfl;subst k3;obtain⟨u,hu⟩:∃u,z.locked.begin now=u:=⟨_,rfl⟩;have hun:u.now=now:=by rw[<-hu];rfl
 have Hz:St.far h=h+1:=by unfold St.far;omega
 rw[hu]at hb ho k1 k2 k3s;obtain⟨u1,u2⟩:=k1.swap.upd (me:=me) (q:=1) (hp:=h+1) (n:=fr) (e:=now+6000) (λe=>E.ne e.symm) (λe=>hmb e.symm) E.b0 (λx e=>(by cases e)) (by omega);obtain⟨f1,_,_,f4⟩:=u2.swap.find (now:=u.now) (by rw[hun];omega);have e2:u.dM fr (nu ttl h da db)={u with A:=gU (kM (kM (fA me u.A db 1 (h+1) fr (now+6000)).1 db nx) da fr) da (now+3000)}.send nx (nu (ttl - 1) (h+1) da db) []:=by
  unfold St.dM;rw[ay (by show ¬db=u.me;rw[hb.me];exact λe=>hmb e.symm)];have e1:(fA u.me u.A (nu ttl h da db).dest (nu ttl h da db).bA (St.far (nu ttl h da db).hops) fr (u.now+(nu ttl h da db).life))=fA me u.A db 1 (h+1) fr (now+6000):=by
   rw[hb.me,hun];show fA me u.A db 1 (St.far h) fr (now+6000)=_;rw[Hz]
  rw[e1];dsimp only;rw[u1,ay (by decide),ay (by show ¬da=u.me;rw[hb.me];exact λe=>hma e.symm),ay (by show ¬ttl=1;omega)];unfold St.iT;dsimp only;rw[show(nu ttl h da db).aH=da from rfl,aI f1,f4,hun,show(nu ttl h da db).dest=db from rfl,show(nu ttl h da db).hops=h from rfl,Hz];rfl
 have ht:=((u2.swap.bL db nx).bL da fr).use da (now+3000);have hr:z.rcv now fr (aA (iP (nu ttl h da db)))=(u.hear fr (aA (iP (nu ttl h da db)))).finish.freed:=by rw[<-hu];rfl
 rw[hr];refine ug (s:=u.hear fr _) ?_ ?_;all_goals
  rw[Ml E (by omega) (by omega) h0 (by rw[hb.me];exact hm) (by have:=hb.bN;rw[hun];omega),e2]
 ·refine⟨hb.me,hb.bN,hb.seq,hb.Q,hb.mem,_,ht,λa b e=> ?_,λe=>(by cases e)⟩;cases e;exact⟨rfl,k3s⟩
 ·refine⟨?_,ho.aO⟩;show u.aF++_=_;rw[ho.aF];rfl
theorem Rw{z:St}{ttl h:Int}(E:Ends da db t)(hz:NA da db w t true none z)(hn:0<=now∧now<2000)(hl:1<=ttl∧ttl<=8)(hh:0<=h∧h<=7)(h0:fr≠0)(hm:fr≠da):
  NA da db w t false (some (1,h+1,fr)) (z.rcv now fr (aA (iP (nu ttl h da db))))∧wm (z.rcv now fr (aA (iP (nu ttl h da db)))) [(fr,iP (sI 8 da db t))] []:=by
 obtain⟨hb,ho⟩:=vC hz (now:=now) (by omega);obtain⟨u,hu⟩:∃u,z.locked.begin now=u:=⟨_,rfl⟩;have hun:u.now=now:=by rw[<-hu];rfl
 have Hz:St.far h=h+1:=by unfold St.far;omega
 rw[hu]at hb ho;obtain⟨hld,id,hq⟩:=hb.on rfl;obtain⟨u1,u2⟩:=hb.tk.swap.upd (me:=da) (q:=1) (hp:=h+1) (n:=fr) (e:=now+6000) (λe=>E.ne e.symm) (λe=>E.ne e.symm) E.b0 (λx e=>(by cases e)) (by omega);obtain⟨f1,_,_,f4⟩:=u2.find (now:=now) (by omega);have e2:u.dM fr (nu ttl h da db)={ {u with A:=(fA da u.A db 1 (h+1) fr (now+6000)).1,eu:=1}with A:=gU (fA da u.A db 1 (h+1) fr (now+6000)).1 db (now+3000),Q:=[],aF:=u.aF++ [(fr,iP (sI 8 da db t))]}:=by
  unfold St.dM;rw[ay (by show ¬db=u.me;rw[hb.me];exact λe=>E.ne e.symm)];have e1:(fA u.me u.A (nu ttl h da db).dest (nu ttl h da db).bA (St.far (nu ttl h da db).hops) fr (u.now+(nu ttl h da db).life))=fA da u.A db 1 (h+1) fr (now+6000):=by
   rw[hb.me,hun];show fA da u.A db 1 (St.far h) fr (now+6000)=_;rw[Hz]
  rw[e1];dsimp only;rw[u1,ay (by decide),aI (by rw[hb.me];rfl),ay (by decide)];unfold St.sendAll St.jU;dsimp only;rw[hq,show(nu ttl h da db).dest=db from rfl,List.find?_cons_of_pos (by simp[Nw])];dsimp only;rw[hun,aI f1];rw[show(Nw db w t id).txt=[t]from rfl,gZ,List.foldl_nil];unfold St.aZ;dsimp only;rw[aI f1,f4,hld,hb.me];rw[show([Nw db w t id].filter λz=>!decide (z.dest=db))=[]by simp[Nw]];rfl
 have hr:z.rcv now fr (aA (iP (nu ttl h da db)))=(u.hear fr (aA (iP (nu ttl h da db)))).finish.freed:=by rw[<-hu];rfl
 rw[hr];refine Af (s:=u.hear fr _) ?_ ?_;all_goals
  rw[Ml E (by omega) (by omega) h0 (by rw[hb.me];exact hm) (by have:=hb.bN;rw[hun];omega),e2]
 ·exact⟨hb.me,hb.bN,hb.seq,hb.b_,λe=>(by cases e),λ_=>rfl,hb.pc,(u2.use db (now+3000)).swap⟩
 ·refine⟨?_,ho.aO⟩;dsimp only;rw[ho.aF];rfl
theorem Wy{z:St}{ttl h nx:Int}{lp:Option (Int×Int)}(E:Ends da db t)(hz:ND da db w now me lp (some (1,h,nx)) z)(hn:0<=now∧now<2000)(hmb:me≠db)(hl:2<=ttl∧ttl<=8)(h0:fr≠0)(hm:fr≠me):ND da db w now me lp (some (1,h,nx)) (z.rcv now fr (aA (iP (sI ttl da db t))))∧wm (z.rcv now fr (aA (iP (sI ttl da db t)))) [(nx,iP (sI (ttl - 1) da db t))] []:=by
 obtain⟨hb,ho⟩:=mQ hz (by omega) (.inr rfl);obtain⟨la,k1,k2⟩:=hb.tk;obtain⟨u,hu⟩:∃u,z.locked.begin now=u:=⟨_,rfl⟩;have hun:u.now=now:=by rw[<-hu];rfl
 rw[hu]at hb ho k1 k2;obtain⟨f1,_,_,f4⟩:=k1.swap.find (now:=now) (by omega);have e2:u.dU fr (sI ttl da db t)={u with A:=gU (gU u.A db (now+3000)) da (now+3000)}.send nx (sI (ttl - 1) da db t) []:=by
  unfold St.dU;rw[ay (by show ¬db=u.me;rw[hb.me];exact λe=>hmb e.symm),ay (by show ¬ttl=1;omega),hun,show(sI ttl da db t).dest=db from rfl,aI f1,f4];rfl
 have ht:=(k1.use db (now+3000)).use da (now+3000);have hr:z.rcv now fr (aA (iP (sI ttl da db t)))=(u.hear fr (aA (iP (sI ttl da db t)))).finish.freed:=by rw[<-hu];rfl
 rw[hr];refine ug (s:=u.hear fr _) ?_ ?_;all_goals
  rw[Mq E (by omega) h0 (by rw[hb.me];exact hm) (by have:=hb.bN;rw[hun];omega),e2]
 ·exact⟨hb.me,hb.bN,hb.seq,hb.Q,hb.mem,_,ht,k2⟩
 ·refine⟨?_,ho.aO⟩;show u.aF++_=_;rw[ho.aF];rfl
theorem Wz{z:St}{ttl:Int}{lp:Option (Int×Int)}{lb:Option (Int×Int×Int)}(E:Ends da db t)(hz:ND da db w now db lp lb z)(hn:0<=now∧now<3000)(hl:1<=ttl∧ttl<=8)(h0:fr≠0)(hm:fr≠db):ND da db w now db lp lb (z.rcv now fr (aA (iP (sI ttl da db t))))∧wm (z.rcv now fr (aA (iP (sI ttl da db t)))) [] [(da,t)]:=by
 obtain⟨hb,ho⟩:=mQ hz hn.2 (.inr rfl);obtain⟨u,hu⟩:∃u,z.locked.begin now=u:=⟨_,rfl⟩;have hun:u.now=now:=by rw[<-hu];rfl
 rw[hu]at hb ho;have e2:u.dU fr (sI ttl da db t)={u with aO:=u.aO++ [(da,t)]}:=by
  unfold St.dU;rw[aI (by rw[hb.me];rfl)];rfl
 have hr:z.rcv now fr (aA (iP (sI ttl da db t)))=(u.hear fr (aA (iP (sI ttl da db t)))).finish.freed:=by rw[<-hu];rfl
 rw[hr];refine ug (s:=u.hear fr _) ?_ ?_;all_goals
  rw[Mq E hl h0 (by rw[hb.me];exact hm) (by have:=hb.bN;rw[hun];omega),e2]
 ·exact⟨hb.me,hb.bN,hb.seq,hb.Q,hb.mem,hb.tk⟩
 ·refine⟨ho.aF,?_⟩;show u.aO++_=_;rw[ho.aO];rfl
theorem CF(s:St)(h:s.Q=[])(now:Int):(St.jA s.Q now).foldl St.step s=s:=by
 rw[h];unfold St.jA;rw[List.filter_nil,List.mergeSort_nil];rfl
theorem LQ{z:St}{w' t0:Int}{lb:Option (Int×Int×Int)}(h:ND da db w' t0 me none lb z)(hn:now<3000):ND da db w' now me none lb (z.iW now)∧wm (z.iW now) [] []:=by
 obtain⟨hb,ho⟩:=mQ h hn (.inl rfl);have e:z.iW now=(z.locked.begin now).finish.freed:=by
  show((St.jA (z.locked.begin now).Q now).foldl St.step (z.locked.begin now)).finish.freed=_;rw[CF _ hb.Q]
 rw[e];exact ug hb ho
theorem Lj{z:St}(h:z.Q=[]):(z.iW now).Q=[]∧wm (z.iW now) [] []:=by
 have e:z.iW now=(z.locked.begin now).finish.freed:=by
  show((St.jA (z.locked.begin now).Q now).foldl St.step (z.locked.begin now)).finish.freed=_;rw[CF _ (show(z.locked.begin now).Q=[]from h)]
 have f:=aR (z.locked.begin now);rw[e];exact⟨f.Q.trans h,f.aF,f.aO⟩
theorem WH{z:St}(h:NA da db w t true none z)(hn:now<3000)(hd:now<sH w):NA da db w t true none (z.iW now)∧wm (z.iW now) [] []:=by
 obtain⟨hb,ho⟩:=vC h hn;obtain⟨_,id,hq⟩:=hb.on rfl;have e:z.iW now=(z.locked.begin now).finish.freed:=by
  show((St.jA (z.locked.begin now).Q now).foldl St.step (z.locked.begin now)).finish.freed=_;have:St.jA (z.locked.begin now).Q now=[]:=by
   rw[hq];unfold St.jA;rw[List.filter_cons_of_neg (by show ¬decide (sH w<=now)=true;simp;omega),List.filter_nil,List.mergeSort_nil]
  rw[this];rfl
 rw[e];exact Af hb ho
theorem Ry{s:St}{Q0:Sr}(h:TK da db s.A none none)(hme:s.me=da)(hs:s.bN<=0)(hsq:s.seq=w+1)(hlr:s.b_=w)(hld:s.eu=0)(hp:(s.pc.length:Int)<=w)(hw:0<=w∧w<=2)(ho:wm s [] [])(hn:0<=s.now∧s.now<3000)(hQ:s.Q=[Q0])(hd:Q0.dest=db)(q:Sr)(hq1:q.dest=db)(hq2:q.txt=[t])(hq3:q.ttl=2 * w+1)(hq4:q.ret=0)(hdw:s.now+80 * (2 * w+1+2)=sH (w+1)):
  NA da db (w+1) t true none (s.ask q)∧wm (s.ask q) [(0,iP (nL (2 * w+1) 0 (w+1) da db))] []:=by
 have hnf:St.full s.pc s.now=false:=by
  unfold St.full;rw[eU (by omega)];rfl
 have e:s.ask q={s.request q.dest q.ttl with tl:=(s.request q.dest q.ttl).tl+1,Q:=St.dh (s.request q.dest q.ttl).Q {q with due:=(s.request q.dest q.ttl).now+80 * (q.ttl+2)* 2 ^ q.ret,id:=(s.request q.dest q.ttl).tl+1,out:=true}}:=by
  unfold St.ask;rw[ay (by rw[hnf];decide),ay (by omega)]
 have hgr:gr s.seq=w+2:=by unfold gr;omega
 have hl:(s.b_+1)%4294967296=w+1:=by omega
 have hoff:=h.swap.off;have adT:St.dh [Q0] {q with due:=s.now+80 * (q.ttl+2)* 2 ^ q.ret,id:=s.tl+1,out:=true}=[Nw db (w+1) t (s.tl+1)]:=by
  unfold St.dh;rw[List.map_cons,List.map_nil,aI (by rw[hd,hq1])];unfold Nw;obtain⟨dest,txt,ttl,ret,due,id,out⟩:=q;dsimp only at hq1 hq2 hq3 hq4 ⊢;rw[hq1,hq2,hq3,hq4,<-hdw]
  congr 2
  ·omega
  ·omega
 rw[e];refine⟨⟨hme,hs,?_,hl,λ_=>⟨hld,s.tl+1,?_⟩,λe=>(by cases e),?_,h⟩,?_,ho.aO⟩
 ·show gr s.seq=_;rw[hgr];omega
 ·show St.dh s.Q _=_;rw[hQ];exact adT
 ·show((St.dI s.pc s.now).length:Int)<=w+1;unfold St.dI;rw[ay (by omega),bU,List.length_singleton];omega
 ·show s.aF++ [(0,strOfNums (pR (St.BO q.ttl (!(aK s.A q.dest).isSome) ((s.b_+1)%4294967296) q.dest (eP s.A q.dest) s.me (gr s.seq)) []))]=_;rw[ho.aF,hq1,hoff,hl,hgr,hme,hq3];have hnl:eP s.A db=0:=by unfold eP;rw[hoff];rfl
  rw[hnl];unfold iP nL St.BO;rw[show w+1+1=w+2 by omega];rfl
theorem WJ{z:St}(h:NA da db w t true none z)(hn:0<=now∧now<3000)(hw:w=1∨w=2)(hd:now=sH w):NA da db (w+1) t true none (z.iW now)∧wm (z.iW now) [(0,iP (nL (2 * w+1) 0 (w+1) da db))] []:=by
 obtain⟨hb,ho⟩:=vC h hn.2;obtain⟨hld,id,hq⟩:=hb.on rfl;have aei:St.jA (z.locked.begin now).Q now=[Nw db w t id]:=by
  rw[hq];unfold St.jA;rw[List.filter_cons_of_pos (by show decide (sH w<=now)=true;simp;omega),List.filter_nil,List.mergeSort_singleton]
 have e:z.iW now=((z.locked.begin now).ask {Nw db w t id with ttl:=2 * w+1}).finish.freed:=by
  show((St.jA (z.locked.begin now).Q now).foldl St.step (z.locked.begin now)).finish.freed=_;rw[aei,gZ,List.foldl_nil];unfold St.step;rw[show(bE (z.locked.begin now).A (Nw db w t id).dest (z.locked.begin now).now).2=false from hb.tk.swap.miss _,ay (by decide),aI (show(Nw db w t id).out=true from rfl)];unfold St.widen;rw[aI (by show 2 * w - 1+2<=5;omega),show(Nw db w t id).ttl+2=2 * w+1 by show 2 * w - 1+2=_;omega]
 rw[e];obtain⟨k1,k2⟩:=Ry (s:=z.locked.begin now) hb.tk hb.me hb.bN hb.seq hb.b_ hld hb.pc (by omega) ho hn hq rfl {Nw db w t id with ttl:=2 * w+1} rfl rfl rfl rfl (by
  show now+80 * (2 * w+1+2)=sH (w+1);rw[hd];rcases hw with rfl|rfl<;>decide)
 exact Af k1 k2
theorem Rx{z:St}(hz:z=St.new da [] 0):NA da db 1 t true none (z.snd 0 db t)∧wm (z.snd 0 db t) [(0,iP (nL 1 0 1 da db))] []:=by
 subst hz;have f:=aR (St.raw da [] 0);have hA:(St.new da [] 0).A=[]:=f.A;have hQ:(St.new da [] 0).Q=[]:=f.Q;have jE:((St.new da [] 0).locked.begin 0).A=[]:=by
  show iF (St.new da [] 0).A 0=[];rw[hA];rfl
 have hbQ:((St.new da [] 0).locked.begin 0).Q=[]:=hQ;have e:(St.new da [] 0).snd 0 db t=(({(St.new da [] 0).locked.begin 0 with Q:=[St.jh db t]}:St).ask (St.jh db t)).finish.freed:=by
  unfold St.snd St.sends;dsimp only;rw[jE,ay (show ¬(bE [] db _).2=true from Bool.false_ne_true)];unfold St.await;rw[hbQ];rfl
 rw[e];obtain⟨k1,k2⟩:=Ry (w:=0) (s:={(St.new da [] 0).locked.begin 0 with Q:=[St.jh db t]}) (by
  show TK da db ((St.new da [] 0).locked.begin 0).A none none;rw[jE];exact TK.nil da db) f.me (by
  show(St.finish (St.raw da [] 0)).bN<=0;rw[f.bN];exact gP 0) f.seq f.b_ f.eu (by
  show((St.finish (St.raw da [] 0)).pc.length:Int)<=0;rw[f.pc];exact gP 0) (by omega) ⟨rfl,rfl⟩ ⟨gP 0,by show(0:Int)<3000;omega⟩ rfl rfl (St.jh db t) rfl rfl rfl rfl rfl
 exact Af k1 k2
theorem ZH(w0 t0 da db me:Int):ND da db w0 t0 me none none (St.new me [] 0):=by
 have f:=aR (St.raw me [] 0);have hA:(St.new me [] 0).A=[]:=f.A;have hm:(St.new me [] 0).mem=[]:=f.mem;refine⟨f.me,?_,f.seq,f.Q,λe he=> ?_,none,?_,λh n e=>(by cases e),λ_=>⟨λx e=>(by cases e),λe he=> ?_⟩⟩
 ·show(St.finish (St.raw me [] 0)).bN<=0;rw[f.bN];exact gP 0
 ·rw[hm]at he;cases he
 ·rw[hA];exact TK.nil da db
 ·rw[hm]at he;cases he
theorem ND.next{z:St}{t0 t1:Int}{lp:Option (Int×Int)}{lb:Option (Int×Int×Int)}(h:ND da db w t0 me lp lb z):ND da db (w+1) t1 me none lb z:=by
 obtain⟨la,k1,k2⟩:=h.tk;refine⟨h.me,h.bN,h.seq,h.Q,λe he=>by have:=h.mem e he;omega,la,k1,λh n e=>(by cases e),λ_=>⟨λx e=> ?_,h.mem⟩⟩;cases lp with
 |none=>have:=(k2.off rfl).1 x e;omega
 |some p=>
  obtain⟨k3,_⟩:=k2.on p.1 p.2 rfl;rw[k3]at e;cases e;show w+1<w+1+1;omega
theorem ND.still{z:St}{t0 t1:Int}{lb:Option (Int×Int×Int)}(h:ND da db w t0 me none lb z):ND da db w t1 me none lb z:=by
 obtain⟨la,k1,k2⟩:=h.tk;exact⟨h.me,h.bN,h.seq,h.Q,h.mem,la,k1,λh n e=>(by cases e),k2.off⟩
variable{m:aM}{a b i j k n:Nat}{lk:Nat->Nat->Bool}{s:eB}
def bJ(i:Nat):Int:=10 * (i:Int)+10
structure IG(lk:Nat->Nat->Bool)(i:Nat)(s:eB):Prop where
 addr:s.addr=bJ i
 tears:s.tears=false
 hrs:∀j,s.hrs.getD j false=lk i j
def kW(lk:Nat->Nat->Bool)(n i:Nat)(t:Int):List Nat:=(List.range n).filter λj=>lk i j&&(decide (t=0)||decide (t=bJ j))
abbrev Fl:=Nat×Nat×ByteArray
def mW(lk:Nat->Nat->Bool)(n i:Nat)(f:Int×ByteArray):List Fl:=(kW lk n i f.1).map λj=>(i,j,f.2)
def gI(e:List Ev):List (Int×Int×ByteArray):=e.flatMap λx=>x.o.aO.map λc=>(x.node,c.1,c.2)
theorem Bb(a b:List Ev):gI (a++b)=gI a++gI b:=by simp[gI]
theorem H7(hl:m.S.length=n)(h:∀j s,m.S[j]?=some s->IG lk j s)(hi:i<n)(t:Int):m.heard i t=kW lk n i t:=by
 unfold aM.heard kW;rw[hl];have hx:∀j,j<n->∃s,m.S[j]?=some s:=λj hj=>⟨_,bS (by omega)⟩;obtain⟨s,hs⟩:=hx i hi;refine List.filter_congr λj hj=> ?_;obtain⟨u,hu⟩:=hx j (List.mem_range.1 hj);rw[dR hs,dR hu,(h i s hs).hrs,(h j u hu).addr]
theorem launches(i:Nat)(b:ByteArray):∀(l:List Nat) (m:aM),m.aT.length+l.length<=48->l.foldl (λm j=>m.launch (i,j,b)) m={m with aT:=m.aT++l.map λj=>(i,j,b)}
 | [],m,_=>by rw[List.foldl_nil,List.map_nil,fw]
 |j::l,m,h=>by
  rw[dZ]at h;have e:m.launch (i,j,b)={m with aT:=m.aT++ [(i,j,b)]}:=by
   unfold aM.launch;rw[ay (by rw[bU,List.length_singleton];omega)]
  rw[gZ,e,launches i b l _ (by dsimp only;rw[bU,List.length_singleton];omega)];dsimp only;rw[List.append_assoc];rfl
theorem Vg(h:IG lk i s)(o:Ot):∃s',s.write o=(s',true)∧s'.nd=s.nd∧IG lk i s':=by
 by_cases h1:o.bg≠ []∨o.bB=true
 ·exact⟨_,eB.j3 h1 h.tears,rfl,h.addr,h.tears,h.hrs⟩
 ·simp only[not_or,Classical.not_not]at h1;exact⟨s,eB.qz h1.1 (by simpa using h1.2),rfl,h⟩
theorem zu{z:St}{aF aO:List (Int×ByteArray)}(hl:m.S.length=n)(h:∀j s,m.S[j]?=some s->IG lk j s)(hs:m.S[i]?=some s)(ho:wm z aF aO)(hf:aF=[]∨∃f,aF=[f]∧(f.1=0∨kW lk n i f.1≠ []))(h48:m.aT.length+(aF.flatMap (mW lk n i)).length<=48):
  ∃s',(m.act i z).1={m with S:=m.S.set i s',aT:=m.aT++aF.flatMap (mW lk n i)}∧s'.nd=some z∧IG lk i s'∧gI (m.act i z).2=aO.map λc=>((i:Int),c.1,c.2):=by
 have hi:=(fO.1 hs).1;have k:=h i s hs;rw[xJ hs];unfold aM.did aM.jH;rw[Ug hi,Ll];by_cases hd:z.ot.idle=true
 ·rw[aI hd];rw[zi]at hd;simp only[jr,qi,Bool.not_eq_true']at hd;have e1:z.aF=[]:=nU (by have:z.aF.length+z.aO.length+z.aP.length=0:=hd.2;omega);have e2:z.aO=[]:=nU (by have:z.aF.length+z.aO.length+z.aP.length=0:=hd.2;omega);have f1:aF=[]:=ho.aF.symm.trans e1;have f2:aO=[]:=ho.aO.symm.trans e2;subst f1 f2;refine⟨{s with nd:=some z},?_,rfl,⟨k.addr,k.tears,k.hrs⟩,rfl⟩;rw[List.flatMap_nil,fw];rfl
 ·rw[ay hd];obtain⟨s',hw,hn,k'⟩:=Vg (s:={s with nd:=some z}) ⟨k.addr,k.tears,k.hrs⟩ z.ot;rw[hw,aI rfl];refine⟨s',?_,hn,k',?_⟩;all_goals
   rw[show z.ot.aF=aF from ho.aF]
  ·rcases hf with rfl|⟨f,rfl,hf⟩
   ·rw[List.foldl_nil,List.flatMap_nil,fw];rfl
   ·rw[gZ,List.foldl_nil];have hk':∀j u,(m.put i s').S[j]?=some u->IG lk j u:=λj u hu=>by
     rcases bW hu with⟨rfl,rfl⟩|⟨_,hu⟩
     ·exact k'
     ·exact h j u hu
    have hh:=H7 (m:=m.put i s') (by rw[(fJ _ _ _).1,List.length_set];exact hl) hk' (by omega:i<n) f.1;dsimp only;unfold aM.iX;rw[aI (by rw[hh];exact hf.symm)];rw[List.flatMap_cons,List.flatMap_nil,fw]at h48 ⊢;unfold mW at h48 ⊢;rw[gY]at h48;unfold aM.cO;rw[hh,launches i f.2 _ (m.put i s') h48];rfl
  ·have e:gI [(⟨(i:Int),0,z.ot⟩:Ev)]=aO.map λc=>((i:Int),c.1,c.2):=by
    unfold gI;rw[List.flatMap_cons,List.flatMap_nil,fw];show z.aO.map _=_;rw[ho.aO]
   rcases hf with rfl|⟨f,rfl,hf⟩
   ·exact e
   ·have hk':∀j u,(m.put i s').S[j]?=some u->IG lk j u:=λj u hu=>by
     rcases bW hu with⟨rfl,rfl⟩|⟨_,hu⟩
     ·exact k'
     ·exact h j u hu
    have hh:=H7 (m:=m.put i s') (by rw[(fJ _ _ _).1,List.length_set];exact hl) hk' (by omega:i<n) f.1;rw[gZ,List.foldl_nil];dsimp only;unfold aM.iX;rw[aI (by rw[hh];exact hf.symm),fw];exact e
def Lx(k:Nat)(t:ByteArray):Op:=⟨4,k,0,0,false,t⟩
def CW(t:ByteArray):Op:=⟨3,0,0,80,false,t⟩
def Rb(a b:Nat)(t:ByteArray):Op:=⟨2,a,b,0,false,t⟩
def Jb(a b:Nat)(t:ByteArray):Op:=⟨1,a,b,0,true,t⟩
theorem F3{f:Fl}{z:St}(e:ByteArray)(hf:m.aT[k]?=some f)(hs:m.S[f.2.1]?=some s)(hz:s.nd=some z):m.step (Lx k e)=({m with aT:=m.aT.eraseIdx k}:aM).act f.2.1 (z.rcv m.now (m.at' f.1).addr (aA f.2.2)):=by
 have hk:=(fO.1 hf).1;have hmay:m.may (Lx k e)=true:=rfl;unfold aM.step;rw[hmay,ay (by decide),ay (by show ¬(4:Int)=1;decide),ay (by show ¬(4:Int)=2;decide),ay (by show ¬(4:Int)=3;decide),aI (.inl rfl)];unfold aM.flight;have hkk:(Lx k e).a.toNat%m.aT.length=k:=by
  show((k:Int)).toNat%_=k;rw[iU,Nat.mod_eq_of_lt hk]
 rw[ay (by show ¬((k:Int)<0∨m.aT.length=0);omega)];dsimp only;rw[hkk];have hgd:m.aT.getD k (0,0,⟨#[]⟩)=f:=by rw[List.getD_eq_getElem?_getD,hf];rfl
 rw[hgd,aI (show(Lx k e).fe=4 from rfl),xg (s:=z) (by rw[dR (m:={m with aT:=m.aT.eraseIdx k}) hs];exact hz)];rfl
theorem wK(e:ByteArray):m.step (CW e)=(List.range m.S.length).foldl aM.kz ({m with now:=m.now+80},[]):=by
 have hmay:m.may (CW e)=true:=rfl;unfold aM.step;rw[hmay,ay (by decide),ay (by show ¬(3:Int)=1;decide),ay (by show ¬(3:Int)=2;decide),aI (show(CW e).fe=3 from rfl)];unfold aM.tick;rw[ay (by show ¬((80:Int)<1∨(80:Int)>60000);omega)];rfl
theorem EK(h:i<m.S.length):m.has (i:Int)=true:=by
 unfold aM.has;simp;omega
theorem Np{u:eB}{z:St}{t:ByteArray}(ha:m.S[a]?=some s)(hz:s.nd=some z)(hb:m.S[b]?=some u)(ht:t.size<=16)(h1:u.addr≠z.me)(h2:u.addr≠0):m.step (Rb a b t)=m.act a (z.snd m.now u.addr t):=by
 have hal:=(fO.1 ha).1;have hbl:=(fO.1 hb).1;have hmay:m.may (Rb a b t)=true:=by
  unfold aM.may;rw[ay (by show ¬(2:Int)=1;decide),aI (.inl rfl)];show(m.runs (a:Int)&&m.has (b:Int))=true;unfold aM.runs;rw[EK hal,EK hbl,iU,dR ha,hz];rfl
 unfold aM.step;rw[hmay,ay (by decide),ay (by show ¬(2:Int)=1;decide),aI (show(Rb a b t).fe=2 from rfl)];show m.send ((a:Int)).toNat ((b:Int)).toNat t=_;rw[iU,iU];unfold aM.send;rw[dR ha,dR hb,hz];dsimp only;rw[ay (by omega),ay (by rintro(h|h);exact h1 h;exact h2 h)]
theorem Nq(ha:a<m.S.length)(hb:b<m.S.length)(t:ByteArray):m.step (Jb a b t)=(m.link a b true,[]):=by
 have hmay:m.may (Jb a b t)=true:=by
  unfold aM.may;rw[aI (show(Jb a b t).fe=1 from rfl)];show(m.has (a:Int)&&m.has (b:Int))=true;rw[EK ha,EK hb];rfl
 unfold aM.step;rw[hmay,ay (by decide),aI (show(Jb a b t).fe=1 from rfl)];rfl
def Sp(R:Fl->Prop)(l:List Fl):Option Fl->Prop
 |none=>∀f∈l,R f
 |some x=>∃l1 l2,l=l1++x::l2∧(∀f∈l1,R f)∧∀f∈l2,R f
theorem Sp.erase{R:Fl->Prop}{l:List Fl}{o:Option Fl}{f:Fl}(h:Sp R l o)(hf:l[k]?=some f):(R f∧Sp R (l.eraseIdx k) o)∨(o=some f∧Sp R (l.eraseIdx k) none):=by
 cases o with
 |none=>exact .inl ⟨h f (iV hf),λg hg=>h g (List.mem_of_mem_eraseIdx hg)⟩
 |some x=>
  obtain⟨l1,l2,rfl,h1,h2⟩:=h;by_cases hk:k<l1.length
  ·rw[List.getElem?_append_left hk]at hf;refine .inl ⟨h1 f (iV hf),l1.eraseIdx k,l2,List.eraseIdx_append_of_lt_length hk _,λg hg=>h1 g (List.mem_of_mem_eraseIdx hg),h2⟩
  ·rw[List.getElem?_append_right (by omega)]at hf;rw[List.eraseIdx_append_of_length_le (by omega)];cases hj:k - l1.length with
   |zero=>
    rw[hj]at hf;refine .inr ⟨by simpa using hf,λg hg=> ?_⟩;rcases fu.1 hg with hg|hg
    ·exact h1 g hg
    ·exact h2 g hg
   |succ j=>
    rw[hj]at hf;have hf':l2[j]?=some f:=hf;exact .inl ⟨h2 f (iV hf'),l1,l2.eraseIdx j,rfl,h1,λg hg=>h2 g (List.mem_of_mem_eraseIdx hg)⟩
theorem Sp.app{R:Fl->Prop}{l l':List Fl}{o:Option Fl}(h:Sp R l o)(h':∀f∈l',R f):Sp R (l++l') o:=by
 cases o with
 |none=>exact λf hf=>(fu.1 hf).elim (h f) (h' f)
 |some x=>
  obtain⟨l1,l2,rfl,h1,h2⟩:=h;exact⟨l1,l2++l',by simp,h1,λf hf=>(fu.1 hf).elim (h2 f) (h' f)⟩
theorem Sp.add{R:Fl->Prop}{l:List Fl}(h:Sp R l none)(x:Fl):Sp R (l++ [x]) (some x):=⟨l,[],rfl,h,λ_ h=>(by cases h)⟩
theorem Sp.mono{R R':Fl->Prop}{l:List Fl}{o:Option Fl}(h:Sp R l o)(hr:∀f,R f->R' f):Sp R' l o:=by
 cases o with
 |none=>exact λf hf=>hr f (h f hf)
 |some x=>
  obtain⟨l1,l2,e,h1,h2⟩:=h;exact⟨l1,l2,e,λf hf=>hr f (h1 f hf),λf hf=>hr f (h2 f hf)⟩
def BM(P:Nat->Option (Nat×Nat))(i:Nat)(x:Nat×Nat):Nat->Option (Nat×Nat):=λj=>if j=i then some x else P j
theorem eX(P:Nat->Option (Nat×Nat))(i:Nat)(x:Nat×Nat):BM P i x i=some x:=aI rfl
theorem iB(P:Nat->Option (Nat×Nat)){i j:Nat}(x:Nat×Nat)(h:j≠i):BM P i x j=P j:=ay h
def un(P:Nat->Option (Nat×Nat))(n:Nat):Nat:=(List.range n).countP λi=>(P i).isNone
theorem rJ(P:Nat->Option (Nat×Nat))(n:Nat):un P (n+1)=un P n+if (P n).isNone then 1 else 0:=by
 unfold un;rw[List.range_succ,List.countP_append,List.countP_singleton]
theorem Qi(P:Nat->Option (Nat×Nat)){i:Nat}(x:Nat×Nat):∀n,n<=i->un (BM P i x) n=un P n
 |0,_=>rfl
 |n+1,h=>by rw[rJ,rJ,Qi P x n (by omega),iB P x (by omega)]
theorem Dz(P:Nat->Option (Nat×Nat)){i:Nat}(x:Nat×Nat)(hi:P i=none):∀n,i<n->un (BM P i x) n+1=un P n
 |0,h=>by omega
 |n+1,h=>by
  rw[rJ,rJ];by_cases e:i=n
  ·subst e;rw[Qi P x i (aB _),eX,hi];rfl
  ·rw[<-Dz P x hi n (by omega),iB P x (λh=>e h.symm)];omega
theorem Vm(n:Nat):un (λ_=>none) n=n:=by
 induction n with
 |zero=>rfl
 |succ n ih=>rw[rJ,ih];rfl
theorem Qh(P:Nat->Option (Nat×Nat)){i:Nat}(hi:P i=none):∀n,i<n->1<=un P n
 |0,h=>by omega
 |n+1,h=>by
  rw[rJ];by_cases e:i=n
  ·subst e;rw[hi];exact Nat.le_add_left _ _
  ·have:=Qh P hi n (by omega);omega
theorem range_one:∀n,i<n->(List.range n).filter (λj=>decide (j=i))=[i]
 |0,h=>by omega
 |n+1,h=>by
  rw[List.range_succ,List.filter_append];by_cases e:i=n
  ·subst e;have:(List.range i).filter (λj=>decide (j=i))=[]:=by
    rw[List.filter_eq_nil_iff];intro j hj;have:=List.mem_range.1 hj;simp;omega
   rw[this];simp
  ·rw[range_one n (by omega)];have:decide (n=i)=false:=eU (λh=>e h.symm);simp[this]
theorem rU(hj:j<n)(hl:lk i j=true):kW lk n i (bJ j)=[j]:=by
 unfold kW;rw[<-range_one n hj];refine List.filter_congr λk _=> ?_;by_cases e:k=j
 ·subst e;simp[hl]
 ·have h1:¬bJ j=bJ k:=by unfold bJ;omega
  have h2:¬bJ j=0:=by unfold bJ;omega
  simp[e,h1,h2]
theorem rW:j∈kW lk n i 0 ↔ j<n∧lk i j=true:=by
 unfold kW;simp
theorem rV(lk:Nat->Nat->Bool)(n i:Nat)(t:Int):(kW lk n i t).length<=n:=by
 unfold kW;exact dN (List.length_filter_le _ _) (Nat.le_of_eq List.length_range)
theorem qd(h:i<n)(hn:n<=6):a_ (bJ i)∧bJ i≠0:=by unfold a_ bJ;omega
theorem jZ(h:i≠j):bJ i≠bJ j:=by unfold bJ;omega
structure Cs(lk:Nat->Nat->Bool)(n:Nat):Prop where
 sym:∀i j,i<n->j<n->lk i j=lk j i
 irr:∀i,lk i i=false
 row:∀i,i+1<n->lk i (i+1)=true
structure Cu(a b n:Nat)(t:ByteArray):Prop where
 la:a<n
 lb:b<n
 ne:a≠b
 n6:n<=6
 ts:t.size<=16
theorem Cu.ends{a b n:Nat}{t:ByteArray}(h:Cu a b n t):Ends (bJ a) (bJ b) t:=⟨(qd h.la h.n6).1,(qd h.lb h.n6).1,(qd h.la h.n6).2,(qd h.lb h.n6).2,jZ h.ne,h.ts⟩
inductive Ph where
 |rq
 |rp (i j ttl h dj:Nat)
 |dt (i j ttl h:Nat)
 |cm
def cmd:Ph->Nat
 | .cm=>1
 |_=>0
def Jz:Ph->Nat
 | .rq=>5
 | .rp _ _ _ _ dj=>6+dj
 | .dt _ _ _ h=>h+1
 | .cm=>0
def Nb:Ph->Bool
 | .rq=>true
 | .rp _ _ _ _ _=>true
 |_=>false
def Zi(da db:Int)(t:ByteArray):Ph->Option Fl
 | .rp i j ttl h _=>some (i,j,iP (nu ttl h da db))
 | .dt i j ttl _=>some (i,j,iP (sI ttl da db t))
 |_=>none
abbrev Gh:=Nat->Option (Nat×Nat)
def C9(P:Gh)(i:Nat):Option (Int×Int):=(P i).map λx=>((x.1:Int),bJ x.2)
def uK(B:Gh)(i:Nat):Option (Int×Int×Int):=(B i).map λx=>(1,(x.1:Int),bJ x.2)
def KA(lk:Nat->Nat->Bool)(n:Nat)(w:Nat)(da db:Int)(P:Gh)(f:Fl):Prop:=∃d p,P f.1=some (d,p)∧d+2<=2 * w∧lk f.1 f.2.1=true∧f.2.1<n∧f.2.2=iP (nL (2 * (w:Int) - 1 - d) d w da db)
def Uu(lk:Nat->Nat->Bool)(n a b:Nat)(P B:Gh):Ph->Prop
 | .rq=>P b=none∧∀k,B k=none
 | .rp i j ttl h dj=>i<n∧j<n∧lk i j=true∧(∃p,P j=some (dj,p))∧(∃d p,P b=some (d,p)∧dj<d)∧dj+1<=ttl∧ttl<=8∧h+dj<=4∧((i=b∧h=0)∨∃q,B i=some (h,q))∧∀k d p,P k=some (d,p)->d<=dj->B k=none
 | .dt i j ttl h=>i<n∧j<n∧lk i j=true∧(P b).isSome=true∧h+1<=ttl∧ttl<=8∧((j=b∧h=0)∨(j≠b∧j≠a∧(∃q,B j=some (h,q))∧∃ha qa,B a=some (ha,qa)∧h<ha))
 | .cm=>(P b).isSome=true
structure Pv(a b:Nat)(t:ByteArray)(w:Nat)(now:Int)(P B:Gh)(wt:Bool)(i:Nat)(z:St):Prop where
 ia:i=a->NA (bJ a) (bJ b) w t wt (uK B i) z
 io:i≠a->ND (bJ a) (bJ b) w now (bJ i) (C9 P i) (uK B i) z
structure BI(lk:Nat->Nat->Bool)(n a b:Nat)(t:ByteArray)(w:Nat)(P B:Gh)(ph:Ph)(K:Nat)(m:aM):Prop where
 len:m.S.length=n
 now:0<=m.now∧m.now<2000
 hw:1<=w∧w<=3
 st:∀i s,m.S[i]?=some s->IG lk i s∧∃z,s.nd=some z∧Pv a b t w m.now P B (Nb ph) i z
 pa:P a=some (0,a)
 pt:∀i d p,P i=some (d,p)->i<n∧d+un P n<n∧d+1<=2 * w∧(i≠a->lk i p=true∧p<n∧∃p' d',P p=some (d',p')∧d=d'+1)
 bt:∀i h q,B i=some (h,q)->i≠b∧i<n∧1<=h∧h<=5∧lk i q=true∧q<n∧(P i).isSome=true∧((q=b∧h=1)∨∃q' h',B q=some (h',q')∧h=h'+1)
 JI:Uu lk n a b P B ph
 aT:Sp (KA lk n w (bJ a) (bJ b) P) m.aT (Zi (bJ a) (bJ b) t ph)
 cov:ph=.rq->∀i d p,P i=some (d,p)->d+2<=2 * w->∀j,j<n->lk i j=true->(P j).isSome=true∨∃f∈m.aT,f.1=i∧f.2.1=j
 QR:m.aT.length+6 * un P n+Jz ph<=K
variable {lk:Nat->Nat->Bool} {n a b:Nat} {t:ByteArray} {w:Nat} {P B:Gh} {ph:Ph} {K:Nat} {m:aM}
theorem BI.kk(h:BI lk n a b t w P B ph K m):∀j s,m.S[j]?=some s->IG lk j s:=λj s hs=>(h.st j s hs).1
theorem BI.bn(h:BI lk n a b t w P B ph K m){k:Nat}(hk:P k=none):B k=none:=by
 cases hb:B k with
 |none=>rfl
 |some x=>
  obtain⟨_,_,_,_,_,_,h7,_⟩:=h.bt k x.1 x.2 hb;rw[hk]at h7;cases h7
theorem BI.st'(h:BI lk n a b t w P B ph K m){j:Nat}{s':eB}{z':St}{P' B':Gh}{ny:Ph}(hs':IG lk j s')(hz':s'.nd=some z')(hn:Pv a b t w m.now P' B' (Nb ny) j z')(hP:∀i,i≠j->P' i=P i)(hB:∀i,i≠j->B' i=B i)(hw:j≠a->Nb ny=Nb ph):∀i s,(m.S.set j s')[i]?=some s->IG lk i s∧∃z,s.nd=some z∧Pv a b t w m.now P' B' (Nb ny) i z:=by
 intro i s hs;rcases bW hs with⟨rfl,rfl⟩|⟨hne,hs⟩
 ·exact⟨hs',z',hz',hn⟩
 ·obtain⟨k1,z,k2,k3⟩:=h.st i s hs;refine⟨k1,z,k2,λe=> ?_,λe=> ?_⟩
  ·have h1:uK B' i=uK B i:=by unfold uK;rw[hB i hne]
   rw[h1,hw (λe2=>hne (e.trans e2.symm))];exact k3.ia e
  ·have h1:uK B' i=uK B i:=by unfold uK;rw[hB i hne]
   have h2:C9 P' i=C9 P i:=by unfold C9;rw[hP i hne]
   rw[h1,h2];exact k3.io e
theorem kK(i:Nat)(f:Int×ByteArray): [f].flatMap (mW lk n i)=mW lk n i f:=by
 rw[List.flatMap_cons,List.flatMap_nil,fw]
def Nxt(a b:Nat)(t:ByteArray)(ph ny:Ph)(e:List Ev):Prop:=(gI e=[]∧cmd ny=cmd ph)∨(gI e=[((b:Int),bJ a,t)]∧cmd ph=0∧cmd ny=1)
theorem F9{P':Gh}{da db:Int}(h:∀i x,P i=some x->P' i=some x)(f:Fl)(hf:KA lk n w da db P f):KA lk n w da db P' f:=by
 obtain⟨d,p,h1,h2⟩:=hf;exact⟨d,p,h _ _ h1,h2⟩
theorem gV{i:Nat}{x y:Nat×Nat}{k:Nat}(hi:P i=none)(h:P k=some y):BM P i x k=some y:=by
 rw[iB P x (λe=>by rw[e,hi]at h;cases h)];exact h
theorem kU{l:List Fl}{k:Nat}{f:Fl}(hf:l[k]?=some f):(l.eraseIdx k).length+1=l.length:=by
 have hk:=(fO.1 hf).1;rw[List.length_eraseIdx_of_lt hk];omega
theorem BI.quiet(h:BI lk n a b t w P B ph (K+1) m)(hK:K<=48){k:Nat}{f:Fl}(hf:m.aT[k]?=some f)(hr:Sp (KA lk n w (bJ a) (bJ b) P) (m.aT.eraseIdx k) (Zi (bJ a) (bJ b) t ph)){s:eB}{z':St}(hs:m.S[f.2.1]?=some s)(hj:(P f.2.1).isSome=true)(hn:Pv a b t w m.now P B (Nb ph) f.2.1 z')(ho:wm z' [] []):
  BI lk n a b t w P B ph K (({m with aT:=m.aT.eraseIdx k}:aM).act f.2.1 z').1∧gI (({m with aT:=m.aT.eraseIdx k}:aM).act f.2.1 z').2=[]:=by
 have hl:=kU hf;have hp:=h.QR;obtain⟨s',e1,e2,e3,e4⟩:=zu (m:={m with aT:=m.aT.eraseIdx k}) (z:=z') h.len h.kk hs ho (.inl rfl) (by rw[List.flatMap_nil,List.length_nil];dsimp only;omega);rw[e1];refine⟨⟨by dsimp only;rw[List.length_set];exact h.len,h.now,h.hw,h.st' e3 e2 hn (λ_ _=>rfl) (λ_ _=>rfl) (λ_=>rfl),h.pa,h.pt,h.bt,h.JI,?_,λe i d p k1 k2 j k3 k4=> ?_,?_⟩,e4⟩
 ·dsimp only;rw[List.flatMap_nil,fw];exact hr
 ·dsimp only;rw[List.flatMap_nil,fw];rcases h.cov e i d p k1 k2 j k3 k4 with k5|⟨g,k5,k6,k7⟩
  ·exact .inl k5
  ·obtain⟨y,hy⟩:=List.getElem?_of_mem k5;by_cases hyk:y=k
   ·subst hyk;rw[hf]at hy;cases hy;rw[k7]at hj;exact .inl hj
   ·exact .inr ⟨g,List.mem_eraseIdx_iff_getElem?.2 ⟨y,hyk,hy⟩,k6,k7⟩
 ·dsimp only;rw[List.flatMap_nil,fw];omega
theorem BI.go(h:BI lk n a b t w P B ph (K+1) m)(hK:K<=41){k:Nat}{f:Fl}{s:eB}{z':St}{aF aO:List (Int×ByteArray)}(hs:m.S[f.2.1]?=some s)(ho:wm z' aF aO)(hfr:aF=[]∨∃g,aF=[g]∧(g.1=0∨kW lk n f.2.1 g.1≠ [])){P' B':Gh}{ny:Ph}
  (hn:Pv a b t w m.now P' B' (Nb ny) f.2.1 z') (hP:∀i,i≠f.2.1->P' i=P i) (hB:∀i,i≠f.2.1->B' i=B i) (hw:f.2.1≠a->Nb ny=Nb ph) (pa:P' a=some (0,a))
  (pt:∀i d p,P' i=some (d,p)->i<n∧d+un P' n<n∧d+1<=2 * w∧(i≠a->lk i p=true∧p<n∧∃p' d',P' p=some (d',p')∧d=d'+1))
  (bt:∀i h q,B' i=some (h,q)->i≠b∧i<n∧1<=h∧h<=5∧lk i q=true∧q<n∧(P' i).isSome=true∧((q=b∧h=1)∨∃q' h',B' q=some (h',q')∧h=h'+1))
  (JI:Uu lk n a b P' B' ny) (aT:Sp (KA lk n w (bJ a) (bJ b) P') (m.aT.eraseIdx k++aF.flatMap (mW lk n f.2.1)) (Zi (bJ a) (bJ b) t ny))
  (cov:ny=.rq->∀i d p,P' i=some (d,p)->d+2<=2 * w->∀j,j<n->lk i j=true->(P' j).isSome=true∨∃g∈m.aT.eraseIdx k++aF.flatMap (mW lk n f.2.1),g.1=i∧g.2.1=j)
  (QR:(m.aT.eraseIdx k++aF.flatMap (mW lk n f.2.1)).length+6 * un P' n+Jz ny<=K):
  BI lk n a b t w P' B' ny K (({m with aT:=m.aT.eraseIdx k}:aM).act f.2.1 z').1∧gI (({m with aT:=m.aT.eraseIdx k}:aM).act f.2.1 z').2=aO.map λc=>((f.2.1:Int),c.1,c.2):=by
 obtain⟨s',e1,e2,e3,e4⟩:=zu (m:={m with aT:=m.aT.eraseIdx k}) (z:=z') h.len h.kk hs ho hfr (by rw[bU]at QR;dsimp only;omega);rw[e1];exact⟨⟨by dsimp only;rw[List.length_set];exact h.len,h.now,h.hw,h.st' e3 e2 hn hP hB hw,pa,pt,bt,JI,aT,cov,QR⟩,e4⟩
theorem BI.aeY(h:BI lk n a b t w P B ph K m){i:Nat}(hi:i<n):(m.at' i).addr=bJ i:=by
 have hs:=bS (by rw[h.len];exact hi:i<m.S.length);rw[dR hs];exact(h.kk i _ hs).addr
theorem Cs.ne(L:Cs lk n){i j:Nat}(h:lk i j=true):i≠j:=λe=>by
 rw[e,L.irr j]at h;cases h
theorem Cs.back(L:Cs lk n){i j:Nat}(hi:i<n)(hj:j<n)(h:lk i j=true):lk j i=true:=(L.sym j i hj hi).trans h
theorem BI.again(E:Cu a b n t)(L:Cs lk n)(h:BI lk n a b t w P B ph (K+1) m)(hK:K+1<=41){k:Nat}{f:Fl}(hf:m.aT[k]?=some f)(hr:KA lk n w (bJ a) (bJ b) P f)(hsp:Sp (KA lk n w (bJ a) (bJ b) P) (m.aT.eraseIdx k) (Zi (bJ a) (bJ b) t ph)){s:eB}{z:St}(hs:m.S[f.2.1]?=some s)(hk:Pv a b t w m.now P B (Nb ph) f.2.1 z)(hj:(P f.2.1).isSome=true):
  BI lk n a b t w P B ph K (({m with aT:=m.aT.eraseIdx k}:aM).act f.2.1 (z.rcv m.now (bJ f.1) (aA f.2.2))).1∧gI (({m with aT:=m.aT.eraseIdx k}:aM).act f.2.1 (z.rcv m.now (bJ f.1) (aA f.2.2))).2=[]:=by
 obtain⟨d,p,h1,h2,h3,h4,h5⟩:=hr;have hp:=h.pt _ _ _ h1;have hne:=L.ne h3;have hw:=h.hw;have di:=h.now;have h0:=(qd hp.1 E.n6).2;rw[h5];by_cases e:f.2.1=a
 ·have h6:=Rz (now:=m.now) (fr:=bJ f.1) (ttl:=2 * (w:Int) - 1 - d) (d:=d) E.ends (hk.ia e) (by omega) (by omega) (by omega) (by omega) h0 (jZ (by omega));exact h.quiet (by omega) hf hsp hs hj ⟨λ_=>h6.1,λhn=>absurd e hn⟩ h6.2
 ·have h7:=hk.io e;obtain⟨x,hx⟩:=Option.isSome_iff_exists.1 hj;have hl:C9 P f.2.1=some ((x.1:Int),bJ x.2):=by unfold C9;rw[hx];rfl
  rw[hl]at h7;have h6:=Rv (now:=m.now) (fr:=bJ f.1) (ttl:=2 * (w:Int) - 1 - d) (d:=d) E.ends h7 (by omega) (by omega) (by omega) (by omega) h0 (jZ (by omega));exact h.quiet (by omega) hf hsp hs hj ⟨λhn=>absurd hn e,λ_=>by rw[hl];exact h6.1⟩ h6.2
theorem Uu.mono{P':Gh}(h:Uu lk n a b P B ph)(hP:∀i x,P i=some x->P' i=some x)(hn:∀k x,P' k=some x->P k=some x∨B k=none)(hb:P b=none->P' b=none):Uu lk n a b P' B ph:=by
 have hs:∀i,(P i).isSome=true->(P' i).isSome=true:=λi hi=>by
  obtain⟨x,hx⟩:=Option.isSome_iff_exists.1 hi;rw[hP i x hx];rfl
 cases ph with
 |rq=>exact⟨hb h.1,h.2⟩
 |rp i j ttl hh dj=>
  obtain⟨h1,h2,h3,⟨p,h4⟩,⟨d,q,h5,h6⟩,h7,h8,h9,h10,h11⟩:=h;refine⟨h1,h2,h3,⟨p,hP _ _ h4⟩,⟨d,q,hP _ _ h5,h6⟩,h7,h8,h9,h10,λk d p hk hd=> ?_⟩;rcases hn k _ hk with k1|k1
  ·exact h11 k d p k1 hd
  ·exact k1
 |dt i j ttl hh=>
  obtain⟨h1,h2,h3,h4,h5⟩:=h;exact⟨h1,h2,h3,hs b h4,h5⟩
 |cm=>exact hs b h
theorem BI.fresh(E:Cu a b n t)(L:Cs lk n)(h:BI lk n a b t w P B ph (K+1) m)(hK:K+1<=41){k:Nat}{f:Fl}(hf:m.aT[k]?=some f)(hr:KA lk n w (bJ a) (bJ b) P f)(hsp:Sp (KA lk n w (bJ a) (bJ b) P) (m.aT.eraseIdx k) (Zi (bJ a) (bJ b) t ph)){s:eB}{z:St}(hs:m.S[f.2.1]?=some s)(hk:Pv a b t w m.now P B (Nb ph) f.2.1 z)(hj:P f.2.1=none)(hb:f.2.1≠b):
  ∃P',BI lk n a b t w P' B ph K (({m with aT:=m.aT.eraseIdx k}:aM).act f.2.1 (z.rcv m.now (bJ f.1) (aA f.2.2))).1∧gI (({m with aT:=m.aT.eraseIdx k}:aM).act f.2.1 (z.rcv m.now (bJ f.1) (aA f.2.2))).2=[]:=by
 obtain⟨d,p,h1,h2,h3,h4,h5⟩:=hr;have hp:=h.pt _ _ _ h1;have hne:=L.ne h3;have hw:=h.hw;have di:=h.now;have h0:=(qd hp.1 E.n6).2;have hl:=kU hf;have SA:=h.QR;have hja:f.2.1≠a:=λe=>by rw[e,h.pa]at hj;cases hj
 have h7:=hk.io hja;rw[show C9 P f.2.1=none by unfold C9;rw[hj];rfl,show uK B f.2.1=none by unfold uK;rw[h.bn hj];rfl]at h7;rw[h5];obtain⟨k1,k2⟩:=abV (now:=m.now) (fr:=bJ f.1) (ttl:=2 * (w:Int) - 1 - d) (d:=d) E.ends h7 (by omega) (jZ hja) (jZ hb) (by omega) (by omega) (by omega) h0 (jZ (by omega));have hun:=Dz P (d+1,f.1) hj n h4;have hbk:=L.back hp.1 h4 h3;refine⟨BM P f.2.1 (d+1,f.1),h.go (P':=BM P f.2.1 (d+1,f.1)) (by omega) hs k2 ?_ ⟨λe=>absurd e hja,λ_=> ?_⟩ (λi hi=>iB P _ hi) (λ_ _=>rfl) (λ_=>rfl) ?_ (λi d' p' hi=> ?_) (λi h' q hi=> ?_) ?_ ?_ (λe i d' p' k3 k4 j k5 k6=> ?_) ?_⟩
 ·split
  ·exact .inl rfl
  ·exact .inr ⟨_,rfl,.inl rfl⟩
 ·have e1:C9 (BM P f.2.1 (d+1,f.1)) f.2.1=some ((d:Int)+1,bJ f.1):=by
   unfold C9;rw[eX];rfl
  have e2:uK B f.2.1=none:=by unfold uK;rw[h.bn hj];rfl
  rw[e1,e2];exact k1
 ·rw[iB P _ (λe=>hja e.symm)];exact h.pa
 ·by_cases e:i=f.2.1
  ·subst e;rw[eX]at hi;cases hi;exact⟨h4,by omega,by omega,λ_=>⟨hbk,hp.1,p,d,gV hj h1,rfl⟩⟩
  ·rw[iB P _ e]at hi;obtain⟨q1,q2,q3,q4⟩:=h.pt i d' p' hi;refine⟨q1,by omega,q3,λhia=> ?_⟩;obtain⟨q5,q6,p2,d2,q7,q8⟩:=q4 hia;exact⟨q5,q6,p2,d2,gV hj q7,q8⟩
 ·obtain⟨q1,q2,q3,q4,q5,q6,q7,q8⟩:=h.bt i h' q hi;obtain⟨x,hx⟩:=Option.isSome_iff_exists.1 q7;exact⟨q1,q2,q3,q4,q5,q6,by rw[gV hj hx];rfl,q8⟩
 ·refine h.JI.mono (λi x hi=>gV hj hi) (λi x hi=> ?_) (λhi=> ?_)
  ·by_cases e:i=f.2.1
   ·exact .inr (e▸h.bn hj)
   ·rw[iB P _ e]at hi;exact .inl hi
  ·rw[iB P _ (λe=>hb e.symm)];exact hi
 ·refine(hsp.mono (F9 λi x hi=>gV hj hi)).app λg hg=> ?_;split at hg
  ·cases hg
  ·rename_i afg;rw[kK]at hg;obtain⟨j,hj2,rfl⟩:=dW.1 hg;obtain⟨g1,g2⟩:=rW.1 hj2;refine⟨d+1,f.1,eX P _ _,by omega,g2,g1,?_⟩;dsimp only;rw[show(2 * (w:Int) - 1 - d - 1)=2 * (w:Int) - 1 - ((d+1:Nat):Int)by omega];rfl
 ·by_cases ei:i=f.2.1
  ·subst ei;rw[eX]at k3;cases k3;refine .inr ⟨(f.2.1,j,iP (nL (2 * (w:Int) - 1 - d - 1) (d+1) w (bJ a) (bJ b))),List.mem_append_right _ ?_,rfl,rfl⟩;rw[ay (by omega),kK];exact dW.2 ⟨j,rW.2 ⟨k5,k6⟩,rfl⟩
  ·rw[iB P _ ei]at k3;rcases h.cov e i d' p' k3 k4 j k5 k6 with k7|⟨g,k7,k8,k9⟩
   ·obtain⟨x,hx⟩:=Option.isSome_iff_exists.1 k7;exact .inl (by rw[gV hj hx];rfl)
   ·obtain⟨y,hy⟩:=List.getElem?_of_mem k7;by_cases hyk:y=k
    ·subst hyk;rw[hf]at hy;cases hy;rw[<-k9,eX];exact .inl rfl
    ·exact .inr ⟨g,List.mem_append_left _ (List.mem_eraseIdx_iff_getElem?.2 ⟨y,hyk,hy⟩),k8,k9⟩
 ·have hfl:((if 2 * (w:Int) - 1 - (d:Int)=1 then []else [(0,iP (nL (2 * (w:Int) - 1 - d - 1) (d+1) w (bJ a) (bJ b)))]:List (Int×ByteArray)).flatMap (mW lk n f.2.1)).length<=6:=by
   split
   ·exact dm _
   ·rw[kK];unfold mW;rw[gY];exact dN (rV lk n _ _) E.n6
  rw[bU];omega
theorem BI.asked(E:Cu a b n t)(L:Cs lk n)(h:BI lk n a b t w P B ph (K+1) m)(hK:K+1<=41){k:Nat}{f:Fl}(hf:m.aT[k]?=some f)(hr:KA lk n w (bJ a) (bJ b) P f)(hsp:Sp (KA lk n w (bJ a) (bJ b) P) (m.aT.eraseIdx k) (Zi (bJ a) (bJ b) t ph)){s:eB}{z:St}(hs:m.S[f.2.1]?=some s)(hk:Pv a b t w m.now P B (Nb ph) f.2.1 z)(hj:P f.2.1=none)(hb:f.2.1=b):
  ∃P' ny,BI lk n a b t w P' B ny K (({m with aT:=m.aT.eraseIdx k}:aM).act f.2.1 (z.rcv m.now (bJ f.1) (aA f.2.2))).1∧gI (({m with aT:=m.aT.eraseIdx k}:aM).act f.2.1 (z.rcv m.now (bJ f.1) (aA f.2.2))).2=[]∧cmd ny=cmd ph:=by
 obtain⟨d,p,h1,h2,h3,h4,h5⟩:=hr;have hp:=h.pt _ _ _ h1;have hne:=L.ne h3;have hw:=h.hw;have di:=h.now;have h0:=(qd hp.1 E.n6).2;have hl:=kU hf;have SA:=h.QR;have hja:f.2.1≠a:=λe=>E.ne (e.symm.trans hb);have hph:ph=.rq:=by
  have h8:=h.JI;rw[hb]at hj;cases ph with
  |rq=>rfl
  |rp i j ttl hh dj=>
   obtain⟨_,_,_,_,⟨_,_,h9,_⟩,_⟩:=h8;rw[hj]at h9;cases h9
  |dt i j ttl hh=>
   obtain⟨_,_,_,h9,_⟩:=h8;rw[hj]at h9;cases h9
  |cm=>
   have h9:(P b).isSome=true:=h8;rw[hj]at h9;cases h9
 subst hph;obtain⟨_,hB⟩:=h.JI;have h7:=hk.io hja;rw[show C9 P f.2.1=none by unfold C9;rw[hj];rfl,show uK B f.2.1=none by unfold uK;rw[hB];rfl,hb]at h7;rw[h5];obtain⟨k1,k2⟩:=Rs (now:=m.now) (fr:=bJ f.1) (ttl:=2 * (w:Int) - 1 - d) (d:=d) E.ends h7 (by omega) (by omega) (by omega) (by omega) h0 (jZ (by omega));have hun:=Dz P (d+1,f.1) hj n h4;have hbk:=L.back hp.1 h4 h3;have hfl: [(bJ f.1,iP (nu 8 0 (bJ a) (bJ b)))].flatMap (mW lk n f.2.1)=[(f.2.1,f.1,iP (nu 8 0 (bJ a) (bJ b)))]:=by
  rw[kK];unfold mW;rw[rU hp.1 hbk];rfl
 have hres:=h.go (k:=k) (P':=BM P f.2.1 (d+1,f.1)) (B':=B) (ny:=.rp f.2.1 f.1 8 0 d) (by omega) hs k2 (.inr ⟨_,rfl,.inr (by rw[rU hp.1 hbk];exact List.cons_ne_nil _ _)⟩) ⟨λe=>absurd e hja,λ_=> ?_⟩ (λi hi=>iB P _ hi) (λ_ _=>rfl) (λ_=>rfl) ?_ (λi d' p' hi=> ?_) (λi h' q hi=> ?_) ?_ ?_ (λe=>by cases e) ?_
 ·exact⟨_,_,hres.1,hres.2,rfl⟩
 ·have e1:C9 (BM P f.2.1 (d+1,f.1)) f.2.1=some ((d:Int)+1,bJ f.1):=by
   unfold C9;rw[eX];rfl
  have e2:uK B f.2.1=none:=by unfold uK;rw[hB];rfl
  rw[e1,e2,hb];exact k1
 ·rw[iB P _ (λe=>hja e.symm)];exact h.pa
 ·by_cases e:i=f.2.1
  ·subst e;rw[eX]at hi;cases hi;exact⟨h4,by omega,by omega,λ_=>⟨hbk,hp.1,p,d,gV hj h1,rfl⟩⟩
  ·rw[iB P _ e]at hi;obtain⟨q1,q2,q3,q4⟩:=h.pt i d' p' hi;refine⟨q1,by omega,q3,λhia=> ?_⟩;obtain⟨q5,q6,p2,d2,q7,q8⟩:=q4 hia;exact⟨q5,q6,p2,d2,gV hj q7,q8⟩
 ·rw[hB]at hi;cases hi
 ·exact⟨h4,hp.1,hbk,⟨p,gV hj h1⟩,⟨d+1,f.1,hb▸eX P _ _,by omega⟩,by omega,by omega,by omega,.inl ⟨hb,rfl⟩,λi _ _ _ _=>hB i⟩
 ·rw[hfl];exact(hsp.mono (F9 λi x hi=>gV hj hi)).add _
 ·rw[hfl,bU,List.length_singleton];show _+6 * _+(6+d)<=K;have:Jz .rq=5:=rfl;omega
variable {lk:Nat->Nat->Bool} {n a b:Nat} {t:ByteArray} {w:Nat} {P B:Gh} {ph:Ph} {K:Nat} {m:aM}
theorem EU{i j:Nat}{x:ByteArray}(hj:j<n)(hl:lk i j=true): [(bJ j,x)].flatMap (mW lk n i)=[(i,j,x)]∧(∃g:Int×ByteArray,[(bJ j,x)]=[g]∧(g.1=0∨kW lk n i g.1≠ [])):=by
 refine⟨?_,_,rfl,.inr (by rw[rU hj hl];exact List.cons_ne_nil _ _)⟩;rw[kK];unfold mW;rw[rU hj hl];rfl
theorem Ub(h:BI lk n a b t w P B ph K m){j i hh:Nat}(hj:B j=none)(h1:j≠b)(h2:j<n)(h3:hh<=4)(h4:lk j i=true)(h5:i<n)(h6:(P j).isSome=true)(h7:(i=b∧hh=0)∨∃q,B i=some (hh,q)):
  ∀k h q,BM B j (hh+1,i) k=some (h,q)->k≠b∧k<n∧1<=h∧h<=5∧lk k q=true∧q<n∧(P k).isSome=true∧((q=b∧h=1)∨∃q' h',BM B j (hh+1,i) q=some (h',q')∧h=h'+1):=by
 intro k h' q hk;by_cases e:k=j
 ·subst e;rw[eX]at hk;cases hk;refine⟨h1,h2,by omega,by omega,h4,h5,h6,?_⟩;rcases h7 with⟨k1,k2⟩|⟨q',k1⟩
  ·exact .inl ⟨k1,by omega⟩
  ·exact .inr ⟨q',hh,gV hj k1,rfl⟩
 ·rw[iB B _ e]at hk;obtain⟨q1,q2,q3,q4,q5,q6,q7,q8⟩:=h.bt k h' q hk;refine⟨q1,q2,q3,q4,q5,q6,q7,?_⟩;rcases q8 with q8|⟨q',h2,q8,q9⟩
  ·exact .inl q8
  ·exact .inr ⟨q',h2,gV hj q8,q9⟩
theorem BI.answered(E:Cu a b n t)(L:Cs lk n){i j ttl hh dj:Nat}(h:BI lk n a b t w P B (.rp i j ttl hh dj) (K+1) m)(hK:K+1<=41){k:Nat}(hf:m.aT[k]?=some (i,j,iP (nu ttl hh (bJ a) (bJ b))))(hsp:Sp (KA lk n w (bJ a) (bJ b) P) (m.aT.eraseIdx k) none){s:eB}{z:St}(hs:m.S[j]?=some s)(hk:Pv a b t w m.now P B true j z)(hj:j=a):
  ∃B' ny,BI lk n a b t w P B' ny K (({m with aT:=m.aT.eraseIdx k}:aM).act j (z.rcv m.now (bJ i) (aA (iP (nu ttl hh (bJ a) (bJ b)))))).1∧gI (({m with aT:=m.aT.eraseIdx k}:aM).act j (z.rcv m.now (bJ i) (aA (iP (nu ttl hh (bJ a) (bJ b)))))).2=[]∧cmd ny=0:=by
 obtain⟨p1,p2,p3,⟨p,p4⟩,⟨d,q,p5,p6⟩,p7,p8,p9,iK,je⟩:=h.JI;have hl:=kU hf;have SA:=h.QR;have di:=h.now;subst hj;have hd0:dj=0:=by
  have:=h.pa;rw[p4]at this;cases this;rfl
 subst hd0;have hBa:B j=none:=je _ _ _ h.pa (aB _);have h7:=hk.ia rfl;rw[show uK B j=none by unfold uK;rw[hBa];rfl]at h7;have hne:=L.ne p3;have hbk:=L.back p1 p2 p3;obtain⟨k1,k2⟩:=Rw (now:=m.now) (fr:=bJ i) (ttl:=ttl) (h:=hh) E.ends h7 di (by omega) (by omega) (qd p1 E.n6).2 (jZ hne);obtain⟨hfl,hfr⟩:=EU (x:=iP (sI 8 (bJ j) (bJ b) t)) p1 hbk;have hres:=h.go (k:=k) (f:=(i,j,iP (nu ttl hh (bJ j) (bJ b)))) (P':=P) (B':=BM B j (hh+1,i)) (ny:=.dt j i 8 hh) (by omega) hs k2 (.inr hfr) ⟨λ_=> ?_,λe=>absurd rfl e⟩ (λ_ _=>rfl) (λi hi=>iB B _ hi) (λe=>absurd rfl e) h.pa h.pt (Ub h hBa E.ne p2 (by omega) hbk p1 (by rw[h.pa];rfl) iK) ?_ ?_ (λe=>by cases e) ?_
 ·exact⟨_,_,hres.1,hres.2,rfl⟩
 ·have e1:uK (BM B j (hh+1,i)) j=some (1,(hh:Int)+1,bJ i):=by
   unfold uK;rw[eX];rfl
  dsimp only;rw[e1];exact k1
 ·refine⟨p2,p1,hbk,by rw[p5];rfl,by omega,by omega,?_⟩;rcases iK with iK|⟨q',iK⟩
  ·exact .inl iK
  ·exact .inr ⟨(h.bt _ _ _ iK).1,hne,⟨q',gV hBa iK⟩,hh+1,i,eX B _ _,by omega⟩
 ·dsimp only;rw[hfl];exact hsp.add _
 ·dsimp only;rw[hfl,bU,List.length_singleton];show _+6 * _+(hh+1)<=K;have:Jz (.rp i j ttl hh 0)=6:=rfl;omega
theorem BI.back(E:Cu a b n t)(L:Cs lk n){i j ttl hh dj:Nat}(h:BI lk n a b t w P B (.rp i j ttl hh dj) (K+1) m)(hK:K+1<=41){k:Nat}(hf:m.aT[k]?=some (i,j,iP (nu ttl hh (bJ a) (bJ b))))(hsp:Sp (KA lk n w (bJ a) (bJ b) P) (m.aT.eraseIdx k) none){s:eB}{z:St}(hs:m.S[j]?=some s)(hk:Pv a b t w m.now P B true j z)(hj:j≠a):
  ∃B' ny,BI lk n a b t w P B' ny K (({m with aT:=m.aT.eraseIdx k}:aM).act j (z.rcv m.now (bJ i) (aA (iP (nu ttl hh (bJ a) (bJ b)))))).1∧gI (({m with aT:=m.aT.eraseIdx k}:aM).act j (z.rcv m.now (bJ i) (aA (iP (nu ttl hh (bJ a) (bJ b)))))).2=[]∧cmd ny=0:=by
 obtain⟨p1,p2,p3,⟨p,p4⟩,⟨d,q,p5,p6⟩,p7,p8,p9,iK,je⟩:=h.JI;have hl:=kU hf;have SA:=h.QR;have di:=h.now;have hjb:j≠b:=λe=>by
  rw[e,p5]at p4;cases p4;omega
 obtain⟨_,_,_,r4⟩:=h.pt _ _ _ p4;obtain⟨r5,r6,p',d',r7,r8⟩:=r4 hj;have hBj:B j=none:=je _ _ _ p4 (aB _);have h7:=hk.io hj;rw[show uK B j=none by unfold uK;rw[hBj];rfl,show C9 P j=some ((dj:Int),bJ p)by unfold C9;rw[p4];rfl]at h7;have hne:=L.ne p3;have hbk:=L.back p1 p2 p3;obtain⟨k1,k2⟩:=WE (now:=m.now) (fr:=bJ i) (ttl:=ttl) (h:=hh) E.ends h7 di (jZ hj) (jZ hjb) (by omega) (by omega) (qd p1 E.n6).2 (jZ hne);rw[show(ttl:Int) - 1=((ttl - 1:Nat):Int)by omega,show(hh:Int)+1=((hh+1:Nat):Int)from rfl]at k2;obtain⟨hfl,hfr⟩:=EU (x:=iP (nu ((ttl - 1:Nat):Int) ((hh+1:Nat):Int) (bJ a) (bJ b))) r6 r5;have hres:=h.go (k:=k) (f:=(i,j,iP (nu ttl hh (bJ a) (bJ b)))) (P':=P) (B':=BM B j (hh+1,i)) (ny:=.rp j p (ttl - 1) (hh+1) d') (by omega) hs k2 (.inr hfr) ⟨λe=>absurd e hj,λ_=> ?_⟩ (λ_ _=>rfl) (λi hi=>iB B _ hi) (λ_=>rfl) h.pa h.pt (Ub h hBj hjb p2 (by omega) hbk p1 (by rw[p4];rfl) iK) ?_ ?_ (λe=>by cases e) ?_
 ·exact⟨_,_,hres.1,hres.2,rfl⟩
 ·have e1:uK (BM B j (hh+1,i)) j=some (1,(hh:Int)+1,bJ i):=by
   unfold uK;rw[eX];rfl
  have e2:C9 P j=some ((dj:Int),bJ p):=by unfold C9;rw[p4];rfl
  dsimp only;rw[e1,e2];exact k1
 ·refine⟨p2,r6,r5,⟨p',r7⟩,⟨d,q,p5,by omega⟩,by omega,by omega,by omega,.inr ⟨i,eX B _ _⟩,λx dx px hx hdx=> ?_⟩;rw[iB B _ (λe=>by rw[e,p4]at hx;cases hx;omega)];exact je x dx px hx (by omega)
 ·dsimp only;rw[hfl];exact hsp.add _
 ·dsimp only;rw[hfl,bU,List.length_singleton];show _+6 * _+(6+d')<=K;have:Jz (.rp i j ttl hh dj)=6+dj:=rfl;omega
theorem BI.data(E:Cu a b n t)(L:Cs lk n){i j ttl hh:Nat}(h:BI lk n a b t w P B (.dt i j ttl hh) (K+1) m)(hK:K+1<=41){k:Nat}(hf:m.aT[k]?=some (i,j,iP (sI ttl (bJ a) (bJ b) t)))(hsp:Sp (KA lk n w (bJ a) (bJ b) P) (m.aT.eraseIdx k) none){s:eB}{z:St}(hs:m.S[j]?=some s)(hk:Pv a b t w m.now P B false j z)(hj:j≠b):
  ∃ny,BI lk n a b t w P B ny K (({m with aT:=m.aT.eraseIdx k}:aM).act j (z.rcv m.now (bJ i) (aA (iP (sI ttl (bJ a) (bJ b) t))))).1∧gI (({m with aT:=m.aT.eraseIdx k}:aM).act j (z.rcv m.now (bJ i) (aA (iP (sI ttl (bJ a) (bJ b) t))))).2=[]∧cmd ny=0:=by
 obtain⟨p1,p2,p3,p4,p5,p6,p7⟩:=h.JI;have hl:=kU hf;have SA:=h.QR;have di:=h.now;rcases p7 with⟨p7,_⟩|⟨_,p8,⟨q,p9⟩,ha,qa,iK,je⟩
 ·exact absurd p7 hj
 obtain⟨_,_,b3,b4,b5,b6,b7,b8⟩:=h.bt _ _ _ p9;have h7:=hk.io p8;rw[show uK B j=some (1,(hh:Int),bJ q)by unfold uK;rw[p9];rfl]at h7;have hne:=L.ne p3;obtain⟨k1,k2⟩:=Wy (now:=m.now) (fr:=bJ i) (ttl:=ttl) E.ends h7 di (jZ hj) (by omega) (qd p1 E.n6).2 (jZ hne);rw[show(ttl:Int) - 1=((ttl - 1:Nat):Int)by omega]at k2;obtain⟨hfl,hfr⟩:=EU (x:=iP (sI ((ttl - 1:Nat):Int) (bJ a) (bJ b) t)) b6 b5;have hres:=h.go (k:=k) (f:=(i,j,iP (sI ttl (bJ a) (bJ b) t))) (P':=P) (B':=B) (ny:=.dt j q (ttl - 1) (hh - 1)) (by omega) hs k2 (.inr hfr) ⟨λe=>absurd e p8,λ_=> ?_⟩ (λ_ _=>rfl) (λ_ _=>rfl) (λ_=>rfl) h.pa h.pt h.bt ?_ ?_ (λe=>by cases e) ?_
 ·exact⟨_,hres.1,hres.2,rfl⟩
 ·have e1:uK B j=some (1,(hh:Int),bJ q):=by unfold uK;rw[p9];rfl
  dsimp only;rw[e1];exact k1
 ·refine⟨p2,b6,b5,p4,by omega,by omega,?_⟩;rcases b8 with⟨b8,b9⟩|⟨q',h',b8,b9⟩
  ·exact .inl ⟨b8,by omega⟩
  ·refine .inr ⟨(h.bt _ _ _ b8).1,λe=> ?_,⟨q',?_⟩,ha,qa,iK,by omega⟩
   ·rw[e,iK]at b8;cases b8;omega
   ·rw[b8,b9];rfl
 ·dsimp only;rw[hfl];exact hsp.add _
 ·dsimp only;rw[hfl,bU,List.length_singleton];show _+6 * _+(hh - 1+1)<=K;have:Jz (.dt i j ttl hh)=hh+1:=rfl;omega
theorem BI.came(E:Cu a b n t)(L:Cs lk n){i j ttl hh:Nat}(h:BI lk n a b t w P B (.dt i j ttl hh) (K+1) m)(hK:K+1<=41){k:Nat}(hf:m.aT[k]?=some (i,j,iP (sI ttl (bJ a) (bJ b) t)))(hsp:Sp (KA lk n w (bJ a) (bJ b) P) (m.aT.eraseIdx k) none){s:eB}{z:St}(hs:m.S[j]?=some s)(hk:Pv a b t w m.now P B false j z)(hj:j=b):
  BI lk n a b t w P B .cm K (({m with aT:=m.aT.eraseIdx k}:aM).act j (z.rcv m.now (bJ i) (aA (iP (sI ttl (bJ a) (bJ b) t))))).1∧gI (({m with aT:=m.aT.eraseIdx k}:aM).act j (z.rcv m.now (bJ i) (aA (iP (sI ttl (bJ a) (bJ b) t))))).2=[((b:Int),bJ a,t)]:=by
 obtain⟨p1,p2,p3,p4,p5,p6,p7⟩:=h.JI;have hl:=kU hf;have SA:=h.QR;have di:=h.now;have hja:j≠a:=λe=>E.ne (e.symm.trans hj);subst hj;have h7:=hk.io hja;obtain⟨k1,k2⟩:=Wz (now:=m.now) (fr:=bJ i) (ttl:=ttl) E.ends h7 (by omega) (by omega) (qd p1 E.n6).2 (jZ (L.ne p3));refine h.go (k:=k) (f:=(i,j,iP (sI ttl (bJ a) (bJ j) t))) (P':=P) (B':=B) (ny:=.cm) (by omega) hs k2 (.inl rfl) ⟨λe=>absurd e hja,λ_=>k1⟩ (λ_ _=>rfl) (λ_ _=>rfl) (λ_=>rfl) h.pa h.pt h.bt p4 ?_ (λe=>by cases e) ?_
 ·rw[List.flatMap_nil,fw];exact hsp
 ·rw[List.flatMap_nil,fw];show _+6 * _+0<=K;have:Jz (.dt i j ttl hh)=hh+1:=rfl;omega
theorem BI.del(E:Cu a b n t)(L:Cs lk n)(h:BI lk n a b t w P B ph (K+1) m)(hK:K+1<=41){k:Nat}{f:Fl}(hf:m.aT[k]?=some f)(e:ByteArray):∃P' B' ny,BI lk n a b t w P' B' ny K (m.step (Lx k e)).1∧Nxt a b t ph ny (m.step (Lx k e)).2:=by
 have key:∀i j,f.1=i->f.2.1=j->i<n->j<n->∃s z,m.S[j]?=some s∧Pv a b t w m.now P B (Nb ph) j z∧m.step (Lx k e)=({m with aT:=m.aT.eraseIdx k}:aM).act j (z.rcv m.now (bJ i) (aA f.2.2)):=by
  intro i j hi hj hin hjn;have hs:=bS (by rw[h.len];exact hjn:j<m.S.length);obtain⟨_,z,k2,k3⟩:=h.st j _ hs;refine⟨_,z,hs,k3,?_⟩;rw[F3 e hf (by rw[hj];exact hs) k2,hi,hj,h.aeY hin]
 rcases h.aT.erase hf with⟨hr,hsp⟩|⟨ho,hsp⟩
 ·have hr':=hr;obtain⟨d,p,r1,r2,r3,r4,r5⟩:=hr';obtain⟨s,z,k1,k2,k3⟩:=key f.1 f.2.1 rfl rfl (h.pt _ _ _ r1).1 r4;rw[k3];cases hj:P f.2.1 with
  |some x=>
   obtain⟨q1,q2⟩:=h.again E L hK hf hr hsp k1 k2 (by rw[hj];rfl);exact⟨P,B,ph,q1,.inl ⟨q2,rfl⟩⟩
  |none=>
   by_cases hb:f.2.1=b
   ·obtain⟨P',ny,q1,q2,q3⟩:=h.asked E L hK hf hr hsp k1 k2 hj hb;exact⟨P',B,ny,q1,.inl ⟨q2,q3⟩⟩
   ·obtain⟨P',q1,q2⟩:=h.fresh E L hK hf hr hsp k1 k2 hj hb;exact⟨P',B,ph,q1,.inl ⟨q2,rfl⟩⟩
 ·cases ph with
  |rq=>cases ho
  |rp i j ttl hh dj=>
   have hfe:f=(i,j,iP (nu ttl hh (bJ a) (bJ b))):=(Option.some.inj ho).symm;subst hfe;obtain⟨p1,p2,_⟩:=h.JI;obtain⟨s,z,k1,k2,k3⟩:=key i j rfl rfl p1 p2;rw[k3];by_cases hj:j=a
   ·obtain⟨B',ny,q1,q2,q3⟩:=h.answered E L hK hf hsp k1 k2 hj;exact⟨P,B',ny,q1,.inl ⟨q2,q3⟩⟩
   ·obtain⟨B',ny,q1,q2,q3⟩:=h.back E L hK hf hsp k1 k2 hj;exact⟨P,B',ny,q1,.inl ⟨q2,q3⟩⟩
  |dt i j ttl hh=>
   have hfe:f=(i,j,iP (sI ttl (bJ a) (bJ b) t)):=(Option.some.inj ho).symm;subst hfe;obtain⟨p1,p2,_⟩:=h.JI;obtain⟨s,z,k1,k2,k3⟩:=key i j rfl rfl p1 p2;rw[k3];by_cases hj:j=b
   ·obtain⟨q1,q2⟩:=h.came E L hK hf hsp k1 k2 hj;exact⟨P,B,.cm,q1,.inr ⟨q2,rfl,rfl⟩⟩
   ·obtain⟨ny,q1,q2,q3⟩:=h.data E L hK hf hsp k1 k2 hj;exact⟨P,B,ny,q1,.inl ⟨q2,q3⟩⟩
  |cm=>cases ho
end Go.Proofs.YtakaadcpaeiccabGreat
