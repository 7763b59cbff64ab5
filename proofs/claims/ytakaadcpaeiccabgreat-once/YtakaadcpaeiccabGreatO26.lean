import Derived.Test.YtakaadcpaeiccabGreatO25
import Derived.Laws.Rows
namespace Go.Proofs.YtakaadcpaeiccabGreat
variable{b t:ByteArray}{c:ByteArray->Nat}{L:List (Int×Int)}{A:List Rt}{p:aC}{f:Rt->Rt}{q:Sr}{s s':St}
def carries(t b:ByteArray):Bool:=(List.range (b.size+1)).any λk=>qC ((ak b).take k)&&decide ((pJ ((ak b).take k)).kind=9)&&decide ((pJ ((ak b).take k)).pay=t)
theorem lU:carries t b=true ↔ ∃k,qC ((ak b).take k)=true∧(pJ ((ak b).take k)).kind=9∧(pJ ((ak b).take k)).pay=t:=by
 unfold carries;rw[List.any_eq_true];constructor
 ·rintro⟨k,_,h⟩;simp only[eG,iL]at h;exact⟨k,h.1.1,h.1.2,h.2⟩
 ·rintro⟨k,h1,h2,h3⟩;by_cases hk:k<=b.size
  ·exact⟨k,List.mem_range.2 (by omega),by simp only[eG,iL];exact⟨⟨h1,h2⟩,h3⟩⟩
  ·have e:(ak b).take k=(ak b).take b.size:=by
    rw[jE (by rw[bW];omega),jE (by rw[bW];omega)]
   rw[e]at h1 h2 h3;exact⟨b.size,List.mem_range.2 (by omega),by simp only[eG,iL];exact⟨⟨h1,h2⟩,h3⟩⟩
theorem yY(hz:L=[]∨L.length=p.ln)(h:carries t (strOfNums (jU p L))=true):p.kind=9∧p.pay=t:=by
 obtain⟨k,h1,h2,h3⟩:=lU.1 h;obtain⟨_,_,e,_⟩:=FP hz h1;rw[e]at h2 h3;exact⟨h2,h3⟩
theorem JA(n:Nat)(h:carries t (b.extract 0 n)=true):carries t b=true:=by
 obtain⟨k,h1,h2,h3⟩:=lU.1 h;rw[A9,List.take_take]at h1 h2 h3;exact lU.2 ⟨_,h1,h2,h3⟩
abbrev Th:=ByteArray->Option (Int×Int)
def FrB(Θ:Th)(b:ByteArray):Prop:=∀k,qC ((ak b).take k)=true->(pJ ((ak b).take k)).kind=9->Θ (pJ ((ak b).take k)).pay=some ((pJ ((ak b).take k)).aI,(pJ ((ak b).take k)).dest)
theorem FrB.cut{Θ:Th}(h:FrB Θ b)(n:Nat):FrB Θ (b.extract 0 n):=by
 intro k h1 h2;rw[A9,List.take_take]at h1 h2 ⊢;exact h _ h1 h2
def FrD(Θ:Th)(f:Int×ByteArray):Prop:=FrB Θ f.2∧∀t,carries t f.2=true->f.1≠0
def NoD(b:ByteArray):Prop:=∀t,carries t b=false
theorem NoD.fr{Θ:Th}{f:Int×ByteArray}(h:NoD f.2):FrD Θ f:=by
 refine⟨λk h1 h2=> ?_,λt e=> ?_⟩
 ·have:=lU.2 ⟨k,h1,h2,rfl⟩;rw[h]at this;cases this
 ·rw[h]at e;cases e
theorem XK(hk:p.kind≠9)(hz:L=[]∨L.length=p.ln):NoD (strOfNums (jU p L)):=by
 intro t;cases h:carries t (strOfNums (jU p L))with
 |false=>rfl
 |true=>exact absurd (yY hz h).1 hk
def LF(Θ:Th):Prop:=∀t a b,Θ t=some (a,b)->a_ a∧a_ b
theorem YL{Θ:Th}(hU:LF Θ){p:aC}(hp:Θ p.pay=some (p.aI,p.dest)):FrB Θ (strOfNums (jU p [])):=by
 intro k h1 h2;obtain⟨_,_,e,_⟩:=FP (.inl rfl) h1;rw[e];obtain⟨u1,u2⟩:=hU _ _ _ hp;show Θ p.pay=some (w8 p.aI,w8 p.dest);rw[Md u1,Md u2];exact hp
def Cj(A:List Rt):Prop:=∀y∈A,y.valid=true->y.next≠0
theorem KE(h:Cj A)(hf:∀y,(f y).valid=true->y.valid=true∧(f y).next=y.next):Cj (A.map f):=by
 intro y hy hv;obtain⟨z,hz,rfl⟩:=dh.1 hy;obtain⟨h1,h2⟩:=hf z hv;rw[h2];exact h z hz h1
theorem EU(h:Cj A)(d:Int)(hf:∀y,(f y).valid=true->y.valid=true∧(f y).next=y.next):Cj (gU A d f):=KE h λy=>by
 split
 ·exact hf y
 ·exact λh=>⟨h,rfl⟩
theorem A7(h:Cj A)(d e:Int):Cj (iN A d e):=EU h d λy=>by
 unfold sJ;split
 ·rename_i hv;exact λ_=>⟨hv,rfl⟩
 ·exact λh=>⟨h,rfl⟩
theorem EW(h:Cj A)(d n:Int):Cj (kZ A d n):=EU h d λy=>by
 unfold qG;split
 ·rename_i hv;exact λ_=>⟨hv.1,rfl⟩
 ·exact λh=>⟨h,rfl⟩
theorem Ia(fr q:Int)(y:Rt):(bQ fr q y).valid=true->y.valid=true∧(bQ fr q y).next=y.next:=by
 unfold bQ;split
 ·exact λh=>by cases h
 ·exact λh=>⟨h,rfl⟩
theorem aaN(h:Cj A)(now:Int):Cj (iW A now):=KE h λy=>by
 unfold og;split
 ·exact λh=>by cases h
 ·exact λh=>⟨h,rfl⟩
theorem SN(h:Cj A){n:Int}(hn:n≠0)(me d q hp e:Int):Cj (iO me A d q hp n e).1:=by
 unfold iO;split
 ·exact h
 ·split
  ·split
   ·intro y hy hv;rcases vL hy with⟨z,hz,_,rfl⟩|⟨hy,_⟩
    ·exact hn
    ·exact h y hy hv
   ·exact h
  ·split
   ·exact h
   ·intro y hy hv;rcases oJ.1 hy with rfl|hy
    ·exact hn
    ·exact h y hy hv
def wQ(Q:List Sr)(t:ByteArray):Nat:=(Q.map λq=>q.txt.countP λx=>decide (x=t)).sum
def cT(l:List ByteArray)(t:ByteArray):Nat:=l.countP λx=>decide (x=t)
theorem kr(q:Sr)(Q:List Sr)(t:ByteArray):wQ (q::Q) t=cT q.txt t+wQ Q t:=rfl
theorem Dk:∀(Q:List Sr),(∀e∈Q,e.dest=q.dest->cT q.txt t<=cT e.txt t)->wQ (St.bR Q q) t<=wQ Q t
 | [],_=>aA _
 |e::Q,h=>by
  have h1:=Dk Q λe he=>h e (iI _ he);show wQ ((if e.dest=q.dest then q else e)::St.bR Q q) t<=_;rw[kr,kr];split
  ·rename_i hd;have:=h e gm hd;omega
  ·omega
theorem Dy:∀(Q:List Sr),(∀e∈Q,e.dest≠q.dest)->St.bR Q q=Q
 | [],_=>rfl
 |e::Q,h=>by
  show(if e.dest=q.dest then q else e)::St.bR Q q=e::Q;rw[aG (h e gm),Dy Q λe he=>h e (iI _ he)]
theorem Ad{k:Nat}:∀(Q:List Sr),(Q.map (·.dest)).Nodup->(∀e∈Q,e.dest=q.dest->cT q.txt t<=cT e.txt t+k)->wQ (St.bR Q q) t<=wQ Q t+k
 | [],_,_=>b_ _
 |e::Q,hn,h=>by
  rw[List.map_cons,List.nodup_cons]at hn;show wQ ((if e.dest=q.dest then q else e)::St.bR Q q) t<=_;rw[kr,kr];split
  ·rename_i hd;have:=h e gm hd;rw[Dy Q λu hu e2=>hn.1 (dh.2 ⟨u,hu,e2.trans hd.symm⟩)];omega
  ·have h1:=Ad Q hn.2 λe he=>h e (iI _ he);omega
theorem o7(f:Sr->Bool)(t:ByteArray):∀Q:List Sr,wQ (Q.filter f) t<=wQ Q t
 | []=>aA _
 |e::Q=>by
  have h1:=o7 f t Q;rw[List.filter_cons];split
  ·rw[kr,kr];omega
  ·rw[kr];omega
theorem uX{f:Sr->Bool}(hq:f q=false):∀Q:List Sr,q∈Q->wQ (Q.filter f) t+cT q.txt t<=wQ Q t
 | [],h=>by cases h
 |e::Q,h=>by
  rcases eF.1 h with rfl|h
  ·have h1:=o7 f t Q;rw[List.filter_cons,aG (by simp[hq]),kr];omega
  ·have h1:=uX hq Q h;rw[List.filter_cons];split
   ·rw[kr,kr];omega
   ·rw[kr];omega
def wF(F:List (Int×ByteArray))(t:ByteArray):Nat:=F.countP λf=>carries t f.2
def wC(C:List (Int×ByteArray))(t:ByteArray):Nat:=C.countP λx=>decide (x.2=t)
def wS(s:St)(t:ByteArray):Nat:=wQ s.Q t+wF s.aH t+wC s.aR t
structure Oc(Θ:Th)(c:ByteArray->Nat)(s:St):Prop where
 nx:Cj s.A
 lq:∀q∈s.Q,∀t∈q.txt,Θ t=some (s.me,q.dest)
 lf:∀f∈s.aH,FrD Θ f
 lc:∀x∈s.aR,Θ x.2=some (x.1,s.me)
 wt:∀t,wS s t<=c t
theorem Oc.up{Θ:Th}{c':ByteArray->Nat}(h:Oc Θ c s)(hc:∀t,c t<=c' t):Oc Θ c' s:=⟨h.nx,h.lq,h.lf,h.lc,λt=>dH (h.wt t) (hc t)⟩
theorem J9(a b:List (Int×ByteArray))(t:ByteArray):wF (a++b) t=wF a t+wF b t:=List.countP_append ..
theorem acQ{F:List (Int×ByteArray)}(h:∀f∈F,NoD f.2)(t:ByteArray):wF F t=0:=List.countP_eq_zero.2 λf hf=>by rw[h f hf t];decide
theorem Oc.pass{Θ:Th}(h:Oc Θ c s)(hme:s'.me=s.me)(hnx:Cj s'.A)(hQ:s'.Q=s.Q){F:List (Int×ByteArray)}(hF:s'.aH=s.aH++F)(hn:∀f∈F,NoD f.2)(hc:s'.aR=s.aR):Oc Θ c s':=by
 refine⟨hnx,by rw[hQ,hme];exact h.lq,λf hf=> ?_,by rw[hc,hme];exact h.lc,λt=> ?_⟩
 ·rw[hF]at hf;rcases dG.1 hf with hf|hf
  ·exact h.lf f hf
  ·exact(hn f hf).fr
 ·have:=h.wt t;unfold wS at this ⊢;rw[hQ,hF,hc,J9,acQ hn];exact this
theorem Oc.qY{Θ:Th}(h:Oc Θ c s)(hme:s'.me=s.me)(hnx:Cj s'.A)(hQ:s'.Q=s.Q)(hF:s'.aH=s.aH)(hc:s'.aR=s.aR):Oc Θ c s':=h.pass hme hnx hQ (F:=[]) (by rw[hF,gT]) (λf hf=>by cases hf) hc
theorem Oc.drop{Θ:Th}(h:Oc Θ c s)(r:Int):Oc Θ c (s.drop r):=h.qY rfl h.nx rfl rfl rfl
theorem Oc.send{Θ:Th}(h:Oc Θ c s)(t:Int){p:aC}{L:List (Int×Int)}(hk:p.kind≠9)(hz:L=[]∨L.length=p.ln):Oc Θ c (s.send t p L):=
 h.pass rfl h.nx rfl (F:=[(t,strOfNums (jU p L))]) rfl (λf hf=>by rw[dO]at hf;subst hf;exact XK hk hz) rfl
theorem Oc.lose{Θ:Th}(h:Oc Θ c s)(t:Int)(L:List (Int×Int)):Oc Θ c (s.lose t L):=by
 unfold St.lose Py;split
 ·exact h.qY rfl h.nx rfl (by simp) rfl
 ·exact h.send t (p:=ZI L.length) (L:=L) (show(3:Int)≠9 by decide) (.inr rfl)
theorem Oc.tab{Θ:Th}(h:Oc Θ c s){A:List Rt}(hA:Cj A):Oc Θ c {s with A:=A}:=h.qY rfl hA rfl rfl rfl
theorem Oc.answer{Θ:Th}(h:Oc Θ c s)(p:aC):Oc Θ c (s.answer p):=by
 unfold St.answer;split
 ·exact h.send _ (show(2:Int)≠9 by decide) (.inl rfl)
 ·exact h.drop 3
theorem Oc.asked{Θ:Th}(h:Oc Θ c s){p:aC}(hk:p.kind=1):Oc Θ c (s.asked p):=by
 unfold St.asked;split
 ·unfold St.iF;exact Oc.answer (s:={s with seq:=max s.seq p.aX}) (h.qY rfl h.nx rfl rfl rfl) _
 ·split
  ·unfold St.gJ;refine Oc.answer (h.tab (EW ?_ _ _)) _;split
   ·exact EW h.nx _ _
   ·exact h.nx
  ·split
   ·exact h.drop 4
   ·unfold St.askOn;exact h.send 0 (show p.kind≠9 by omega) (.inl rfl)
theorem Oc.bV{Θ:Th}(h:Oc Θ c s){fr:Int}(hf:fr≠0){p:aC}(hk:p.kind=1):Oc Θ c (s.bV fr p):=by
 unfold St.bV;split
 ·exact h.drop 1
 ·have h1:Oc Θ c {s with mem:=dP s.mem (p.aI,p.id) (s.now+1280) s.tn,tn:=s.tn+1}:=h.qY rfl h.nx rfl rfl rfl;have hA:=SN h.nx hf s.me p.aI p.dw (St.far p.hops) (s.now+3000);unfold St.learn;split
  ·exact(h1.tab hA).drop 2
  ·split
   ·exact(h1.tab (A7 hA _ _)).asked hk
   ·exact(h1.tab hA).asked hk
def plus(c:ByteArray->Nat)(x t:ByteArray):Nat:=c t+if x=t then 1 else 0
theorem Ji(h:Cj A){d now:Int}(hf:(bH A d now).2=true):(bH A d now).1.next≠0:=by
 obtain⟨h1,h2⟩:=BH hf;exact h _ (bU h1).1 h2
theorem Oc.data{Θ:Th}(hU:LF Θ){c:ByteArray->Nat}{s:St}(h:Oc Θ c s){nx:Int}(hto:nx≠0){p:aC}(hp:Θ p.pay=some (p.aI,p.dest)){A:List Rt}(hA:Cj A):Oc Θ (plus c p.pay) ({s with A:=A}.send nx p []):=by
 refine⟨hA,h.lq,λf hf=> ?_,h.lc,λt=> ?_⟩
 ·rcases dG.1 (show f∈s.aH++ [(nx,strOfNums (jU p []))]from hf)with hf|hf
  ·exact h.lf f hf
  ·rw[dO]at hf;subst hf;exact⟨YL hU hp,λ_ _=>hto⟩
 ·have h1:=h.wt t;unfold wS at h1 ⊢;show wQ s.Q t+wF (s.aH++ [(nx,strOfNums (jU p []))]) t+wC s.aR t<=plus c p.pay t;rw[J9];have h2:wF [(nx,strOfNums (jU p []))] t<=if p.pay=t then 1 else 0:=by
   unfold wF;rw[List.countP_cons,List.countP_nil];cases hc:carries t (strOfNums (jU p []))with
   |false=>simp
   |true=>
    rw[aM (yY (.inl rfl) hc).2];simp
  unfold plus;omega
theorem Oc.aN{Θ:Th}(hU:LF Θ){c:ByteArray->Nat}{s:St}(h:Oc Θ c s)(d:Int)(x:ByteArray)(hx:Θ x=some (s.me,d)):Oc Θ (plus c x) (s.aN d x):=by
 unfold St.aN;split
 ·rename_i hf;have h1:Oc Θ c {s with eH:=(s.eH+1)%4294967296}:=h.qY rfl h.nx rfl rfl rfl;exact h1.data hU (Ji h.nx hf) (p:=St.C_ ((s.eH+1)%4294967296) d s.me x) hx (A7 h.nx d (s.now+3000))
 ·exact h.up λt=>Nat.le_add_right _ _
theorem GU(s:St)(d:Int)(t:ByteArray):(s.aN d t).me=s.me:=(fu s d t).2.1
theorem Ah(d:Int):∀(l:List ByteArray) (s:St),(l.foldl (λs t=>s.aN d t) s).me=s.me∧(l.foldl (λs t=>s.aN d t) s).Q=s.Q
 | [],_=>⟨rfl,rfl⟩
 |x::l,s=>by
  rw[fQ];obtain⟨h1,h2⟩:=Ah d l (s.aN d x);obtain⟨k1,k2,_⟩:=fu s d x;exact⟨h1.trans k2,h2.trans k1⟩
theorem Oc.texts{Θ:Th}(hU:LF Θ)(d:Int):∀(l:List ByteArray) {c:ByteArray->Nat} {s:St},Oc Θ c s->(∀x∈l,Θ x=some (s.me,d))->Oc Θ (λt=>c t+cT l t) (l.foldl (λs t=>s.aN d t) s)
 | [],c,s,h,_=>h
 |x::l,c,s,h,hl=>by
  rw[fQ];have h1:=h.aN hU d x (hl x gm);have hme:(s.aN d x).me=s.me:=(GU s d x);refine(Oc.texts hU d l h1 λy hy=>by rw[hme];exact hl y (iI _ hy)).up λt=> ?_;unfold plus cT;rw[List.countP_cons];by_cases e:x=t
  ·simp[e];omega
  ·simp[e]
theorem Oc.sendAll{Θ:Th}(hU:LF Θ){c:ByteArray->Nat}{s:St}(h:Oc Θ c s)(d:Int):Oc Θ c (s.sendAll d):=by
 unfold St.sendAll;split
 ·exact h
 ·rename_i q hq;split
  ·obtain⟨hqm,Nw⟩:=gY hq;have h1:=h.texts hU d q.txt λx hx=>by rw[<-Nw];exact h.lq q hqm x hx
   have hQ:(q.txt.foldl (λs t=>s.aN d t) s).Q=s.Q:=(Ah d q.txt s).2;have hme:(q.txt.foldl (λs t=>s.aN d t) s).me=s.me:=(Ah d q.txt s).1;refine⟨h1.nx,λu hu t ht=> ?_,h1.lf,h1.lc,λt=> ?_⟩
   ·show Θ t=some ((q.txt.foldl (λs t=>s.aN d t) s).me,u.dest);rw[hme];exact h.lq u (List.mem_filter.1 hu).1 t ht
   ·have h2:=h1.wt t;have h3:=uX (t:=t) (f:=λz=>!decide (z.dest=d)) (q:=q) (by simp[Nw]) s.Q hqm;unfold wS at h2 ⊢;rw[hQ]at h2;show wQ (s.Q.filter λz=>!decide (z.dest=d)) t+wF (q.txt.foldl (λs t=>s.aN d t) s).aH t+wC (q.txt.foldl (λs t=>s.aN d t) s).aR t<=c t;omega
  ·exact h
theorem Oc.dN{Θ:Th}(hU:LF Θ){c:ByteArray->Nat}{s:St}(h:Oc Θ c s){fr:Int}(hf:fr≠0){p:aC}(hk:p.kind=2):Oc Θ c (s.dN fr p):=by
 unfold St.dN;split
 ·exact h.drop 1
 ·dsimp only;have hA:=SN h.nx hf s.me p.dest p.aX (St.far p.hops) (s.now+p.life);have h1:=h.tab hA;split
  ·exact h1.drop 2
  ·split
   ·split
    ·exact(h1.sendAll hU p.dest).drop 7
    ·exact h1.sendAll hU p.dest
   ·split
    ·exact h1.drop 4
    ·unfold St.iC;split
     ·exact(h1.tab (A7 (EW (EW hA _ _) _ _) _ _)).send _ (show p.kind≠9 by omega) (.inl rfl)
     ·exact h1.drop 3
theorem DR(fr:Int):∀(L:List (Int×Int)) (z:List Rt×Bool×List (Int×Int)),Cj z.1->Cj (L.foldl (St.Fh fr) z).1
 | [],_,h=>h
 |a::L,z,h=>by
  rw[fQ];refine DR fr L _ ?_;unfold St.Fh;split
  ·exact EU h a.1 (Ia fr a.2)
  ·exact h
theorem Oc.fD{Θ:Th}(h:Oc Θ c s)(fr:Int)(L:List (Int×Int)):Oc Θ c (s.fD fr L):=by
 unfold St.fD;dsimp only;have h1:=h.tab (DR fr L (s.A,false,[]) h.nx);split
 ·exact h1.lose 0 _
 ·exact(h1.drop 7).lose 0 _
theorem Oc.dU{Θ:Th}(hU:LF Θ){c:ByteArray->Nat}{s:St}(h:Oc Θ c s)(fr:Int){p:aC}(hp:Θ p.pay=some (p.aI,p.dest)):Oc Θ (plus c p.pay) (s.dU fr p):=by
 have hup:∀t,c t<=plus c p.pay t:=λt=>Nat.le_add_right _ _;unfold St.dU;split
 ·rename_i hd;refine⟨h.nx,h.lq,h.lf,λx hx=> ?_,λt=> ?_⟩
  ·rcases dG.1 (show x∈s.aR++ [(p.aI,p.pay)]from hx)with hx|hx
   ·exact h.lc x hx
   ·rw[dO]at hx;subst hx;rw[<-hd];exact hp
  ·have h1:=h.wt t;unfold wS at h1 ⊢;show wQ s.Q t+wF s.aH t+wC (s.aR++ [(p.aI,p.pay)]) t<=plus c p.pay t;unfold wC plus at *;rw[List.countP_append,List.countP_cons,List.countP_nil];by_cases e:p.pay=t
   ·simp[e];omega
   ·simp[e];omega
 ·split
  ·exact(h.drop 4).up hup
  ·split
   ·rename_i hf;exact h.data hU (Ji h.nx hf) (p:={p with ttl:=p.ttl - 1}) hp (A7 (A7 h.nx _ _) _ _)
   ·refine Oc.up ?_ hup;refine Oc.lose (s:={s.drop 3 with A:=gU s.A p.dest St.oN}) ?_ _ _;exact(h.drop 3).tab (EU h.nx p.dest λy h=>⟨h,rfl⟩)
theorem Oc.dA{Θ:Th}(h:Oc Θ c s)(fr:Int)(p:aC):Oc Θ c (s.dA fr p):=by
 unfold St.dA;split
 ·exact Oc.qY (s:=(s.drop 8).kE fr p.dest) (Oc.lose (s:=s.drop 8) (h.drop 8) _ _) rfl h.nx rfl rfl rfl
 ·exact h.drop 8
def inX(xs:List Int)(t:ByteArray):Nat:=if qC xs=true∧(pJ xs).kind=9∧(pJ xs).pay=t then 1 else 0
theorem Oc.hear{Θ:Th}(hU:LF Θ){c:ByteArray->Nat}{s:St}(h:Oc Θ c s)(fr:Int)(xs:List Int)(hx:qC xs=true->(pJ xs).kind=9->Θ (pJ xs).pay=some ((pJ xs).aI,(pJ xs).dest)):Oc Θ (λt=>c t+inX xs t) (s.hear fr xs):=by
 have hup:∀t,c t<=c t+inX xs t:=λt=>Nat.le_add_right _ _;unfold St.hear;split
 ·exact(h.drop 0).up hup
 ·rename_i hb;simp only[not_or]at hb;have hF:qC xs=true:=by simpa using hb.1
  have hk:=AR hF;show Oc Θ _ (s.gF fr (pJ xs) (ZH xs));have hk':(pJ xs).kind=1∨(pJ xs).kind=2∨(pJ xs).kind=3∨(pJ xs).kind=9:=by
   have e:(pJ xs).kind=xs.getD 1 0:=hk.1;rw[e];exact hk.2
  unfold St.gF;split
  ·exact(h.dA fr _).up hup
  ·split
   ·rename_i h1;exact(h.bV hb.2.1 h1).up hup
   ·split
    ·rename_i h2;exact(h.dN hU hb.2.1 h2).up hup
    ·split
     ·exact(h.fD fr _).up hup
     ·rename_i h1 h2 h3;have h9:(pJ xs).kind=9:=by omega
      refine(h.dU hU fr (hx hF h9)).up λt=> ?_;unfold plus inX;by_cases e:(pJ xs).pay=t
      ·rw[aM e,aM ⟨hF,h9,e⟩];exact aA _
      ·rw[aG e];omega
theorem Oc.write{Θ:Th}(h:Oc Θ c s):Oc Θ c s.write:=h.qY rfl h.nx rfl rfl rfl
theorem Oc.request{Θ:Th}(h:Oc Θ c s)(d ttl:Int):Oc Θ c (s.request d ttl):=by
 unfold St.request;dsimp only;have h1:Oc Θ c {s with seq:=gr s.seq,dm:=(s.dm+1)%4294967296}:=h.qY rfl h.nx rfl rfl rfl;have h2:=h1.write
 revert h2
 generalize ({s with seq:=gr s.seq,dm:=(s.dm+1)%4294967296}:St).write=s1;intro h2;refine Oc.send (s:={s1 with pc:=St.dJ s1.pc s1.now,mem:=dP s1.mem (s1.me,s1.dm) (s1.now+1280) s1.tn,tn:=s1.tn+1}) (h2.qY rfl h2.nx rfl rfl rfl) 0 ?_ (.inl rfl);show(1:Int)≠9;decide
def Agr(s:St)(q:Sr):Prop:=∀e∈s.Q,e.dest=q.dest->e.txt=q.txt
theorem Oc.bR{Θ:Th}(h:Oc Θ c s){q:Sr}(ha:Agr s q)(tl:Int):Oc Θ c {s with tl:=tl,Q:=St.bR s.Q q}:=by
 refine⟨h.nx,λu hu t ht=> ?_,h.lf,h.lc,λt=> ?_⟩
 ·obtain⟨e,he,rfl⟩:=dh.1 (show u∈s.Q.map λz=>if z.dest=q.dest then q else z from hu);show Θ t=some (s.me,_);split at ht
  ·rename_i hd;rw[aM hd,<-hd];rw[<-ha e he hd]at ht;exact h.lq e he t ht
  ·rename_i hd;rw[aG hd];exact h.lq e he t ht
 ·have h1:=h.wt t;have h2:=Dk (t:=t) s.Q (q:=q) λe he hd=>by rw[ha e he hd];exact aA _
  unfold wS at h1 ⊢;show wQ (St.bR s.Q q) t+wF s.aH t+wC s.aR t<=c t;omega
theorem Oc.ask{Θ:Th}(h:Oc Θ c s){q:Sr}(ha:Agr s q):Oc Θ c (s.ask q):=by
 unfold St.ask;split
 ·exact(h.drop 9).bR (q:={q with due:=s.now+1000,id:=s.tl+1,out:=false}) ha _
 ·split
  ·exact(h.drop 8).bR (q:={q with due:=s.now+1000,id:=s.tl+1,out:=false}) ha _
  ·have h1:=h.request q.dest q.ttl;exact h1.bR (q:={q with due:=(s.request q.dest q.ttl).now+80 * (q.ttl+2)* 2 ^ q.ret,id:=(s.request q.dest q.ttl).tl+1,out:=true}) ha _
theorem Oc.widen{Θ:Th}(h:Oc Θ c s){q:Sr}(ha:Agr s q):Oc Θ c (s.widen q):=by
 unfold St.widen;split
 ·exact h.ask (q:={q with ttl:=q.ttl+2}) ha
 ·split
  ·exact h.ask (q:={q with ttl:=8}) ha
  ·split
   ·exact h.ask (q:={q with ret:=q.ret+1}) ha
   ·refine⟨h.nx,λu hu t ht=>h.lq u (List.mem_filter.1 hu).1 t ht,h.lf,h.lc,λt=> ?_⟩;have h1:=h.wt t;have h2:=o7 (λz=>!decide (z.dest=q.dest)) t s.Q;unfold wS at h1 ⊢;show wQ (s.Q.filter λz=>!decide (z.dest=q.dest)) t+wF s.aH t+wC s.aR t<=c t;omega
theorem Oc.step{Θ:Th}(hU:LF Θ){c:ByteArray->Nat}{s:St}(h:Oc Θ c s){q:Sr}(ha:Agr s q):Oc Θ c (s.step q):=by
 unfold St.step;split
 ·exact h.sendAll hU q.dest
 ·split
  ·exact h.widen ha
  ·exact h.ask ha
theorem OC(s:St)(q:Sr):∀e∈(s.step q).Q,e.dest≠q.dest->e∈s.Q:=by
 have ha:∀q':Sr,q'.dest=q.dest->∀e∈(s.ask q').Q,e.dest≠q.dest->e∈s.Q:=by
  intro q' hq' e he hd;obtain⟨o,h1,_⟩:=Eh s q';rw[h1]at he;rcases fC he with rfl|⟨k,_⟩
  ·exact absurd hq' hd
  ·exact k
 intro e he hd;unfold St.step at he;split at he
 ·exact(xB s q.dest).1 e he
 ·split at he
  ·unfold St.widen at he;split at he
   ·exact ha {q with ttl:=q.ttl+2} rfl e he hd
   ·split at he
    ·exact ha {q with ttl:=8} rfl e he hd
    ·split at he
     ·exact ha {q with ret:=q.ret+1} rfl e he hd
     ·exact(List.mem_filter.1 he).1
  ·exact ha q rfl e he hd
theorem Oc.steps{Θ:Th}(hU:LF Θ){c:ByteArray->Nat}:∀(D:List Sr) {s:St},Oc Θ c s->(∀q∈D,Agr s q)->(D.map (·.dest)).Nodup->Oc Θ c (D.foldl St.step s)
 | [],_,h,_,_=>h
 |q::D,s,h,ha,hn=>by
  rw[fQ];rw[List.map_cons,List.nodup_cons]at hn;refine Oc.steps hU D (h.step hU (ha q gm)) (λu hu e he hd=> ?_) hn.2;have hne:e.dest≠q.dest:=λe2=>hn.1 (dh.2 ⟨u,hu,hd.symm.trans e2⟩);exact ha u (iI _ hu) e (OC s q e he hne) hd
theorem xJ:∀ {Q:List Sr},(Q.map (·.dest)).Nodup->∀a∈Q,∀b∈Q,a.dest=b.dest->a=b
 | [],_,_,h,_,_,_=>by cases h
 |e::Q,hn,a,ha,b,hb,hd=>by
  rw[List.map_cons,List.nodup_cons]at hn;have h1:∀u∈Q,u.dest≠e.dest:=λu hu e2=>hn.1 (dh.2 ⟨u,hu,e2⟩);rcases eF.1 ha with ha|ha
  ·rcases eF.1 hb with hb|hb
   ·exact ha.trans hb.symm
   ·exact absurd (hd.symm.trans (by rw[ha])) (h1 b hb)
  ·rcases eF.1 hb with hb|hb
   ·exact absurd (hd.trans (by rw[hb])) (h1 a ha)
   ·exact xJ hn.2 a ha b hb hd
structure On(Θ:Th)(z:St):Prop where
 nx:Cj z.A
 lq:∀q∈z.Q,∀t∈q.txt,Θ t=some (z.me,q.dest)
theorem On.begin{Θ:Th}{z:St}(h:On Θ z)(now:Int):Oc Θ (wQ z.Q) (z.locked.begin now):=by
 refine⟨aaN h.nx now,h.lq,λf hf=>(by cases hf),λx hx=>(by cases hx),λt=> ?_⟩;show wQ z.Q t+0+0<=_;omega
theorem Oc.fin{Θ:Th}(h:Oc Θ c s):Oc Θ c s.finish.freed:=by
 have e:=aO s;exact h.qY e.me (by show Cj s.finish.A;rw[e.A];exact h.nx) e.Q e.aH e.aR
theorem Oc.on{Θ:Th}(h:Oc Θ c s):On Θ s:=⟨h.nx,h.lq⟩
theorem On.rcv{Θ:Th}(hU:LF Θ){z:St}(h:On Θ z)(now fr:Int)(xs:List Int)(hx:qC xs=true->(pJ xs).kind=9->Θ (pJ xs).pay=some ((pJ xs).aI,(pJ xs).dest)):Oc Θ (λt=>wQ z.Q t+inX xs t) (z.rcv now fr xs):=((h.begin now).hear hU fr xs hx).fin
theorem On.brk{Θ:Th}{z:St}(h:On Θ z)(now eu:Int):Oc Θ (wQ z.Q) (z.brk now eu):=by
 have h1:=h.begin now;exact Oc.fin (s:=({z.locked.begin now with A:=(z.locked.begin now).A.map (bQ eu 0)}:St).lose 0 (nD eu (z.locked.begin now).A)) ((h1.tab (KE h1.nx (Ia eu 0))).lose 0 _)
theorem On.jY{Θ:Th}(hU:LF Θ){z:St}(h:On Θ z)(hn:(z.Q.map (·.dest)).Nodup)(now:Int):Oc Θ (wQ z.Q) (z.jY now):=by
 refine Oc.fin (s:=(St.j_ z.Q now).foldl St.step (z.locked.begin now)) (Oc.steps hU _ (h.begin now) (λq hq e he hd=> ?_) ?_)
 ·rw[xJ hn e he q (BO hq) hd]
 ·unfold St.j_;have h1:((z.Q.filter λq=>decide (q.due<=now)).map (·.dest)).Nodup:=List.Pairwise.sublist (List.filter_sublist.map _) hn;exact((List.mergeSort_perm (z.Q.filter λq=>decide (q.due<=now)) St.KD).map (·.dest)).nodup_iff.2 h1
theorem On.snd{Θ:Th}(hU:LF Θ){z:St}(h:On Θ z)(hn:(z.Q.map (·.dest)).Nodup)(now d:Int)(x:ByteArray)(hx:Θ x=some (z.me,d)):Oc Θ (plus (wQ z.Q) x) (z.snd now d x):=by
 have h1:=h.begin now;refine Oc.fin (s:=if (bH (z.locked.begin now).A d (z.locked.begin now).now).2 then(z.locked.begin now).aN d x else(z.locked.begin now).await d x) ?_;split
 ·exact h1.aN hU d x hx
 ·generalize hs:z.locked.begin now=s at h1;have hQ:s.Q=z.Q:=by rw[<-hs];rfl
  have hme:s.me=z.me:=by rw[<-hs];rfl
  unfold St.await;split
  ·rename_i q hq;obtain⟨hqm,Nw⟩:=gY hq;have hh:(s.hold q x).2.dest=q.dest∧(∀t∈(s.hold q x).2.txt,t∈q.txt∨t=x)∧∀t,cT (s.hold q x).2.txt t<=cT q.txt t+if x=t then 1 else 0:=by
    have hc1:∀t,cT [x] t=if x=t then 1 else 0:=λt=>by
     unfold cT;rw[List.countP_cons,List.countP_nil];by_cases e:x=t<;>simp[e]
    have hap:∀(a b:List ByteArray) t,cT (a++b) t=cT a t+cT b t:=λa b t=>List.countP_append ..;unfold St.hold;split
    ·refine⟨rfl,λt ht=> ?_,λt=> ?_⟩
     ·rcases dG.1 ht with ht|ht
      ·exact .inl (List.mem_of_mem_tail ht)
      ·exact .inr (dO.1 ht)
     ·dsimp only;rw[hap,hc1];have:cT q.txt.tail t<=cT q.txt t:=List.Sublist.countP_le (List.tail_sublist _);omega
    ·refine⟨rfl,λt ht=> ?_,λt=> ?_⟩
     ·rcases dG.1 ht with ht|ht
      ·exact .inl ht
      ·exact .inr (dO.1 ht)
     ·dsimp only;rw[hap,hc1];exact aA _
   have hp:Oc Θ (wQ z.Q) (s.hold q x).1:=by
    unfold St.hold;split
    ·exact h1.drop 6
    ·exact h1
   have hpQ:(s.hold q x).1.aH=s.aH∧(s.hold q x).1.aR=s.aR∧(s.hold q x).1.me=s.me:=by
    unfold St.hold;split<;>exact⟨rfl,rfl,rfl⟩
   refine⟨hp.nx,λu hu t ht=> ?_,hp.lf,hp.lc,λt=> ?_⟩
   ·show Θ t=some ((s.hold q x).1.me,u.dest);rw[hpQ.2.2];obtain⟨e,he,rfl⟩:=dh.1 (show u∈s.Q.map λz=>if z.dest=(s.hold q x).2.dest then(s.hold q x).2 else z from hu);split at ht
    ·rename_i hd;rw[aM hd,hh.1,Nw];rcases hh.2.1 t ht with ht|rfl
     ·have:=h1.lq q hqm t ht;rw[Nw]at this;exact this
     ·rw[hme];exact hx
    ·rename_i hd;rw[aG hd];exact h1.lq e he t ht
   ·have h2:=Ad (t:=t) (k:=if x=t then 1 else 0) (q:=(s.hold q x).2) s.Q (by rw[hQ];exact hn) λe he hd=>by
     have e2:e=q:=xJ (by rw[hQ];exact hn) e he q hqm (hd.trans hh.1);rw[e2];exact hh.2.2 t
    have h3:=h1.wt t;unfold wS at h3 ⊢;show wQ (St.bR s.Q (s.hold q x).2) t+wF (s.hold q x).1.aH t+wC (s.hold q x).1.aR t<=plus (wQ z.Q) x t;rw[hpQ.1,hpQ.2.1];unfold plus;omega
  ·rename_i hno;refine Oc.ask (s:={s with Q:=s.Q++ [St.h_ d x]}) ?_ (q:=St.h_ d x) λe he hd=> ?_
   ·refine⟨h1.nx,λu hu t ht=> ?_,h1.lf,h1.lc,λt=> ?_⟩
    ·rcases dG.1 hu with hu|hu
     ·exact h1.lq u hu t ht
     ·rw[dO]at hu;subst hu;have e:t=x:=dO.1 ht;subst e;show Θ t=some (s.me,d);rw[hme];exact hx
    ·have h3:=h1.wt t;unfold wS at h3 ⊢;show wQ (s.Q++ [St.h_ d x]) t+wF s.aH t+wC s.aR t<=plus (wQ z.Q) x t;have e:wQ (s.Q++ [St.h_ d x]) t=wQ s.Q t+if x=t then 1 else 0:=by
      unfold wQ;rw[List.map_append,List.sum_append];show _+(([x]:List ByteArray).countP λu=>decide (u=t))+0=_;rw[List.countP_cons,List.countP_nil];by_cases e:x=t<;>simp[e]
     rw[e];unfold plus;omega
   ·rcases dG.1 he with he|he
    ·exact absurd hd (xg.1 hno e he)
    ·rw[dO]at he;rw[he]
variable{F:List (Nat×Nat×ByteArray)}{e:List Ev}{A:List Int}{m:aP}{k:Nat}{f:Nat×Nat×ByteArray}{P:kQ}{Θ:Th}
def zq(s:bG)(t:ByteArray):Nat:=
 match s.nd with
 |none=>0
 |some z=>wQ z.Q t
def mS(S:List bG)(t:ByteArray):Nat:=(S.map λs=>zq s t).sum
def mA(A:List (Nat×Nat×ByteArray))(t:ByteArray):Nat:=A.countP λf=>carries t f.2.2
def eW(e:List Ev)(t:ByteArray):Nat:=(e.map λx=>wC x.o.aR t).sum
def bd(Θ:Th)(t:ByteArray):Nat:=if (Θ t).isSome then 1 else 0
theorem Tj{t:ByteArray}{s':bG}:∀(S:List bG) (i:Nat) (s:bG),S[i]?=some s->mS (S.set i s') t+zq s t=mS S t+zq s' t
 | [],_,_,h=>by cases h
 |u::S,0,s,h=>by
  cases h;show zq s' t+mS S t+zq u t=zq u t+mS S t+zq s' t;omega
 |u::S,i+1,s,h=>by
  have h1:=Tj (s':=s') (t:=t) S i s h;show zq u t+mS (S.set i s') t+zq s t=zq u t+mS S t+zq s' t;omega
theorem zV(e:List Ev)(x:Ev)(t:ByteArray):eW (e++ [x]) t=eW e t+wC x.o.aR t:=by
 unfold eW;rw[List.map_append,List.sum_append];simp
structure OM(Θ:Th)(A:List Int)(cm:ByteArray->Nat)(m:aP)(e:List Ev)(P:kQ):Prop where
 zi:m.S.map (·.addr)=A
 nk:Rl m
 qk:∀(i:Nat) s z,m.S[i]?=some s->s.nd=some z->z.me=s.addr∧QK m.S z∧On Θ z
 bD:∀f∈m.bD,FrB Θ f.2.2
 fr:∀f∈P,FrD Θ f
 ev:∀x∈e,∀c∈x.o.aR,∃(j:Nat) (a:Int),x.node=(j:Int)∧A[j]?=some a∧Θ c.2=some (c.1,a)
 wt:∀t,mS m.S t+mA m.bD t+wF P t+eW e t+cm t<=bd Θ t
theorem ET{cm:ByteArray->Nat}{e':List Ev}{P':kQ}(h:OM Θ A cm m e P){i:Nat}{s s':bG}(hS:m.S[i]?=some s)(ha:s'.addr=s.addr)(hk:∀z,s'.nd=some z->NK z∧z.me=s'.addr∧QK m.S z∧On Θ z)(hf:∀f∈P',FrD Θ f)(he:∀x∈e',∀c∈x.o.aR,∃(j:Nat) (a:Int),x.node=(j:Int)∧A[j]?=some a∧Θ c.2=some (c.1,a))
  (hw:∀t,mS m.S t+zq s' t+mA m.bD t+wF P' t+eW e' t+cm t<=bd Θ t+zq s t):OM Θ A cm (m.put i s') e' P':=by
 refine⟨?_,h.nk.put i λz hz=>(hk z hz).1,λk t z ht hz=> ?_,h.bD,hf,he,λt=> ?_⟩
 ·rw[<-h.zi];show(m.S.set i s').map (·.addr)=_;rw[List.map_set];refine List.ext_getElem? λj=> ?_;by_cases hj:j=i
  ·subst hj;have hl:=(fA.1 hS).1;rw[List.getElem?_set_self (by rw[iK];exact hl),jQ,hS,ha];rfl
  ·rw[List.getElem?_set_ne (λh=>hj h.symm)]
 ·rcases cO ht with⟨_,rfl⟩|⟨_,ht⟩
  ·obtain⟨_,h1,h2,h3⟩:=hk z hz;exact⟨h1,h2.S hS ha,h3⟩
  ·obtain⟨h1,h2,h3⟩:=h.qk k t z ht hz;exact⟨h1,h2.S hS ha,h3⟩
 ·have h1:=Tj (s':=s') (t:=t) m.S i s hS;have h2:=hw t;show mS (m.S.set i s') t+mA m.bD t+wF P' t+eW e' t+cm t<=_;omega
def OJ(Θ:Th)(A:List Int)(cm:Nat->ByteArray->Nat)(k i:Nat)(z:z_)(P:kQ):Prop:=i<z.1.S.length∧OM Θ A (cm k) z.1 z.2 P
theorem H_{cm:Nat->ByteArray->Nat}{i:Nat}{st:bG}{z:St}{c cm1:ByteArray->Nat}(hS:m.S[i]?=some st)(h:OM Θ A cm1 m e P)(ho:Oc Θ c z)(hme:z.me=st.addr)(nk:NK z)(qk:QK m.S z)(hw:∀t,mS m.S t+c t+mA m.bD t+wF P t+eW e t+cm k t<=bd Θ t+zq st t)(hcm:∀t,cm k t<=cm1 t):
  N_ (OJ Θ A cm k i) i (m,e) P {st with nd:=some z} z.ot:=by
 have hil:=(fA.1 hS).1;have hi:∀s:bG,i<(m.put i s).S.length:=λs=>by rw[(gP _ _ _).1,List.length_set];exact hil
 have h':OM Θ A (cm k) m e P:=⟨h.zi,h.nk,h.qk,h.bD,h.fr,h.ev,λt=>by have:=h.wt t;have:=hcm t;omega⟩;have adj:∀(s:bG) (t:ByteArray),s.nd=some z->zq s t=wQ z.Q t:=λs t hs=>by unfold zq;rw[hs]
 have hwz:∀t,wQ z.Q t+wF z.aH t+wC z.aR t<=c t:=ho.wt;have hA:A[i]?=some st.addr:=by rw[<-h.zi,jQ,hS];rfl
 have hev:∀x∈e++ [⟨(i:Int),0,z.ot⟩],∀c∈x.o.aR,∃(j:Nat) (a:Int),x.node=(j:Int)∧A[j]?=some a∧Θ c.2=some (c.1,a):=by
  intro x hx c hc;rcases dG.1 hx with hx|hx
  ·exact h.ev x hx c hc
  ·rw[dO]at hx;subst hx;have h1:=ho.lc c hc;rw[hme]at h1;exact⟨i,st.addr,rfl,hA,h1⟩
 have afs:∀x∈e++ [⟨(i:Int),0,Ot.none⟩],∀c∈x.o.aR,∃(j:Nat) (a:Int),x.node=(j:Int)∧A[j]?=some a∧Θ c.2=some (c.1,a):=by
  intro x hx c hc;rcases dG.1 hx with hx|hx
  ·exact h.ev x hx c hc
  ·rw[dO]at hx;subst hx;cases hc
 refine⟨λhid=>⟨hi _,ET h' hS rfl (λu hu=>by cases hu;exact⟨nk,hme,qk,ho.on⟩) h.fr h.ev λt=> ?_⟩,λ_ hwr=>⟨hi _,?_⟩,λ_ hwr=>⟨hi _,?_⟩⟩
 ·have h1:=hw t;have h2:=hwz t;rw[adj _ t rfl];show mS m.S t+wQ z.Q t+mA m.bD t+wF P t+eW e t+cm k t<=bd Θ t+zq st t;omega
 ·obtain⟨w1,w2,w3,_⟩:=uU {st with nd:=some z} z.ot;have hn:=w2 hwr;refine ET h' hS w3 (λu hu=> ?_) (λf hf=> ?_) hev λt=> ?_
  ·rw[hn]at hu;cases hu;exact⟨nk,hme.trans w3.symm,qk,ho.on⟩
  ·rcases dG.1 hf with hf|hf
   ·exact ho.lf f hf
   ·exact h.fr f hf
  ·have h1:=hw t;have h2:=hwz t;rw[adj _ t hn,zV,J9];show mS m.S t+wQ z.Q t+mA m.bD t+(wF z.aH t+wF P t)+(eW e t+wC z.aR t)+cm k t<=_;omega
 ·obtain⟨w1,w2,w3,_⟩:=uU {st with nd:=some z} z.ot;have hn:(bG.write {st with nd:=some z} z.ot).1.nd=none:=by
   unfold bG.write at hwr ⊢;split at hwr
   ·cases hwr
   ·rename_i h1;rw[aG h1];split at hwr
    ·rename_i h2;rw[aM h2];rfl
    ·cases hwr
  refine ET h' hS w3 (λu hu=>by rw[hn]at hu;cases hu) h.fr afs λt=> ?_;have h1:=hw t;rw[zV];have h0:zq (bG.write {st with nd:=some z} z.ot).1 t=0:=by unfold zq;rw[hn]
  rw[h0];show mS m.S t+0+mA m.bD t+wF P t+(eW e t+0)+cm k t<=_;omega
theorem w_{s:bG}{z:St}(h:s.nd=some z)(t:ByteArray):zq s t=wQ z.Q t:=by unfold zq;rw[h]
theorem Px(m:aP)(f:Nat×Nat×ByteArray)(t:ByteArray):mA (m.launch f).bD t<=mA m.bD t+if carries t f.2.2 then 1 else 0:=by
 have h1:mA (m.bD++ [f]) t=mA m.bD t+if carries t f.2.2 then 1 else 0:=by
  unfold mA;rw[List.countP_append,List.countP_cons,List.countP_nil];simp
 rw[<-h1];unfold aP.launch;dsimp only;split
 ·exact List.Sublist.countP_le (List.tail_sublist _)
 ·exact aA _
theorem yI(i:Nat)(b:ByteArray)(t:ByteArray):∀(l:List Nat) (m:aP),mA (l.foldl (λm j=>m.launch (i,j,b)) m).bD t<=mA m.bD t+l.length * (if carries t b then 1 else 0)
 | [],_=>Nat.le_add_right _ _
 |a::l,m=>by
  rw[fQ,dY];refine dH (yI i b t l _) ?_;have:=Px m (i,a,b) t;dsimp only at this;rw[Nat.add_mul,Nat.one_mul];omega
theorem PZ(ha:m.S.map (·.addr)=A)(hn:A.Nodup)(i:Nat){t:Int}(ht:t≠0):(m.heard i t).length<=1:=by
 have hj:∀j∈m.heard i t,A[j]?=some t:=by
  intro j hj;unfold aP.heard at hj;obtain⟨h1,h2⟩:=List.mem_filter.1 hj;simp only[eG,Bool.or_eq_true,iL]at h2;have hl:=List.mem_range.1 h1;rw[<-ha,jQ,cK hl];have e:m.at' j=m.S[j]:=dX (cK hl);rw[e]at h2;rcases h2.2 with h|h
  ·exact absurd h ht
  ·rw[h];rfl
 have hnd:(m.heard i t).Nodup:=List.Pairwise.sublist List.filter_sublist List.nodup_range
 match hm:m.heard i t,hj,hnd with
 | [],_,_=>exact b_ _
 | [_],_,_=>exact aA _
 |a::b::l,hj,hnd=>
  exfalso;have h1:=hj a gm;have h2:=hj b (iI _ gm);have:=xI hn a b t h1 h2;subst this;exact(List.nodup_cons.1 hnd).1 gm
theorem aaM(hA:A.Nodup)(cm:Nat->ByteArray->Nat)(k i:Nat):VW (OJ Θ A cm k i) i:=by
 have hse:∀m e f P,OJ Θ A cm k i (m,e) (f::P)->OJ Θ A cm k i (m.bK i f,e) P:=by
  rintro m e f P ⟨hi,h⟩;have hS:=(iP m i f).1;dsimp only at hi h;refine⟨by show i<(m.bK i f).S.length;rw[hS];exact hi,by show(m.bK i f).S.map _=_;rw[hS];exact h.zi,h.nk.S hS,?_,λg hg=> ?_,λg hg=>h.fr g (iI _ hg),h.ev,λt=> ?_⟩
  ·show ∀(j:Nat) s z,(m.bK i f).S[j]?=some s->s.nd=some z->z.me=s.addr∧QK (m.bK i f).S z∧On Θ z;rw[hS];exact h.qk
  ·rcases DC m i f g hg with hg|⟨j,rfl⟩
   ·exact h.bD g hg
   ·exact(h.fr f gm).1
  ·have h1:=h.wt t;have h2:mA (m.bK i f).bD t<=mA m.bD t+(m.heard i f.1).length * (if carries t f.2 then 1 else 0):=yI i f.2 t _ m;have h3:wF (f::P) t=wF P t+if carries t f.2 then 1 else 0:=by unfold wF;rw[List.countP_cons]
   have h4:(m.heard i f.1).length * (if carries t f.2 then 1 else 0)<=if carries t f.2 then 1 else 0:=by
    cases hc:carries t f.2 with
    |false=>simp
    |true=>
     have:=PZ h.zi hA i ((h.fr f gm).2 t hc);simpa using this
   show mS (m.bK i f).S t+mA (m.bK i f).bD t+wF P t+eW e t+cm k t<=bd Θ t;rw[hS];omega
 refine⟨hse,λm e P f s z hj _ _ hs hz=> ?_⟩;obtain⟨hi,h⟩:=hse m e f P hj;dsimp only at hi h;obtain⟨q1,q2,q3⟩:=h.qk i s z hs hz;refine H_ hs h (q3.brk _ f.1) ((wu z _ f.1).1.trans q1) ((h.nk i s z hs hz).brk _ f.1).1 (q2.brk _ f.1) (λt=> ?_) λt=>aA _;have:=h.wt t;rw[w_ hz];omega
def OI(Θ:Th)(A:List Int)(cm:Nat->ByteArray->Nat)(k:Nat)(z:z_):Prop:=OM Θ A (cm k) z.1 z.2 []
theorem F5{z:St}(h:NK z)(now fr d:Int)(xs:List Int)(t:ByteArray):(z.rcv now fr xs).me=z.me∧(z.jY now).me=z.me∧(z.snd now d t).me=z.me:=by
 refine⟨?_,?_,?_⟩
 ·obtain⟨n,s',k1,k2⟩:=EG z now fr xs λq hq=>(h.Kh q hq).1;rw[k2];exact(oC k1).1
 ·obtain⟨s',k1,k2⟩:=zO z now h.Kh;rw[k2];exact(oC k1).1
 ·obtain⟨n,s',k1,k2⟩:=Eu z now d t;rw[k2];exact(oC k1).1
theorem Bc(h:F[k]?=some f)(t:ByteArray):mA (F.eraseIdx k) t+(if carries t f.2.2 then 1 else 0)=mA F t:=by
 unfold mA
 induction F generalizing k with
 |nil=>cases h
 |cons a F ih=>
  cases k with
  |zero=>
   cases h;rw[List.eraseIdx_cons_zero,List.countP_cons]
  |succ k=>
   rw[List.eraseIdx_cons_succ,List.countP_cons,List.countP_cons];have:=ih (k:=k) h;omega
theorem aaU{g:Nat×Nat×ByteArray}(h:F[k]?=some f)(t:ByteArray)(hc:carries t g.2.2=true->carries t f.2.2=true):mA (F.set k g) t<=mA F t:=by
 unfold mA
 induction F generalizing k with
 |nil=>cases h
 |cons a F ih=>
  cases k with
  |zero=>
   cases h;rw[List.set_cons_zero,List.countP_cons,List.countP_cons];cases e:carries t g.2.2 with
   |false=>simp
   |true=>rw[hc e];exact aA _
  |succ k=>
   rw[List.set_cons_succ,List.countP_cons,List.countP_cons];have:=ih (k:=k) h;omega
theorem XF(hU:LF Θ){A:List Int}(hA:A.Nodup)(cm:Nat->ByteArray->Nat)(o:Op)(ho:o.dK≠8∧o.dK≠6)(hcm:∀k t,cm k t<=cm (k+1) t)(hs2:o.dK=2->∀(a b:Nat) x y,o.a=a->o.b=b->A[a]?=some x->A[b]?=some y->Θ o.txt=some (x,y))(hsp:o.dK=2->∀t,plus (cm 0) o.txt t<=cm 1 t):Ce (OI Θ A cm) (OJ Θ A cm) o:=by
 have hlt:∀ {m:aP} {i:Nat} {s:bG},m.S[i]?=some s->i<m.S.length:=λh=>(fA.1 h).1;have hsame:∀(k0:Nat) (m:aP) (e:List Ev) (i:Nat) (s s':bG),m.S[i]?=some s->s'.addr=s.addr->(∀z,s'.nd=some z->s.nd=some z)->OI Θ A cm k0 (m,e)->OI Θ A cm k0 (m.put i s',e):=by
  intro k0 m e i s s' hS ha hn h;refine ET h hS ha (λz hz=> ?_) h.fr h.ev λt=> ?_
  ·obtain⟨h1,h2,h3⟩:=h.qk i s z hS (hn z hz);exact⟨h.nk i s z hS (hn z hz),h1.trans ha.symm,h2,h3⟩
  ·have h1:=h.wt t;have h2:zq s' t<=zq s t:=by
    cases hz:s'.nd with
    |none=>unfold zq;rw[hz];exact b_ _
    |some z=>rw[w_ hz,w_ (hn z hz)];exact aA _
   dsimp only at h1 ⊢;omega
 have hmono:∀k z,OI Θ A cm (k+1) z->OI Θ A cm k z:=λk z h=>⟨h.zi,h.nk,h.qk,h.bD,h.fr,h.ev,λt=>by have:=h.wt t;have:=hcm k t;omega⟩;refine⟨hmono,λk i z h=>h.2,λk i=>aaM hA cm k i,?_,?_,?_,λm e _ _ _ h=> ?_,?_,?_,?_,?_,?_,?_,?_,?_,?_⟩
 ·intro k0 m e a r h;refine⟨h.zi,h.nk,h.qk,h.bD,h.fr,λx hx c hc=> ?_,λt=> ?_⟩
  ·rcases dG.1 hx with hx|hx
   ·exact h.ev x hx c hc
   ·rw[dO]at hx;subst hx;cases hc
  ·have:=h.wt t;rw[zV];exact this
 ·intro k0 m e a b ha hb _ h;unfold aP.link;split
  ·exact h
  ·have hsa:=cK ha;have h1:=hsame k0 m e a _ {m.at' a with hrs:=(m.at' a).hrs.set b o.on} hsa (by rw[dX hsa]) (by rw[dX hsa];exact λz h=>h) h;have hb':b<(m.put a {m.at' a with hrs:=(m.at' a).hrs.set b o.on}).S.length:=by rw[(gP _ _ _).1,List.length_set];exact hb
   have hsb:=cK hb';exact hsame k0 _ e b _ _ hsb (by rw[dX hsb]) (by rw[dX hsb];exact λz h=>h) h1
 ·intro m e a b s z hs hz hb ho2 hoa ZL _ _ _ h;obtain⟨q1,q2,q3⟩:=h.qk a s z hs hz;have hbs:=cK hb;have hbd:∃u∈m.S,u.addr=(m.at' b).addr:=⟨_,gH hbs,by rw[dX hbs]⟩;have nk:=h.nk a s z hs hz;have hx:Θ o.txt=some (z.me,(m.at' b).addr):=by
   rw[q1];refine hs2 ho2 a b _ _ hoa ZL ?_ ?_
   ·rw[<-h.zi];show(m.S.map _)[a]?=_;rw[jQ,hs];rfl
   ·rw[<-h.zi];show(m.S.map _)[b]?=_;rw[jQ,hbs,dX hbs];rfl
  refine H_ hs h (q3.snd hU q2.nd m.now (m.at' b).addr o.txt hx) ((F5 nk m.now 0 (m.at' b).addr [] o.txt).2.2.trans q1) (nk.snd _ _ _).1 (q2.snd _ _ _ hbd) (λt=> ?_) λt=>hcm 0 t;have h1:=h.wt t;have h2:=hsp ho2 t;have h3:zq s t=wQ z.Q t:=w_ hz t;unfold plus at h2 ⊢;rw[h3];dsimp only at h1;omega
 ·have h':=hmono _ _ h;exact⟨h'.zi,h'.nk,h'.qk,h'.bD,h'.fr,h'.ev,h'.wt⟩
 ·intro k0 m e i s z hs hz _ h;obtain⟨q1,q2,q3⟩:=h.qk i s z hs hz;have nk:=h.nk i s z hs hz;refine H_ hs h (q3.jY hU q2.nd m.now) ((F5 nk m.now 0 0 [] ⟨#[]⟩).2.1.trans q1) (nk.jY _).1 (q2.jY _) (λt=> ?_) λt=>hcm k0 t;have h1:=h.wt t;have h2:=hcm k0 t;rw[w_ hz];dsimp only at h1;omega
 ·intro k0 m e k f hf _ h;refine⟨h.zi,h.nk,h.qk,λg hg=>h.bD g (List.mem_of_mem_eraseIdx hg),h.fr,h.ev,λt=> ?_⟩;have h1:=h.wt t;have h2:=Bc hf t;show mS m.S t+mA (m.bD.eraseIdx k) t+wF [] t+eW e t+cm k0 t<=_;dsimp only at h1;omega
 ·intro k0 m e k f s z hf hs hz _ h;have hfa:=h.bD f (gH hf);obtain⟨q1,q2,q3⟩:=h.qk f.2.1 s z hs hz;have nk:=h.nk f.2.1 s z hs hz;have hx:qC (ak f.2.2)=true->(pJ (ak f.2.2)).kind=9->Θ (pJ (ak f.2.2)).pay=some ((pJ (ak f.2.2)).aI,(pJ (ak f.2.2)).dest):=λh1 h2=>by
   have h3:=hfa (ak f.2.2).length;rw[List.take_length]at h3;exact h3 h1 h2
  have hin:∀t,inX (ak f.2.2) t<=if carries t f.2.2 then 1 else 0:=by
   intro t;unfold inX;split
   ·rename_i hi;rw[aM (lU.2 ⟨(ak f.2.2).length,by rw[List.take_length];exact hi⟩)];exact aA _
   ·exact b_ _
  have hm:OM Θ A (cm (k0+1)) {m with bD:=m.bD.eraseIdx k} e []:=by
   refine⟨h.zi,h.nk,h.qk,λg hg=>h.bD g (List.mem_of_mem_eraseIdx hg),h.fr,h.ev,λt=> ?_⟩;have h1:=h.wt t;have h2:=Bc hf t;show mS m.S t+mA (m.bD.eraseIdx k) t+wF [] t+eW e t+cm (k0+1) t<=_;dsimp only at h1;omega
  refine H_ (m:={m with bD:=m.bD.eraseIdx k}) hs hm (q3.rcv hU m.now (m.at' f.1).addr (ak f.2.2) hx) ((F5 nk m.now (m.at' f.1).addr 0 (ak f.2.2) ⟨#[]⟩).1.trans q1) (nk.rcv _ _ _ (mE _)).1 (q2.rcv _ _ _) (λt=> ?_) λt=>hcm k0 t;have h1:=h.wt t;have h2:=hcm k0 t;have h3:=Bc hf t;have h4:=hin t;rw[w_ hz];dsimp only at h1 ⊢;omega
 ·intro k0 m e k f _ h6 _;exact absurd h6 ho.2
 ·intro k0 m e k f n hf _ _ h;refine⟨h.zi,h.nk,h.qk,λg hg=> ?_,h.fr,h.ev,λt=> ?_⟩
  ·rcases List.mem_or_eq_of_mem_set hg with hg|rfl
   ·exact h.bD g hg
   ·exact(h.bD f (gH hf)).cut n
  ·have h1:=h.wt t;have h2:=aaU (g:=(f.1,f.2.1,f.2.2.extract 0 n)) hf t (JA n);show mS m.S t+mA (m.bD.set k (f.1,f.2.1,f.2.2.extract 0 n)) t+wF [] t+eW e t+cm k0 t<=_;dsimp only at h1;omega
 ·intro k0 m e a b s z _ _ _ h8 _;exact absurd h8 ho.1
 ·intro k0 m e a s hs h;exact hsame k0 m e a s s.stop hs rfl (λz hz=>by cases hz) h
 ·intro k0 m e a s n hs h;exact hsame k0 m e a s _ hs rfl (λz hz=>hz) h
 ·intro k0 m e a s hs hz h;obtain⟨nk,hf0⟩:=E5 s.addr s.aZ m.now;have e0:=aO (St.raw s.addr s.aZ m.now);have hQ:(St.new s.addr s.aZ m.now).Q=[]:=e0.Q;have hme:(St.new s.addr s.aZ m.now).me=s.addr:=e0.me;have hc0:(St.new s.addr s.aZ m.now).aR=[]:=e0.aR;have hA0:Cj (St.new s.addr s.aZ m.now).A:=by
   rw[show(St.new s.addr s.aZ m.now).A=(St.raw s.addr s.aZ m.now).A from e0.A];intro y hy hv;have e2:(St.raw s.addr s.aZ m.now).A=uq s.addr ((cmpL (jl s.aZ)).take (cmpL (jl s.aZ)).length):=by rw[List.take_length];rfl
   rw[e2]at hy;obtain⟨j,x,_,_,_,rfl⟩:=zQ _ _ _ y hy;cases hv
  have ho:Oc Θ (λ_=>0) (St.new s.addr s.aZ m.now):=by
   refine⟨hA0,λq hq=>(by rw[hQ]at hq;cases hq),λf hf=>(by rw[hf0]at hf;cases hf),λx hx=>(by rw[hc0]at hx;cases hx),λt=> ?_⟩;unfold wS;rw[hQ,hf0,hc0];exact aA _
  refine H_ hs h ho hme nk (Kv _ _ _ _) (λt=> ?_) λt=>hcm k0 t;have h1:=h.wt t;have h2:=hcm k0 t;dsimp only at h1;omega
open Go.RowKit Go.Maps
theorem ach{G:Int}{m:aP}(h:CM G m){k:Nat}{s:bG}(hs:m.S[k]?=some s):Zt (jl s.aZ):=by
 have hj:=h.ji k s hs;have hbd:=KH (D:=Cu m.S s.addr) (G:=G) (jl s.aZ) (λ_=>none) (λd v h=>by cases h) hj.rc;refine⟨m.S.map (·.addr),by rw[iK];have:=h.ci.len;omega,λa ha=> ?_⟩;obtain⟨v,hv⟩:=Option.isSome_iff_exists.1 ha;obtain⟨_,t,ht,e⟩:=(hbd a v hv).1;exact dh.2 ⟨t,ht,e⟩
variable{e:List Ev}{L:List Op}{m:aP}{i n:Nat}{o:Op}
def rY(i:Nat):ByteArray:=⟨#[UInt8.ofNat i]⟩
theorem Wy{j:Nat}(hi:i<256)(hj:j<256)(h:rY i=rY j):i=j:=by
 have h1:(rY i).data[0]?=(rY j).data[0]?:=by rw[h]
 have h2:UInt8.ofNat i=UInt8.ofNat j:=by simpa[rY]using h1
 have h3:=congrArg UInt8.toNat h2;rw[UInt8.toNat_ofNat',UInt8.toNat_ofNat',Nat.mod_eq_of_lt (by omega),Nat.mod_eq_of_lt (by omega)]at h3;exact h3
def GL(n:Nat)(o:Op):Bool:=decide (o.dK=2)&&decide (0<=o.a)&&decide (o.a<n)&&decide (0<=o.b)&&decide (o.b<n)
def V3(n:Nat)(L:List Op):Th:=λt=>
 match t.data.toList with
 | [b]=>match L[b.toNat]? with
  |some o=>if GL n o then some (10 * o.a+10,10 * o.b+10)else none
  |none=>none
 |_=>none
theorem Rv(hi:i<256)(ho:L[i]?=some o)(hs:GL n o=true):V3 n L (rY i)=some (10 * o.a+10,10 * o.b+10):=by
 unfold V3 rY;dsimp only;rw[UInt8.toNat_ofNat',Nat.mod_eq_of_lt (by omega),ho];dsimp only;rw[aM hs]
theorem GI{t:ByteArray}{p:Int×Int}(h:V3 n L t=some p):∃(b:UInt8) (o:Op),t=⟨#[b]⟩∧L[b.toNat]?=some o∧GL n o=true∧p=(10 * o.a+10,10 * o.b+10):=by
 unfold V3 at h;split at h
 ·rename_i b hb;split at h
  ·rename_i o ho;split at h
   ·rename_i hs;refine⟨b,o,?_,ho,hs,(Option.some.inj h).symm⟩;obtain⟨⟨l⟩⟩:=t;have:l=[b]:=hb;subst this;rfl
   ·cases h
  ·cases h
 ·cases h
theorem vB:GL n o=true ↔ o.dK=2∧0<=o.a∧o.a<n∧0<=o.b∧o.b<n:=by
 unfold GL;simp only[eG,iL];constructor
 ·rintro⟨⟨⟨⟨a,b⟩,c⟩,d⟩,e⟩;exact⟨a,b,c,d,e⟩
 ·rintro⟨a,b,c,d,e⟩;exact⟨⟨⟨⟨a,b⟩,c⟩,d⟩,e⟩
theorem acR(hn:n<=6)(L:List Op):LF (V3 n L):=by
 intro t a b h;obtain⟨_,o,_,_,hs,e⟩:=GI h;obtain⟨_,h1,h2,h3,h4⟩:=vB.1 hs;cases e;unfold a_;omega
def J3(n:Nat)(L:List Op)(i:Nat)(t:ByteArray):Nat:=
 match t.data.toList with
 | [b]=>if i<=b.toNat∧(V3 n L t).isSome then 1 else 0
 |_=>0
theorem abZ(n:Nat)(L:List Op)(i:Nat)(t:ByteArray):J3 n L i t<=bd (V3 n L) t:=by
 unfold J3 bd;split
 ·split
  ·rename_i h;rw[aM h.2];exact aA _
  ·exact b_ _
 ·exact b_ _
theorem BF(n:Nat)(L:List Op)(i:Nat)(t:ByteArray):J3 n L (i+1) t<=J3 n L i t:=by
 unfold J3;split
 ·split
  ·rename_i h;rw[aM ⟨by omega,h.2⟩];exact aA _
  ·exact b_ _
 ·exact b_ _
theorem UJ(hi:i<256)(ho:L[i]?=some o)(hs:GL n o=true)(t:ByteArray):plus (J3 n L (i+1)) (rY i) t<=J3 n L i t:=by
 unfold plus;by_cases h:rY i=t
 ·subst h;rw[aM rfl];have e:(rY i).data.toList=[UInt8.ofNat i]:=rfl;unfold J3;rw[e];dsimp only;rw[UInt8.toNat_ofNat',Nat.mod_eq_of_lt (by omega),aG (by omega),aM ⟨aA _,by rw[Rv hi ho hs];rfl⟩];exact aA _
 ·rw[aG h];exact BF n L i t
structure Og(n:Nat)(L:List Op)(i:Nat)(m:aP)(e:List Ev):Prop where
 cm:∃G,0<=G∧G<=1+2800 * (i:Int)∧CM G m
 om:OM (V3 n L) (iT n) (J3 n L i) m e []
def Op.tx(o:Op)(i:Nat):Op:={o with txt:=rY i}
theorem OM.mono{Θ:Th}{A:List Int}{c c':ByteArray->Nat}{P:kQ}(h:OM Θ A c m e P)(hc:∀t,c' t<=c t):OM Θ A c' m e P:=⟨h.zi,h.nk,h.qk,h.bD,h.fr,h.ev,λt=>by have:=h.wt t;have:=hc t;omega⟩
theorem Og.skip(h:Og n L i m e):Og n L (i+1) m e:=by
 obtain⟨G,h0,h1,hc⟩:=h.cm;exact⟨⟨G,h0,by omega,hc⟩,h.om.mono (BF n L i)⟩
theorem Og.step(h:Og n L i m e)(hi:i<256)(hfl:∀f∈m.bD,f.2.1<m.S.length){o:Op}(ho:L[i]?=some o)(h8:o.dK≠8)(h6:o.dK≠6):Og n L (i+1) (m.step (o.tx i)).1 (e++(m.step (o.tx i)).2):=by
 obtain⟨G,h0,h1,hc⟩:=h.cm;obtain⟨G',g0,g1,hc',_⟩:=hc.step h0 (by omega) hfl (o.tx i) h8;have hn:m.S.length=n:=by
  have:=congrArg List.length h.om.zi;rw[iK,lM]at this;exact this
 have hn6:n<=6:=by rw[<-hn];exact hc.ci.len
 have hlt:∀ {a:Nat} {x:Int},(iT n)[a]?=some x->a<n∧x=10 * (a:Int)+10:=λ{a x} hx=>by
  have hl:=(fA.1 hx).1;rw[lM]at hl;rw[kC hl]at hx;exact⟨hl,(Option.some.inj hx).symm⟩
 by_cases hbad:o.dK=2∧GL n o=false
 ·have hmay:m.may (o.tx i)=false:=by
   unfold aP.may;rw[aG (by show ¬o.dK=1;omega),aM (.inl hbad.1)];cases hr:m.runs (o.tx i).a&&m.has (o.tx i).b with
   |false=>rfl
   |true=>
    exfalso;rw[eG]at hr;obtain⟨r1,r2⟩:=hr;unfold aP.runs at r1;rw[eG]at r1;have r3:=r1.1;unfold aP.has at r2 r3;simp only[eG,iL]at r2 r3;rw[hn]at r2 r3;have:=vB.2 ⟨hbad.1,r3.1,r3.2,r2.1,r2.2⟩;rw[hbad.2]at this;cases this
  have hs0:m.step (o.tx i)=(m,[⟨0,5,Ot.none⟩]):=by
   unfold aP.step;rw[hmay];rfl
  rw[hs0];have h':=h.skip.om;refine⟨⟨G,h0,by omega,hc⟩,h'.zi,h'.nk,h'.qk,h'.bD,h'.fr,λx hx c hc=> ?_,λt=> ?_⟩
  ·rcases dG.1 hx with hx|hx
   ·exact h'.ev x hx c hc
   ·rw[dO]at hx;subst hx;cases hc
  ·have:=h'.wt t;rw[zV];exact this
 have hst:=XF (acR hn6 L) (Az n) (λk=>if k=0 then J3 n L (i+1)else J3 n L i) (o.tx i) ⟨h8,h6⟩ (λk t=>by
  rw[aG (by omega:¬k+1=0)];split
  ·exact BF n L i t
  ·exact aA _) (λh2 a b x y ha hb hx hy=>by
  obtain⟨a1,rfl⟩:=hlt hx;obtain⟨b1,rfl⟩:=hlt hy;have ha':o.a=a:=ha;have hb':o.b=b:=hb;rw[show(o.tx i).txt=rY i from rfl,Rv hi ho (vB.2 ⟨h2,by omega,by omega,by omega,by omega⟩),ha',hb']) λh2 t=>by
  show plus (J3 n L (i+1)) (rY i) t<=J3 n L i t;refine UJ hi ho ?_ t;cases hs:GL n o with
  |true=>rfl
  |false=>exact absurd ⟨h2,hs⟩ hbad
 refine⟨⟨G',g0,by omega,hc'⟩,?_⟩;have hI:OI (V3 n L) (iT n) (λk=>if k=0 then J3 n L (i+1)else J3 n L i) (m.S.length+1) (m,e):=h.om;exact vv hst (e:=e) hfl (aA _) hI
theorem Og.new(hn:n<=6)(L:List Op):Og n L 0 (aP.new (iT n)) []:=by
 have hc:=acg (L:=iT n) (by rw[lM];exact hn) (λa ha=>(lK hn a ha).1) (λa ha=>(lK hn a ha).2) (Az n);have hst:∀(i:Nat) s,(aP.new (iT n)).S[i]?=some s->∃a,s=Dv a:=by
  intro i s hs;have h1:((iT n).map Dv)[i]?=some s:=hs;rw[jQ]at h1;cases ha:(iT n)[i]? with
  |none=>rw[ha]at h1;cases h1
  |some a=>rw[ha]at h1;exact⟨a,(Option.some.inj h1).symm⟩
 refine⟨⟨1,by omega,by omega,hc⟩,?_,hc.nk,λi s z hs hz=> ?_,λf hf=>(by cases hf),λf hf=>(by cases hf),λx hx=>(by cases hx),λt=> ?_⟩
 ·show((iT n).map Dv).map (·.addr)=iT n;rw[List.map_map];exact List.map_id _
 ·refine⟨(hc.ci.nd i s z hs hz).1,hc.qk i s z hs hz,?_⟩;obtain⟨a,rfl⟩:=hst i s hs;cases hz;exact⟨λy hy=>(by cases hy),λq hq=>(by cases hq)⟩
 ·have h0:mS (aP.new (iT n)).S t=0:=by
   unfold mS;rw[List.sum_eq_zero_iff_forall_eq_nat];intro x hx;obtain⟨s,hs,rfl⟩:=dh.1 hx;obtain⟨j,hj⟩:=List.getElem?_of_mem hs;obtain⟨a,rfl⟩:=hst j s hj;rfl
  rw[h0];have:=abZ n L 0 t;show 0+0+0+0+J3 n L 0 t<=_;omega
theorem SQ.cell{w:World}{n i:Nat}{y:MG}{m:aP}{W:World}(h:SQ w n i y m W){B:Nat}(hB:w.heap.size<=B)(hn:¬uR y m B)(k:Nat)(v:Value):SQ w n i y m (W.setCell ⟨B,k,none⟩ v):=
 ⟨h.mm.kept λj hj=>kS W ⟨B,k,none⟩ v j (λe=>hn (show uR y m B from(show j=B from e)▸hj)),h.low,h.bl.setCell hB v,h.ok,h.fk,h.nw,h.zi⟩
theorem CM.few{G:Int}{m:aP}(h:CM G m):∀(i:Nat) s,m.S[i]?=some s->s.nd=none->Zt (jl s.aZ):=λ_ _ hs _=>ach h hs
variable{P:List ByteArray}{e:List Ev}{L:List Op}{m:aP}{B G N i k n:Nat}{W W' w:World}
def allT(e:List Ev):List ByteArray:=e.flatMap λx=>x.o.aR.map (·.2)
def Lf(P:List ByteArray)(k:Nat):Nat:=P.countP λt=>decide (t=rY k)
theorem wE(a b:List Ev):allT (a++b)=allT a++allT b:=by simp[allT]
theorem Vm(e:List Ev)(t:ByteArray):(allT e).countP (λx=>decide (x=t))=eW e t:=by
 induction e with
 |nil=>rfl
 |cons x e ih=>
  have h1:allT (x::e)=x.o.aR.map (·.2)++allT e:=rfl;have h2:eW (x::e) t=wC x.o.aR t+eW e t:=rfl;rw[h1,h2,List.countP_append,ih,List.countP_map];rfl
theorem Og.one(h:Og n L i m e){P:List ByteArray}(hp:P<+:allT e)(k:Nat):Lf P k<=1:=by
 have h1:Lf P k<=Lf (allT e) k:=List.Sublist.countP_le hp.sublist;have h2:Lf (allT e) k=eW e (rY k):=Vm e (rY k);have h3:=h.om.wt (rY k);have h4:bd (V3 n L) (rY k)<=1:=by unfold bd;split<;>omega
 omega
theorem Og.came(h:Og n L i m e){x:Ev}(hx:x∈e){c:Int×ByteArray}(hc:c∈x.o.aR):∃(b:UInt8) (o:Op),c.2=⟨#[b]⟩∧L[b.toNat]?=some o∧o.dK=2∧x.node=o.b∧c.1=10 * o.a+10∧0<=o.a∧o.a<n:=by
 obtain⟨j,a,h1,h2,h3⟩:=h.om.ev x hx c hc;obtain⟨b,o,e1,e2,e3,e4⟩:=GI h3;obtain⟨s1,s2,s3,s4,s5⟩:=vB.1 e3;have hl:=(fA.1 h2).1;rw[lM]at hl;rw[kC hl]at h2;have h2':=Option.some.inj h2;have e4':c.1=10 * o.a+10∧a=10 * o.b+10:=by
  have h5:=congrArg Prod.fst e4;have h6:=congrArg Prod.snd e4;exact⟨h5,h6⟩
 exact⟨b,o,e1,e2,s1,by rw[h1];omega,e4'.1,s2,s3⟩
theorem aag(b:UInt8):(⟨#[b]⟩:ByteArray)=rY b.toNat:=by
 unfold rY;rw[UInt8.ofNat_toNat]
def qw(N:Nat)(P:List ByteArray):List Value:=(List.range N).map λk=>Value.int .i64 (Lf P k:Int)
theorem sF(N:Nat)(P:List ByteArray):(qw N P).length=N:=by simp[qw]
theorem wo(P:List ByteArray)(h:k<N):(qw N P)[k]?=some (.int .i64 (Lf P k:Int)):=by
 unfold qw;rw[jQ,List.getElem?_range h];rfl
theorem Qw(P:List ByteArray)(h:k<N)(hk:k<256)(hN:N<=256):(qw N P).set k (.int .i64 ((Lf P k:Int)+1))=qw N (P++ [rY k]):=by
 refine List.ext_getElem? λj=> ?_;by_cases hj:j<N
 ·rw[wo _ hj];have hc:Lf (P++ [rY k]) j=Lf P j+if rY k=rY j then 1 else 0:=by
   unfold Lf;rw[List.countP_append,List.countP_singleton];simp
  by_cases e:j=k
  ·subst e;rw[List.getElem?_set_self (by rw[sF];exact h),hc,aM rfl];simp
  ·rw[List.getElem?_set_ne (λh=>e h.symm),wo _ hj,hc,aG (λh=>e (Wy hk (by omega) h).symm)];rfl
 ·rw[List.getElem?_eq_none (by rw[List.length_set,sF];omega),List.getElem?_eq_none (by rw[sF];omega)]
def Q7(B N:Nat)(P:List ByteArray)(W:World):Prop:=W.heap[B]?=some (.cells (qw N P).toArray 3 (0,0))
theorem Q7.later(h:Q7 B N P W)(hb:Below W.heap.size W W'):Q7 B N P W':=(hb.block B (aD h)).trans h
theorem Q7.turn{y y':MG}{m':aP}(h:Q7 B N P W)(hm:MM y m W)(u:MU y m y' m' W W'):Q7 B N P W':=(u.fx.block B (aD h) (hm.not h (by decide))).trans h
theorem Q7.add(h:Q7 B N P W)(hk:k<N)(hN:N<=256):Q7 B N (P++ [rY k]) (W.setCell ⟨B,k,none⟩ (.int .i64 ((Lf P k:Int)+1))):=by
 unfold Q7;rw[heap_setCell_same W B k _ _ _ h,<-Qw P hk (by omega) hN];simp
def OS(w:World)(n G B:Nat)(L:List Op)(k:Nat)(W:World):Prop:=∃(c:Nat) (y:MG) (m:aP) (e:List Ev),c<=k∧y.G=G∧SQ w n c y m W∧Og n L k m e∧Q7 B L.length (allT e) W∧w.heap.size<=B
theorem OS.later(h:OS w n G B L k W)(hb:Below W.heap.size W W'):OS w n G B L k W':=by
 obtain⟨c,y,m,e,h1,h2,h3,h4,h5,h6⟩:=h;exact⟨c,y,m,e,h1,h2,h3.later hb,h4,h5.later hb,h6⟩
theorem OS.skip(h:OS w n G B L k W):OS w n G B L (k+1) W:=by
 obtain⟨c,y,m,e,h1,h2,h3,h4,h5,h6⟩:=h;exact⟨c,y,m,e,by omega,h2,h3,h4.skip,h5,h6⟩
theorem OS.below(h:OS w n G B L k W):Below w.heap.size w W:=by
 obtain⟨c,y,m,e,h1,h2,h3,_⟩:=h;exact h3.bl
theorem TS:(Tryz.prog.info? 3).map (λi=>(i.zero,i.size,i.bytes))=some (some (.int .i64 0),1,8):=by kernel_rfl
theorem Qv(N:Nat):qw N []=List.replicate N (.int .i64 0):=by
 refine List.ext_getElem? λj=> ?_;by_cases hj:j<N
 ·rw[wo _ hj,List.getElem?_replicate,aM hj];rfl
 ·rw[List.getElem?_eq_none (by rw[sF];omega),List.getElem?_eq_none (by rw[List.length_replicate];omega)]
theorem Pw(N:Nat)(hn:N<=250)(W:World):(Instr.makeSlice 44 (.int .i64 (N:Int)) (.int .i64 (N:Int))).run Tryz.prog W=.ok (.slice (some ⟨W.heap.size,0,none⟩) N N) (W.alloc (.cells (qw N []).toArray 3)):=by
 obtain⟨i0,hi,hz0,hz1,hz2⟩:=info_parts TS;have h:=run_make (P:=Tryz.prog) W 44 3 i0 (.int .i64 0) Tryz.underlying44 hi hz0 .i64 .i64 (N:Int) (N:Int) (by omega) (by omega) (by rw[hz2];omega) (by omega);have e:madeCells (Value.int .i64 0).cells ((N:Int).toNat * i0.size)=(qw N []).toArray:=by
  rw[hz1,jo,Nat.mul_one,Qv];have h1:=toList_madeCells_one (Value.int .i64 0) N;rw[<-h1];rfl
 rw[e]at h;simpa using h
theorem aaI(hn:n<=6){y:MG}{W:World}(h:SQ w n 0 y (aP.new (iT n)) W)(L:List Op):OS w n y.G W.heap.size L 0 (W.alloc (.cells (qw L.length []).toArray 3)):=
 ⟨0,y,_,[],aA _,rfl,h.later (bC),Og.new hn L,bS _ _,h.bl.size⟩
theorem Y3(W:World)(k:Nat)(hk:k<256):(convert 58 9 (.slice (some ⟨W.heap.size,0,none⟩) 1 1)).run Tryz.prog (W.alloc (.cells #[.int .u8 (k:Int)] 5))=.ok (.string (rY k)) (W.alloc (.cells #[.int .u8 (k:Int)] 5)):=by
 have hr:fo (W.alloc (.cells #[.int .u8 (k:Int)] 5)) (.slice (some ⟨W.heap.size,0,none⟩) 1 1) [(k:Int)]:=by
  refine⟨λx hx=> ?_,.inr ⟨W.heap.size,0,1,rfl,?_,?_,?_⟩⟩
  ·rw[dO]at hx;omega
  ·exact aA _
  ·omega
  ·intro j x hj
   match j,hj with
   |0,hj=>
    cases hj;exact jP W _ _ _
   |j+1,hj=>simp at hj
 have h:=oP hr;have e:strOfNums [(k:Int)]=rY k:=by
  unfold strOfNums rY;simp
 rw[e]at h;exact h
variable{x:Ev}{Lv:List (Ev×J7)}{E ev:List Ev}{y:MG}{m:aP}{B N b c1 j kk n q:Nat}{v:Value}{W w:World}
def rR(E:List Ev)(j:Nat):List (Int×ByteArray):=match E[j]? with|some x=>x.o.aR|none=> []
def PO(ev E:List Ev)(j q:Nat):List ByteArray:=allT ev++(allT (E.take j)++((rR E j).map (·.2)).take q)
theorem Zk(ev E:List Ev):PO ev E 0 0=allT ev:=by simp[PO,allT]
theorem acs(ev E:List Ev):PO ev E E.length 0=allT (ev++E):=by
 unfold PO;rw[List.take_length,List.take_zero,gT,wE]
theorem Ei(h:E[j]?=some x):allT (E.take (j+1))=allT (E.take j)++x.o.aR.map (·.2):=by
 rw[List.take_add_one,h,wE];simp[allT]
theorem Zl(h:E[j]?=some x):PO ev E j (rR E j).length=PO ev E (j+1) 0:=by
 have hcs:rR E j=x.o.aR:=by unfold rR;rw[h]
 unfold PO;rw[hcs,List.take_zero,gT,Ei h,jE (l:=x.o.aR.map (·.2)) (by rw[iK];exact aA _)]
theorem Oe{c:Int×ByteArray}(h:(rR E j)[q]?=some c):PO ev E j (q+1)=PO ev E j q++ [c.2]:=by
 unfold PO;rw[List.take_add_one,jQ,h];simp
theorem acr(hj:j<E.length):PO ev E j q<+:allT (ev++E):=by
 have hx:=cK hj;rw[wE];unfold PO;refine(List.prefix_append_right_inj _).2 ?_;have h1:allT E=allT (E.take (j+1))++allT (E.drop (j+1)):=by rw[<-wE,List.take_append_drop]
 rw[h1,Ei hx,List.append_assoc];refine(List.prefix_append_right_inj _).2 ?_;have h2:rR E j=E[j].o.aR:=by unfold rR;rw[hx]
 rw[h2];exact(List.take_prefix _ _).trans (List.prefix_append _ _)
def ES(w:World)(n c1 B N b:Nat)(y:MG)(m:aP)(v:Value)(Lv:List (Ev×J7))(ev:List Ev)(j q:Nat)(W:World):Prop:=SQ w n c1 y m W∧gN b v Lv W∧Q7 B N (PO ev (Lv.map (·.1)) j q) W∧w.heap.size<=B
theorem ES.later{W':World}(h:ES w n c1 B N b y m v Lv ev j q W)(hb:Below W.heap.size W W'):ES w n c1 B N b y m v Lv ev j q W':=⟨h.1.later hb,h.2.1.later hb,h.2.2.1.later hb,h.2.2.2⟩
theorem MH{base e size:Nat}{xs:List Value}(h:W.ownsRow base e size v n xs):n<=9223372036854775807:=by
 rcases h.2 with⟨_,h0⟩|⟨g,cap,cur,rfl,_,_,hl,hm,_⟩
 ·omega
 ·unfold maxLen at hm;omega
theorem Jl(h:gN b v Lv W){j:Nat}(hj:j<Lv.length):∃(gv cv:Nat) (x:Ev) (ac:Option Addr) (ca:Nat),v=.slice (some ⟨gv,0,none⟩) Lv.length cv∧(Lv.map (·.1))[j]?=some x∧W.cell? ⟨gv,j * 7,none⟩=some (.int .i64 x.node)∧W.cell? ⟨gv,j * 7+5,none⟩=some (.slice ac x.o.aR.length ca)∧∀(q:Nat) c,x.o.aR[q]?=some c->∃ga,ac=some ⟨ga,0,none⟩∧W.cell? ⟨ga,q * 2,none⟩=some (.int .u32 c.1)∧W.cell? ⟨ga,q * 2+1,none⟩=some (.string c.2):=by
 obtain⟨gv,cv,rfl,_⟩:=bY h.row (by omega);obtain⟨⟨x,u⟩,hx⟩:∃p,Lv[j]?=some p:=⟨_,cK hj⟩;have hc:∀i,i<7->∀z,(xX (x,u))[i]?=some z->W.cell? ⟨gv,j * 7+i,none⟩=some z:=λi hi z hz=>(h.row.cellAt (j * 7+i) (by omega)).trans ((jk xX 7 (by decide) (λ_=>rfl) Lv j i hi hx).trans hz);have ho:=h.out _ (gH hx);obtain⟨ac,ca,abA,_⟩:=ay ho.bL;dsimp only at abA;have h5:=hc 5 (by decide) _ rfl;dsimp only at h5;rw[abA]at h5;refine⟨gv,cv,x,ac,ca,rfl,by rw[jQ,hx];rfl,hc 0 (by decide) _ rfl,h5,λq c hq=> ?_⟩;have hql:=(fA.1 hq).1;have hrow:=ho.bL;dsimp only at hrow;rw[abA]at hrow;obtain⟨ga,ca',he,_⟩:=bY hrow (by omega);cases he;have hd:∀i,i<2->∀z,([.int .u32 c.1,.string c.2]:List Value)[i]?=some z->W.cell? ⟨ga,q * 2+i,none⟩=some z:=λi hi z hz=>(hrow.cellAt (q * 2+i) (by omega)).trans ((jk (λx:Int×ByteArray=>([.int .u32 x.1,.string x.2]:List Value)) 2 (by decide) (λ_=>rfl) x.o.aR q i hi hq).trans hz);exact⟨ga,rfl,hd 0 (by decide) _ rfl,hd 1 (by decide) _ rfl⟩
theorem ES.cell(h:ES w n c1 B N b y m v Lv ev j q W)(hN:N<=256)(hk:kk<N){c:Int×ByteArray}(hc:(rR (Lv.map (·.1)) j)[q]?=some c)(hck:c.2=rY kk)(h0:Lf (PO ev (Lv.map (·.1)) j q) kk=0):ES w n c1 B N b y m v Lv ev j (q+1) (W.setCell ⟨B,kk,none⟩ (.int .i64 1)):=by
 obtain⟨h1,h2,h3,h4⟩:=h;have hs:=h3.add hk hN;rw[h0,<-hck,<-Oe hc]at hs;have hne:∀(k:Nat) (cs:Array Value) (t:Nat),t∈evK->W.heap[k]?=some (Obj.cells cs t (0,0))->k≠B:=λk cs t ht hk e=>by
  rw[e,h3]at hk;cases hk;exact absurd ht (by decide)
 exact⟨h1.cell h4 (h1.mm.not h3 (by decide)) kk _,h2.at λk cs t ht hk=>kS W ⟨B,kk,none⟩ _ k (hne k cs t ht hk),hs,h4⟩
theorem Y7{P:List ByteArray}(h:Q7 B N P W)(hk:kk<N):W.cell? ⟨B,kk,none⟩=some (.int .i64 (Lf P kk:Int))∧W.frozen? ⟨B,kk,none⟩=false∧B<W.heap.size:=by
 have h1:=aF W B kk _ _ _ h;rw[List.getElem?_toArray,wo P hk]at h1;exact⟨h1,lX W B kk _ _ h,aD h⟩
end Go.Proofs.YtakaadcpaeiccabGreat
