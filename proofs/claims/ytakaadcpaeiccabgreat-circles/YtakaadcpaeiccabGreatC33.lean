import Derived.Test.YtakaadcpaeiccabGreatC32
namespace Go.Proofs.YtakaadcpaeiccabGreat
variable{G G' d h h' q q':Int}{r:Int×Int}{i k:Nat}{s s':bJ}{p p':bJ->Bool}
def vr(s:bJ)(d:Int):Option (Int×Int):=
 match s.nd with
 |some z=>(aJ z.A d).map λy=>(rk y,y.hops)
 |none=>(mI (jl s.bn) d).map λq=>(q,0)
def om(r:Int×Int)(q h:Int):Bool:=decide (q<r.1)||(decide (r.1=q)&&decide (r.2<=h))
def tF(s:bJ)(d q h:Int):Bool:=
 match vr s d with
 |some r=>om r q h
 |none=>false
def cP(d q h:Int)(s:bJ):Bool:=decide (s.addr=d)||tF s d q h
def cnt(S:List bJ)(d q h:Int):Nat:=S.countP (cP d q h)
structure lZ(s s':bJ):Prop where
 addr:s'.addr=s.addr
 ge:∀d q h,d≠s.addr->tF s d q h=true->tF s' d q h=true
theorem lZ.refl(s:bJ):lZ s s:=⟨rfl,λ_ _ _ _ h=>h⟩
theorem lZ.trans{a b c:bJ}(p:lZ a b)(q:lZ b c):lZ a c:=⟨q.addr.trans p.addr,λd x h hd e=>q.ge d x h (by rw[p.addr];exact hd) (p.ge d x h hd e)⟩
theorem abF(e:om r q h=true)(hle:q'<q∨(q'=q∧h<=h')):om r q' h'=true:=by
 unfold om at *;simp only[Bool.or_eq_true,fF,jg]at *;omega
theorem lV(q h:Int):om (q,h) q h=true:=by simp[om]
theorem Dk(e:om r q h=true)(f:om (q,h) q' h'=true):om r q' h'=true:=by
 unfold om at *;simp only[Bool.or_eq_true,fF,jg]at *;omega
theorem ZV(e:tF s d q h=true)(hle:q'<q∨(q'=q∧h<=h')):tF s d q' h'=true:=by
 unfold tF at *;split
 ·rename_i r hr;rw[hr]at e;exact abF e hle
 ·rename_i hr;rw[hr]at e;exact e
theorem ZI(e:cP d q h s=true)(hle:q'<q∨(q'=q∧h<=h')):cP d q' h' s=true:=by
 unfold cP at *;rw[Bool.or_eq_true]at *;exact e.imp_right λe=>ZV e hle
theorem aef(l:lZ s s')(e:cP d q h s=true):cP d q h s'=true:=by
 unfold cP at *;rw[l.addr];by_cases hd:s.addr=d
 ·simp[hd]
 ·rw[Bool.or_eq_true]at *;rcases e with e|e
  ·exact .inl e
  ·exact .inr (l.ge d q h (λh=>hd h.symm) e)
theorem sV:∀(S:List bJ) (i:Nat) (s':bJ),(∀t,p t=true->p' t=true)->(∀s,S[i]?=some s->p s=true->p' s'=true)->S.countP p<=(S.set i s').countP p'
 | [],_,_,_,_=>dh _
 |t::S,0,s',hp,hs=>by
  rw[List.set_cons_zero,List.countP_cons,List.countP_cons];have h1:S.countP p<=S.countP p':=List.countP_mono_left λt _ h=>hp t h;have h2:=hs t rfl;cases e:p t
  ·simp only[Bool.false_eq_true,if_false];omega
  ·rw[aQ rfl,aQ (h2 e)];omega
 |t::S,i+1,s',hp,hs=>by
  rw[List.set_cons_succ,List.countP_cons,List.countP_cons];have h1:=sV S i s' hp (λs h=>hs s h);cases e:p t
  ·simp only[Bool.false_eq_true,if_false];omega
  ·rw[aQ rfl,aQ (hp t e)];omega
theorem qm:∀(S:List bJ) (i:Nat) (s s':bJ),(∀t,p t=true->p' t=true)->S[i]?=some s->p s=false->p' s'=true->S.countP p+1<=(S.set i s').countP p'
 | [],_,_,_,_,h,_,_=>by cases h
 |t::S,0,s,s',hp,h,h1,h2=>by
  cases h;rw[List.set_cons_zero,List.countP_cons,List.countP_cons,h1,aQ h2];have h1:S.countP p<=S.countP p':=List.countP_mono_left λt _ h=>hp t h;simp only[Bool.false_eq_true,if_false];omega
 |t::S,i+1,s,s',hp,h,h1,h2=>by
  rw[List.set_cons_succ,List.countP_cons,List.countP_cons];have h3:=qm S i s s' hp h h1 h2;cases e:p t
  ·simp only[Bool.false_eq_true,if_false];omega
  ·rw[aQ rfl,aQ (hp t e)];omega
theorem Fe{S:List bJ}(hs:S[i]?=some s)(l:lZ s s')(d q h:Int):cnt S d q h<=cnt (S.set i s') d q h:=
 sV S i s' (λ_ h=>h) λt ht h=>by
  rw[hs]at ht;cases ht;exact aef l h
theorem UF{S:List bJ}(hs:S[i]?=some s){d q h h':Int}(hle:h<=h')(h1:cP d q h s=false)(h2:cP d q h' s'=true):cnt S d q h+1<=cnt (S.set i s') d q h':=
 qm S i s s' (λ_ h=>ZI h (.inr ⟨rfl,hle⟩)) hs h1 h2
theorem UE(S:List bJ)(d q:Int){h h':Int}(hle:h<=h'):cnt S d q h<=cnt S d q h':=List.countP_mono_left λ_ _ e=>ZI e (.inr ⟨rfl,hle⟩)
theorem Kz(S:List bJ)(d q h:Int):cnt S d q h<=S.length:=List.countP_le_length
theorem Nk{S:List bJ}(q h:Int)(hd:∃s∈S,s.addr=d):1<=cnt S d q h:=by
 obtain⟨s,hs,e⟩:=hd;exact List.countP_pos_iff.2 ⟨s,hs,by simp[cP,e]⟩
structure yC(G:Int)(S:List bJ)(i:Nat)(y:Rt):Prop where
 dest:∃s∈S,s.addr=y.dest
 hp:0<=y.hops
 sq:0<=y.seq∧y.seq<=G
 nx:y.valid=true->∃j s,j≠i∧S[j]?=some s∧s.addr=y.next∧(y.dest=y.next∨tF s y.dest y.seq (y.hops - 1)=true)
 hc:y.valid=true->y.hops+8<=8 * (cnt S y.dest y.seq y.hops:Int)
structure ZQ(G:Int)(S:List bJ)(j:Nat)(p:aF)(L:List (Int×Int)):Prop where
 k1:p.kind=1->(∃s∈S,s.addr=p.aK)∧0<=p.hops∧(0<=p.dx∧p.dx<=G)∧(0<=p.a_∧p.a_<=G)∧p.hops+p.ttl<=8 * (cnt S p.aK p.dx p.hops:Int)∧∃s,S[j]?=some s∧(s.addr=p.aK∨tF s p.aK p.dx p.hops=true)
 k2:p.kind=2->(∃s∈S,s.addr=p.dest)∧0<=p.hops∧(0<=p.a_∧p.a_<=G)∧p.hops+p.ttl<=8 * (cnt S p.dest p.a_ p.hops:Int)∧∃s,S[j]?=some s∧(s.addr=p.dest∨tF s p.dest p.a_ p.hops=true)
 k3:p.kind=3->∀x∈L,0<=x.2∧x.2<=G
theorem gI{S:List bJ}(hs:S[i]?=some s)(e:s'.addr=s.addr){d:Int}(h:∃t∈S,t.addr=d):∃t∈S.set i s',t.addr=d:=by
 obtain⟨t,ht,hd⟩:=h;obtain⟨k,hk⟩:=List.getElem?_of_mem ht;by_cases hki:k=i
 ·subst hki;rw[hs]at hk;cases hk;exact⟨s',gG (List.getElem?_set_self (eB.1 hs).1),e.trans hd⟩
 ·exact⟨t,gG ((List.getElem?_set_ne (λe=>hki e.symm)).trans hk),hd⟩
theorem mY{S:List bJ}(hs:S[i]?=some s)(l:lZ s s'){j:Nat}{t:bJ}(h:S[j]?=some t):∃t',(S.set i s')[j]?=some t'∧lZ t t':=by
 by_cases hji:j=i
 ·subst hji;rw[hs]at h;cases h;exact⟨s',List.getElem?_set_self (eB.1 hs).1,l⟩
 ·exact⟨t,(List.getElem?_set_ne (λe=>hji e.symm)).trans h,lZ.refl t⟩
theorem Zd{t t':bJ}(l:lZ t t'){d q h:Int}(hd:d≠t.addr∨t.addr=d)(e:t.addr=d∨tF t d q h=true):t'.addr=d∨tF t' d q h=true:=by
 rcases hd with hd|hd
 ·rcases e with e|e
  ·exact absurd e.symm hd
  ·exact .inr (l.ge d q h hd e)
 ·exact .inl (l.addr.trans hd)
theorem yC.set{S:List bJ}{y:Rt}(h:yC G S k y)(hG:G<=G')(hs:S[i]?=some s)(l:lZ s s'):yC G' (S.set i s') k y:=by
 refine⟨gI hs l.addr h.dest,h.hp,⟨h.sq.1,Int.le_trans h.sq.2 hG⟩,λhv=> ?_,λhv=> ?_⟩
 ·obtain⟨j,t,hj,ht,ha,hb⟩:=h.nx hv;obtain⟨t',ht',lt⟩:=mY hs l ht;refine⟨j,t',hj,ht',lt.addr.trans ha,?_⟩;by_cases hd:y.dest=y.next
  ·exact .inl hd
  ·refine .inr (lt.ge _ _ _ (by rw[ha];exact hd) ?_);rcases hb with hb|hb
   ·exact absurd hb hd
   ·exact hb
 ·have h1:=h.hc hv;have h2:=Fe hs l y.dest y.seq y.hops;omega
theorem ZQ.set{S:List bJ}{p:aF}{L:List (Int×Int)}(h:ZQ G S k p L)(hG:G<=G')(hs:S[i]?=some s)(l:lZ s s'):ZQ G' (S.set i s') k p L:=by
 refine⟨λhk=> ?_,λhk=> ?_,λhk x hx=> ?_⟩
 ·obtain⟨h1,h2,h3,h4,h5,t,ht,h6⟩:=h.k1 hk;obtain⟨t',ht',lt⟩:=mY hs l ht;have:=Fe hs l p.aK p.dx p.hops;exact⟨gI hs l.addr h1,h2,⟨h3.1,by omega⟩,⟨h4.1,by omega⟩,by omega,t',ht',Zd lt (by by_cases e:t.addr=p.aK;exact .inr e;exact .inl λh=>e h.symm) h6⟩
 ·obtain⟨h1,h2,h3,h5,t,ht,h6⟩:=h.k2 hk;obtain⟨t',ht',lt⟩:=mY hs l ht;have:=Fe hs l p.dest p.a_ p.hops;exact⟨gI hs l.addr h1,h2,⟨h3.1,by omega⟩,by omega,t',ht',Zd lt (by by_cases e:t.addr=p.dest;exact .inr e;exact .inl λh=>e h.symm) h6⟩
 ·have:=h.k3 hk x hx;omega
variable{b:ByteArray}{G:Int}{L:List (Int×Int)}{j k:Nat}{p:aF}
def g8(x:Int):Int:=((x.toNat%256:Nat):Int)
theorem abH(x:Int):0<=g8 x∧g8 x<=255:=by unfold g8;omega
theorem sS{x:Int}(h:0<=x∧x<=255):g8 x=x:=by unfold g8;omega
theorem Z7(xs:List Int):aI (strOfNums xs)=xs.map g8:=by
 simp only[aI,strOfNums_data,List.map_map];refine List.map_congr_left λx _=> ?_;simp only[Function.comp_apply];rw[UInt8.toNat_ofNat'];rfl
def w8(n:Int):Int:=n4 (g8 (n / 16777216)) (g8 (n / 65536%256)) (g8 (n / 256%256)) (g8 (n%256))
theorem UQ(n:Int):(b4 n).map g8=b4 (w8 n):=by
 unfold w8;rw[aeg (abH _) (abH _) (abH _)];rfl
theorem Y6{n:Int}(h:bB n):w8 n=n:=by
 unfold bB at h;unfold w8;rw[sS (by omega),sS (by omega),sS (by omega),sS (by omega)];exact Zg
theorem jK:w8 0=0:=by decide
def wP(p:aF):aF:={p with id:=w8 p.id,dest:=w8 p.dest,a_:=w8 p.a_,aK:=w8 p.aK,dx:=w8 p.dx,life:=w8 p.life}
def wL(L:List (Int×Int)):List (Int×Int):=L.map λx=>(w8 x.1,w8 x.2)
theorem VT(p:aF):(wP p).nums=p.nums.map λx=>(x.1,w8 x.2):=by
 unfold aF.nums;show(if p.kind=1 then _ else if p.kind=2 then _ else if p.kind=9 then _ else _)=_;split
 ·rfl
 ·split
  ·rfl
  ·split<;>rfl
theorem Xw{xs:List Int}(h:∀x∈xs,0<=x∧x<=255):xs.map g8=xs:=by
 conv=>rhs;rw[<-List.map_id xs]
 exact List.map_congr_left λx hx=>sS (h x hx)
theorem Um(hg:p.eU=true):0<=p.cnt∧p.cnt<=255:=by
 obtain⟨_,_,_,h0,h1,hp,hk⟩:=eT hg;unfold aF.cnt;split
 ·rcases hk with h|h|h|h<;>omega
 ·split<;>omega
theorem abO(hg:p.eU=true)(L:List (Int×Int)):(yP p L).map g8=yP (wP p) (wL L):=by
 have hc:=Um hg;obtain⟨_,t0,t1,_,_,_,hk⟩:=eT hg;have hf:0<=nT p∧nT p<=255:=by unfold nT;split<;>omega
 have h1:(p.head).map g8=(wP p).head:=by
  have e:p.head.map g8=[g8 p.ttl,g8 p.kind,g8 (nT p),g8 0,g8 p.cnt]:=rfl;rw[e,sS (by omega),sS (by rcases hk with h|h|h|h<;>omega),sS hf,sS (by omega),sS hc];rfl
 have h2:(p.kQ p.nums.length).map g8=(wP p).kQ (wP p).nums.length:=by
  unfold aF.kQ;rw[ko (aD _),ko (aD _),VT,List.map_flatMap,List.flatMap_map]
  congr 1
  funext x
  exact UQ x.2
 have h3:(iq L L.length).map g8=iq (wL L) (wL L).length:=by
  unfold iq;rw[ko (aD _),ko (aD _),List.map_flatMap];unfold wL;rw[List.flatMap_map]
  congr 1
  funext x
  rw[List.map_append,UQ,UQ]
 have h4:(aI p.pay).map g8=aI (wP p).pay:=Xw (ou p.pay);unfold yP;rw[List.map_append,List.map_append,List.map_append,h1,h2,h3,h4]
theorem Yh(hg:p.eU=true):(wP p).eU=true:=by
 obtain⟨_,_,_,_,_,_,hk⟩:=eT hg;obtain⟨ttl,kind,hops,unk,id,dest,a_,aK,dx,life,la,ln,lc,pay⟩:=p;unfold aF.eU at hg ⊢;simp only[fF]at hg ⊢;obtain⟨⟨⟨h1,h2⟩,h3⟩,h4⟩:=hg;refine⟨⟨⟨h1,h2⟩,?_⟩,?_⟩
 ·unfold wP;dsimp only at h3 ⊢;cases unk
  ·rfl
  ·have hd:a_=0:=by simpa using h3
   subst hd;rfl
 ·dsimp only at hk;rcases hk with rfl|rfl|rfl|⟨rfl,_,_⟩
  ·simp[aF.lW,aF.kP,wP]at h4 ⊢;obtain⟨a,b,c⟩:=h4;exact⟨by rw[a];exact jK,b,c⟩
  ·simp[aF.lW,aF.kP,wP]at h4 ⊢;obtain⟨a,b,c⟩:=h4;exact⟨by rw[a];exact jK,by rw[b];exact jK,c⟩
  ·simp[aF.lW,aF.kP,wP]at h4 ⊢;obtain⟨a,b,c,d⟩:=h4;exact⟨by rw[a];exact jK,by rw[b];exact jK,by rw[c];exact jK,d⟩
  ·simp[aF.lW,aF.kP,wP]at h4 ⊢;obtain⟨a,b,c,d,e,f,g⟩:=h4;exact⟨by rw[a];exact jK,by rw[b];exact jK,by rw[c];exact jK,by rw[d];exact jK,by rw[e];exact jK,by rw[f];exact jK,g⟩
theorem Hq{x0 x1 x2 x3 x4:Int}{r:List Int}(hl:r.length<=dO x1 x4)(h:vG ((x0::x1::x2::x3::x4::r).take k)=true):(x0::x1::x2::x3::x4::r).take k=x0::x1::x2::x3::x4::r∧r.length=dO x1 x4:=by
 match k,h with
 |0,h=>cases h
 |1,h=>cases h
 |2,h=>cases h
 |3,h=>cases h
 |4,h=>cases h
 |k+5,h=>
  simp only[List.take_succ_cons]at h ⊢;have h1:(r.take k).length=dO x1 x4:=by
   refine Classical.byContradiction λhn=> ?_;rw[fD hn]at h;cases h
  rw[List.length_take]at h1;exact⟨by rw[ko (by omega)],by omega⟩
def Xc(xs:List Int):aF:=iX (xs.getD 0 0) (xs.getD 1 0) (xs.getD 2 0) (xs.getD 4 0) (xs.drop 5)
def lsX(xs:List Int):List (Int×Int):=nC (xs.getD 1 0) (xs.getD 4 0) (xs.drop 5)
theorem aaT(fr:Int)(xs:List Int):MS fr xs=some (fr,Xc xs,lsX xs):=rfl
theorem Ym(hz:L=[]∨L.length=p.ln){k:Nat}(h:vG ((aI (strOfNums (nI p L))).take k)=true):
  p.eU=true∧L.length=p.ln∧Xc ((aI (strOfNums (nI p L))).take k)={wP p with la:=none,lc:=0}∧lsX ((aI (strOfNums (nI p L))).take k)=wL L:=by
 rw[Z7]at h ⊢;unfold nI at h ⊢;cases hg:p.eU with
 |false=>
  rw[hg]at h;simp only[Bool.false_eq_true,if_false,List.map_nil,List.take_nil]at h;cases h
 |true=>
  rw[hg]at h;rw[aQ rfl,abO hg]at h ⊢;have hgw:=Yh hg;obtain⟨hl,_,_,_,_,hp,hk⟩:=eT hg;have hln:=(pR hl).1;have hkk:(wP p).kind=p.kind:=rfl;have hlen:L.length=p.ln:=by
   rcases hz with rfl|hz
   ·rcases hk with hk|hk|hk|hk
    ·rw[hln];simp[aF.dz,hk]
    ·rw[hln];simp[aF.dz,hk]
    ·rw[hln];simp[aF.dz,hk]
    ·exfalso;rw[Dn]at h;have h0:(qK (wP p) (wL [])).length=0:=by
      unfold qK;have h1:(wP p).kQ (wP p).nums.length=[]:=by
       unfold aF.kQ aF.nums;rw[hkk,hk.1];rfl
      have h2:aI (wP p).pay=[]:=by
       have h3:=(pR hl).2.2.2;show aI p.pay=[];rw[h3];unfold aF.dz;rw[hk.1];rfl
      rw[h1,h2];rfl
     have h1:=(Hq (by rw[h0];exact dh _) h).2;rw[h0]at h1;have h2:=R_ (wP p) hgw;omega
   ·exact hz
  have hlw:(wL L).length=(wP p).ln:=by
   unfold wL;rw[iK];exact hlen
  obtain⟨d1,d2,d3⟩:=YA (wP p) hgw (wL L) hlw;refine⟨rfl,hlen,?_⟩;rw[Dn]at h ⊢;have e:=(Hq (Nat.le_of_eq d1) h).1;rw[e];exact⟨d2,d3⟩
def yV(G:Int)(S:List bJ)(j:Nat)(b:ByteArray):Prop:=∀k,vG ((aI b).take k)=true->ZQ G S j (Xc ((aI b).take k)) (lsX ((aI b).take k))
theorem Yl{S:List bJ}(h:ZQ G S j p L)(hU:∀s∈S,bB s.addr)(hG:G<=4294967295)(hz:L=[]∨L.length=p.ln):yV G S j (strOfNums (nI p L)):=by
 intro k hk;obtain⟨_,_,e1,e2⟩:=Ym hz hk;rw[e1,e2];have hu:∀ {d:Int},(∃s∈S,s.addr=d)->w8 d=d:=λ⟨s,hs,e⟩=>Y6 (e▸hU s hs);have hn:∀ {n:Int},0<=n∧n<=G->w8 n=n:=λh=>Y6 ⟨h.1,by omega⟩;refine⟨λhk=> ?_,λhk=> ?_,λhk x hx=> ?_⟩
 ·obtain⟨a1,a2,a3,a4,a5,a6⟩:=h.k1 hk;show(∃s∈S,s.addr=w8 p.aK)∧0<=p.hops∧(0<=w8 p.dx∧w8 p.dx<=G)∧(0<=w8 p.a_∧w8 p.a_<=G)∧p.hops+p.ttl<=8 * (cnt S (w8 p.aK) (w8 p.dx) p.hops:Int)∧∃s,S[j]?=some s∧(s.addr=w8 p.aK∨tF s (w8 p.aK) (w8 p.dx) p.hops=true);rw[hu a1,hn a3,hn a4];exact h.k1 hk
 ·obtain⟨a1,a2,a3,a5,a6⟩:=h.k2 hk;show(∃s∈S,s.addr=w8 p.dest)∧0<=p.hops∧(0<=w8 p.a_∧w8 p.a_<=G)∧p.hops+p.ttl<=8 * (cnt S (w8 p.dest) (w8 p.a_) p.hops:Int)∧∃s,S[j]?=some s∧(s.addr=w8 p.dest∨tF s (w8 p.dest) (w8 p.a_) p.hops=true);rw[hu a1,hn a3];exact h.k2 hk
 ·obtain⟨y,hy,rfl⟩:=di.1 hx;have h3:=h.k3 hk y hy;dsimp only;rw[hn h3];exact h3
theorem R6(b:ByteArray)(n:Nat):aI (b.extract 0 n)=(aI b).take n:=by
 unfold aI;rw[ByteArray.data_extract,Array.toList_extract,List.map_take];simp
theorem yV.cut{S:List bJ}(h:yV G S j b)(n:Nat):yV G S j (b.extract 0 n):=by
 intro k hk;rw[R6,List.take_take]at hk ⊢;exact h _ hk
theorem yV.whole{S:List bJ}(h:yV G S j b)(hF:vG (aI b)=true):ZQ G S j (Xc (aI b)) (lsX (aI b)):=by
 have h1:=h (aI b).length;rw[List.take_length]at h1;exact h1 hF
theorem yV.set{G':Int}{S:List bJ}{i:Nat}{s s':bJ}(h:yV G S k b)(hG:G<=G')(hs:S[i]?=some s)(l:lZ s s'):yV G' (S.set i s') k b:=λn hn=>(h n hn).set hG hs l
variable{c:sF}{G G':Int}{A:List Rt}{i:Nat}{y y':Rt}{s:St}{st:bJ}
theorem mr{s:Int}(h0:0<=s)(h1:s<4294967295):gr s=s+1:=by unfold gr;omega
def P9(A A':List Rt):Prop:=∀d y,aJ A d=some y->∃y',aJ A' d=some y'∧om (rk y',y'.hops) (rk y) y.hops=true
theorem P9.refl(A:List Rt):P9 A A:=λ_ y h=>⟨y,h,lV _ _⟩
theorem P9.sle{s':St}(h:P9 s.A s'.A)(hz:st.nd=some s):lZ st {st with nd:=some s'}:=by
 refine⟨rfl,λd q h' _ e=> ?_⟩;unfold tF vr at e ⊢;rw[hz]at e;dsimp only at e ⊢;cases hl:aJ s.A d with
 |none=>rw[hl]at e;cases e
 |some y=>
  obtain⟨y',hy',g⟩:=h d y hl;rw[hl]at e;rw[hy'];exact Dk g e
theorem Lu{f:Rt->Rt}(hd:∀y,(f y).dest=y.dest)(hf:∀y∈A,om (rk (f y),(f y).hops) (rk y) y.hops=true):P9 A (A.map f):=λ_ y h=>⟨f y,pQ hd h,hf y (bR h).1⟩
theorem Nf(q:Int)(h0:0<=y.seq)(h1:y.seq<4294967295)(hv:y.valid=true):om (rk (qC y q),(qC y q).hops) (rk y) y.hops=true:=by
 have e1:rk (qC y q)=max (gr y.seq) q - 1:=rfl;have e2:rk y=y.seq:=by unfold rk;rw[hv];rfl
 have e3:(qC y q).hops=y.hops:=rfl;rw[e1,e2,e3,mr h0 h1];unfold om;simp only[Bool.or_eq_true,fF,jg];omega
theorem Sy(fr q:Int)(h0:0<=y.seq)(h1:y.seq<4294967295):om (rk (bY fr q y),(bY fr q y).hops) (rk y) y.hops=true:=by
 unfold bY;split
 ·rename_i h;simp only[fF]at h;exact Nf q h0 h1 h.1
 ·exact lV _ _
theorem LM(h1:rk y'=rk y)(h2:y'.hops=y.hops):om (rk y',y'.hops) (rk y) y.hops=true:=by rw[h1,h2];exact lV _ _
theorem rQ(e:Int)(y:Rt):(tJ e y).dest=y.dest∧(tJ e y).seq=y.seq∧(tJ e y).hops=y.hops∧(tJ e y).next=y.next∧(tJ e y).valid=y.valid:=by
 unfold tJ;split<;>exact⟨rfl,rfl,rfl,rfl,rfl⟩
theorem rX(n:Int)(y:Rt):(rJ n y).dest=y.dest∧(rJ n y).seq=y.seq∧(rJ n y).hops=y.hops∧(rJ n y).next=y.next∧(rJ n y).valid=y.valid:=by
 unfold rJ;split<;>exact⟨rfl,rfl,rfl,rfl,rfl⟩
theorem LQ(h1:y'.seq=y.seq)(h2:y'.valid=y.valid):rk y'=rk y:=by unfold rk;rw[h1,h2]
theorem yC.same{S:List bJ}(h:yC G S i y)(e:y'.dest=y.dest∧y'.seq=y.seq∧y'.hops=y.hops∧y'.next=y.next∧y'.valid=y.valid):yC G S i y':=by
 obtain⟨e1,e2,e3,e4,e5⟩:=e;refine⟨by rw[e1];exact h.dest,by rw[e3];exact h.hp,by rw[e2];exact h.sq,?_,?_⟩
 ·rw[e1,e2,e3,e4,e5];exact h.nx
 ·rw[e1,e2,e3,e5];exact h.hc
theorem yC.up{S:List bJ}(h:yC G S i y)(hG:G<=G'):yC G' S i y:=⟨h.dest,h.hp,⟨h.sq.1,Int.le_trans h.sq.2 hG⟩,h.nx,h.hc⟩
theorem yC.ended{S:List bJ}(h:yC G S i y)(hd:y'.dest=y.dest)(hh:y'.hops=y.hops)(hv:y'.valid=false)(hs:0<=y'.seq∧y'.seq<=G'):yC G' S i y':=
 ⟨by rw[hd];exact h.dest,by rw[hh];exact h.hp,hs,λh=>(by rw[hv]at h;cases h),λh=>(by rw[hv]at h;cases h)⟩
structure CI(G:Int)(S:List bJ):Prop where
 len:S.length<=6
 Jp:∀s∈S,bB s.addr∧s.addr≠0
 inj:∀(i j:Nat) s t,S[i]?=some s->S[j]?=some t->s.addr=t.addr->i=j
 nd:∀(i:Nat) s z,S[i]?=some s->s.nd=some z->z.me=s.addr∧(0<=z.seq∧z.seq<=G)∧Asc z.A∧∀y∈z.A,yC G S i y∧y.dest≠s.addr
theorem CI.set{S:List bJ}(h:CI G S)(hG:G<=G'){i:Nat}{s s':bJ}(hs:S[i]?=some s)(l:lZ s s')(hn:∀z,s'.nd=some z->z.me=s'.addr∧(0<=z.seq∧z.seq<=G')∧Asc z.A∧∀y∈z.A,yC G' (S.set i s') i y∧y.dest≠s'.addr):CI G' (S.set i s'):=by
 have hg:∀(j:Nat) t,(S.set i s')[j]?=some t->∃u,S[j]?=some u∧t.addr=u.addr:=λj t ht=>by
  rcases b_ ht with⟨rfl,rfl⟩|⟨_,ht⟩
  ·exact⟨s,hs,l.addr⟩
  ·exact⟨t,ht,rfl⟩
 refine⟨by rw[List.length_set];exact h.len,λt ht=> ?_,λj k t u ht hu e=> ?_,λj t z ht hz=> ?_⟩
 ·obtain⟨j,hj⟩:=List.getElem?_of_mem ht;obtain⟨u,hu,e⟩:=hg j t hj;rw[e];exact h.Jp u (gG hu)
 ·obtain⟨t1,ht1,e1⟩:=hg j t ht;obtain⟨u1,hu1,e2⟩:=hg k u hu;exact h.inj j k t1 u1 ht1 hu1 (by rw[<-e1,<-e2];exact e)
 ·rcases b_ ht with⟨rfl,rfl⟩|⟨_,ht⟩
  ·exact hn z hz
  ·obtain⟨a,b,c,d⟩:=h.nd j t z ht hz;exact⟨a,⟨b.1,by omega⟩,c,λy hy=>⟨(d y hy).1.set hG hs l,(d y hy).2⟩⟩
def Qj(G:Int)(S:List bJ)(me:Int)(c:sF):Prop:=
 ∀fr p L,c=some (fr,p,L)->fr≠me∧1<=p.ttl∧(0<=p.a_∧p.a_<=G)∧(∀x∈L,x.2<=G)∧∃(j:Nat) (t:bJ),S[j]?=some t∧t.addr=fr∧ZQ G S j p L
theorem Qj.set{S:List bJ}{me:Int}(h:Qj G S me c)(hG:G<=G'){i:Nat}{s s':bJ}(hs:S[i]?=some s)(l:lZ s s'):Qj G' (S.set i s') me c:=by
 intro fr p L hc;obtain⟨h1,h2,h3,h4,j,t,hj,ha,hf⟩:=h fr p L hc;obtain⟨t',ht',lt⟩:=mY hs l hj;exact⟨h1,h2,⟨h3.1,by omega⟩,λx hx=>Int.le_trans (h4 x hx) hG,j,t',ht',lt.addr.trans ha,hf.set hG hs l⟩
theorem Q5{S:List bJ}{s:bJ}(h:S[i]?=some s):S.set i s=S:=by
 refine List.ext_getElem? λj=> ?_;by_cases e:j=i
 ·subst e;rw[List.getElem?_set_self (eB.1 h).1,h]
 ·rw[List.getElem?_set_ne (λh=>e h.symm)]
theorem wo(hz:st.nd=some s)(d:Int):vr st d=(aJ s.A d).map λy=>(rk y,y.hops):=by
 unfold vr;rw[hz]
theorem sD.tF(hz:st.nd=some s){d q h:Int}(r:sD (aJ s.A d) q h):tF st d q h=true:=by
 obtain⟨y,hy,e⟩:=r;unfold Go.Proofs.YtakaadcpaeiccabGreat.tF;rw[wo hz,hy];show om (rk y,y.hops) q h=true;unfold om;simp only[Bool.or_eq_true,fF,jg];exact e
theorem Cr(me:Int)(A:List Rt)(d q h n e:Int):((iW me A d q h n e).1=A)∨(d≠me∧d≠0∧(iW me A d q h n e).2=0∧((∃x,aJ A d=some x∧VP (newR d q h n e) x=true∧(iW me A d q h n e).1=g_ A d (zx q h n e))∨(aJ A d=none∧(iW me A d q h n e).1=ul A (newR d q h n e)))):=by
 unfold iW;split
 ·exact .inl rfl
 ·rename_i hd;simp only[not_or]at hd;cases hl:aJ A d with
  |some x=>
   dsimp only;split
   ·rename_i hg;exact .inr ⟨hd.1,hd.2,rfl,.inl ⟨x,rfl,hg,rfl⟩⟩
   ·exact .inl rfl
  |none=>
   dsimp only;split
   ·exact .inl rfl
   ·exact .inr ⟨hd.1,hd.2,rfl,.inr ⟨rfl,rfl⟩⟩
theorem BV(A:List Rt)(x:Rt)(d:Int)(hd:d≠x.dest):aJ (ul A x) d=aJ A d:=by
 unfold ul aJ;have hx:(x.dest==d)=false:=by simpa using λe=>hd e.symm
 conv=>rhs;rw[<-List.take_append_drop (pos A x.dest) A]
 rw[List.find?_append,List.find?_append,List.find?_cons,hx]
theorem QO{S:List bJ}(hS:S[i]?=some st)(hz:st.nd=some s)(h:CI G S)(hc:Qj G S s.me c)(hG0:0<=G)(hG:G+1<4294967295)(t:U2 s.me s.now c s.A A):
  lZ st {st with nd:=some {s with A:=A}}∧Asc A∧∀y∈A,yC (G+1) (S.set i {st with nd:=some {s with A:=A}}) i y∧y.dest≠st.addr:=by
 obtain⟨hme,Tp,hasc,hln⟩:=h.nd i st s hS hz;have hmap:∀(f:Rt->Rt),(∀y,(f y).dest=y.dest)->(∀y∈s.A,om (rk (f y),(f y).hops) (rk y) y.hops=true)->(∀y∈s.A,yC (G+1) S i (f y))->A=s.A.map f->lZ st {st with nd:=some {s with A:=A}}∧Asc A∧∀y∈A,yC (G+1) (S.set i {st with nd:=some {s with A:=A}}) i y∧y.dest≠st.addr:=by
  rintro f hd hf hl rfl;have l:lZ st {st with nd:=some {s with A:=s.A.map f}}:=P9.sle (s':={s with A:=s.A.map f}) (Lu hd hf) hz;refine⟨l,?_,λy hy=> ?_⟩
  ·unfold Asc;rw[List.pairwise_map];refine hasc.imp λ{a b} hab=> ?_;rw[hd,hd];exact hab
  ·obtain⟨z,hz',rfl⟩:=di.1 hy;exact⟨(hl z hz').set (eY _) hS l,by rw[hd];exact(hln z hz').2⟩
 have hmod:∀(f:Rt->Rt) (d:Int),(∀y,(f y).dest=y.dest)->(∀y∈s.A,y.dest=d->om (rk (f y),(f y).hops) (rk y) y.hops=true∧yC (G+1) S i (f y))->A=g_ s.A d f->lZ st {st with nd:=some {s with A:=A}}∧Asc A∧∀y∈A,yC (G+1) (S.set i {st with nd:=some {s with A:=A}}) i y∧y.dest≠st.addr:=by
  intro f d hd hf hA;refine hmap (λx=>if x.dest=d then f x else x) (λy=> ?_) (λy hy=> ?_) (λy hy=> ?_) hA
  ·split
   ·exact hd y
   ·rfl
  ·split
   ·rename_i e;exact(hf y hy e).1
   ·exact lV _ _
  ·split
   ·rename_i e;exact(hf y hy e).2
   ·exact(hln y hy).1.up (by omega)
 have Tj:∀(d q hp n e:Int),(d≠s.me->(∃s∈S,s.addr=d)∧0<=hp∧(0<=q∧q<=G)∧hp+1<=8 * (cnt S d q hp:Int)∧n≠s.me∧∃(j:Nat) (t:bJ),S[j]?=some t∧t.addr=n∧(t.addr=d∨tF t d q hp=true))->A=(iW s.me s.A d q (St.far hp) n e).1->lZ st {st with nd:=some {s with A:=A}}∧Asc A∧∀y∈A,yC (G+1) (S.set i {st with nd:=some {s with A:=A}}) i y∧y.dest≠st.addr:=by
  intro d q hp n e hx hA;rcases Cr s.me s.A d q (St.far hp) n e with h1|⟨Di,hd0,hcode,h1⟩
  ·rw[h1]at hA;refine hmap id (λy=>rfl) (λy _=>lV _ _) (λy hy=>(hln y hy).1.up (by omega)) (by rw[List.map_id];exact hA)
  ·obtain⟨x1,x2,x3,x4,x5,j,t,hj,ht,hge⟩:=hx Di;have hcl:=Kz S d q hp;have hlen:=h.len;have Kc:St.far hp=hp+1:=by unfold St.far;omega
   have hrk:=zS (me:=s.me) (A:=s.A) (d:=d) (q:=q) (h:=St.far hp) (n:=n) (e:=e) Di hd0 (by rw[hcode];decide);rw[<-hA]at hrk;have adl:∀x,aJ s.A d=some x->VP (newR d q (St.far hp) n e) x=true->om (rk (newR d q (St.far hp) n e),(newR d q (St.far hp) n e).hops) (rk x) x.hops=true∧om (rk x,x.hops) q hp=false:=by
    intro x _ hg;have e1:rk (newR d q (St.far hp) n e)=q:=rfl;have e2:(newR d q (St.far hp) n e).hops=St.far hp:=rfl;unfold VP at hg;rw[e1,e2]at hg;rw[e1,e2];unfold om;split at hg
    ·rename_i e3;simp only[jg]at hg;refine⟨?_,?_⟩
     ·simp only[Bool.or_eq_true,fF,jg];omega
     ·simp only[Bool.or_eq_false_iff,Bool.and_eq_false_iff,decide_eq_false_iff_not];omega
    ·rename_i e3;simp only[jg]at hg;refine⟨?_,?_⟩
     ·simp only[Bool.or_eq_true,fF,jg];omega
     ·simp only[Bool.or_eq_false_iff,Bool.and_eq_false_iff,decide_eq_false_iff_not];omega
   have aeU:P9 s.A A:=by
    intro d' y hy;by_cases hdd:d'=d
    ·subst hdd;rcases h1 with⟨x,hx1,hx2,hx3⟩|⟨hx1,_⟩
     ·rw[hy]at hx1;cases hx1;obtain⟨y',hy',hr⟩:=hrk;refine⟨y',hy',Dk ?_ (adl y hy hx2).1⟩;show om (rk y',y'.hops) q (St.far hp)=true;unfold om;simp only[Bool.or_eq_true,fF,jg];exact hr
     ·rw[hy]at hx1;cases hx1
    ·refine⟨y,?_,lV _ _⟩;rcases h1 with⟨x,hx1,hx2,hx3⟩|⟨hx1,hx3⟩
     ·rw[hA,hx3];have h2:=pQ (f:=λx=>if x.dest=d then zx q (St.far hp) n e x else x) (λy=>by split<;>rfl) hy;rw[aM (by rw[(bR hy).2];exact hdd)]at h2;exact h2
     ·rw[hA,hx3,BV _ _ _ hdd];exact hy
   have l:lZ st {st with nd:=some {s with A:=A}}:=P9.sle (s':={s with A:=A}) aeU hz;have hcm:cnt S d q hp+1<=cnt (S.set i {st with nd:=some {s with A:=A}}) d q (St.far hp):=by
    refine UF hS (by omega) ?_ ?_
    ·unfold cP tF;rw[wo hz,Bool.or_eq_false_iff];refine⟨by simpa using λe=>Di (by rw[hme];exact e.symm),?_⟩;rcases h1 with⟨x,hx1,hx2,hx3⟩|⟨hx1,hx3⟩
     ·rw[hx1];exact(adl x hx1 hx2).2
     ·rw[hx1];rfl
    ·unfold cP;rw[Bool.or_eq_true];exact .inr (sD.tF rfl hrk)
   have hnew:∀y,y.dest=d->y.seq=q->y.hops=St.far hp->y.next=n->y.valid=true->yC (G+1) (S.set i {st with nd:=some {s with A:=A}}) i y:=by
    intro y e1 e2 e3 e4 e5;refine⟨by rw[e1];exact gI hS l.addr x1,by omega,by omega,λ_=> ?_,λ_=> ?_⟩
    ·have hji:j≠i:=λhji=>by
      subst hji;rw[hS]at hj;cases hj;exact x5 (by rw[<-ht,hme])
     refine⟨j,t,hji,(List.getElem?_set_ne (λe=>hji e.symm)).trans hj,ht.trans e4.symm,?_⟩;rw[e1,e2,e3,e4,Kc];rcases hge with hge|hge
     ·exact .inl (by rw[<-hge,ht])
     ·exact .inr (by rw[show hp+1 - 1=hp by omega];exact hge)
    ·rw[e1,e2,e3];omega
   refine⟨l,?_,λy hy=> ?_⟩
   ·rcases h1 with⟨x,hx1,hx2,hx3⟩|⟨hx1,hx3⟩
    ·rw[hA,hx3];exact Af hasc d _ λy=>rfl
    ·rw[hA,hx3];exact Ht hasc hx1
   ·rcases h1 with⟨x,hx1,hx2,hx3⟩|⟨hx1,hx3⟩
    ·rw[hA,hx3]at hy;rcases Ae hy with⟨z,hz',he,rfl⟩|⟨hy,_⟩
     ·exact⟨hnew _ he rfl rfl rfl rfl,by show z.dest≠st.addr;rw[he,<-hme];exact Di⟩
     ·exact⟨((hln y hy).1.set (by omega) hS l),(hln y hy).2⟩
    ·rw[hA,hx3]at hy;rcases qV.1 hy with rfl|hy
     ·exact⟨hnew _ rfl rfl rfl rfl rfl,by show d≠st.addr;rw[<-hme];exact Di⟩
     ·exact⟨((hln y hy).1.set (by omega) hS l),(hln y hy).2⟩
 have TG:∀(fr q:Int) (y:Rt),y∈s.A->(q<=G)->om (rk (bY fr q y),(bY fr q y).hops) (rk y) y.hops=true∧yC (G+1) S i (bY fr q y):=by
  intro fr q y hy hq;have h2:=(hln y hy).1;have h3:=h2.sq;refine⟨Sy fr q h3.1 (by omega),?_⟩;unfold bY;split
  ·refine h2.ended rfl rfl rfl ?_;show 0<=max (gr y.seq) q∧max (gr y.seq) q<=G+1;rw[mr h3.1 (by omega)];omega
  ·exact h2.up (by omega)
 cases t with
 |VX fr p L e hc1 hk=>
  obtain⟨k1,k2,k3,_,j,t,hj,ht,hf⟩:=hc fr p L hc1;obtain⟨f1,f2,f3,f4,f5,u,hu,f6⟩:=hf.k1 hk;rw[hj]at hu;cases hu;exact Tj p.aK p.dx p.hops fr e (λ_=>⟨f1,f2,f3,by omega,k1,j,t,hj,ht,f6⟩) rfl
 |VW fr p L e hc1 hk=>
  obtain⟨k1,k2,k3,_,j,t,hj,ht,hf⟩:=hc fr p L hc1;obtain⟨f1,f2,f3,f5,u,hu,f6⟩:=hf.k2 hk;rw[hj]at hu;cases hu;exact Tj p.dest p.a_ p.hops fr e (λ_=>⟨f1,f2,f3,by omega,k1,j,t,hj,ht,f6⟩) rfl
 |use d e=>exact hmod (tJ e) d (λy=>mE e y) (λy hy _=>⟨LM (LQ (rQ e y).2.1 (rQ e y).2.2.2.2) (rQ e y).2.2.1,((hln y hy).1.same (rQ e y)).up (by omega)⟩) rfl
 |bH d n=>exact hmod (rJ n) d (λy=>lu n y) (λy hy _=>⟨LM (LQ (rX n y).2.1 (rX n y).2.2.2.2) (rX n y).2.2.1,((hln y hy).1.same (rX n y)).up (by omega)⟩) rfl
 |lose fr p L hc1 x hx=>
  obtain⟨_,_,_,k4,_⟩:=hc fr p L hc1;exact hmod (bY fr x.2) x.1 (λy=>eG _ _ y) (λy hy _=>TG fr x.2 y hy (k4 x hx)) rfl
 |brk d_=>exact hmap (bY d_ 0) (λy=>eG _ _ y) (λy hy=>(TG d_ 0 y hy hG0).1) (λy hy=>(TG d_ 0 y hy hG0).2) rfl
 |grow d hg=>
  refine hmod St.qi d (λy=>rfl) (λy hy hd=> ?_) rfl;have h2:=(hln y hy).1;have h3:=h2.sq;have hv:=hg y (by rw[<-hd];exact jT hasc hy);have e1:rk (St.qi y)=gr y.seq - 1:=by unfold rk St.qi;dsimp only;rw[hv];rfl
  have e2:rk y=y.seq - 1:=by unfold rk;rw[hv];rfl
  refine⟨?_,h2.ended rfl rfl hv ?_⟩
  ·rw[e1,e2,mr h3.1 (by omega)];show om (y.seq+1 - 1,y.hops) (y.seq - 1) y.hops=true;unfold om;simp only[Bool.or_eq_true,jg];exact .inl (by omega)
  ·show 0<=gr y.seq∧gr y.seq<=G+1;rw[mr h3.1 (by omega)];omega
variable{c:sF}{G G' d v:Int}{f:Int->Option Int}{D':Int->Prop}{i:Nat}{s s':St}{st:bJ}
abbrev nK:=List (Bool×Int×Int)
def zn(f:Int->Option Int)(d v:Int):Prop:=∃v',f d=some v'∧v<=v'
theorem zn.le{u:Int}(h:zn f d v)(hu:u<=v):zn f d u:=by
 obtain⟨v',h1,h2⟩:=h;exact⟨v',h1,by omega⟩
theorem wu(f:Int->Option Int)(k:Int)(v:Option Int):kC f k v k=v:=aQ rfl
theorem Lh{x k:Int}(f:Int->Option Int)(v:Option Int)(h:x≠k):kC f k v x=f x:=aM h
theorem Si(h:zn f d v)(r:Bool×Int×Int):zn (stepM f r) d v:=by
 obtain⟨v',h1,h2⟩:=h;unfold stepM;split
 ·exact⟨v',h1,h2⟩
 ·by_cases e:d=r.2.1
  ·subst e;refine⟨max v' r.2.2,?_,by omega⟩;rw[wu,h1];rfl
  ·exact⟨v',by rw[Lh _ _ e];exact h1,h2⟩
theorem Ag:∀(L:nK) {f:Int->Option Int} {d v:Int},zn f d v->zn (L.foldl stepM f) d v
 | [],_,_,_,h=>h
 |r::L,_,_,_,h=>by
  rw[gH];exact Ag L (Si h r)
theorem MF{L M:nK}(h:zn (mI L) d v):zn (mI (L++M)) d v:=by
 unfold mI;rw[List.foldl_append];exact Ag M h
theorem ME{L:nK}(h:(false,d,v)∈L):zn (mI L) d v:=by
 obtain⟨a,b,rfl⟩:=List.append_of_mem h;unfold mI;rw[List.foldl_append,gH];refine Ag b ⟨max (((a.foldl stepM λ_=>none) d).getD 0) v,?_,by omega⟩;unfold stepM kC;simp
theorem JY{D:Int->Prop}:∀(L:nK) (f:Int->Option Int),(∀d v,f d=some v->D d∧0<=v∧v<=G)->(∀r∈L,(0<=r.2.2∧r.2.2<=G)∧(r.1=false->D r.2.1))->∀d v,L.foldl stepM f d=some v->D d∧0<=v∧v<=G
 | [],_,hf,_=>hf
 |r::L,f,hf,hr=>by
  rw[gH];refine JY L _ (λd v h=> ?_) λx hx=>hr x (jR _ hx);obtain⟨h1,h2⟩:=hr r iJ;unfold stepM at h;split at h
  ·exact hf d v h
  ·rename_i h3;unfold kC at h;split at h
   ·rename_i e;cases h;subst e;refine⟨h2 (by simpa using h3),?_⟩;cases wT:f r.2.1 with
    |none=>
     show 0<=max 0 r.2.2∧max 0 r.2.2<=G;omega
    |some u=>
     have:=(hf _ u wT).2;show 0<=max u r.2.2∧max u r.2.2<=G;omega
   ·exact hf d v h
theorem RD(hG:0<=G):∀(L:nK) (c:Option Int),(0<=c.getD 0∧c.getD 0<=G)->(∀r∈L,0<=r.2.2∧r.2.2<=G)->0<=(L.foldl lK c).getD 0∧(L.foldl lK c).getD 0<=G
 | [],_,hc,_=>hc
 |r::L,c,hc,hr=>by
  rw[gH];refine RD hG L _ ?_ λx hx=>hr x (jR _ hx);have:=hr r iJ;unfold lK;split
  ·show 0<=max (c.getD 0) r.2.2∧max (c.getD 0) r.2.2<=G;omega
  ·exact hc
abbrev NwT:=(Int->Option Int)×nK
theorem Mf:∀(A:List Rt) (t:NwT) {d v:Int},zn t.1 d v->zn (A.foldl jG t).1 d v
 | [],_,_,_,h=>h
 |y::A,t,d,v,h=>by
  rw[gH];refine Mf A _ ?_;obtain⟨v',h1,h2⟩:=h;unfold jG;split
  ·rename_i hn;dsimp only;by_cases e:d=y.dest
   ·refine⟨y.seq,by rw[e,wu],?_⟩;unfold sK at hn;rw[<-e,h1]at hn;simp at hn;omega
   ·exact⟨v',by rw[Lh _ _ e];exact h1,h2⟩
  ·exact⟨v',h1,h2⟩
theorem Gy:∀(A:List Rt) (t:NwT),∀y∈A,zn (A.foldl jG t).1 y.dest y.seq
 | [],_,_,h=>by cases h
 |z::A,t,y,h=>by
  rw[gH];rcases fe.1 h with rfl|h
  ·refine Mf A _ ?_;unfold jG;split
   ·exact⟨y.seq,wu _ _ _,eY _⟩
   ·rename_i hn;cases hf:t.1 y.dest with
    |none=>
     exfalso;apply hn;unfold sK;rw[hf];rfl
    |some u=>
     refine⟨u,hf,?_⟩;unfold sK at hn;rw[hf]at hn;simp at hn;omega
  ·exact Gy A _ y h
theorem Md:∀(A:List Rt) (t:NwT),∀r∈t.2,r∈(A.foldl jG t).2
 | [],_,_,h=>h
 |y::A,t,r,h=>by
  rw[gH];refine Md A _ r ?_;unfold jG;split
  ·exact List.mem_append_left _ h
  ·exact h
theorem Ei:∀(A:List Rt) (t:NwT) (d v:Int),(A.foldl jG t).1 d=some v->t.1 d=some v∨((false,d,v)∈(A.foldl jG t).2∧∃y∈A,y.dest=d∧y.seq=v)
 | [],_,_,_,h=> .inl h
 |y::A,t,d,v,h=>by
  rw[gH]at h ⊢;rcases Ei A _ d v h with h1|⟨h1,z,hz,e⟩
  ·unfold jG at h1;split at h1
   ·rename_i hn;dsimp only at h1;unfold kC at h1;split at h1
    ·rename_i e;cases h1;refine .inr ⟨Md A _ _ ?_,y,iJ,e.symm,rfl⟩;rw[Gz hn,e];exact List.mem_append_right _ (eZ.2 rfl)
    ·exact .inl h1
   ·exact .inl h1
  ·exact .inr ⟨h1,z,jR _ hz,e⟩
theorem Me:∀(A:List Rt) (t:NwT),∀r∈(A.foldl jG t).2,r∈t.2∨∃y∈A,r=(false,y.dest,y.seq)
 | [],_,_,h=> .inl h
 |y::A,t,r,h=>by
  rw[gH]at h;rcases Me A _ r h with h1|⟨z,hz,e⟩
  ·unfold jG at h1;split at h1
   ·rcases eu.1 h1 with h1|h1
    ·exact .inl h1
    ·exact .inr ⟨y,iJ,eZ.1 h1⟩
   ·exact .inl h1
  ·exact .inr ⟨z,jR _ hz,e⟩
structure Jm(G:Int)(D:Int->Prop)(J:nK)(s:St):Prop where
 fw:∀d v,s.f d=some v->zn (mI (J++s.bA)) d v
 rc:∀r∈s.bA,(0<=r.2.2∧r.2.2<=G)∧(r.1=false->D r.2.1)
 on:∀d v,s.f d=some v->(∃y∈s.A,y.dest=d)∧0<=v∧v<=G
 ow:0<=s.own∧s.own<=G
structure Lb(G:Int)(D:Int->Prop)(s:St):Prop where
 ln:∀y∈s.A,D y.dest∧0<=y.seq∧y.seq<=G
 sq:0<=s.seq∧s.seq<=G
theorem Jm.up{D:Int->Prop}{J:nK}(h:Jm G D J s)(hG:G<=G'):Jm G' D J s:=
 ⟨h.fw,λr hr=>⟨⟨(h.rc r hr).1.1,Int.le_trans (h.rc r hr).1.2 hG⟩,(h.rc r hr).2⟩,λd v e=>⟨(h.on d v e).1,(h.on d v e).2.1,Int.le_trans (h.on d v e).2.2 hG⟩,h.ow.1,Int.le_trans h.ow.2 hG⟩
theorem Jm.same{D:Int->Prop}{J:nK}(h:Jm G D J s)(hf:s'.f=s.f)(hn:s'.bA=s.bA)(ho:s'.own=s.own)(hA:∀y∈s.A,∃z∈s'.A,z.dest=y.dest):Jm G D J s':=by
 refine⟨by rw[hf,hn];exact h.fw,by rw[hn];exact h.rc,λd v e=> ?_,by rw[ho];exact h.ow⟩;rw[hf]at e;obtain⟨⟨y,hy,e1⟩,h2⟩:=h.on d v e;obtain⟨z,hz,e2⟩:=hA y hy;exact⟨⟨z,hz,e2.trans e1⟩,h2⟩
theorem Ak{D:Int->Prop}{J:nK}(h:Jm G D J s)(l:Lb G D s):Jm G D J s.write∧∀y∈s.A,zn s.write.f y.dest y.seq:=by
 have hn:s.write.bA=s.bA++(bL s.seq s.own s.f s.A).2:=rfl;have hf:s.write.f=(bL s.seq s.own s.f s.A).1:=rfl;refine⟨⟨λd v e=> ?_,λr hr=> ?_,λd v e=> ?_,?_⟩,λy hy=>Gy s.A _ y hy⟩
 ·rw[hf]at e;rw[hn,<-List.append_assoc];rcases Ei s.A (s.f,pM s.seq s.own) d v e with h1|⟨h1,_⟩
  ·exact MF (h.fw d v h1)
  ·exact ME (List.mem_append_right _ h1)
 ·rw[hn]at hr;rcases eu.1 hr with hr|hr
  ·exact h.rc r hr
  ·rcases Me s.A (s.f,pM s.seq s.own) r hr with hr|⟨y,hy,rfl⟩
   ·have hr':r∈pM s.seq s.own:=hr;unfold pM at hr';split at hr'
    ·rw[eZ]at hr';subst hr';exact⟨l.sq,λh=>(by cases h)⟩
    ·cases hr'
   ·exact⟨(l.ln y hy).2,λ_=>(l.ln y hy).1⟩
 ·rw[hf]at e;rcases Ei s.A (s.f,pM s.seq s.own) d v e with h1|⟨_,y,hy,e1,e2⟩
  ·exact h.on d v h1
  ·exact⟨⟨y,hy,e1⟩,by rw[<-e2];exact(l.ln y hy).2⟩
 ·have h1:=h.ow;have h2:=l.sq;show 0<=Er s.seq s.own∧Er s.seq s.own<=G;unfold Er;split<;>omega
structure JF(G:Int)(D:Int->Prop)(J:nK)(z:St):Prop where
 fw:∀d v,z.f d=some v->zn (mI ((if z.bC then []else J)++z.bA)) d v
 rc:∀r∈z.bA,(0<=r.2.2∧r.2.2<=G)∧(r.1=false->D r.2.1)
 on:∀d v,z.f d=some v->(∃y∈z.A,y.dest=d)∧0<=v∧v<=G
 ow:0<=z.own∧z.own<=G
 ln:∀y∈z.A,zn z.f y.dest y.seq
theorem Db{D:Int->Prop}{J:nK}(h:Jm G D J s)(l:Lb G D s)(hr:s.bC=false∨J=[])(hG:0<=G):JF G D J s.finish:=by
 obtain⟨h1,h2⟩:=Ak h l;unfold St.finish;split
 ·refine⟨λd v e=> ?_,λr hr=> ?_,h1.on,h1.ow,h2⟩
  ·obtain⟨⟨y,hy,rfl⟩,_⟩:=h1.on d v e;refine ME ?_;show(false,y.dest,v)∈([]:nK)++s.write.cmp;rw[List.nil_append];refine List.mem_append_right _ (di.2 ⟨y.dest,di.2 ⟨y,hy,rfl⟩,?_⟩);rw[show s.write.f y.dest=some v from e];rfl
  ·have hr':r∈s.write.cmp:=hr;rcases eu.1 hr' with hr'|hr'
   ·have e:r=(true,0,s.write.own):=eZ.1 hr';subst e;exact⟨h1.ow,λh=>(by cases h)⟩
   ·obtain⟨a,ha,rfl⟩:=di.1 hr';obtain⟨y,hy,rfl⟩:=di.1 ha;refine⟨?_,λ_=>(l.ln y hy).1⟩;dsimp only;cases e:s.write.f y.dest with
    |none=>exact⟨eY _,hG⟩
    |some v=>exact(h1.on _ v e).2
 ·refine⟨λd v e=> ?_,h1.rc,h1.on,h1.ow,h2⟩;have e2:(if s.write.bC then []else J)=J:=by
   rcases hr with hr|hr
   ·rw[show s.write.bC=s.bC from rfl,hr];rfl
   ·rw[hr];split<;>rfl
  rw[e2];exact h1.fw d v e
theorem SL{D:Int->Prop}{J:nK}(h:JF G D J s):JF G D J s.freed:=⟨h.fw,h.rc,h.on,h.ow,h.ln⟩
structure JI(G:Int)(D:Int->Prop)(st:bJ):Prop where
 rc:∀r∈jl st.bn,(0<=r.2.2∧r.2.2<=G)∧(r.1=false->D r.2.1)
 fl:∀z,st.nd=some z->∃L,st.bn=bE L
 fw:∀z,st.nd=some z->∀d v,z.f d=some v->zn (mI (jl st.bn)) d v
 on:∀z,st.nd=some z->∀d v,z.f d=some v->(∃y∈z.A,y.dest=d)∧0<=v∧v<=G
 ow:∀z,st.nd=some z->0<=z.own∧z.own<=G
 ln:∀z,st.nd=some z->∀y∈z.A,zn z.f y.dest y.seq
theorem JI.up{D:Int->Prop}(h:JI G D st)(hG:G<=G'):JI G' D st:=
 ⟨λr hr=>⟨⟨(h.rc r hr).1.1,Int.le_trans (h.rc r hr).1.2 hG⟩,(h.rc r hr).2⟩,h.fl,h.fw,λz hz d v e=>⟨(h.on z hz d v e).1,(h.on z hz d v e).2.1,Int.le_trans (h.on z hz d v e).2.2 hG⟩,λz hz=>⟨(h.ow z hz).1,Int.le_trans (h.ow z hz).2 hG⟩,h.ln⟩
theorem JI.D{D:Int->Prop}(h:JI G D st)(hd:∀d,D d->D' d):JI G D' st:=
 ⟨λr hr=>⟨(h.rc r hr).1,λe=>hd _ ((h.rc r hr).2 e)⟩,h.fl,h.fw,h.on,h.ow,h.ln⟩
theorem JI.mle{D:Int->Prop}(h:JI G D st){z:St}(hz:st.nd=some z){y:Rt}(hy:y∈z.A):zn (mI (jl st.bn)) y.dest y.seq:=by
 obtain⟨v,h1,h2⟩:=h.ln z hz y hy;exact(h.fw z hz _ v h1).le h2
theorem XA(L M:nK)(n:Nat):∃M':nK,(∀r∈M',r∈M)∧jl (bE L++(bE M).take n)=(L++M').map norm:=by
 by_cases h:n<13 * M.length
 ·refine⟨M.take (n / 13),λr hr=>List.mem_of_mem_take hr,?_⟩;have h1:=aaE (L++M) (13 * L.length+n) (by rw[dw];omega);have h2:(13 * L.length+n)/ 13=L.length+n / 13:=by omega
  have e1:(bE (L++M)).take (13 * L.length+n)=bE L++(bE M).take n:=by
   rw[kN,<-iF L,List.take_length_add_append]
  have e2:(L++M).take (L.length+n / 13)=L++M.take (n / 13):=List.take_length_add_append _;rw[e1,h2,e2]at h1;exact h1
 ·refine⟨M,λr hr=>hr,?_⟩;rw[ko (by rw[iF];omega),<-kN];exact wQ _
theorem Ml{D:Int->Prop}{L:nK}(h:∀r∈L,(0<=r.2.2∧r.2.2<=G)∧(r.1=false->D r.2.1)):∀r∈L.map norm,(0<=r.2.2∧r.2.2<=G)∧(r.1=false->D r.2.1):=by
 intro r hr;obtain⟨x,hx,rfl⟩:=di.1 hr;obtain⟨o,a,q⟩:=x;have:=h _ hx;cases o
 ·exact this
 ·exact⟨this.1,λh=>(by cases h)⟩
theorem Hg{D:Int->Prop}{z:St}(hrc:∀r∈jl st.bn,(0<=r.2.2∧r.2.2<=G)∧(r.1=false->D r.2.1))(hfl:z.bC=false->∃L,st.bn=bE L)(h:JF G D (jl st.bn) z)(hw:(bJ.write {st with nd:=some z} z.ot).2=true):JI G D (bJ.write {st with nd:=some z} z.ot).1∧(bJ.write {st with nd:=some z} z.ot).1.nd=some z∧(bJ.write {st with nd:=some z} z.ot).1.addr=st.addr:=by
 by_cases h1:z.ot.bA≠ []∨z.ot.bC=true
 ·rcases Bool.eq_false_or_eq_true st.tears with ht|ht
  ·rw[bJ.o7 (s:={st with nd:=some z}) h1 ht]at hw;cases hw
  ·rw[bJ.jY (s:={st with nd:=some z}) h1 ht];refine⟨?_,rfl,rfl⟩;have hj:∃L,((if z.bC then []else st.bn)++bE z.bA)=bE L∧jl (bE L)=(if z.bC then []else jl st.bn)++z.bA.map norm:=by
    cases hr:z.bC
    ·obtain⟨L,hL⟩:=hfl hr;refine⟨L++z.bA,?_,?_⟩
     ·simp only[Bool.false_eq_true,if_false];rw[hL,kN]
     ·rw[wQ,hL,wQ,List.map_append];simp
    ·refine⟨z.bA,by simp,?_⟩;rw[wQ];simp
   obtain⟨L,e1,e2⟩:=hj;have e3:jl ((if z.ot.bC then []else st.bn)++bE z.ot.bA)=(if z.bC then []else jl st.bn)++z.bA.map norm:=by
    show jl ((if z.bC then []else st.bn)++bE z.bA)=_;rw[e1];exact e2
   refine⟨?_,λu _=>⟨L,e1⟩,λu hu d v e=> ?_,λu hu=> ?_,λu hu=> ?_,λu hu=> ?_⟩
   ·dsimp only;rw[e3];intro r hr;rcases eu.1 hr with hr|hr
    ·split at hr
     ·cases hr
     ·exact hrc r hr
    ·exact Ml h.rc r hr
   ·cases hu;dsimp only;rw[e3];have h2:=h.fw d v e;obtain⟨v',k1,k2⟩:=h2;refine⟨v',?_,k2⟩;rw[<-k1];unfold mI;rw[List.foldl_append,List.foldl_append,List.foldl_map];have e4:(λ(f:Int->Option Int) r=>stepM f (norm r))=stepM:=by
     funext f r
     obtain⟨o,a,q⟩:=r;cases o<;>rfl
    rw[e4]
   ·cases hu;exact h.on
   ·cases hu;exact h.ow
   ·cases hu;exact h.ln
 ·simp only[not_or,Classical.not_not]at h1;have h2:z.ot.bC=false:=by simpa using h1.2
  rw[bJ.oq (s:={st with nd:=some z}) h1.1 h2];refine⟨⟨hrc,λu _=>hfl h2,λu hu d v e=> ?_,λu hu=> ?_,λu hu=> ?_,λu hu=> ?_⟩,rfl,rfl⟩
  ·cases hu;have h3:=h.fw d v e;rw[show z.bC=false from h2,show z.bA=[]from h1.1]at h3;simpa using h3
  ·cases hu;exact h.on
  ·cases hu;exact h.ow
  ·cases hu;exact h.ln
theorem XC{D:Int->Prop}{z:St}(hrc:∀r∈jl st.bn,(0<=r.2.2∧r.2.2<=G)∧(r.1=false->D r.2.1))(hfl:z.bC=false->∃L,st.bn=bE L)(h:JF G D (jl st.bn) z)(hi:z.ot.idle=true):JI G D {st with nd:=some z}:=by
 rw[EA]at hi;simp only[fF,jg,Bool.not_eq_true']at hi;have e:=bJ.oq (s:={st with nd:=some z}) hi.1.1 hi.1.2;have h1:=(Hg hrc hfl h (by rw[e])).1;rw[e]at h1;exact h1
theorem XB{D:Int->Prop}{z:St}(hrc:∀r∈jl st.bn,(0<=r.2.2∧r.2.2<=G)∧(r.1=false->D r.2.1))(hfl:z.bC=false->∃L,st.bn=bE L)(hz:∀r∈z.bA,(0<=r.2.2∧r.2.2<=G)∧(r.1=false->D r.2.1))(hw:(bJ.write {st with nd:=some z} z.ot).2=false):JI G D (bJ.write {st with nd:=some z} z.ot).1∧(bJ.write {st with nd:=some z} z.ot).1.nd=none∧(bJ.write {st with nd:=some z} z.ot).1.addr=st.addr∧∀d v,zn (mI (jl st.bn)) d v->zn (mI (jl (bJ.write {st with nd:=some z} z.ot).1.bn)) d v:=by
 by_cases h1:z.ot.bA≠ []∨z.ot.bC=true
 ·rcases(Bool.eq_false_or_eq_true st.tears).symm with ht|ht
  ·rw[bJ.jY (s:={st with nd:=some z}) h1 ht]at hw;cases hw
  ·rw[bJ.o7 (s:={st with nd:=some z}) h1 ht];have hj:∃M:nK,(∀r∈M,(0<=r.2.2∧r.2.2<=G)∧(r.1=false->D r.2.1))∧jl (if z.bC then st.bn else st.bn++(bE z.bA).take st.whole.toNat)=jl st.bn++M:=by
    cases hr:z.bC
    ·obtain⟨L,hL⟩:=hfl hr;obtain⟨M,hM1,hM2⟩:=XA L z.bA st.whole.toNat;refine⟨M.map norm,Ml λr hr=>hz r (hM1 r hr),?_⟩;simp only[Bool.false_eq_true,if_false];rw[hL,hM2,wQ,List.map_append]
    ·exact⟨[],λr hr=>(by cases hr),by simp⟩
   obtain⟨M,hM,e⟩:=hj;have e':jl (bJ.stop {st with nd:=some z,bn:=if z.ot.bC then st.bn else st.bn++(bE z.ot.bA).take st.whole.toNat}).bn=jl st.bn++M:=e;refine⟨⟨?_,λu hu=>(by cases hu),λu hu=>(by cases hu),λu hu=>(by cases hu),λu hu=>(by cases hu),λu hu=>(by cases hu)⟩,rfl,rfl,λd v hd=> ?_⟩
   ·rw[e'];intro r hr;rcases eu.1 hr with hr|hr
    ·exact hrc r hr
    ·exact hM r hr
   ·rw[e'];exact MF hd
 ·simp only[not_or,Classical.not_not]at h1;have h2:z.ot.bC=false:=by simpa using h1.2
  rw[bJ.oq (s:={st with nd:=some z}) h1.1 h2]at hw;cases hw
theorem F5{D:Int->Prop}{S:List bJ}{st':bJ}(hJ:JI G D st)(hl:∀z,st.nd=some z->∀y∈z.A,yC G S i y)(hn:st'.nd=none)(ha:st'.addr=st.addr)(hm:∀d v,zn (mI (jl st.bn)) d v->zn (mI (jl st'.bn)) d v):lZ st st':=by
 refine⟨ha,λd q h _ e=> ?_⟩;have acQ:vr st' d=(mI (jl st'.bn) d).map λq=>(q,0):=by unfold vr;rw[hn]
 cases hz:st.nd with
 |none=>
  have hvr:vr st d=(mI (jl st.bn) d).map λq=>(q,0):=by unfold vr;rw[hz]
  unfold tF at e ⊢;rw[hvr]at e;rw[acQ];cases hd:mI (jl st.bn) d with
  |none=>rw[hd]at e;cases e
  |some v=>
   rw[hd]at e;obtain⟨v',h1,h2⟩:=hm d v ⟨v,hd,eY _⟩;rw[h1];have e':om (v,0) q h=true:=e;show om (v',0) q h=true;unfold om at *;simp only[Bool.or_eq_true,fF,jg]at *;omega
 |some z=>
  unfold tF at e ⊢;rw[wo hz]at e;rw[acQ];cases hd:aJ z.A d with
  |none=>rw[hd]at e;cases e
  |some y=>
   rw[hd]at e;obtain⟨hy,rfl⟩:=bR hd;obtain⟨v',h1,h2⟩:=hm _ _ (hJ.mle hz hy);have h3:=(hl z hz y hy).hp;rw[h1];have e':om (rk y,y.hops) q h=true:=e;have e3:rk y<=y.seq:=by unfold rk;split<;>omega
   show om (v',0) q h=true;unfold om at *;simp only[Bool.or_eq_true,fF,jg]at *;omega
theorem NI{me now:Int}{A A':List Rt}(t:U2 me now c A A'):∀y∈A,∃z∈A',z.dest=y.dest:=by
 have hmap:∀(f:Rt->Rt),(∀y,(f y).dest=y.dest)->∀y∈A,∃z∈A.map f,z.dest=y.dest:=λf hf y hy=>⟨f y,di.2 ⟨y,hy,rfl⟩,hf y⟩;have hmod:∀(f:Rt->Rt) (d:Int),(∀y,(f y).dest=y.dest)->∀y∈A,∃z∈g_ A d f,z.dest=y.dest:=λf d hf=>hmap _ λy=>by
  split
  ·exact hf y
  ·rfl
 have Tj:∀(d q h n e:Int),∀y∈A,∃z∈(iW me A d q h n e).1,z.dest=y.dest:=by
  intro d q h n e;rcases Cr me A d q h n e with h1|⟨_,_,_,⟨x,_,_,h1⟩|⟨_,h1⟩⟩
  ·rw[h1];exact λy hy=>⟨y,hy,rfl⟩
  ·rw[h1];exact hmod _ d λy=>rfl
  ·rw[h1];exact λy hy=>⟨y,qV.2 (.inr hy),rfl⟩
 cases t with
 |VX=>exact Tj _ _ _ _ _
 |VW=>exact Tj _ _ _ _ _
 |use d e=>exact hmod _ d λy=>mE e y
 |bH d n=>exact hmod _ d λy=>lu n y
 |lose fr p L hc x hx=>exact hmod _ x.1 λy=>eG _ _ y
 |brk d_=>exact hmap _ λy=>eG _ _ y
 |grow d _=>exact hmod _ d λy=>rfl
theorem acP{D:Int->Prop}{J:nK}(h:Jm G D J s)(l:Lb G D s)(k:Pr c s s'):Jm G D J s':=by
 cases k with
 |yI e=>exact h.same e.f e.bA e.own (by rw[e.A];exact λy hy=>⟨y,hy,rfl⟩)
 |tab t=>exact h.same rfl rfl rfl (NI t)
 |aK _ _ _ _ _=>exact h.same rfl rfl rfl λy hy=>⟨y,hy,rfl⟩
 |grw=>exact h.same rfl rfl rfl λy hy=>⟨y,hy,rfl⟩
 |mx _ _ _ _=>exact h.same rfl rfl rfl λy hy=>⟨y,hy,rfl⟩
 |wr=>exact(Ak h l).1
def BG(S:List bJ)(a d:Int):Prop:=d≠a∧∃t∈S,t.addr=d
theorem ZH{S:List bJ}(h:CI G S){i:Nat}{st:bJ}{s:St}(hS:S[i]?=some st)(hz:st.nd=some s):Lb G (BG S st.addr) s:=by
 obtain⟨_,b,_,d⟩:=h.nd i st s hS hz;exact⟨λy hy=>⟨⟨(d y hy).2,(d y hy).1.dest⟩,(d y hy).1.sq⟩,b⟩
theorem nY{S:List bJ}{s s':bJ}(hs:S[i]?=some s)(e:s'.addr=s.addr){d:Int}(h:∃t∈S.set i s',t.addr=d):∃t∈S,t.addr=d:=by
 obtain⟨t,ht,hd⟩:=h;rcases List.mem_or_eq_of_mem_set ht with ht|rfl
 ·exact⟨t,ht,hd⟩
 ·exact⟨s,gG hs,e.symm.trans hd⟩
theorem Lb.D{D:Int->Prop}(h:Lb G D s)(hd:∀d,D d->D' d):Lb G D' s:=⟨λy hy=>⟨hd _ (h.ln y hy).1,(h.ln y hy).2⟩,h.sq⟩
end Go.Proofs.YtakaadcpaeiccabGreat
