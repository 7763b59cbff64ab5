import Derived.Test.YtakaadcpaeiccabGreatC32
namespace Go.Proofs.YtakaadcpaeiccabGreat
variable{G G' d h h' q q':Int}{r:Int×Int}{i k:Nat}{s s':bJ}{p p':bJ->Bool}
def vr(s:bJ)(d:Int):Option (Int×Int):=
 match s.nd with
 |some z=>(aJ z.A d).map λy=>(rk y,y.hops)
 |none=>(mJ (jl s.bn) d).map λq=>(q,0)
def oo(r:Int×Int)(q h:Int):Bool:=decide (q<r.1)||(decide (r.1=q)&&decide (r.2<=h))
def tH(s:bJ)(d q h:Int):Bool:=
 match vr s d with
 |some r=>oo r q h
 |none=>false
def cP(d q h:Int)(s:bJ):Bool:=decide (s.addr=d)||tH s d q h
def cnt(S:List bJ)(d q h:Int):Nat:=S.countP (cP d q h)
structure l5(s s':bJ):Prop where
 addr:s'.addr=s.addr
 ge:∀d q h,d≠s.addr->tH s d q h=true->tH s' d q h=true
theorem l5.refl(s:bJ):l5 s s:=⟨rfl,λ_ _ _ _ h=>h⟩
theorem l5.trans{a b c:bJ}(p:l5 a b)(q:l5 b c):l5 a c:=⟨q.addr.trans p.addr,λd x h hd e=>q.ge d x h (by rw[p.addr];exact hd) (p.ge d x h hd e)⟩
theorem abG(e:oo r q h=true)(hle:q'<q∨(q'=q∧h<=h')):oo r q' h'=true:=by
 unfold oo at *;simp only[Bool.or_eq_true,fG,jh]at *;omega
theorem lW(q h:Int):oo (q,h) q h=true:=by simp[oo]
theorem Dl(e:oo r q h=true)(f:oo (q,h) q' h'=true):oo r q' h'=true:=by
 unfold oo at *;simp only[Bool.or_eq_true,fG,jh]at *;omega
theorem ZW(e:tH s d q h=true)(hle:q'<q∨(q'=q∧h<=h')):tH s d q' h'=true:=by
 unfold tH at *;split
 ·rename_i r hr;rw[hr]at e;exact abG e hle
 ·rename_i hr;rw[hr]at e;exact e
theorem ZJ(e:cP d q h s=true)(hle:q'<q∨(q'=q∧h<=h')):cP d q' h' s=true:=by
 unfold cP at *;rw[Bool.or_eq_true]at *;exact e.imp_right λe=>ZW e hle
theorem aeg(l:l5 s s')(e:cP d q h s=true):cP d q h s'=true:=by
 unfold cP at *;rw[l.addr];by_cases hd:s.addr=d
 ·simp[hd]
 ·rw[Bool.or_eq_true]at *;rcases e with e|e
  ·exact .inl e
  ·exact .inr (l.ge d q h (λh=>hd h.symm) e)
theorem sZ:∀(S:List bJ) (i:Nat) (s':bJ),(∀t,p t=true->p' t=true)->(∀s,S[i]?=some s->p s=true->p' s'=true)->S.countP p<=(S.set i s').countP p'
 | [],_,_,_,_=>dh _
 |t::S,0,s',hp,hs=>by
  rw[List.set_cons_zero,List.countP_cons,List.countP_cons];have h1:S.countP p<=S.countP p':=List.countP_mono_left λt _ h=>hp t h;have h2:=hs t rfl;cases e:p t
  ·simp only[Bool.false_eq_true,if_false];omega
  ·rw[aQ rfl,aQ (h2 e)];omega
 |t::S,i+1,s',hp,hs=>by
  rw[List.set_cons_succ,List.countP_cons,List.countP_cons];have h1:=sZ S i s' hp (λs h=>hs s h);cases e:p t
  ·simp only[Bool.false_eq_true,if_false];omega
  ·rw[aQ rfl,aQ (hp t e)];omega
theorem qw:∀(S:List bJ) (i:Nat) (s s':bJ),(∀t,p t=true->p' t=true)->S[i]?=some s->p s=false->p' s'=true->S.countP p+1<=(S.set i s').countP p'
 | [],_,_,_,_,h,_,_=>by cases h
 |t::S,0,s,s',hp,h,h1,h2=>by
  cases h;rw[List.set_cons_zero,List.countP_cons,List.countP_cons,h1,aQ h2];have h1:S.countP p<=S.countP p':=List.countP_mono_left λt _ h=>hp t h;simp only[Bool.false_eq_true,if_false];omega
 |t::S,i+1,s,s',hp,h,h1,h2=>by
  rw[List.set_cons_succ,List.countP_cons,List.countP_cons];have h3:=qw S i s s' hp h h1 h2;cases e:p t
  ·simp only[Bool.false_eq_true,if_false];omega
  ·rw[aQ rfl,aQ (hp t e)];omega
theorem Ff{S:List bJ}(hs:S[i]?=some s)(l:l5 s s')(d q h:Int):cnt S d q h<=cnt (S.set i s') d q h:=
 sZ S i s' (λ_ h=>h) λt ht h=>by
  rw[hs]at ht;cases ht;exact aeg l h
theorem UG{S:List bJ}(hs:S[i]?=some s){d q h h':Int}(hle:h<=h')(h1:cP d q h s=false)(h2:cP d q h' s'=true):cnt S d q h+1<=cnt (S.set i s') d q h':=
 qw S i s s' (λt h=>ZJ h (.inr ⟨rfl,hle⟩)) hs h1 h2
theorem UF(S:List bJ)(d q:Int){h h':Int}(hle:h<=h'):cnt S d q h<=cnt S d q h':=List.countP_mono_left λ_ _ e=>ZJ e (.inr ⟨rfl,hle⟩)
theorem KA(S:List bJ)(d q h:Int):cnt S d q h<=S.length:=List.countP_le_length
theorem Nl{S:List bJ}(q h:Int)(hd:∃s∈S,s.addr=d):1<=cnt S d q h:=by
 obtain⟨s,hs,e⟩:=hd;exact List.countP_pos_iff.2 ⟨s,hs,by simp[cP,e]⟩
structure yD(G:Int)(S:List bJ)(i:Nat)(y:Rt):Prop where
 dest:∃s∈S,s.addr=y.dest
 hp:0<=y.hops
 sq:0<=y.seq∧y.seq<=G
 nx:y.valid=true->∃j s,j≠i∧S[j]?=some s∧s.addr=y.next∧(y.dest=y.next∨tH s y.dest y.seq (y.hops - 1)=true)
 hc:y.valid=true->y.hops+8<=8 * (cnt S y.dest y.seq y.hops:Int)
structure ZR(G:Int)(S:List bJ)(j:Nat)(p:aF)(L:List (Int×Int)):Prop where
 k1:p.kind=1->(∃s∈S,s.addr=p.aK)∧0<=p.hops∧(0<=p.dx∧p.dx<=G)∧(0<=p.a_∧p.a_<=G)∧p.hops+p.ttl<=8 * (cnt S p.aK p.dx p.hops:Int)∧∃s,S[j]?=some s∧(s.addr=p.aK∨tH s p.aK p.dx p.hops=true)
 k2:p.kind=2->(∃s∈S,s.addr=p.dest)∧0<=p.hops∧(0<=p.a_∧p.a_<=G)∧p.hops+p.ttl<=8 * (cnt S p.dest p.a_ p.hops:Int)∧∃s,S[j]?=some s∧(s.addr=p.dest∨tH s p.dest p.a_ p.hops=true)
 k3:p.kind=3->∀x∈L,0<=x.2∧x.2<=G
theorem gJ{S:List bJ}(hs:S[i]?=some s)(e:s'.addr=s.addr){d:Int}(h:∃t∈S,t.addr=d):∃t∈S.set i s',t.addr=d:=by
 obtain⟨t,ht,hd⟩:=h;obtain⟨k,hk⟩:=List.getElem?_of_mem ht;by_cases hki:k=i
 ·subst hki;rw[hs]at hk;cases hk;exact⟨s',gH (List.getElem?_set_self (eD.1 hs).1),e.trans hd⟩
 ·exact⟨t,gH ((List.getElem?_set_ne (λe=>hki e.symm)).trans hk),hd⟩
theorem mZ{S:List bJ}(hs:S[i]?=some s)(l:l5 s s'){j:Nat}{t:bJ}(h:S[j]?=some t):∃t',(S.set i s')[j]?=some t'∧l5 t t':=by
 by_cases hji:j=i
 ·subst hji;rw[hs]at h;cases h;exact⟨s',List.getElem?_set_self (eD.1 hs).1,l⟩
 ·exact⟨t,(List.getElem?_set_ne (λe=>hji e.symm)).trans h,l5.refl t⟩
theorem Ze{t t':bJ}(l:l5 t t'){d q h:Int}(hd:d≠t.addr∨t.addr=d)(e:t.addr=d∨tH t d q h=true):t'.addr=d∨tH t' d q h=true:=by
 rcases hd with hd|hd
 ·rcases e with e|e
  ·exact absurd e.symm hd
  ·exact .inr (l.ge d q h hd e)
 ·exact .inl (l.addr.trans hd)
theorem yD.set{S:List bJ}{y:Rt}(h:yD G S k y)(hG:G<=G')(hs:S[i]?=some s)(l:l5 s s'):yD G' (S.set i s') k y:=by
 refine⟨gJ hs l.addr h.dest,h.hp,⟨h.sq.1,Int.le_trans h.sq.2 hG⟩,λhv=> ?_,λhv=> ?_⟩
 ·obtain⟨j,t,hj,ht,ha,hb⟩:=h.nx hv;obtain⟨t',ht',lt⟩:=mZ hs l ht;refine⟨j,t',hj,ht',lt.addr.trans ha,?_⟩;by_cases hd:y.dest=y.next
  ·exact .inl hd
  ·refine .inr (lt.ge _ _ _ (by rw[ha];exact hd)?_);rcases hb with hb|hb
   ·exact absurd hb hd
   ·exact hb
 ·have h1:=h.hc hv;have h2:=Ff hs l y.dest y.seq y.hops;omega
theorem ZR.set{S:List bJ}{p:aF}{L:List (Int×Int)}(h:ZR G S k p L)(hG:G<=G')(hs:S[i]?=some s)(l:l5 s s'):ZR G' (S.set i s') k p L:=by
 refine⟨λhk=> ?_,λhk=> ?_,λhk x hx=> ?_⟩
 ·obtain⟨h1,h2,h3,h4,h5,t,ht,h6⟩:=h.k1 hk;obtain⟨t',ht',lt⟩:=mZ hs l ht;have:=Ff hs l p.aK p.dx p.hops;exact⟨gJ hs l.addr h1,h2,⟨h3.1,by omega⟩,⟨h4.1,by omega⟩,by omega,t',ht',Ze lt (by by_cases e:t.addr=p.aK;exact .inr e;exact .inl λh=>e h.symm) h6⟩
 ·obtain⟨h1,h2,h3,h5,t,ht,h6⟩:=h.k2 hk;obtain⟨t',ht',lt⟩:=mZ hs l ht;have:=Ff hs l p.dest p.a_ p.hops;exact⟨gJ hs l.addr h1,h2,⟨h3.1,by omega⟩,by omega,t',ht',Ze lt (by by_cases e:t.addr=p.dest;exact .inr e;exact .inl λh=>e h.symm) h6⟩
 ·have:=h.k3 hk x hx;omega
variable{b:ByteArray}{G:Int}{L:List (Int×Int)}{j k:Nat}{p:aF}
def g8(x:Int):Int:=((x.toNat%256:Nat):Int)
theorem abI(x:Int):0<=g8 x∧g8 x<=255:=by unfold g8;omega
theorem sU{x:Int}(h:0<=x∧x<=255):g8 x=x:=by unfold g8;omega
theorem Z8(xs:List Int):aI (strOfNums xs)=xs.map g8:=by
 simp only[aI,strOfNums_data,List.map_map];refine List.map_congr_left λx _=> ?_;simp only[Function.comp_apply];rw[UInt8.toNat_ofNat'];rfl
def w8(n:Int):Int:=n4 (g8 (n / 16777216)) (g8 (n / 65536%256)) (g8 (n / 256%256)) (g8 (n%256))
theorem UR(n:Int):(b4 n).map g8=b4 (w8 n):=by
 unfold w8;rw[aeh (abI _) (abI _) (abI _)];rfl
theorem Y7{n:Int}(h:bB n):w8 n=n:=by
 unfold bB at h;unfold w8;rw[sU (by omega),sU (by omega),sU (by omega),sU (by omega)];exact Zh
theorem jL:w8 0=0:=by decide
def wP(p:aF):aF:={p with id:=w8 p.id,dest:=w8 p.dest,a_:=w8 p.a_,aK:=w8 p.aK,dx:=w8 p.dx,life:=w8 p.life}
def wL(L:List (Int×Int)):List (Int×Int):=L.map λx=>(w8 x.1,w8 x.2)
theorem VU(p:aF):(wP p).nums=p.nums.map λx=>(x.1,w8 x.2):=by
 unfold aF.nums;show(if p.kind=1 then _ else if p.kind=2 then _ else if p.kind=9 then _ else _)=_;split
 ·rfl
 ·split
  ·rfl
  ·split<;>rfl
theorem Xx{xs:List Int}(h:∀x∈xs,0<=x∧x<=255):xs.map g8=xs:=by
 conv=>rhs;rw[<-List.map_id xs]
 exact List.map_congr_left λx hx=>sU (h x hx)
theorem Un(hg:p.eX=true):0<=p.cnt∧p.cnt<=255:=by
 obtain⟨_,_,_,h0,h1,hp,hk⟩:=eU hg;unfold aF.cnt;split
 ·rcases hk with h|h|h|h<;>omega
 ·split<;>omega
theorem abP(hg:p.eX=true)(L:List (Int×Int)):(yQ p L).map g8=yQ (wP p) (wL L):=by
 have hc:=Un hg;obtain⟨_,t0,t1,_,_,_,hk⟩:=eU hg;have hf:0<=nU p∧nU p<=255:=by unfold nU;split<;>omega
 have h1:(p.head).map g8=(wP p).head:=by
  have e:p.head.map g8=[g8 p.ttl,g8 p.kind,g8 (nU p),g8 0,g8 p.cnt]:=rfl;rw[e,sU (by omega),sU (by rcases hk with h|h|h|h<;>omega),sU hf,sU (by omega),sU hc];rfl
 have h2:(p.kR p.nums.length).map g8=(wP p).kR (wP p).nums.length:=by
  unfold aF.kR;rw[kr (aD _),kr (aD _),VU,List.map_flatMap,List.flatMap_map]
  congr 1
  funext x
  exact UR x.2
 have h3:(iw L L.length).map g8=iw (wL L) (wL L).length:=by
  unfold iw;rw[kr (aD _),kr (aD _),List.map_flatMap];unfold wL;rw[List.flatMap_map]
  congr 1
  funext x
  rw[List.map_append,UR,UR]
 have h4:(aI p.pay).map g8=aI (wP p).pay:=Xx (oz p.pay);unfold yQ;rw[List.map_append,List.map_append,List.map_append,h1,h2,h3,h4]
theorem Yi(hg:p.eX=true):(wP p).eX=true:=by
 obtain⟨_,_,_,_,_,_,hk⟩:=eU hg;obtain⟨ttl,kind,hops,unk,id,dest,a_,aK,dx,life,la,ln,lc,pay⟩:=p;unfold aF.eX at hg ⊢;simp only[fG]at hg ⊢;obtain⟨⟨⟨h1,h2⟩,h3⟩,h4⟩:=hg;refine⟨⟨⟨h1,h2⟩,?_⟩,?_⟩
 ·unfold wP;dsimp only at h3 ⊢;cases unk
  ·rfl
  ·have hd:a_=0:=by simpa using h3
   subst hd;rfl
 ·dsimp only at hk;rcases hk with rfl|rfl|rfl|⟨rfl,_,_⟩
  ·simp[aF.lX,aF.kQ,wP]at h4 ⊢;obtain⟨a,b,c⟩:=h4;exact⟨by rw[a];exact jL,b,c⟩
  ·simp[aF.lX,aF.kQ,wP]at h4 ⊢;obtain⟨a,b,c⟩:=h4;exact⟨by rw[a];exact jL,by rw[b];exact jL,c⟩
  ·simp[aF.lX,aF.kQ,wP]at h4 ⊢;obtain⟨a,b,c,d⟩:=h4;exact⟨by rw[a];exact jL,by rw[b];exact jL,by rw[c];exact jL,d⟩
  ·simp[aF.lX,aF.kQ,wP]at h4 ⊢;obtain⟨a,b,c,d,e,f,g⟩:=h4;exact⟨by rw[a];exact jL,by rw[b];exact jL,by rw[c];exact jL,by rw[d];exact jL,by rw[e];exact jL,by rw[f];exact jL,g⟩
theorem Ht{x0 x1 x2 x3 x4:Int}{r:List Int}(hl:r.length<=dO x1 x4)(h:vH ((x0::x1::x2::x3::x4::r).take k)=true):(x0::x1::x2::x3::x4::r).take k=x0::x1::x2::x3::x4::r∧r.length=dO x1 x4:=by
 match k,h with
 |0,h=>cases h
 |1,h=>cases h
 |2,h=>cases h
 |3,h=>cases h
 |4,h=>cases h
 |k+5,h=>
  simp only[List.take_succ_cons]at h ⊢;have h1:(r.take k).length=dO x1 x4:=by
   refine Classical.byContradiction λhn=> ?_;rw[fE hn]at h;cases h
  rw[List.length_take]at h1;exact⟨by rw[kr (by omega)],by omega⟩
def Xd(xs:List Int):aF:=iY (xs.getD 0 0) (xs.getD 1 0) (xs.getD 2 0) (xs.getD 4 0) (xs.drop 5)
def lsX(xs:List Int):List (Int×Int):=nD (xs.getD 1 0) (xs.getD 4 0) (xs.drop 5)
theorem aaU(fr:Int)(xs:List Int):MV fr xs=some (fr,Xd xs,lsX xs):=rfl
theorem Yn(hz:L=[]∨L.length=p.ln){k:Nat}(h:vH ((aI (strOfNums (nJ p L))).take k)=true):
  p.eX=true∧L.length=p.ln∧Xd ((aI (strOfNums (nJ p L))).take k)={wP p with la:=none,lc:=0}∧lsX ((aI (strOfNums (nJ p L))).take k)=wL L:=by
 rw[Z8]at h ⊢;unfold nJ at h ⊢;cases hg:p.eX with
 |false=>
  rw[hg]at h;simp only[Bool.false_eq_true,if_false,List.map_nil,List.take_nil]at h;cases h
 |true=>
  rw[hg]at h;rw[aQ rfl,abP hg]at h ⊢;have hgw:=Yi hg;obtain⟨hl,_,_,_,_,hp,hk⟩:=eU hg;have hln:=(pU hl).1;have hkk:(wP p).kind=p.kind:=rfl;have hlen:L.length=p.ln:=by
   rcases hz with rfl|hz
   ·rcases hk with hk|hk|hk|hk
    ·rw[hln];simp[aF.dz,hk]
    ·rw[hln];simp[aF.dz,hk]
    ·rw[hln];simp[aF.dz,hk]
    ·exfalso;rw[Dp]at h;have h0:(qL (wP p) (wL [])).length=0:=by
      unfold qL;have h1:(wP p).kR (wP p).nums.length=[]:=by
       unfold aF.kR aF.nums;rw[hkk,hk.1];rfl
      have h2:aI (wP p).pay=[]:=by
       have h3:=(pU hl).2.2.2;show aI p.pay=[];rw[h3];unfold aF.dz;rw[hk.1];rfl
      rw[h1,h2];rfl
     have h1:=(Ht (by rw[h0];exact dh _) h).2;rw[h0]at h1;have h2:=Sb (wP p) hgw;omega
   ·exact hz
  have hlw:(wL L).length=(wP p).ln:=by
   unfold wL;rw[iL];exact hlen
  obtain⟨d1,d2,d3⟩:=YB (wP p) hgw (wL L) hlw;refine⟨rfl,hlen,?_⟩;rw[Dp]at h ⊢;have e:=(Ht (Nat.le_of_eq d1) h).1;rw[e];exact⟨d2,d3⟩
def yX(G:Int)(S:List bJ)(j:Nat)(b:ByteArray):Prop:=∀k,vH ((aI b).take k)=true->ZR G S j (Xd ((aI b).take k)) (lsX ((aI b).take k))
theorem Ym{S:List bJ}(h:ZR G S j p L)(hU:∀s∈S,bB s.addr)(hG:G<=4294967295)(hz:L=[]∨L.length=p.ln):yX G S j (strOfNums (nJ p L)):=by
 intro k hk;obtain⟨_,_,e1,e2⟩:=Yn hz hk;rw[e1,e2];have hu:∀ {d:Int},(∃s∈S,s.addr=d)->w8 d=d:=λ⟨s,hs,e⟩=>Y7 (e▸hU s hs);have hn:∀ {n:Int},0<=n∧n<=G->w8 n=n:=λh=>Y7 ⟨h.1,by omega⟩;refine⟨λhk=> ?_,λhk=> ?_,λhk x hx=> ?_⟩
 ·obtain⟨a1,a2,a3,a4,a5,a6⟩:=h.k1 hk;show(∃s∈S,s.addr=w8 p.aK)∧0<=p.hops∧(0<=w8 p.dx∧w8 p.dx<=G)∧(0<=w8 p.a_∧w8 p.a_<=G)∧p.hops+p.ttl<=8 * (cnt S (w8 p.aK) (w8 p.dx) p.hops:Int)∧∃s,S[j]?=some s∧(s.addr=w8 p.aK∨tH s (w8 p.aK) (w8 p.dx) p.hops=true);rw[hu a1,hn a3,hn a4];exact h.k1 hk
 ·obtain⟨a1,a2,a3,a5,a6⟩:=h.k2 hk;show(∃s∈S,s.addr=w8 p.dest)∧0<=p.hops∧(0<=w8 p.a_∧w8 p.a_<=G)∧p.hops+p.ttl<=8 * (cnt S (w8 p.dest) (w8 p.a_) p.hops:Int)∧∃s,S[j]?=some s∧(s.addr=w8 p.dest∨tH s (w8 p.dest) (w8 p.a_) p.hops=true);rw[hu a1,hn a3];exact h.k2 hk
 ·obtain⟨y,hy,rfl⟩:=di.1 hx;have h3:=h.k3 hk y hy;dsimp only;rw[hn h3];exact h3
theorem R7(b:ByteArray)(n:Nat):aI (b.extract 0 n)=(aI b).take n:=by
 unfold aI;rw[ByteArray.data_extract,Array.toList_extract,List.map_take];simp
theorem yX.cut{S:List bJ}(h:yX G S j b)(n:Nat):yX G S j (b.extract 0 n):=by
 intro k hk;rw[R7,List.take_take]at hk ⊢;exact h _ hk
theorem yX.whole{S:List bJ}(h:yX G S j b)(hF:vH (aI b)=true):ZR G S j (Xd (aI b)) (lsX (aI b)):=by
 have h1:=h (aI b).length;rw[List.take_length]at h1;exact h1 hF
theorem yX.set{G':Int}{S:List bJ}{i:Nat}{s s':bJ}(h:yX G S k b)(hG:G<=G')(hs:S[i]?=some s)(l:l5 s s'):yX G' (S.set i s') k b:=λn hn=>(h n hn).set hG hs l
variable{c:sG}{G G':Int}{A:List Rt}{i:Nat}{y y':Rt}{s:St}{st:bJ}
theorem mD{s:Int}(h0:0<=s)(h1:s<4294967295):gr s=s+1:=by unfold gr;omega
def P_(A A':List Rt):Prop:=∀d y,aJ A d=some y->∃y',aJ A' d=some y'∧oo (rk y',y'.hops) (rk y) y.hops=true
theorem P_.refl(A:List Rt):P_ A A:=λ_ y h=>⟨y,h,lW _ _⟩
theorem P_.sle{s':St}(h:P_ s.A s'.A)(hz:st.nd=some s):l5 st {st with nd:=some s'}:=by
 refine⟨rfl,λd q h' _ e=> ?_⟩;unfold tH vr at e ⊢;rw[hz]at e;dsimp only at e ⊢;cases hl:aJ s.A d with
 |none=>rw[hl]at e;cases e
 |some y=>
  obtain⟨y',hy',g⟩:=h d y hl;rw[hl]at e;rw[hy'];exact Dl g e
theorem Lx{f:Rt->Rt}(hd:∀y,(f y).dest=y.dest)(hf:∀y∈A,oo (rk (f y),(f y).hops) (rk y) y.hops=true):P_ A (A.map f):=λd y h=>⟨f y,pR hd h,hf y (bR h).1⟩
theorem Ng(q:Int)(h0:0<=y.seq)(h1:y.seq<4294967295)(hv:y.valid=true):oo (rk (qD y q),(qD y q).hops) (rk y) y.hops=true:=by
 have e1:rk (qD y q)=max (gr y.seq) q - 1:=rfl;have e2:rk y=y.seq:=by unfold rk;rw[hv];rfl
 have e3:(qD y q).hops=y.hops:=rfl;rw[e1,e2,e3,mD h0 h1];unfold oo;simp only[Bool.or_eq_true,fG,jh];omega
theorem Sz(fr q:Int)(h0:0<=y.seq)(h1:y.seq<4294967295):oo (rk (bY fr q y),(bY fr q y).hops) (rk y) y.hops=true:=by
 unfold bY;split
 ·rename_i h;simp only[fG]at h;exact Ng q h0 h1 h.1
 ·exact lW _ _
theorem LP(h1:rk y'=rk y)(h2:y'.hops=y.hops):oo (rk y',y'.hops) (rk y) y.hops=true:=by rw[h1,h2];exact lW _ _
theorem rR(e:Int)(y:Rt):(tK e y).dest=y.dest∧(tK e y).seq=y.seq∧(tK e y).hops=y.hops∧(tK e y).next=y.next∧(tK e y).valid=y.valid:=by
 unfold tK;split<;>exact⟨rfl,rfl,rfl,rfl,rfl⟩
theorem rY(n:Int)(y:Rt):(rM n y).dest=y.dest∧(rM n y).seq=y.seq∧(rM n y).hops=y.hops∧(rM n y).next=y.next∧(rM n y).valid=y.valid:=by
 unfold rM;split<;>exact⟨rfl,rfl,rfl,rfl,rfl⟩
theorem LU(h1:y'.seq=y.seq)(h2:y'.valid=y.valid):rk y'=rk y:=by unfold rk;rw[h1,h2]
theorem yD.same{S:List bJ}(h:yD G S i y)(e:y'.dest=y.dest∧y'.seq=y.seq∧y'.hops=y.hops∧y'.next=y.next∧y'.valid=y.valid):yD G S i y':=by
 obtain⟨e1,e2,e3,e4,e5⟩:=e;refine⟨by rw[e1];exact h.dest,by rw[e3];exact h.hp,by rw[e2];exact h.sq,?_,?_⟩
 ·rw[e1,e2,e3,e4,e5];exact h.nx
 ·rw[e1,e2,e3,e5];exact h.hc
theorem yD.up{S:List bJ}(h:yD G S i y)(hG:G<=G'):yD G' S i y:=⟨h.dest,h.hp,⟨h.sq.1,Int.le_trans h.sq.2 hG⟩,h.nx,h.hc⟩
theorem yD.ended{S:List bJ}(h:yD G S i y)(hd:y'.dest=y.dest)(hh:y'.hops=y.hops)(hv:y'.valid=false)(hs:0<=y'.seq∧y'.seq<=G'):yD G' S i y':=
 ⟨by rw[hd];exact h.dest,by rw[hh];exact h.hp,hs,λh=>(by rw[hv]at h;cases h),λh=>(by rw[hv]at h;cases h)⟩
structure CI(G:Int)(S:List bJ):Prop where
 len:S.length<=6
 Jq:∀s∈S,bB s.addr∧s.addr≠0
 inj:∀(i j:Nat) s t,S[i]?=some s->S[j]?=some t->s.addr=t.addr->i=j
 nd:∀(i:Nat) s z,S[i]?=some s->s.nd=some z->z.me=s.addr∧(0<=z.seq∧z.seq<=G)∧Asc z.A∧∀y∈z.A,yD G S i y∧y.dest≠s.addr
theorem CI.set{S:List bJ}(h:CI G S)(hG:G<=G'){i:Nat}{s s':bJ}(hs:S[i]?=some s)(l:l5 s s')(hn:∀z,s'.nd=some z->z.me=s'.addr∧(0<=z.seq∧z.seq<=G')∧Asc z.A∧∀y∈z.A,yD G' (S.set i s') i y∧y.dest≠s'.addr):CI G' (S.set i s'):=by
 have hg:∀(j:Nat) t,(S.set i s')[j]?=some t->∃u,S[j]?=some u∧t.addr=u.addr:=λj t ht=>by
  rcases cK ht with⟨rfl,rfl⟩|⟨_,ht⟩
  ·exact⟨s,hs,l.addr⟩
  ·exact⟨t,ht,rfl⟩
 refine⟨by rw[List.length_set];exact h.len,λt ht=> ?_,λj k t u ht hu e=> ?_,λj t z ht hz=> ?_⟩
 ·obtain⟨j,hj⟩:=List.getElem?_of_mem ht;obtain⟨u,hu,e⟩:=hg j t hj;rw[e];exact h.Jq u (gH hu)
 ·obtain⟨t1,ht1,e1⟩:=hg j t ht;obtain⟨u1,hu1,e2⟩:=hg k u hu;exact h.inj j k t1 u1 ht1 hu1 (by rw[<-e1,<-e2];exact e)
 ·rcases cK ht with⟨rfl,rfl⟩|⟨_,ht⟩
  ·exact hn z hz
  ·obtain⟨a,b,c,d⟩:=h.nd j t z ht hz;exact⟨a,⟨b.1,by omega⟩,c,λy hy=>⟨(d y hy).1.set hG hs l,(d y hy).2⟩⟩
def Qk(G:Int)(S:List bJ)(me:Int)(c:sG):Prop:=
 ∀fr p L,c=some (fr,p,L)->fr≠me∧1<=p.ttl∧(0<=p.a_∧p.a_<=G)∧(∀x∈L,x.2<=G)∧∃(j:Nat) (t:bJ),S[j]?=some t∧t.addr=fr∧ZR G S j p L
theorem Qk.set{S:List bJ}{me:Int}(h:Qk G S me c)(hG:G<=G'){i:Nat}{s s':bJ}(hs:S[i]?=some s)(l:l5 s s'):Qk G' (S.set i s') me c:=by
 intro fr p L hc;obtain⟨h1,h2,h3,h4,j,t,hj,ha,hf⟩:=h fr p L hc;obtain⟨t',ht',lt⟩:=mZ hs l hj;exact⟨h1,h2,⟨h3.1,by omega⟩,λx hx=>Int.le_trans (h4 x hx) hG,j,t',ht',lt.addr.trans ha,hf.set hG hs l⟩
theorem Q6{S:List bJ}{s:bJ}(h:S[i]?=some s):S.set i s=S:=by
 refine List.ext_getElem? λj=> ?_;by_cases e:j=i
 ·subst e;rw[List.getElem?_set_self (eD.1 h).1,h]
 ·rw[List.getElem?_set_ne (λh=>e h.symm)]
theorem wu(hz:st.nd=some s)(d:Int):vr st d=(aJ s.A d).map λy=>(rk y,y.hops):=by
 unfold vr;rw[hz]
theorem sF.tH(hz:st.nd=some s){d q h:Int}(r:sF (aJ s.A d) q h):tH st d q h=true:=by
 obtain⟨y,hy,e⟩:=r;unfold Go.Proofs.YtakaadcpaeiccabGreat.tH;rw[wu hz,hy];show oo (rk y,y.hops) q h=true;unfold oo;simp only[Bool.or_eq_true,fG,jh];exact e
theorem Cs(me:Int)(A:List Rt)(d q h n e:Int):((iX me A d q h n e).1=A)∨(d≠me∧d≠0∧(iX me A d q h n e).2=0∧((∃x,aJ A d=some x∧VQ (newR d q h n e) x=true∧(iX me A d q h n e).1=h_ A d (zy q h n e))∨(aJ A d=none∧(iX me A d q h n e).1=um A (newR d q h n e)))):=by
 unfold iX;split
 ·exact .inl rfl
 ·rename_i hd;simp only[not_or]at hd;cases hl:aJ A d with
  |some x=>
   dsimp only;split
   ·rename_i hg;exact .inr ⟨hd.1,hd.2,rfl,.inl ⟨x,rfl,hg,rfl⟩⟩
   ·exact .inl rfl
  |none=>
   dsimp only;split
   ·exact .inl rfl
   ·exact .inr ⟨hd.1,hd.2,rfl,.inr ⟨rfl,rfl⟩⟩
theorem BX(A:List Rt)(x:Rt)(d:Int)(hd:d≠x.dest):aJ (um A x) d=aJ A d:=by
 unfold um aJ;have hx:(x.dest==d)=false:=by simpa using λe=>hd e.symm
 conv=>rhs;rw[<-List.take_append_drop (pos A x.dest) A]
 rw[List.find?_append,List.find?_append,List.find?_cons,hx]
theorem QR{S:List bJ}(hS:S[i]?=some st)(hz:st.nd=some s)(h:CI G S)(hc:Qk G S s.me c)(hG0:0<=G)(hG:G+1<4294967295)(t:U3 s.me s.now c s.A A):
  l5 st {st with nd:=some {s with A:=A}}∧Asc A∧∀y∈A,yD (G+1) (S.set i {st with nd:=some {s with A:=A}}) i y∧y.dest≠st.addr:=by
 obtain⟨hme,Tq,hasc,hln⟩:=h.nd i st s hS hz;have hmap:∀(f:Rt->Rt),(∀y,(f y).dest=y.dest)->(∀y∈s.A,oo (rk (f y),(f y).hops) (rk y) y.hops=true)->(∀y∈s.A,yD (G+1) S i (f y))->A=s.A.map f->l5 st {st with nd:=some {s with A:=A}}∧Asc A∧∀y∈A,yD (G+1) (S.set i {st with nd:=some {s with A:=A}}) i y∧y.dest≠st.addr:=by
  rintro f hd hf hl rfl;have l:l5 st {st with nd:=some {s with A:=s.A.map f}}:=P_.sle (s':={s with A:=s.A.map f}) (Lx hd hf) hz;refine⟨l,?_,λy hy=> ?_⟩
  ·unfold Asc;rw[List.pairwise_map];refine hasc.imp λ{a b} hab=> ?_;rw[hd,hd];exact hab
  ·obtain⟨z,hz',rfl⟩:=di.1 hy;exact⟨(hl z hz').set (eZ _) hS l,by rw[hd];exact(hln z hz').2⟩
 have hmod:∀(f:Rt->Rt) (d:Int),(∀y,(f y).dest=y.dest)->(∀y∈s.A,y.dest=d->oo (rk (f y),(f y).hops) (rk y) y.hops=true∧yD (G+1) S i (f y))->A=h_ s.A d f->l5 st {st with nd:=some {s with A:=A}}∧Asc A∧∀y∈A,yD (G+1) (S.set i {st with nd:=some {s with A:=A}}) i y∧y.dest≠st.addr:=by
  intro f d hd hf hA;refine hmap (λx=>if x.dest=d then f x else x) (λy=> ?_) (λy hy=> ?_) (λy hy=> ?_) hA
  ·split
   ·exact hd y
   ·rfl
  ·split
   ·rename_i e;exact(hf y hy e).1
   ·exact lW _ _
  ·split
   ·rename_i e;exact(hf y hy e).2
   ·exact(hln y hy).1.up (by omega)
 have Tk:∀(d q hp n e:Int),(d≠s.me->(∃s∈S,s.addr=d)∧0<=hp∧(0<=q∧q<=G)∧hp+1<=8 * (cnt S d q hp:Int)∧n≠s.me∧∃(j:Nat) (t:bJ),S[j]?=some t∧t.addr=n∧(t.addr=d∨tH t d q hp=true))->A=(iX s.me s.A d q (St.far hp) n e).1->l5 st {st with nd:=some {s with A:=A}}∧Asc A∧∀y∈A,yD (G+1) (S.set i {st with nd:=some {s with A:=A}}) i y∧y.dest≠st.addr:=by
  intro d q hp n e hx hA;rcases Cs s.me s.A d q (St.far hp) n e with h1|⟨Dj,hd0,hcode,h1⟩
  ·rw[h1]at hA;refine hmap id (λy=>rfl) (λy _=>lW _ _) (λy hy=>(hln y hy).1.up (by omega)) (by rw[List.map_id];exact hA)
  ·obtain⟨x1,x2,x3,x4,x5,j,t,hj,ht,hge⟩:=hx Dj;have hcl:=KA S d q hp;have hlen:=h.len;have Ke:St.far hp=hp+1:=by unfold St.far;omega
   have hrk:=zT (me:=s.me) (A:=s.A) (d:=d) (q:=q) (h:=St.far hp) (n:=n) (e:=e) Dj hd0 (by rw[hcode];decide);rw[<-hA]at hrk;have adm:∀x,aJ s.A d=some x->VQ (newR d q (St.far hp) n e) x=true->oo (rk (newR d q (St.far hp) n e),(newR d q (St.far hp) n e).hops) (rk x) x.hops=true∧oo (rk x,x.hops) q hp=false:=by
    intro x _ hg;have e1:rk (newR d q (St.far hp) n e)=q:=rfl;have e2:(newR d q (St.far hp) n e).hops=St.far hp:=rfl;unfold VQ at hg;rw[e1,e2]at hg;rw[e1,e2];unfold oo;split at hg
    ·rename_i e3;simp only[jh]at hg;refine⟨?_,?_⟩
     ·simp only[Bool.or_eq_true,fG,jh];omega
     ·simp only[Bool.or_eq_false_iff,Bool.and_eq_false_iff,decide_eq_false_iff_not];omega
    ·rename_i e3;simp only[jh]at hg;refine⟨?_,?_⟩
     ·simp only[Bool.or_eq_true,fG,jh];omega
     ·simp only[Bool.or_eq_false_iff,Bool.and_eq_false_iff,decide_eq_false_iff_not];omega
   have aeW:P_ s.A A:=by
    intro d' y hy;by_cases hdd:d'=d
    ·subst hdd;rcases h1 with⟨x,hx1,hx2,hx3⟩|⟨hx1,_⟩
     ·rw[hy]at hx1;cases hx1;obtain⟨y',hy',hr⟩:=hrk;refine⟨y',hy',Dl ?_ (adm y hy hx2).1⟩;show oo (rk y',y'.hops) q (St.far hp)=true;unfold oo;simp only[Bool.or_eq_true,fG,jh];exact hr
     ·rw[hy]at hx1;cases hx1
    ·refine⟨y,?_,lW _ _⟩;rcases h1 with⟨x,hx1,hx2,hx3⟩|⟨hx1,hx3⟩
     ·rw[hA,hx3];have h2:=pR (f:=λx=>if x.dest=d then zy q (St.far hp) n e x else x) (λy=>by split<;>rfl) hy;rw[aM (by rw[(bR hy).2];exact hdd)]at h2;exact h2
     ·rw[hA,hx3,BX _ _ _ hdd];exact hy
   have l:l5 st {st with nd:=some {s with A:=A}}:=P_.sle (s':={s with A:=A}) aeW hz;have hcm:cnt S d q hp+1<=cnt (S.set i {st with nd:=some {s with A:=A}}) d q (St.far hp):=by
    refine UG hS (by omega)?_ ?_
    ·unfold cP tH;rw[wu hz,Bool.or_eq_false_iff];refine⟨by simpa using λe=>Dj (by rw[hme];exact e.symm),?_⟩;rcases h1 with⟨x,hx1,hx2,hx3⟩|⟨hx1,hx3⟩
     ·rw[hx1];exact(adm x hx1 hx2).2
     ·rw[hx1];rfl
    ·unfold cP;rw[Bool.or_eq_true];exact .inr (sF.tH rfl hrk)
   have hnew:∀y,y.dest=d->y.seq=q->y.hops=St.far hp->y.next=n->y.valid=true->yD (G+1) (S.set i {st with nd:=some {s with A:=A}}) i y:=by
    intro y e1 e2 e3 e4 e5;refine⟨by rw[e1];exact gJ hS l.addr x1,by omega,by omega,λ_=> ?_,λ_=> ?_⟩
    ·have hji:j≠i:=λhji=>by
      subst hji;rw[hS]at hj;cases hj;exact x5 (by rw[<-ht,hme])
     refine⟨j,t,hji,(List.getElem?_set_ne (λe=>hji e.symm)).trans hj,ht.trans e4.symm,?_⟩;rw[e1,e2,e3,e4,Ke];rcases hge with hge|hge
     ·exact .inl (by rw[<-hge,ht])
     ·exact .inr (by rw[show hp+1 - 1=hp by omega];exact hge)
    ·rw[e1,e2,e3];omega
   refine⟨l,?_,λy hy=> ?_⟩
   ·rcases h1 with⟨x,hx1,hx2,hx3⟩|⟨hx1,hx3⟩
    ·rw[hA,hx3];exact Ag hasc d _ λy=>rfl
    ·rw[hA,hx3];exact Hu hasc hx1
   ·rcases h1 with⟨x,hx1,hx2,hx3⟩|⟨hx1,hx3⟩
    ·rw[hA,hx3]at hy;rcases Af hy with⟨z,hz',he,rfl⟩|⟨hy,_⟩
     ·exact⟨hnew _ he rfl rfl rfl rfl,by show z.dest≠st.addr;rw[he,<-hme];exact Dj⟩
     ·exact⟨((hln y hy).1.set (by omega) hS l),(hln y hy).2⟩
    ·rw[hA,hx3]at hy;rcases qW.1 hy with rfl|hy
     ·exact⟨hnew _ rfl rfl rfl rfl rfl,by show d≠st.addr;rw[<-hme];exact Dj⟩
     ·exact⟨((hln y hy).1.set (by omega) hS l),(hln y hy).2⟩
 have TH:∀(fr q:Int) (y:Rt),y∈s.A->(q<=G)->oo (rk (bY fr q y),(bY fr q y).hops) (rk y) y.hops=true∧yD (G+1) S i (bY fr q y):=by
  intro fr q y hy hq;have h2:=(hln y hy).1;have h3:=h2.sq;refine⟨Sz fr q h3.1 (by omega),?_⟩;unfold bY;split
  ·refine h2.ended rfl rfl rfl ?_;show 0<=max (gr y.seq) q∧max (gr y.seq) q<=G+1;rw[mD h3.1 (by omega)];omega
  ·exact h2.up (by omega)
 cases t with
 |VY fr p L e hc1 hk=>
  obtain⟨k1,k2,k3,_,j,t,hj,ht,hf⟩:=hc fr p L hc1;obtain⟨f1,f2,f3,f4,f5,u,hu,f6⟩:=hf.k1 hk;rw[hj]at hu;cases hu;exact Tk p.aK p.dx p.hops fr e (λ_=>⟨f1,f2,f3,by omega,k1,j,t,hj,ht,f6⟩) rfl
 |VX fr p L e hc1 hk=>
  obtain⟨k1,k2,k3,_,j,t,hj,ht,hf⟩:=hc fr p L hc1;obtain⟨f1,f2,f3,f5,u,hu,f6⟩:=hf.k2 hk;rw[hj]at hu;cases hu;exact Tk p.dest p.a_ p.hops fr e (λ_=>⟨f1,f2,f3,by omega,k1,j,t,hj,ht,f6⟩) rfl
 |use d e=>exact hmod (tK e) d (λy=>mF e y) (λy hy _=>⟨LP (LU (rR e y).2.1 (rR e y).2.2.2.2) (rR e y).2.2.1,((hln y hy).1.same (rR e y)).up (by omega)⟩) rfl
 |bH d n=>exact hmod (rM n) d (λy=>lC n y) (λy hy _=>⟨LP (LU (rY n y).2.1 (rY n y).2.2.2.2) (rY n y).2.2.1,((hln y hy).1.same (rY n y)).up (by omega)⟩) rfl
 |lose fr p L hc1 x hx=>
  obtain⟨_,_,_,k4,_⟩:=hc fr p L hc1;exact hmod (bY fr x.2) x.1 (λy=>eH _ _ y) (λy hy _=>TH fr x.2 y hy (k4 x hx)) rfl
 |brk eB=>exact hmap (bY eB 0) (λy=>eH _ _ y) (λy hy=>(TH eB 0 y hy hG0).1) (λy hy=>(TH eB 0 y hy hG0).2) rfl
 |grow d hg=>
  refine hmod St.qj d (λy=>rfl) (λy hy hd=> ?_) rfl;have h2:=(hln y hy).1;have h3:=h2.sq;have hv:=hg y (by rw[<-hd];exact jU hasc hy);have e1:rk (St.qj y)=gr y.seq - 1:=by unfold rk St.qj;dsimp only;rw[hv];rfl
  have e2:rk y=y.seq - 1:=by unfold rk;rw[hv];rfl
  refine⟨?_,h2.ended rfl rfl hv ?_⟩
  ·rw[e1,e2,mD h3.1 (by omega)];show oo (y.seq+1 - 1,y.hops) (y.seq - 1) y.hops=true;unfold oo;simp only[Bool.or_eq_true,jh];exact .inl (by omega)
  ·show 0<=gr y.seq∧gr y.seq<=G+1;rw[mD h3.1 (by omega)];omega
variable{c:sG}{G G' d v:Int}{f:Int->Option Int}{D':Int->Prop}{i:Nat}{s s':St}{st:bJ}
abbrev nL:=List (Bool×Int×Int)
def zo(f:Int->Option Int)(d v:Int):Prop:=∃v',f d=some v'∧v<=v'
theorem zo.le{u:Int}(h:zo f d v)(hu:u<=v):zo f d u:=by
 obtain⟨v',h1,h2⟩:=h;exact⟨v',h1,by omega⟩
theorem wz(f:Int->Option Int)(k:Int)(v:Option Int):kD f k v k=v:=aQ rfl
theorem Li{x k:Int}(f:Int->Option Int)(v:Option Int)(h:x≠k):kD f k v x=f x:=aM h
theorem Sj(h:zo f d v)(r:Bool×Int×Int):zo (stepM f r) d v:=by
 obtain⟨v',h1,h2⟩:=h;unfold stepM;split
 ·exact⟨v',h1,h2⟩
 ·by_cases e:d=r.2.1
  ·subst e;refine⟨max v' r.2.2,?_,by omega⟩;rw[wz,h1];rfl
  ·exact⟨v',by rw[Li _ _ e];exact h1,h2⟩
theorem Ah:∀(L:nL){f:Int->Option Int}{d v:Int},zo f d v->zo (L.foldl stepM f) d v
 | [],_,_,_,h=>h
 |r::L,_,_,_,h=>by
  rw[gI];exact Ah L (Sj h r)
theorem MH{L M:nL}(h:zo (mJ L) d v):zo (mJ (L++M)) d v:=by
 unfold mJ;rw[List.foldl_append];exact Ah M h
theorem MF{L:nL}(h:(false,d,v)∈L):zo (mJ L) d v:=by
 obtain⟨a,b,rfl⟩:=List.append_of_mem h;unfold mJ;rw[List.foldl_append,gI];refine Ah b ⟨max (((a.foldl stepM λ_=>none) d).getD 0) v,?_,by omega⟩;unfold stepM kD;simp
theorem JZ{D:Int->Prop}:∀(L:nL) (f:Int->Option Int),(∀d v,f d=some v->D d∧0<=v∧v<=G)->(∀r∈L,(0<=r.2.2∧r.2.2<=G)∧(r.1=false->D r.2.1))->∀d v,L.foldl stepM f d=some v->D d∧0<=v∧v<=G
 | [],_,hf,_=>hf
 |r::L,f,hf,hr=>by
  rw[gI];refine JZ L _ (λd v h=> ?_) λx hx=>hr x (jS _ hx);obtain⟨h1,h2⟩:=hr r iK;unfold stepM at h;split at h
  ·exact hf d v h
  ·rename_i h3;unfold kD at h;split at h
   ·rename_i e;cases h;subst e;refine⟨h2 (by simpa using h3),?_⟩;cases wU:f r.2.1 with
    |none=>
     show 0<=max 0 r.2.2∧max 0 r.2.2<=G;omega
    |some u=>
     have:=(hf _ u wU).2;show 0<=max u r.2.2∧max u r.2.2<=G;omega
   ·exact hf d v h
theorem RF(hG:0<=G):∀(L:nL) (c:Option Int),(0<=c.getD 0∧c.getD 0<=G)->(∀r∈L,0<=r.2.2∧r.2.2<=G)->0<=(L.foldl lM c).getD 0∧(L.foldl lM c).getD 0<=G
 | [],_,hc,_=>hc
 |r::L,c,hc,hr=>by
  rw[gI];refine RF hG L _ ?_ λx hx=>hr x (jS _ hx);have:=hr r iK;unfold lM;split
  ·show 0<=max (c.getD 0) r.2.2∧max (c.getD 0) r.2.2<=G;omega
  ·exact hc
abbrev NwT:=(Int->Option Int)×nL
theorem Mg:∀(A:List Rt) (t:NwT){d v:Int},zo t.1 d v->zo (A.foldl jH t).1 d v
 | [],_,_,_,h=>h
 |y::A,t,d,v,h=>by
  rw[gI];refine Mg A _ ?_;obtain⟨v',h1,h2⟩:=h;unfold jH;split
  ·rename_i hn;dsimp only;by_cases e:d=y.dest
   ·refine⟨y.seq,by rw[e,wz],?_⟩;unfold sM at hn;rw[<-e,h1]at hn;simp at hn;omega
   ·exact⟨v',by rw[Li _ _ e];exact h1,h2⟩
  ·exact⟨v',h1,h2⟩
theorem Gz:∀(A:List Rt) (t:NwT),∀y∈A,zo (A.foldl jH t).1 y.dest y.seq
 | [],_,_,h=>by cases h
 |z::A,t,y,h=>by
  rw[gI];rcases fo.1 h with rfl|h
  ·refine Mg A _ ?_;unfold jH;split
   ·exact⟨y.seq,wz _ _ _,eZ _⟩
   ·rename_i hn;cases hf:t.1 y.dest with
    |none=>
     exfalso;apply hn;unfold sM;rw[hf];rfl
    |some u=>
     refine⟨u,hf,?_⟩;unfold sM at hn;rw[hf]at hn;simp at hn;omega
  ·exact Gz A _ y h
theorem Me:∀(A:List Rt) (t:NwT),∀r∈t.2,r∈(A.foldl jH t).2
 | [],_,_,h=>h
 |y::A,t,r,h=>by
  rw[gI];refine Me A _ r ?_;unfold jH;split
  ·exact List.mem_append_left _ h
  ·exact h
theorem Ej:∀(A:List Rt) (t:NwT) (d v:Int),(A.foldl jH t).1 d=some v->t.1 d=some v∨((false,d,v)∈(A.foldl jH t).2∧∃y∈A,y.dest=d∧y.seq=v)
 | [],_,_,_,h=> .inl h
 |y::A,t,d,v,h=>by
  rw[gI]at h ⊢;rcases Ej A _ d v h with h1|⟨h1,z,hz,e⟩
  ·unfold jH at h1;split at h1
   ·rename_i hn;dsimp only at h1;unfold kD at h1;split at h1
    ·rename_i e;cases h1;refine .inr ⟨Me A _ _ ?_,y,iK,e.symm,rfl⟩;rw[GA hn,e];exact List.mem_append_right _ (fe.2 rfl)
    ·exact .inl h1
   ·exact .inl h1
  ·exact .inr ⟨h1,z,jS _ hz,e⟩
theorem Mf:∀(A:List Rt) (t:NwT),∀r∈(A.foldl jH t).2,r∈t.2∨∃y∈A,r=(false,y.dest,y.seq)
 | [],_,_,h=> .inl h
 |y::A,t,r,h=>by
  rw[gI]at h;rcases Mf A _ r h with h1|⟨z,hz,e⟩
  ·unfold jH at h1;split at h1
   ·rcases d_.1 h1 with h1|h1
    ·exact .inl h1
    ·exact .inr ⟨y,iK,fe.1 h1⟩
   ·exact .inl h1
  ·exact .inr ⟨z,jS _ hz,e⟩
structure Jm(G:Int)(D:Int->Prop)(J:nL)(s:St):Prop where
 fw:∀d v,s.f d=some v->zo (mJ (J++s.bA)) d v
 rc:∀r∈s.bA,(0<=r.2.2∧r.2.2<=G)∧(r.1=false->D r.2.1)
 on:∀d v,s.f d=some v->(∃y∈s.A,y.dest=d)∧0<=v∧v<=G
 ow:0<=s.own∧s.own<=G
structure Lb(G:Int)(D:Int->Prop)(s:St):Prop where
 ln:∀y∈s.A,D y.dest∧0<=y.seq∧y.seq<=G
 sq:0<=s.seq∧s.seq<=G
theorem Jm.up{D:Int->Prop}{J:nL}(h:Jm G D J s)(hG:G<=G'):Jm G' D J s:=
 ⟨h.fw,λr hr=>⟨⟨(h.rc r hr).1.1,Int.le_trans (h.rc r hr).1.2 hG⟩,(h.rc r hr).2⟩,λd v e=>⟨(h.on d v e).1,(h.on d v e).2.1,Int.le_trans (h.on d v e).2.2 hG⟩,h.ow.1,Int.le_trans h.ow.2 hG⟩
theorem Jm.same{D:Int->Prop}{J:nL}(h:Jm G D J s)(hf:s'.f=s.f)(hn:s'.bA=s.bA)(ho:s'.own=s.own)(hA:∀y∈s.A,∃z∈s'.A,z.dest=y.dest):Jm G D J s':=by
 refine⟨by rw[hf,hn];exact h.fw,by rw[hn];exact h.rc,λd v e=> ?_,by rw[ho];exact h.ow⟩;rw[hf]at e;obtain⟨⟨y,hy,e1⟩,h2⟩:=h.on d v e;obtain⟨z,hz,e2⟩:=hA y hy;exact⟨⟨z,hz,e2.trans e1⟩,h2⟩
theorem Al{D:Int->Prop}{J:nL}(h:Jm G D J s)(l:Lb G D s):Jm G D J s.write∧∀y∈s.A,zo s.write.f y.dest y.seq:=by
 have hn:s.write.bA=s.bA++(bL s.seq s.own s.f s.A).2:=rfl;have hf:s.write.f=(bL s.seq s.own s.f s.A).1:=rfl;refine⟨⟨λd v e=> ?_,λr hr=> ?_,λd v e=> ?_,?_⟩,λy hy=>Gz s.A _ y hy⟩
 ·rw[hf]at e;rw[hn,<-List.append_assoc];rcases Ej s.A (s.f,pO s.seq s.own) d v e with h1|⟨h1,_⟩
  ·exact MH (h.fw d v h1)
  ·exact MF (List.mem_append_right _ h1)
 ·rw[hn]at hr;rcases d_.1 hr with hr|hr
  ·exact h.rc r hr
  ·rcases Mf s.A (s.f,pO s.seq s.own) r hr with hr|⟨y,hy,rfl⟩
   ·have hr':r∈pO s.seq s.own:=hr;unfold pO at hr';split at hr'
    ·rw[fe]at hr';subst hr';exact⟨l.sq,λh=>(by cases h)⟩
    ·cases hr'
   ·exact⟨(l.ln y hy).2,λ_=>(l.ln y hy).1⟩
 ·rw[hf]at e;rcases Ej s.A (s.f,pO s.seq s.own) d v e with h1|⟨_,y,hy,e1,e2⟩
  ·exact h.on d v h1
  ·exact⟨⟨y,hy,e1⟩,by rw[<-e2];exact(l.ln y hy).2⟩
 ·have h1:=h.ow;have h2:=l.sq;show 0<=Es s.seq s.own∧Es s.seq s.own<=G;unfold Es;split<;>omega
structure JF(G:Int)(D:Int->Prop)(J:nL)(z:St):Prop where
 fw:∀d v,z.f d=some v->zo (mJ ((if z.bC then []else J)++z.bA)) d v
 rc:∀r∈z.bA,(0<=r.2.2∧r.2.2<=G)∧(r.1=false->D r.2.1)
 on:∀d v,z.f d=some v->(∃y∈z.A,y.dest=d)∧0<=v∧v<=G
 ow:0<=z.own∧z.own<=G
 ln:∀y∈z.A,zo z.f y.dest y.seq
theorem Dc{D:Int->Prop}{J:nL}(h:Jm G D J s)(l:Lb G D s)(hr:s.bC=false∨J=[])(hG:0<=G):JF G D J s.finish:=by
 obtain⟨h1,h2⟩:=Al h l;unfold St.finish;split
 ·refine⟨λd v e=> ?_,λr hr=> ?_,h1.on,h1.ow,h2⟩
  ·obtain⟨⟨y,hy,rfl⟩,_⟩:=h1.on d v e;refine MF ?_;show(false,y.dest,v)∈([]:nL)++s.write.cmp;rw[List.nil_append];refine List.mem_append_right _ (di.2 ⟨y.dest,di.2 ⟨y,hy,rfl⟩,?_⟩);rw[show s.write.f y.dest=some v from e];rfl
  ·have hr':r∈s.write.cmp:=hr;rcases d_.1 hr' with hr'|hr'
   ·have e:r=(true,0,s.write.own):=fe.1 hr';subst e;exact⟨h1.ow,λh=>(by cases h)⟩
   ·obtain⟨a,ha,rfl⟩:=di.1 hr';obtain⟨y,hy,rfl⟩:=di.1 ha;refine⟨?_,λ_=>(l.ln y hy).1⟩;dsimp only;cases e:s.write.f y.dest with
    |none=>exact⟨eZ _,hG⟩
    |some v=>exact(h1.on _ v e).2
 ·refine⟨λd v e=> ?_,h1.rc,h1.on,h1.ow,h2⟩;have e2:(if s.write.bC then []else J)=J:=by
   rcases hr with hr|hr
   ·rw[show s.write.bC=s.bC from rfl,hr];rfl
   ·rw[hr];split<;>rfl
  rw[e2];exact h1.fw d v e
theorem SN{D:Int->Prop}{J:nL}(h:JF G D J s):JF G D J s.freed:=⟨h.fw,h.rc,h.on,h.ow,h.ln⟩
structure JI(G:Int)(D:Int->Prop)(st:bJ):Prop where
 rc:∀r∈jl st.bn,(0<=r.2.2∧r.2.2<=G)∧(r.1=false->D r.2.1)
 fl:∀z,st.nd=some z->∃L,st.bn=bE L
 fw:∀z,st.nd=some z->∀d v,z.f d=some v->zo (mJ (jl st.bn)) d v
 on:∀z,st.nd=some z->∀d v,z.f d=some v->(∃y∈z.A,y.dest=d)∧0<=v∧v<=G
 ow:∀z,st.nd=some z->0<=z.own∧z.own<=G
 ln:∀z,st.nd=some z->∀y∈z.A,zo z.f y.dest y.seq
theorem JI.up{D:Int->Prop}(h:JI G D st)(hG:G<=G'):JI G' D st:=
 ⟨λr hr=>⟨⟨(h.rc r hr).1.1,Int.le_trans (h.rc r hr).1.2 hG⟩,(h.rc r hr).2⟩,h.fl,h.fw,λz hz d v e=>⟨(h.on z hz d v e).1,(h.on z hz d v e).2.1,Int.le_trans (h.on z hz d v e).2.2 hG⟩,λz hz=>⟨(h.ow z hz).1,Int.le_trans (h.ow z hz).2 hG⟩,h.ln⟩
theorem JI.D{D:Int->Prop}(h:JI G D st)(hd:∀d,D d->D' d):JI G D' st:=
 ⟨λr hr=>⟨(h.rc r hr).1,λe=>hd _ ((h.rc r hr).2 e)⟩,h.fl,h.fw,h.on,h.ow,h.ln⟩
theorem JI.mle{D:Int->Prop}(h:JI G D st){z:St}(hz:st.nd=some z){y:Rt}(hy:y∈z.A):zo (mJ (jl st.bn)) y.dest y.seq:=by
 obtain⟨v,h1,h2⟩:=h.ln z hz y hy;exact(h.fw z hz _ v h1).le h2
theorem XB(L M:nL)(n:Nat):∃M':nL,(∀r∈M',r∈M)∧jl (bE L++(bE M).take n)=(L++M').map norm:=by
 by_cases h:n<13 * M.length
 ·refine⟨M.take (n / 13),λr hr=>List.mem_of_mem_take hr,?_⟩;have h1:=aaF (L++M) (13 * L.length+n) (by rw[dw];omega);have h2:(13 * L.length+n)/ 13=L.length+n / 13:=by omega
  have e1:(bE (L++M)).take (13 * L.length+n)=bE L++(bE M).take n:=by
   rw[kP,<-iG L,List.take_length_add_append]
  have e2:(L++M).take (L.length+n / 13)=L++M.take (n / 13):=List.take_length_add_append _;rw[e1,h2,e2]at h1;exact h1
 ·refine⟨M,λr hr=>hr,?_⟩;rw[kr (by rw[iG];omega),<-kP];exact wR _
theorem Mq{D:Int->Prop}{L:nL}(h:∀r∈L,(0<=r.2.2∧r.2.2<=G)∧(r.1=false->D r.2.1)):∀r∈L.map norm,(0<=r.2.2∧r.2.2<=G)∧(r.1=false->D r.2.1):=by
 intro r hr;obtain⟨x,hx,rfl⟩:=di.1 hr;obtain⟨o,a,q⟩:=x;have:=h _ hx;cases o
 ·exact this
 ·exact⟨this.1,λh=>(by cases h)⟩
theorem Hl{D:Int->Prop}{z:St}(hrc:∀r∈jl st.bn,(0<=r.2.2∧r.2.2<=G)∧(r.1=false->D r.2.1))(hfl:z.bC=false->∃L,st.bn=bE L)(h:JF G D (jl st.bn) z)(hw:(bJ.write {st with nd:=some z} z.ot).2=true):JI G D (bJ.write {st with nd:=some z} z.ot).1∧(bJ.write {st with nd:=some z} z.ot).1.nd=some z∧(bJ.write {st with nd:=some z} z.ot).1.addr=st.addr:=by
 by_cases h1:z.ot.bA≠ []∨z.ot.bC=true
 ·rcases Bool.eq_false_or_eq_true st.tears with ht|ht
  ·rw[bJ.o8 (s:={st with nd:=some z}) h1 ht]at hw;cases hw
  ·rw[bJ.jZ (s:={st with nd:=some z}) h1 ht];refine⟨?_,rfl,rfl⟩;have hj:∃L,((if z.bC then []else st.bn)++bE z.bA)=bE L∧jl (bE L)=(if z.bC then []else jl st.bn)++z.bA.map norm:=by
    cases hr:z.bC
    ·obtain⟨L,hL⟩:=hfl hr;refine⟨L++z.bA,?_,?_⟩
     ·simp only[Bool.false_eq_true,if_false];rw[hL,kP]
     ·rw[wR,hL,wR,List.map_append];simp
    ·refine⟨z.bA,by simp,?_⟩;rw[wR];simp
   obtain⟨L,e1,e2⟩:=hj;have e3:jl ((if z.ot.bC then []else st.bn)++bE z.ot.bA)=(if z.bC then []else jl st.bn)++z.bA.map norm:=by
    show jl ((if z.bC then []else st.bn)++bE z.bA)=_;rw[e1];exact e2
   refine⟨?_,λu _=>⟨L,e1⟩,λu hu d v e=> ?_,λu hu=> ?_,λu hu=> ?_,λu hu=> ?_⟩
   ·dsimp only;rw[e3];intro r hr;rcases d_.1 hr with hr|hr
    ·split at hr
     ·cases hr
     ·exact hrc r hr
    ·exact Mq h.rc r hr
   ·cases hu;dsimp only;rw[e3];have h2:=h.fw d v e;obtain⟨v',k1,k2⟩:=h2;refine⟨v',?_,k2⟩;rw[<-k1];unfold mJ;rw[List.foldl_append,List.foldl_append,List.foldl_map];have e4:(λ(f:Int->Option Int) r=>stepM f (norm r))=stepM:=by
     funext f r
     obtain⟨o,a,q⟩:=r;cases o<;>rfl
    rw[e4]
   ·cases hu;exact h.on
   ·cases hu;exact h.ow
   ·cases hu;exact h.ln
 ·simp only[not_or,Classical.not_not]at h1;have h2:z.ot.bC=false:=by simpa using h1.2
  rw[bJ.ou (s:={st with nd:=some z}) h1.1 h2];refine⟨⟨hrc,λu _=>hfl h2,λu hu d v e=> ?_,λu hu=> ?_,λu hu=> ?_,λu hu=> ?_⟩,rfl,rfl⟩
  ·cases hu;have h3:=h.fw d v e;rw[show z.bC=false from h2,show z.bA=[]from h1.1]at h3;simpa using h3
  ·cases hu;exact h.on
  ·cases hu;exact h.ow
  ·cases hu;exact h.ln
theorem XD{D:Int->Prop}{z:St}(hrc:∀r∈jl st.bn,(0<=r.2.2∧r.2.2<=G)∧(r.1=false->D r.2.1))(hfl:z.bC=false->∃L,st.bn=bE L)(h:JF G D (jl st.bn) z)(hi:z.ot.idle=true):JI G D {st with nd:=some z}:=by
 rw[EB]at hi;simp only[fG,jh,Bool.not_eq_true']at hi;have e:=bJ.ou (s:={st with nd:=some z}) hi.1.1 hi.1.2;have h1:=(Hl hrc hfl h (by rw[e])).1;rw[e]at h1;exact h1
theorem XC{D:Int->Prop}{z:St}(hrc:∀r∈jl st.bn,(0<=r.2.2∧r.2.2<=G)∧(r.1=false->D r.2.1))(hfl:z.bC=false->∃L,st.bn=bE L)(hz:∀r∈z.bA,(0<=r.2.2∧r.2.2<=G)∧(r.1=false->D r.2.1))(hw:(bJ.write {st with nd:=some z} z.ot).2=false):JI G D (bJ.write {st with nd:=some z} z.ot).1∧(bJ.write {st with nd:=some z} z.ot).1.nd=none∧(bJ.write {st with nd:=some z} z.ot).1.addr=st.addr∧∀d v,zo (mJ (jl st.bn)) d v->zo (mJ (jl (bJ.write {st with nd:=some z} z.ot).1.bn)) d v:=by
 by_cases h1:z.ot.bA≠ []∨z.ot.bC=true
 ·rcases(Bool.eq_false_or_eq_true st.tears).symm with ht|ht
  ·rw[bJ.jZ (s:={st with nd:=some z}) h1 ht]at hw;cases hw
  ·rw[bJ.o8 (s:={st with nd:=some z}) h1 ht];have hj:∃M:nL,(∀r∈M,(0<=r.2.2∧r.2.2<=G)∧(r.1=false->D r.2.1))∧jl (if z.bC then st.bn else st.bn++(bE z.bA).take st.whole.toNat)=jl st.bn++M:=by
    cases hr:z.bC
    ·obtain⟨L,hL⟩:=hfl hr;obtain⟨M,hM1,hM2⟩:=XB L z.bA st.whole.toNat;refine⟨M.map norm,Mq λr hr=>hz r (hM1 r hr),?_⟩;simp only[Bool.false_eq_true,if_false];rw[hL,hM2,wR,List.map_append]
    ·exact⟨[],λr hr=>(by cases hr),by simp⟩
   obtain⟨M,hM,e⟩:=hj;have e':jl (bJ.stop {st with nd:=some z,bn:=if z.ot.bC then st.bn else st.bn++(bE z.ot.bA).take st.whole.toNat}).bn=jl st.bn++M:=e;refine⟨⟨?_,λu hu=>(by cases hu),λu hu=>(by cases hu),λu hu=>(by cases hu),λu hu=>(by cases hu),λu hu=>(by cases hu)⟩,rfl,rfl,λd v hd=> ?_⟩
   ·rw[e'];intro r hr;rcases d_.1 hr with hr|hr
    ·exact hrc r hr
    ·exact hM r hr
   ·rw[e'];exact MH hd
 ·simp only[not_or,Classical.not_not]at h1;have h2:z.ot.bC=false:=by simpa using h1.2
  rw[bJ.ou (s:={st with nd:=some z}) h1.1 h2]at hw;cases hw
theorem F6{D:Int->Prop}{S:List bJ}{st':bJ}(hJ:JI G D st)(hl:∀z,st.nd=some z->∀y∈z.A,yD G S i y)(hn:st'.nd=none)(ha:st'.addr=st.addr)(hm:∀d v,zo (mJ (jl st.bn)) d v->zo (mJ (jl st'.bn)) d v):l5 st st':=by
 refine⟨ha,λd q h _ e=> ?_⟩;have acR:vr st' d=(mJ (jl st'.bn) d).map λq=>(q,0):=by unfold vr;rw[hn]
 cases hz:st.nd with
 |none=>
  have hvr:vr st d=(mJ (jl st.bn) d).map λq=>(q,0):=by unfold vr;rw[hz]
  unfold tH at e ⊢;rw[hvr]at e;rw[acR];cases hd:mJ (jl st.bn) d with
  |none=>rw[hd]at e;cases e
  |some v=>
   rw[hd]at e;obtain⟨v',h1,h2⟩:=hm d v ⟨v,hd,eZ _⟩;rw[h1];have e':oo (v,0) q h=true:=e;show oo (v',0) q h=true;unfold oo at *;simp only[Bool.or_eq_true,fG,jh]at *;omega
 |some z=>
  unfold tH at e ⊢;rw[wu hz]at e;rw[acR];cases hd:aJ z.A d with
  |none=>rw[hd]at e;cases e
  |some y=>
   rw[hd]at e;obtain⟨hy,rfl⟩:=bR hd;obtain⟨v',h1,h2⟩:=hm _ _ (hJ.mle hz hy);have h3:=(hl z hz y hy).hp;rw[h1];have e':oo (rk y,y.hops) q h=true:=e;have e3:rk y<=y.seq:=by unfold rk;split<;>omega
   show oo (v',0) q h=true;unfold oo at *;simp only[Bool.or_eq_true,fG,jh]at *;omega
theorem NJ{me now:Int}{A A':List Rt}(t:U3 me now c A A'):∀y∈A,∃z∈A',z.dest=y.dest:=by
 have hmap:∀(f:Rt->Rt),(∀y,(f y).dest=y.dest)->∀y∈A,∃z∈A.map f,z.dest=y.dest:=λf hf y hy=>⟨f y,di.2 ⟨y,hy,rfl⟩,hf y⟩;have hmod:∀(f:Rt->Rt) (d:Int),(∀y,(f y).dest=y.dest)->∀y∈A,∃z∈h_ A d f,z.dest=y.dest:=λf d hf=>hmap _ λy=>by
  split
  ·exact hf y
  ·rfl
 have Tk:∀(d q h n e:Int),∀y∈A,∃z∈(iX me A d q h n e).1,z.dest=y.dest:=by
  intro d q h n e;rcases Cs me A d q h n e with h1|⟨_,_,_,⟨x,_,_,h1⟩|⟨_,h1⟩⟩
  ·rw[h1];exact λy hy=>⟨y,hy,rfl⟩
  ·rw[h1];exact hmod _ d λy=>rfl
  ·rw[h1];exact λy hy=>⟨y,qW.2 (.inr hy),rfl⟩
 cases t with
 |VY=>exact Tk _ _ _ _ _
 |VX=>exact Tk _ _ _ _ _
 |use d e=>exact hmod _ d λy=>mF e y
 |bH d n=>exact hmod _ d λy=>lC n y
 |lose fr p L hc x hx=>exact hmod _ x.1 λy=>eH _ _ y
 |brk eB=>exact hmap _ λy=>eH _ _ y
 |grow d _=>exact hmod _ d λy=>rfl
theorem acQ{D:Int->Prop}{J:nL}(h:Jm G D J s)(l:Lb G D s)(k:Pr c s s'):Jm G D J s':=by
 cases k with
 |yJ e=>exact h.same e.f e.bA e.own (by rw[e.A];exact λy hy=>⟨y,hy,rfl⟩)
 |tab t=>exact h.same rfl rfl rfl (NJ t)
 |aK _ _ _ _ _=>exact h.same rfl rfl rfl λy hy=>⟨y,hy,rfl⟩
 |grw=>exact h.same rfl rfl rfl λy hy=>⟨y,hy,rfl⟩
 |mx _ _ _ _=>exact h.same rfl rfl rfl λy hy=>⟨y,hy,rfl⟩
 |wr=>exact(Al h l).1
def BH(S:List bJ)(a d:Int):Prop:=d≠a∧∃t∈S,t.addr=d
theorem ZI{S:List bJ}(h:CI G S){i:Nat}{st:bJ}{s:St}(hS:S[i]?=some st)(hz:st.nd=some s):Lb G (BH S st.addr) s:=by
 obtain⟨_,b,_,d⟩:=h.nd i st s hS hz;exact⟨λy hy=>⟨⟨(d y hy).2,(d y hy).1.dest⟩,(d y hy).1.sq⟩,b⟩
theorem nZ{S:List bJ}{s s':bJ}(hs:S[i]?=some s)(e:s'.addr=s.addr){d:Int}(h:∃t∈S.set i s',t.addr=d):∃t∈S,t.addr=d:=by
 obtain⟨t,ht,hd⟩:=h;rcases List.mem_or_eq_of_mem_set ht with ht|rfl
 ·exact⟨t,ht,hd⟩
 ·exact⟨s,gH hs,e.symm.trans hd⟩
theorem Lb.D{D:Int->Prop}(h:Lb G D s)(hd:∀d,D d->D' d):Lb G D' s:=⟨λy hy=>⟨hd _ (h.ln y hy).1,(h.ln y hy).2⟩,h.sq⟩
end Go.Proofs.YtakaadcpaeiccabGreat
