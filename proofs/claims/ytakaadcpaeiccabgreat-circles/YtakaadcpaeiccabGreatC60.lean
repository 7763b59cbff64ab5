import Derived.Test.YtakaadcpaeiccabGreatC59
set_option maxHeartbeats 8000000
set_option maxRecDepth 100000
namespace Go.Proofs.YtakaadcpaeiccabGreat
open Go.RowKit Go.Maps
theorem Uz {y:MG} {m:aK} {w:World}(h:MM y m w) {κ:Int} {q:Nat}(hok:iC κ q m)(Gg:0≤κ∧κ≤90000000000)(i j:Nat)(hi:i<m.S.length)(hj:j<m.S.length)(b:ByteArray)(hb:b.size≤65536):
  Calls Tryz.prog 33 #[.pointer(some⟨y.G,0,none⟩),.int .i64 i,.int .i64 j,.string b]w fun e w'=>iV y m(m.hear i j b).1(m.hear i j b).2 w.heap.size w e w'∧iC(κ+200000)q(m.hear i j b).1:=by
 obtain⟨xi,si,g,c,e1,e2,e3,e4,p0⟩:=h.get hi;obtain⟨xj,sj,g',c',f1,f2,f3,f4,p1⟩:=h.get hj;obtain⟨q0,q1,_,_⟩:=h.cell;have hst:=h.st i xi si e1 e2;have c2:=hst.cell.2.2.1;have ca:=(h.st j xj sj f1 f2).cell.1;have hin:(i:Int)<(m.S.length:Int):=by omega
 have hjn:(j:Int)<(m.S.length:Int):=by omega
 have hgg:g'=g:=by
  rw [f4]at e4;injection e4 with h5 _ _;injection h5 with h5;injection h5 with h5 _ _
 subst hgg;rw [e4]at q1;cases hnd:si.nd with
 |none=>
  rw [hnd]at c2;unfold Lg at c2;have ho:m.hear i j b=(m,[]):=by
   unfold aK.hear;rw [e3,hnd]
  have hfin:iV y m(m.hear i j b).1(m.hear i j b).2 w.heap.size w(.returned(.slice none 0 0))w∧iC(κ+200000)q(m.hear i j b).1:=by
   rw [ho];exact⟨⟨_,[],rfl,rfl,gH.nil _ _,MP.refl h⟩,hok.up(by omega)(Nat.le_refl _)⟩
  replace hfin:=hide hfin;clear h hst ho e1 e2 e3 e4 f1 f2 f3 f4 q0 ca p1 hok;go_enter Tryz.func33,Tryz.ntmps33
  go_wp2
  go_ret
  exact hfin.out
 |some z=>
  rw [hnd]at c2;unfold Lg at c2;have hnk:=(hok.at e2).nd z hnd;have hd1:Below w.heap.size w w.drew:=(Below.refl _ _).drew;obtain⟨cap,W8,hcv,ll,dJ⟩:=TJ b hb w.drew;have Ou:Below w.heap.size w W8:=hd1.trans(ll.mono hd1.size);have h8:=h.later Ou;obtain⟨nn,tm⟩:=(h8.st i xi si e1 e2).nd z hnd;have Ie:=nn.MZ;obtain⟨nn0,_⟩:=hst.nd z hnd;have YS:=aD h.blk;have hgl:g'<w.heap.size:=World.block_lt_of_cell? _ _ p0;have hAl:=aD hst.blk;have hBl:=aD(h.st j xj sj f1 f2).blk;have hnF:∀k,k=y.G∨k=g'∨k=xi.B∨k=xj.B→¬Ft xi.N xi.g z k:=by
   intro k hk hF;obtain⟨o,ho,hK⟩:=nn0.kind hF;rcases hk with rfl|rfl|rfl|rfl
   ·rw [h.blk]at ho;cases ho;exact hK.not(by decide)
   ·obtain⟨cc,hc⟩:=aP h.yD(k:=k)(by rw [e4];rfl);rw [hc]at ho;cases ho;exact hK.not(by decide)
   ·rw [hst.blk]at ho;cases ho;exact hK.not(by decide)
   ·rw [(h.st j xj sj f1 f2).blk]at ho;cases ho;exact hK.not(by decide)
  have hS0:tQ y.G g' i j xi.B xj.B xi.N w.heap.size m.now sj.addr(.slice(some⟨g',0,none⟩)m.S.length c)w:=⟨⟨q0,q1,p0,c2,p1,ca⟩,YS,hgl,hAl,hBl,Nat.le_refl _⟩;have YG:=dJ.1.1;have HR:=Po nn hnk.inv(by omega)tm m.now sj.addr⟨hnk.nw,hok.now.2⟩(hok.at f2).addr _(aF b)dJ;have HR2:Hid(Calls Tryz.prog 25 #[.pointer(some⟨xi.N,0,none⟩),.int .u64 m.now,.int .u32 sj.addr,.slice(some⟨w.heap.size,0,none⟩)b.size cap]W8 fun e w2=>∃aI bH bI y2,tQ y.G g' i j xi.B xj.B xi.N w.heap.size m.now sj.addr(.slice(some⟨g',0,none⟩)m.S.length c)w2∧e=.returned(iE(z.rcv m.now sj.addr(aF b)).aY(z.rcv m.now sj.addr(aF b)).aZ aI bH bI)∧h_ w.heap.size(z.rcv m.now sj.addr(aF b)).aH(z.rcv m.now sj.addr(aF b)).aR(z.rcv m.now sj.addr(aF b)).aN aI bH bI w2∧w.heap.size≤w2.heap.size∧MM y2(m.put i {si with nd:=some(z.rcv m.now sj.addr(aF b))})w2∧MU y m y2(m.put i {si with nd:=some(z.rcv m.now sj.addr(aF b))})w w2∧Bn(κ+1)q(m.put i {si with nd:=some(z.rcv m.now sj.addr(aF b))})i(z.rcv m.now sj.addr(aF b))):=by
   refine HR.mono ?_;rintro e w2⟨o,rfl,hI2,hcp⟩;have hfx:Fx(Ft xi.N xi.g z)W8 w2:=by
    obtain⟨_,_,_,_,_,_,_,_,_,_,_,fx,_⟩:=hcp;exact fx
   obtain⟨nn2,s',hp1,hp2⟩:=KJ z m.now sj.addr(aF b)(fun q hq=>(Ie q hq).1);have hrest:=yV hp1;have hcnt:=uY hp1;rw [←hp2]at hrest hcnt;obtain⟨aI,bH,bI,y2,rfl,hor,hm2,hu2,hdk⟩:=Ei h8 hok e1 e2 hnd hcp hI2.out(V6 hnk.pos _ _ _ YG(fun q hq=>(Ie q hq).1))hrest.1 hrest.2(Nat.le_refl _)(Nat.le_trans(abY _ _ _ _)hnk.ql)hcnt;have hz1:=Ou.size;have hS2:tQ y.G g' i j xi.B xj.B xi.N w.heap.size m.now sj.addr(.slice(some⟨g',0,none⟩)m.S.length c)w2:=(hS0.low Ou).keep(Nat.le_trans hz1 hfx.size)fun k hk=>hfx.block k(by rcases hk with rfl|rfl|rfl|rfl<;>omega)(hnF k hk);exact⟨aI,bH,bI,y2,hS2,rfl,hor.lower hz1,by have:=hu2.fx.size;omega,hm2,hu2.pre Ou,hdk⟩
  have ho:m.hear i j b=(m.put i {si with nd:=some(z.rcv m.now sj.addr(aF b))}).did i(z.rcv m.now sj.addr(aF b)).ot:=by
   unfold aK.hear;rw [e3,hnd,f3];dsimp only;rw [Ad e2]
  rw [ho];have zH:=hS0.low Ou;have hS:tQ y.G g' i j xi.B xj.B xi.N w.heap.size m.now sj.addr(.slice(some⟨g',0,none⟩)m.S.length c)w.drew:=hS0.drew;obtain⟨zr,hzr⟩:∃zr,z.rcv m.now sj.addr(aF b)=zr:=⟨_,rfl⟩;rw [hzr]at HR2 ⊢;obtain⟨m2,Su⟩:∃m2,m.put i {si with nd:=some zr}=m2:=⟨_,rfl⟩;rw [Su]at HR2 ⊢;obtain⟨N,Te⟩:∃N,xi.N=N:=⟨_,rfl⟩;rw [Te]at HR2 c2 hS zH;have hsz0:w.drew.heap.size=w.heap.size:=rfl;rw [hsz0]at hcv;clear hzr Su Te HR dJ YG Ie nn tm h8 ll hd1 hnk h hst e1 e2 e3 e4 f1 f2 f3 f4 hok ho Ou nn0 hnF hS0 YS hgl hAl hBl hsz0;go_enter Tryz.func33,Tryz.ntmps33
  go_upto_region 4 with(fail)
  clear q0 q1 p0 c2 p1 ca;refine jI(tQ y.G g' i j xi.B xj.B N w.heap.size m.now sj.addr(.slice(some⟨g',0,none⟩)m.S.length c)) [23,24](by kernel_rfl)hS(fun hHeld=> ?_);refine aB(i:=0)(v:=?hv0)rfl(by kernel_rfl)(by kernel_rfl)(by kernel_rfl)(by kernel_rfl)(fun _ _ _ h=>h)(Or.inl⟨by rfl,?hy0⟩)hHeld ?hr0
  case hy0=>
   rintro w5⟨⟨q0,q1,p0,c2,p1,ca⟩,_⟩;go_simp
   try with_reducible rfl
  try simp only [Act.put,List.setIfInBounds_toArray,List.set_cons_zero,List.set_cons_succ]
  refine aB(i:=1)(v:=?hv1)rfl(by kernel_rfl)(by kernel_rfl)(by kernel_rfl)(by kernel_rfl)(fun _ _ _ h=>h)(Or.inl⟨by rfl,?hy1⟩)hHeld ?hr1
  case hy1=>
   rintro w5⟨⟨q0,q1,p0,c2,p1,ca⟩,_⟩;go_simp
   try with_reducible rfl
  try simp only [Act.put,List.setIfInBounds_toArray,List.set_cons_zero,List.set_cons_succ]
  refine aB(i:=2)(v:=?hv2)rfl(by kernel_rfl)(by kernel_rfl)(by kernel_rfl)(by kernel_rfl)(fun _ _ _ h=>h)(Or.inl⟨by rfl,?hy2⟩)hHeld ?hr2
  case hy2=>
   rintro w5⟨⟨q0,q1,p0,c2,p1,ca⟩,_⟩;go_simp
   try with_reducible rfl
  try simp only [Act.put,List.setIfInBounds_toArray,List.set_cons_zero,List.set_cons_succ]
  refine aB(i:=3)(v:=?hv3)rfl(by kernel_rfl)(by kernel_rfl)(by kernel_rfl)(by kernel_rfl)(fun _ _ _ h=>h)(Or.inl⟨by rfl,?hy3⟩)hHeld ?hr3
  case hy3=>
   rintro w5⟨⟨q0,q1,p0,c2,p1,ca⟩,_⟩;go_simp
   try with_reducible rfl
  try simp only [Act.put,List.setIfInBounds_toArray,List.set_cons_zero,List.set_cons_succ]
  refine aB(i:=4)(v:=?hv4)rfl(by kernel_rfl)(by kernel_rfl)(by kernel_rfl)(by kernel_rfl)(fun _ _ _ h=>h)(Or.inl⟨by rfl,?hy4⟩)hHeld ?hr4
  case hy4=>
   rintro w5⟨⟨q0,q1,p0,c2,p1,ca⟩,_⟩;go_simp
   try with_reducible rfl
  try simp only [Act.put,List.setIfInBounds_toArray,List.set_cons_zero,List.set_cons_succ]
  refine aB(i:=5)(v:=?hv5)rfl(by kernel_rfl)(by kernel_rfl)(by kernel_rfl)(by kernel_rfl)(fun _ _ _ h=>h)(Or.inl⟨by rfl,?hy5⟩)hHeld ?iq
  case hy5=>
   rintro w5⟨⟨q0,q1,p0,c2,p1,ca⟩,_⟩;go_simp
   try with_reducible rfl
  try simp only [Act.put,List.setIfInBounds_toArray,List.set_cons_zero,List.set_cons_succ]
  refine aB(i:=6)(v:=?hv6)rfl(by kernel_rfl)(by kernel_rfl)(by kernel_rfl)(by kernel_rfl)(fun _ _ _ h=>h)(Or.inl⟨by rfl,?hy6⟩)hHeld ?lw
  case hy6=>
   rintro w5⟨⟨q0,q1,p0,c2,p1,ca⟩,_⟩;go_simp
   try with_reducible rfl
  try simp only [Act.put,List.setIfInBounds_toArray,List.set_cons_zero,List.set_cons_succ]
  refine aB(i:=7)(v:=?hv7)rfl(by kernel_rfl)(by kernel_rfl)(by kernel_rfl)(by kernel_rfl)(fun _ _ _ h=>h)(Or.inl⟨by rfl,?hy7⟩)hHeld ?pO
  case hy7=>
   rintro w5⟨⟨q0,q1,p0,c2,p1,ca⟩,_⟩;go_simp
   try with_reducible rfl
  try simp only [Act.put,List.setIfInBounds_toArray,List.set_cons_zero,List.set_cons_succ]
  refine aB(i:=8)(v:=?hv8)rfl(by kernel_rfl)(by kernel_rfl)(by kernel_rfl)(by kernel_rfl)(fun _ _ _ h=>h)(Or.inl⟨by rfl,?hy8⟩)hHeld ?dJ
  case hy8=>
   rintro w5⟨⟨q0,q1,p0,c2,p1,ca⟩,_⟩;go_simp
   try with_reducible rfl
  try simp only [Act.put,List.setIfInBounds_toArray,List.set_cons_zero,List.set_cons_succ]
  refine aB(i:=9)(v:=?hv9)rfl(by kernel_rfl)(by kernel_rfl)(by kernel_rfl)(by kernel_rfl)(fun _ _ _ h=>h)(Or.inl⟨by rfl,?hy9⟩)hHeld ?fZ
  case hy9=>
   rintro w5⟨⟨q0,q1,p0,c2,p1,ca⟩,_⟩;go_simp
   try with_reducible rfl
  try simp only [Act.put,List.setIfInBounds_toArray,List.set_cons_zero,List.set_cons_succ]
  refine aB(i:=10)(v:=?aei)rfl(by kernel_rfl)(by kernel_rfl)(by kernel_rfl)(by kernel_rfl)(fun _ _ _ h=>h)(Or.inl⟨by rfl,?Z8⟩)hHeld ?aev
  case Z8=>
   rintro w5⟨⟨q0,q1,p0,c2,p1,ca⟩,_⟩;go_simp
   try with_reducible rfl
  try simp only [Act.put,List.setIfInBounds_toArray,List.set_cons_zero,List.set_cons_succ]
  refine aB(i:=11)(v:=?acg)rfl(by kernel_rfl)(by kernel_rfl)(by kernel_rfl)(by kernel_rfl)(fun _ _ _ h=>h)(Or.inl⟨by rfl,?RY⟩)hHeld ?acp
  case RY=>
   rintro w5⟨⟨q0,q1,p0,c2,p1,ca⟩,_⟩;go_simp
   try with_reducible rfl
  try simp only [Act.put,List.setIfInBounds_toArray,List.set_cons_zero,List.set_cons_succ]
  refine aB(i:=12)(v:=?acf)rfl(by kernel_rfl)(by kernel_rfl)(by kernel_rfl)(by kernel_rfl)(fun _ _ _ h=>h)(Or.inl⟨by rfl,?RX⟩)hHeld ?aco
  case RX=>
   rintro w5⟨⟨q0,q1,p0,c2,p1,ca⟩,_⟩;go_simp
   try with_reducible rfl
  try simp only [Act.put,List.setIfInBounds_toArray,List.set_cons_zero,List.set_cons_succ]
  refine aB(i:=13)(v:=?ace)rfl(by kernel_rfl)(by kernel_rfl)(by kernel_rfl)(by kernel_rfl)(fun _ _ _ h=>h)(Or.inl⟨by rfl,?RV⟩)hHeld ?acn
  case RV=>
   rintro w5⟨⟨q0,q1,p0,c2,p1,ca⟩,_⟩;go_simp
   try with_reducible rfl
  try simp only [Act.put,List.setIfInBounds_toArray,List.set_cons_zero,List.set_cons_succ]
  refine aB(i:=14)(v:=?aeh)rfl(by kernel_rfl)(by kernel_rfl)(by kernel_rfl)(by kernel_rfl)(fun _ _ _ h=>h)(Or.inl⟨by rfl,?Z7⟩)hHeld ?aeu
  case Z7=>
   rintro w5⟨⟨q0,q1,p0,c2,p1,ca⟩,_⟩;go_simp
   try with_reducible rfl
  try simp only [Act.put,List.setIfInBounds_toArray,List.set_cons_zero,List.set_cons_succ]
  refine aB(i:=15)(v:=?afJ)rfl(by kernel_rfl)(by kernel_rfl)(by kernel_rfl)(by kernel_rfl)(fun _ _ _ h=>h)(Or.inl⟨by rfl,?aeb⟩)hHeld ?afT
  case aeb=>
   rintro w5⟨⟨q0,q1,p0,c2,p1,ca⟩,_⟩;go_simp
   try with_reducible rfl
  try simp only [Act.put,List.setIfInBounds_toArray,List.set_cons_zero,List.set_cons_succ]
  refine aB(i:=16)(v:=?afI)rfl(by kernel_rfl)(by kernel_rfl)(by kernel_rfl)(by kernel_rfl)(fun _ _ _ h=>h)(Or.inl⟨by rfl,?aea⟩)hHeld ?afS
  case aea=>
   rintro w5⟨⟨q0,q1,p0,c2,p1,ca⟩,_⟩;go_simp
   try with_reducible rfl
  try simp only [Act.put,List.setIfInBounds_toArray,List.set_cons_zero,List.set_cons_succ]
  refine aB(i:=17)(v:=?afH)rfl(by kernel_rfl)(by kernel_rfl)(by kernel_rfl)(by kernel_rfl)(fun _ _ _ h=>h)(Or.inl⟨by rfl,?ad9⟩)hHeld ?afR
  case ad9=>
   rintro w5⟨⟨q0,q1,p0,c2,p1,ca⟩,_⟩;go_simp
   try with_reducible rfl
  try simp only [Act.put,List.setIfInBounds_toArray,List.set_cons_zero,List.set_cons_succ]
  refine aB(i:=18)(v:=?aeg)rfl(by kernel_rfl)(by kernel_rfl)(by kernel_rfl)(by kernel_rfl)(fun _ _ _ h=>h)(Or.inl⟨by rfl,?Z6⟩)hHeld ?aet
  case Z6=>
   rintro w5⟨⟨q0,q1,p0,c2,p1,ca⟩,_⟩;go_simp
   try with_reducible rfl
  try simp only [Act.put,List.setIfInBounds_toArray,List.set_cons_zero,List.set_cons_succ]
  refine aB(i:=19)(v:=?aef)rfl(by kernel_rfl)(by kernel_rfl)(by kernel_rfl)(by kernel_rfl)(fun _ _ _ h=>h)(Or.inl⟨by rfl,?Z5⟩)hHeld ?aes
  case Z5=>
   rintro w5⟨⟨q0,q1,p0,c2,p1,ca⟩,_⟩;go_simp
   try with_reducible rfl
  try simp only [Act.put,List.setIfInBounds_toArray,List.set_cons_zero,List.set_cons_succ]
  refine aB(i:=20)(v:=?aee)rfl(by kernel_rfl)(by kernel_rfl)(by kernel_rfl)(by kernel_rfl)(fun _ _ _ h=>h)(Or.inl⟨by rfl,?Z4⟩)hHeld ?aer
  case Z4=>
   rintro w5⟨⟨q0,q1,p0,c2,p1,ca⟩,_⟩;go_simp
   try with_reducible rfl
  try simp only [Act.put,List.setIfInBounds_toArray,List.set_cons_zero,List.set_cons_succ]
  refine df(i:=21)(by kernel_rfl)rfl(fun K hK=> ?_);go_simp
  refine hK.out _ _(fun _=>zH) ?_;clear hK K;refine df(i:=22)(by kernel_rfl)rfl(fun K2 hK2=> ?_);go_simp
  go_at_call 25
  refine HR2.out.mono ?_;rintro e w2⟨aI,bH,bI,y2,hS2,rfl,hor,hsz,hm2,hu2,hdk⟩;have UG:=Eu hm2 hdk aI bH bI w.heap.size hor hsz;rw [hu2.G]at UG;go_simp
  refine hK2.out _ _(fun _=>hS2) ?_;clear hK2 K2 HR2;refine df(i:=23)(by kernel_rfl)rfl(fun K3 hK3=> ?_);replace UG:=hide UG;replace hu2:=hide hu2;replace hdk:=hide hdk;clear hor hm2 hS2 hHeld hS zH;go_simp
  go_at_call 36
  refine UG.out.mono ?_;rintro e w3⟨v,L,rfl,hL,hev,y3,nW,hu3⟩;have hfin:=hide(show iV y m(m2.did i zr.ot).1(m2.did i zr.ot).2 w.heap.size w(.returned v)w3∧iC(κ+200000)q(m2.did i zr.ot).1 from⟨⟨v,L,rfl,hL,hev,y3,nW,hu2.out.trans hu3⟩,(Eb hdk.out).up(by omega)(Nat.le_refl _)⟩);clear hL hev nW hu3 UG hu2 hdk;go_simp
  refine hK3.out _ _(fun h=>(h(by decide)).elim) ?_;clear hK3 K3;refine df(i:=24)(by kernel_rfl)rfl(fun K4 hK4=> ?_);go_simp
  refine hK4.out _ _(fun h=>(h(by decide)).elim) ?_;clear hK4 K4;refine jA(by kernel_rfl) ?_ _;go_wp2
  go_ret
  exact hfin.out
theorem Yg {L:List(Nat×Nat×ByteArray)} {k:Nat} {f:Nat×Nat×ByteArray}(h:L[k]?=some f)(b:ByteArray):oD(L.set k(f.1,f.2.1,b))=(oD L).set(k * 3+2)(.string b):=by
 induction L generalizing k with
 |nil=>simp at h
 |cons a L ih=>
  cases k with
  |zero=>
   simp only [List.getElem?_cons_zero,Option.some.injEq]at h;subst h;rfl
  |succ k=>
   rw [List.getElem?_cons_succ]at h;rw [List.set_cons_succ];show [_,_,_]++oD(L.set k _)=(([_,_,_]:List Value)++oD L).set _ _;rw [ih h,show(k+1)* 3+2=(k * 3+2)+1+1+1 by omega];rfl
theorem VX {W:World} {base e size n g c:Nat} {xs:List Value}(h:W.ownsRow base e size(.slice(some⟨g,0,none⟩)n c)n xs)(j:Nat)(hj:j<n * size)(v:Value):(W.setCell⟨g,j,none⟩v).ownsRow base e size(.slice(some⟨g,0,none⟩)n c)n(xs.set j v):=by
 rcases h.2 with⟨he,_⟩|⟨g',cap,cur,he,hb,hg,h1,h2,h3,h4⟩
 ·cases he
 ·cases he;refine⟨by rw [List.length_set];exact h.1,.inr⟨g,c,cur.setIfInBounds j v,rfl,hb,?_,h1,h2,by simp [h3],?_⟩⟩
  ·simp [World.setCell,Array.getElem?_modify,hg]
  ·rw [Array.toList_setIfInBounds,←h4,List.take_set]
theorem adL {y:MG} {m:aK} {w:World}(h:MM y m w)(i:Nat)(hi:i<m.bG.length)(f:Nat×Nat×ByteArray)(hf:m.bG[i]?=some f)(hs:f.2.2.size≤1000000)(n:Int):Calls Tryz.prog 65 #[.pointer(some⟨y.G,0,none⟩),.int .i64 i,.int .i64 n]w fun e w'=>e=.returned(.tuple #[])∧MP y m {m with bG:=m.bG.set i(f.1,f.2.1,f.2.2.extract 0(f.2.2.size - (min(max 0 n)f.2.2.size).toNat))}w w':=by
 obtain⟨a,b,s⟩:=f;dsimp only at hs ⊢;obtain⟨g,cap,AJ,_⟩:=bS h.bG(by omega);obtain⟨q0,q1,q2⟩:=EB hf;dsimp only at q0 q1 q2;have hr:=h.bG;rw [AJ]at hr;have c2:=h.cell.2.2.1;rw [AJ]at c2;have d2:=(hr.cellAt(i * 3+2)(by omega)).trans q2;have hil:(i:Int)<(m.bG.length:Int):=by omega
 have hfz:w.frozen?⟨g,i * 3+2,none⟩=false:=by
  obtain⟨cc,hc⟩:=aP hr(k:=g)rfl;exact frozen_of_row w g _ _ _ hc
 obtain⟨k,hk⟩:∃k:Nat,s.size - (min(max 0 n)s.size).toNat=k:=⟨_,rfl⟩;rw [hk];have hkI:(s.size:Int) - min(max 0 n)(s.size:Int)=(k:Int):=by omega
 have hks:(k:Int)≤(s.size:Int):=by omega
 have hfin:MP y m {m with bG:=m.bG.set i(a,b,s.extract 0 k)}w(w.setCell⟨g,i * 3+2,none⟩(.string(s.extract 0 k))):=by
  have hrow:=VX hr(i * 3+2)(by omega)(.string(s.extract 0 k));rw [←Yg hf(s.extract 0 k)]at hrow;have hg:w.grownBy(w.setCell⟨g,i * 3+2,none⟩(.string(s.extract 0 k)))(some g):=aa(aC _(some g))_ _;have hgI:oz y m g:=.inr(.inr(.inl(by rw [AJ];rfl)));have hblk:=h.blk;have hgG:y.G≠g:=fun e=>by
   obtain⟨cc,hc⟩:=aP hr(k:=g)rfl;rw [e,hc]at hblk;cases hblk
  refine⟨y,⟨(hg.block _(aD h.blk)fun e=>hgG(Option.some.inj e)).trans h.blk,h.yD.kept hg ?_,?_,h.len,fun j x u h1 h2=>(h.st j x u h1 h2).kept fun k5 hk5=>hg.block k5((h.st j x u h1 h2).lt hk5)fun e=> ?_,h.ap⟩,Fx.grown hg fun k5 e=>by cases e;exact hgI,fun k5 hk5=> .inl hk5,rfl,rfl,rfl,rfl⟩
  ·rcases bX h.yD hr(by decide)with e|e
   ·exact .inl e
   ·exact .inr e
  ·show World.ownsRow _ 0 _ 3 y.av(m.bG.set i _).length _;rw [List.length_set,AJ];exact hrow
  ·cases e;exact(h.own h1 h2 hk5).2.2(by rw [AJ];rfl)
 clear h hr hf q0 q1 q2 AJ;have hw:wrap64((s.size:Int) - min(max 0 n)(s.size:Int))=(k:Int):=by rw [hkI];unfold wrap64;omega
 replace hfin:=hide(hfin.post(Below.refl _ _).drew);go_enter Tryz.func65,Tryz.ntmps65
 go_upto_region 1 with(fail)
 clear c2;go_region
 go_returns
 exact⟨rfl,hfin.out⟩
def qa(m:aK):Prop:=∀f∈m.bG,f.1<m.S.length∧f.2.1<m.S.length∧f.2.2.size≤65536
theorem iC.X4 {κ:Int} {q:Nat} {m:aK}(h:iC κ q m) {F:List(Nat×Nat×ByteArray)}(hF:F.length≤48):iC κ q {m with bG:=F}:=⟨h.n,hF,h.now,h.st⟩
theorem UB {y:MG} {m:aK} {w:World}(h:MM y m w) {κ:Int} {q:Nat}(hok:iC κ q m)(Gg:0≤κ∧κ≤90000000000)(hfl:qa m)(o:Op)(ho:o.dS=4∨o.dS=5∨o.dS=6∨o.dS=7):
  Calls Tryz.prog 32 #[.pointer(some⟨y.G,0,none⟩),UR o]w fun e w'=>iV y m(m.flight o).1(m.flight o).2 w.heap.size w e w'∧iC(κ+200000)q(m.flight o).1:=by
 have hb0:Below w.heap.size w(w.alloc(.cells #[.int .i64 o.dS,.int .i64 o.a,.int .i64 o.b,.int .i64 o.n,.bool o.on,.string o.txt]28)):=(Below.refl _ _).alloc(Nat.le_refl _)_;have hC:=heap_alloc_new w(.cells #[.int .i64 o.dS,.int .i64 o.a,.int .i64 o.b,.int .i64 o.n,.bool o.on,.string o.txt]28);have h1:=h.later hb0;obtain⟨dS,a,b,n,on,txt⟩:=o;dsimp only at hb0 hC h1 ho;have Ov:=hok.bG;have hcase:Hid(∀w1:World,Below w.heap.size w w1→(a<0∨m.bG.length=0)→iV y m(m.flight⟨dS,a,b,n,on,txt⟩).1(m.flight⟨dS,a,b,n,on,txt⟩).2 w.heap.size w(.returned(.slice none 0 0))w1∧iC(κ+200000)q(m.flight⟨dS,a,b,n,on,txt⟩).1):=by
  intro w1 hb1 hc;have he:m.flight⟨dS,a,b,n,on,txt⟩=(m,[]):=by
   unfold aK.flight;rw [if_pos hc]
  rw [he];exact⟨⟨_,[],rfl,rfl,gH.nil _ _,(MP.refl h).post hb1⟩,hok.up(by omega)(Nat.le_refl _)⟩
 unfold UR;dsimp only;by_cases ha:a<0
 ·have had:decide(a<0)=true:=by simpa using ha
  clear hok hfl h h1 Ov;go_enter Tryz.func32,Tryz.ntmps32
  go_upto_region 1 with(fail)
  generalize World.alloc _ _=W1 at hb0 hC ⊢;have t1:W1.cell?⟨w.heap.size,1,none⟩=some(.int .i64 a):=cell_of_row _ _ 1 _ _ _ hC;have hfin:=hide(hcase.out _ hb0(.inl ha));clear hcase hC ho;go_wp2
  go_ret
  exact hfin.out
 ·have had:decide(a<0)=false:=by simpa using ha
  obtain⟨_,_,q2,_⟩:=h1.cell;by_cases hl:m.bG.length=0
  ·obtain⟨ao,c,AJ,_⟩:=ak h.bG;rw [hl]at AJ;rw [AJ]at q2;clear hok hfl h h1 Ov;go_enter Tryz.func32,Tryz.ntmps32
   go_upto_region 1 with(fail)
   generalize World.alloc _ _=W1 at hb0 hC q2 ⊢;have t1:W1.cell?⟨w.heap.size,1,none⟩=some(.int .i64 a):=cell_of_row _ _ 1 _ _ _ hC;have hfin:=hide(hcase.out _ hb0(.inr hl));clear hcase hC ho hl AJ;go_wp2
   go_ret
   exact hfin.out
  ·obtain⟨g,cap,AJ,_⟩:=bS h.bG(by omega);rw [AJ]at q2;have hln:(decide((m.bG.length:Int)=0))=false:=by
    have:¬(m.bG.length:Int)=0:=by omega
    simpa using this
   obtain⟨k,hk⟩:∃k,a.toNat%m.bG.length=k:=⟨_,rfl⟩;have hkl:k<m.bG.length:=by rw [←hk];exact Nat.mod_lt _(by omega)
   have afN:a.tmod(m.bG.length:Int)=(k:Int):=by
    have e:(a.toNat:Int)=a:=Int.toNat_of_nonneg(by omega);rw [Int.tmod_eq_emod_of_nonneg(by omega),←hk];first|rw [Int.natCast_emod,e]|rw [Int.Yw,e]|rw [Int.ofNat_emod,e]
   obtain⟨f,hf⟩:∃f,m.bG[k]?=some f:=⟨_,List.getElem?_eq_getElem hkl⟩;have Oo:=hfl f(List.mem_of_getElem? hf);have hgd:m.bG.getD k(0,0,⟨#[]⟩)=f:=by rw [List.getD_eq_getElem?_getD,hf];rfl
   have hfo:∀d,d=dS→m.flight⟨dS,a,b,n,on,txt⟩=if d=4 then {m with bG:=m.bG.eraseIdx k}.hear f.2.1 f.1 f.2.2 else if d=5 then({m with bG:=m.bG.eraseIdx k},[])else if d=6 then(m.eG f,[])else({m with bG:=m.bG.set k(f.1,f.2.1,f.2.2.extract 0(f.2.2.size - (min(max 0 n)f.2.2.size).toNat))},[]):=by
    rintro d rfl;unfold aK.flight;rw [if_neg(show ¬(a<0∨m.bG.length=0)from by omega)];dsimp only;rw [hk,hgd]
   replace hfo:=hfo dS rfl;clear hk hgd hcase hfl;rcases ho with rfl|rfl|rfl|rfl
   ·rw [if_pos rfl]at hfo;rw [hfo];have HL:=hide fun W(hW:MM y m W)=>J6 hW k hkl(by omega)f hf;have hmk:=hok.X4(F:=m.bG.eraseIdx k)(by rw [List.pK];split<;>omega);obtain⟨fa,fb,fs⟩:=f;dsimp only at Oo hfo HL ⊢;obtain⟨m',hm'⟩:∃m',({m with bG:=m.bG.eraseIdx k}:aK)=m':=⟨_,rfl⟩;have hS':m'.S.length=m.S.length:=by rw [←hm']
    rw [hm']at hmk HL ⊢;have HH:=hide fun(y':MG)W(hW:MM y' m' W)=>Uz hW hmk Gg fb fa(by omega)(by omega)fs Oo.2.2;clear hfo hok Ov hf Oo hm' hmk;go_enter Tryz.func32,Tryz.ntmps32
    go_upto_region 1 with(fail)
    generalize World.alloc _ _=W1 at hb0 hC q2 h1 ⊢;have t0:W1.cell?⟨w.heap.size,0,none⟩=some(.int .i64 4):=cell_of_row _ _ 0 _ _ _ hC;have t1:W1.cell?⟨w.heap.size,1,none⟩=some(.int .i64 a):=cell_of_row _ _ 1 _ _ _ hC;go_upto_region 3 with(fail)
    go_region
    unfold flV at HL;dsimp only at HL;go_upto_region 7 with(go_at_call 63;refine(HL.out _ h1.drew).mono ?_;rintro e w2⟨rfl,y2,hm2,hu2⟩)
    have hb3:Below w2.heap.size w2(w2.alloc(.cells #[.int .i64 fa,.int .i64 fb,.string fs]149)):=(Below.refl _ _).alloc(Nat.le_refl _)_;have jZ:=heap_alloc_new w2(.cells #[.int .i64 fa,.int .i64 fb,.string fs]149);have nW:=hm2.later hb3;have hu3:=(hu2.post hb3).pre hb0.drew;clear hm2 hu2 hb3 t0 t1 q2 hC h1 hb0 HL h;generalize World.alloc _ _=W3 at nW hu3 jZ ⊢;generalize w2.heap.size=D at jZ ⊢;have t0:W3.cell?⟨D,0,none⟩=some(.int .i64 fa):=cell_of_row _ _ 0 _ _ _ jZ;have t1:W3.cell?⟨D,1,none⟩=some(.int .i64 fb):=cell_of_row _ _ 1 _ _ _ jZ;have t2:W3.cell?⟨D,2,none⟩=some(.string fs):=cell_of_row _ _ 2 _ _ _ jZ;have HH3:=HH.out y2 W3 nW;rw [hu3.G]at HH3;replace HH3:=hide HH3;replace hu3:=hide hu3;clear HH nW jZ;go_wp2_with(go_at_call 33;refine HH3.out.mono ?_;rintro e w4⟨⟨v,L,rfl,hL,hev,y4,A_,UV⟩,acD⟩;have hfin:=hide(show iV y m(m'.hear fb fa fs).1(m'.hear fb fa fs).2 w.heap.size w(.returned v)w4∧iC(κ+200000)q(m'.hear fb fa fs).1 from⟨⟨v,L,rfl,hL,hev.lower hu3.out.fx.size,y4,A_,hu3.out.trans UV⟩,acD⟩);clear hL hev A_ UV acD)
    go_ret
    exact hfin.out
   ·rw [if_neg(by decide),if_pos rfl]at hfo;rw [hfo];have HL:=hide fun W(hW:MM y m W)=>J6 hW k hkl(by omega)f hf;have hmk:=hide(hok.X4(F:=m.bG.eraseIdx k)(by rw [List.pK];split<;>omega));clear hfo hok Ov hf Oo;go_enter Tryz.func32,Tryz.ntmps32
    go_upto_region 1 with(fail)
    generalize World.alloc _ _=W1 at hb0 hC q2 h1 ⊢;have t0:W1.cell?⟨w.heap.size,0,none⟩=some(.int .i64 5):=cell_of_row _ _ 0 _ _ _ hC;have t1:W1.cell?⟨w.heap.size,1,none⟩=some(.int .i64 a):=cell_of_row _ _ 1 _ _ _ hC;go_upto_region 3 with(fail)
    go_region
    go_wp2_with(go_at_call 63;refine(HL.out _ h1.drew).mono ?_;rintro e w2⟨rfl,hmp⟩;have hfin:=hide(show iV y m {m with bG:=m.bG.eraseIdx k} []w.heap.size w(.returned(.slice none 0 0))w2 from⟨_,[],rfl,rfl,gH.nil _ _,hmp.pre(hb0.drew)⟩))
    go_ret
    exact⟨hfin.out,hmk.out.up(by omega)(Nat.le_refl _)⟩
   ·rw [if_neg(by decide),if_neg(by decide),if_pos rfl]at hfo;rw [hfo];obtain⟨q0,q1,q5⟩:=EB hf;have hr1:=h1.bG;rw [AJ]at hr1;have d0:=(hr1.cellAt(k * 3)(by omega)).trans q0;have d1:=(hr1.cellAt(k * 3+1)(by omega)).trans q1;have d2:=(hr1.cellAt(k * 3+2)(by omega)).trans q5;have hmk:iC κ q(m.eG f):=hok.X4(zo m f hok.bG);have HL:=hide fun W(hW:MM y m W)=>Hq hW(by omega)f;obtain⟨fa,fb,fs⟩:=f;have hkn:(k:Int)<(m.bG.length:Int):=by omega
    obtain⟨m',hm'⟩:∃m',m.eG(fa,fb,fs)=m':=⟨_,rfl⟩;rw [hm']at hmk HL ⊢;unfold flV at HL;dsimp only at HL d0 d1 d2;clear hfo hok Ov hf Oo hm' hr1 q0 q1 q5 h;go_enter Tryz.func32,Tryz.ntmps32
    go_upto_region 1 with(fail)
    generalize World.alloc _ _=W1 at hb0 hC q2 h1 d0 d1 d2 ⊢;have t0:W1.cell?⟨w.heap.size,0,none⟩=some(.int .i64 6):=cell_of_row _ _ 0 _ _ _ hC;have t1:W1.cell?⟨w.heap.size,1,none⟩=some(.int .i64 a):=cell_of_row _ _ 1 _ _ _ hC;go_upto_region 3 with(fail)
    go_region
    go_wp2_with(go_at_call 64;refine(HL.out _ h1.drew).mono ?_;rintro e w2⟨rfl,hmp⟩;have hfin:=hide(show iV y m m' []w.heap.size w(.returned(.slice none 0 0))w2∧iC(κ+200000)q m' from⟨⟨_,[],rfl,rfl,gH.nil _ _,hmp.pre(hb0.drew)⟩,hmk.up(by omega)(Nat.le_refl _)⟩);clear hmp)
    go_ret
    exact hfin.out
   ·rw [if_neg(by decide),if_neg(by decide),if_neg(by decide)]at hfo;rw [hfo];have HL:=hide fun W(hW:MM y m W)=>adL hW k hkl f hf(by omega)n;have hmk:=hide(hok.X4(F:=m.bG.set k(f.1,f.2.1,f.2.2.extract 0(f.2.2.size - (min(max 0 n)f.2.2.size).toNat)))(by rw [List.length_set];omega));obtain⟨m',hm'⟩:∃m',({m with bG:=m.bG.set k(f.1,f.2.1,f.2.2.extract 0(f.2.2.size - (min(max 0 n)f.2.2.size).toNat))}:aK)=m':=⟨_,rfl⟩;rw [hm']at hmk HL ⊢;clear hfo hok Ov hf Oo hm' h;go_enter Tryz.func32,Tryz.ntmps32
    go_upto_region 1 with(fail)
    generalize World.alloc _ _=W1 at hb0 hC q2 h1 ⊢;have t0:W1.cell?⟨w.heap.size,0,none⟩=some(.int .i64 7):=cell_of_row _ _ 0 _ _ _ hC;have t1:W1.cell?⟨w.heap.size,1,none⟩=some(.int .i64 a):=cell_of_row _ _ 1 _ _ _ hC;have t3:W1.cell?⟨w.heap.size,3,none⟩=some(.int .i64 n):=cell_of_row _ _ 3 _ _ _ hC;go_upto_region 3 with(fail)
    go_region
    go_wp2_with(go_at_call 65;refine(HL.out _ h1.drew).mono ?_;rintro e w2⟨rfl,hmp⟩;have hfin:=hide(show iV y m m' []w.heap.size w(.returned(.slice none 0 0))w2∧iC(κ+200000)q m' from⟨⟨_,[],rfl,rfl,gH.nil _ _,hmp.pre(hb0.drew)⟩,hmk.out.up(by omega)(Nat.le_refl _)⟩);clear hmp)
    go_ret
    exact hfin.out
end Go.Proofs.YtakaadcpaeiccabGreat
