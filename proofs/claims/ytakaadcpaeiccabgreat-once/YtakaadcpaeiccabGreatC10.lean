import Derived.Test.YtakaadcpaeiccabGreatC09
set_option maxHeartbeats 4000000
set_option maxRecDepth 100000
namespace Go.Proofs.YtakaadcpaeiccabGreat
open Go.RowKit
theorem LX(p:aD)(hp:p.Wf)(hg:p.eZ=false)(w:World):
  Calls Tryz.prog 117 #[p.val] w λe w'=>e=.returned (.tuple #[.slice none 0 0,.int .i64 1])∧Below w.heap.size w w':=by
 go_enter Tryz.func117,Tryz.ntmps117;go_wp2_with(go_at_call 90;refine(dQ p hp _).mono ?_;rintro e w1 ⟨rfl,hb1⟩);go_ret2;exact⟨rfl,(bC).trans (hb1.mono (by simp))⟩
def fI(w:World)(p:aD)(L:List (Int×Int)):Prop:=
 L.length=p.ln∧∀j,j<L.length->∃lb lo d s,p.la=some ⟨lb,lo,none⟩∧lb<w.heap.size∧L[j]?=some (d,s)∧0<=d∧d<4294967296∧0<=s∧s<4294967296∧
  w.cell? ⟨lb,lo+j * 2,none⟩=some (.int .u32 d)∧w.cell? ⟨lb,lo+j * 2+1,none⟩=some (.int .u32 s)
def nQ(p:aD):Int:=if p.unk then 8 else 0
theorem YK(p:aD)(w:World):
  Calls Tryz.prog 151 #[p.val] w λe w'=>e=.returned (.int .u8 (nQ p))∧Below w.heap.size w w':=Qm p w
def aD.head(p:aD):List Int:=[p.ttl,p.kind,nQ p,0,p.cnt]
def zF(p:aD)(L:List (Int×Int)):List Int:=p.head++p.kN p.nums.length++iw L L.length++ak p.pay
theorem JO(p:aD)(hp:p.Wf)(hg:p.eZ=true)(ht0:1<=p.ttl)(ht1:p.ttl<=255)(hk0:1<=p.kind)(hk1:p.kind<=9)(hc0:0<=p.cnt)(hc1:p.cnt<=255)
  (hln:p.ln<=8) (hpay:p.pay.size<=16)
  (L:List (Int×Int)) (w:World) (hL:fI w p L):
  Calls Tryz.prog 117 #[p.val] w λe w'=>∃v,e=.returned (.tuple #[v,.int .i64 0])∧Below w.heap.size w w'∧v≠ .slice none 0 0∧w'.ownsRow (w.heap.size+1) 5 1 v (zF p L).length (U (zF p L)):=by
 go_enter Tryz.func117,Tryz.ntmps117;go_wp2_with(go_at_call 90;refine(dQ p hp _).mono ?_;rintro e w1 ⟨rfl,hb1⟩);have ht0':0<=p.ttl:=by omega
 have hk0':0<=p.kind:=by omega
 have afo:p.kind<=255:=by omega
 have hI:=(z8.aap p w).below hb1;clear hb1;go_region_held3 (z8 p w) (first|exact z8.drew' (by assumption)|assumption|exact z8.below (by assumption) (by assumption)|exact z8.below (by assumption) (bC)) (first
  |(go_at_call 151;refine(YK p _).mono ?_;rintro e w2 ⟨rfl,hb2⟩)
  |(go_at_call 126;refine(Ee p _).mono ?_;rintro e w3 ⟨rfl,hb3⟩))
 rename_i hI3;rw[IntWalk.u8_in _ ⟨ht0',ht1⟩,IntWalk.u8_in _ ⟨hk0',afo⟩,IntWalk.u8_in _ ⟨hc0,hc1⟩]at hI3 ⊢;have hz3:w.heap.size+1<=w3.heap.size:=by
  obtain⟨_,_,_,_,_,_,_,_,_,_,_,_,hs,_⟩:=hI;have h2:=hb2.size;have h3:=hb3.size;simp only[World.size_drew]at h2;omega
 have zu:=Si (w.heap.size+1) w3 p.ttl p.kind (nQ p) 0 p.cnt hz3;clear hI hb2 hb3;have hnn:(Value.slice (some ⟨w3.heap.size,0,none⟩) 5 5)≠ .slice none 0 0:=by simp
 generalize w3.alloc _=W3 at hI3 zu ⊢;generalize Value.slice (some ⟨w3.heap.size,0,none⟩) 5 5=b0 at zu hnn ⊢;clear hz3;have hkc:=hI3.2.1;go_wp2_with(go_at_call 86;refine(Ic p _ _ hkc).mono ?_;rintro e w4 ⟨ao,rfl,hb4,ado⟩);have hE0:ja p w ao w4 b0 (p.head++p.kN 0):=by
  have afQ:=hI3;obtain⟨_,_,_,_,_,_,_,_,_,_,_,_,hs,hB⟩:=afQ;have hg:W3.grownBy w4 none:=⟨hb4.os,hb4.tape,hb4.output,hb4.size,λk hk _=>hb4.block k hk⟩;refine⟨hI3.below hb4,?_,hnn,λj hj=> ?_⟩
  ·simp only[aD.kN,List.take_zero,List.flatMap_nil,gU];exact zu.kept hg (by cases hv:b0.ownBlock<;>simp)
  ·obtain⟨N,h1,h2,h3⟩:=ado j hj;exact⟨N,h1,by omega,h3⟩
 clear hI3 zu hnn ado hb4 hkc;have hn5:=Ib p;go_loopw [4,26] (λb i wr=>∃k:Nat,k<=p.nums.length∧i=.int .i64 k∧ja p w ao wr b (p.head++p.kN k)) (λ_ i _=>p.nums.length - (intOf i).toNat)
 case atStart=>exact⟨0,b_ _,rfl,hE0⟩
 case round=>
  clear hE0;obtain⟨k,hk,rfl,hE⟩:=hrel;by_cases hlt:k<p.nums.length
  ·obtain⟨o,x,hox,hcx,hx0,hx1⟩:=Pe hp hE.inb k hlt;obtain⟨N,rfl,hNk⟩:=hE.Xt k hlt hox;have hlen:(p.head++p.kN k).length<=1000000:=by
    have:=vI p k;simp only[dx,aD.head,dY,List.length_nil];omega
   have hst:Hid (p.kN (k+1)=p.kN k++b4 x):=Pg hox;clear hox;go_wp2_with(go_at_call 57;refine(dF (w.heap.size+1) _ x (p.head++p.kN k) _ hx0 hx1 hE.own hE.nn hE.base hlen).mono ?_;rintro e w5 ⟨v',rfl,hown',hgrow,abm⟩);go_roundw
   case rel=>exact⟨k+1,by omega,by go_num,by rw[hst.out,<-List.append_assoc];exact hE.step hgrow hown' abm⟩
   case measure=>simp[intOf];omega
  ·obtain rfl:k=p.nums.length:=by omega
   obtain⟨_,_,_,_,_,_,_,_,_,_,c10,c11,hs,hB⟩:=id hE.inb;clear hk hlt;go_wp2_with fail;generalize hla:p.la=la;have hE1:ja p w ao wr u4 (p.head++p.kN p.nums.length++iw L 0):=by
    simpa only[iw,List.take_zero,List.flatMap_nil,gU]using hE
   clear hE c10 c11 hs hB;go_loopw [4,39] (λb i wx=>∃k:Nat,k<=p.ln∧i=.int .i64 k∧ja p w ao wx b (p.head++p.kN p.nums.length++iw L k)) (λ_ i _=>p.ln - (intOf i).toNat)
   case atStart=>exact⟨0,b_ _,rfl,hE1⟩
   case round=>
    clear hE1;obtain⟨k,hk,rfl,hE⟩:=hrel;by_cases hlt:k<p.ln
    ·obtain⟨hLn,hLc⟩:=hL;obtain⟨lb,lo,d,s,hpa,hlb,hds,hd0,hd1,hs0,hs1,hcd,hcs⟩:=hLc k (by omega);obtain rfl:la=some ⟨lb,lo,none⟩:=hla.symm.trans hpa;have hB:=hE.inb.2.2.2.2.2.2.2.2.2.2.2.2.2;have hlen:(p.head++p.kN p.nums.length++iw L k).length<=900000:=by
      have:=vI p p.nums.length;have:=DV L k;simp only[dx,aD.head,dY,List.length_nil];omega
     have hst:Hid (iw L (k+1)=iw L k++b4 d++b4 s):=KJ hds;have agL:wr.cell? ⟨lb,lo+k * 2,none⟩=some (.int .u32 d):=(hB.cell (p:=⟨lb,lo+k * 2,none⟩) hlb).trans hcd;have hcs':wr.cell? ⟨lb,lo+k * 2+1,none⟩=some (.int .u32 s):=(hB.cell (p:=⟨lb,lo+k * 2+1,none⟩) hlb).trans hcs;have hEa:=(hE.alloc (.cells #[.int .u32 d,.int .u32 s] 237)).drew;clear hds hpa hla hcd hcs hLc hLn hB;go_wp2_with fail;go_region_held3 (Gi wr.heap.size d s) (first|exact Gi.start _ _ _|assumption|exact Gi.grown (by assumption) hown5 pW|exact Gi.grown (by assumption) hEa.own lY) (first
      |(go_at_call_of 57 (Value.int IntKind.u32 d);refine(dF (w.heap.size+1) _ d (p.head++p.kN p.nums.length++iw L k) _ hd0 hd1 hEa.own hEa.nn hEa.base (by omega)).mono ?_;rintro e w5 ⟨v5,rfl,hown5,lY,CS⟩)
      |(go_at_call_of 57 (Value.int IntKind.u32 s);refine(dF (w.heap.size+1) _ s (p.head++p.kN p.nums.length++iw L k++b4 d) _ hs0 hs1 hown5 CS (hEa.step lY hown5 CS).base (by rw[dx,lm];omega)).mono ?_;rintro e w6 ⟨v6,rfl,hown6,pW,IZ⟩))
     have Yz:=(hEa.step lY hown5 CS).step pW hown6 IZ;clear hown5 lY CS hown6 pW IZ hEa hE;go_wp2;go_roundw
     case rel=>exact⟨k+1,by omega,by go_num,by rw[hst.out,<-List.append_assoc,<-List.append_assoc];exact Yz⟩
     case measure=>simp[intOf];omega
    ·obtain rfl:k=p.ln:=by omega
     obtain⟨_,_,_,_,_,_,_,_,_,_,c10,c11,hs,hB⟩:=id hE.inb;obtain⟨i0,hi,hz0,hz1,hz2⟩:=info_parts vQ;have hlen:(p.head++p.kN p.nums.length++iw L p.ln).length<=900000:=by
      have:=vI p p.nums.length;have:=DV L p.ln;have:=hL.1;simp only[dx,aD.head,dY,List.length_nil];omega
     have hbase:=hE.base;have afg:=hE.own.lt;clear hk hlt hla;go_wp2_with(at_builtin;refine iN _ rfl _ _ 58 9 rfl (w.heap.size+1) 5 i0 (.int .u8 0) 1 1 Tryz.underlying58 hi hz0 hz1 hz2 rfl _ (p.head++p.kN p.nums.length++iw L p.ln).length (U (p.head++p.kN p.nums.length++iw L p.ln)) rfl hE.own hE.nn _ p.pay.size (byteCells p.pay) rfl (Src.ofString _ Tryz.underlying9 p.pay) ?c1 ?c2 ?c3 ?_)
     case c1=>unfold maxLen;omega
     case c2=>omega
     case c3=>exact hbase
     intro v' w7 hown' hgrow abm;go_wp2;go_ret2;refine⟨v',rfl,hB.grown hgrow (Nat.le_of_lt hs) (λk hk=>Nat.le_of_succ_le (afg k hk).1),abm,?_⟩;have hLn:L.length=p.ln:=hL.1;rw[yX,BX]at hown';have he:zF p L=p.head++p.kN p.nums.length++iw L p.ln++ak p.pay:=by
      simp only[zF,hLn]
     rw[he];simpa only[dx,List.append_assoc,bW,Nat.add_assoc]using hown'
def aD.dz(p:aD):aD:=
 if p.kind=1 then⟨p.ttl,1,p.hops,p.unk,p.id,p.dest,if p.unk then 0 else p.aX,p.aJ,p.dw,0,none,0,0,⟨#[]⟩⟩
 else if p.kind=2 then⟨p.ttl,2,p.hops,false,0,p.dest,p.aX,p.aJ,0,p.life,none,0,0,⟨#[]⟩⟩
 else if p.kind=3 then⟨p.ttl,3,0,false,0,0,0,0,0,0,p.la,p.ln,p.lc,⟨#[]⟩⟩
 else if p.kind=9 then⟨p.ttl,9,0,false,p.id,p.dest,0,p.aJ,0,0,none,0,0,p.pay⟩
 else⟨p.ttl,p.kind,0,false,0,0,0,0,0,0,none,0,0,⟨#[]⟩⟩
def yc(p q:aD):Bool:=
 decide (p.ttl=q.ttl∧p.kind=q.kind∧p.hops=q.hops∧p.unk=q.unk∧p.id=q.id∧p.dest=q.dest∧p.aX=q.aX∧p.aJ=q.aJ∧p.dw=q.dw∧p.life=q.life∧p.pay=q.pay)
@[reducible] def InC(p : aD)(b : Nat)(W : World): Prop :=
 W.cell? ⟨b,0,none⟩=some (.int .i64 p.ttl)∧W.cell? ⟨b,1,none⟩=some (.int .i64 p.kind)∧W.cell? ⟨b,2,none⟩=some (.int .i64 p.hops)∧
 W.cell? ⟨b,3,none⟩=some (.bool p.unk)∧W.cell? ⟨b,4,none⟩=some (.int .u32 p.id)∧W.cell? ⟨b,5,none⟩=some (.int .u32 p.dest)∧
 W.cell? ⟨b,6,none⟩=some (.int .u32 p.aX)∧W.cell? ⟨b,7,none⟩=some (.int .u32 p.aJ)∧W.cell? ⟨b,8,none⟩=some (.int .u32 p.dw)∧
 W.cell? ⟨b,9,none⟩=some (.int .u32 p.life)∧W.cell? ⟨b,10,none⟩=some (.slice p.la p.ln p.lc)∧W.cell? ⟨b,11,none⟩=some (.string p.pay)
def aD.yH(p:aD):Bool:=decide (p.ln=p.dz.ln)&&yc p p.dz
def aD.Tx(p:aD):Bool:=decide (p.kind=1∨p.kind=2∨p.kind=9∨(p.kind=3∧1<=p.ln∧p.ln<=8))
theorem Qe(p:aD):p.eZ=(p.yH&&decide (1<=p.ttl∧p.ttl<=255)&&decide (0<=p.hops∧p.hops<=255)&&decide (p.pay.size<=16)&&p.Tx):=by
 have hz:∀s:ByteArray,s=⟨#[]⟩↔ s.size=0:=λs=>⟨λh=>by rw[h];rfl,λh=>ByteArray.ext (Array.eq_empty_of_size_eq_zero h)⟩;rw[Bool.eq_iff_iff];unfold aD.eZ aD.yH aD.Tx yc;have hs0:(⟨#[]⟩:ByteArray).size=0:=rfl;have he:∀s:ByteArray,s=ByteArray.empty ↔ s.size=0:=hz;by_cases h1:p.kind=1
 ·simp only[aD.lS,aD.dz,aD.cnt,tF,aD.kM,h1,hz,if_true];cases p.unk<;>simp<;>grind
 by_cases h2:p.kind=2
 ·simp[aD.lS,aD.dz,aD.cnt,tF,aD.kM,h2,hz];cases p.unk<;>simp<;>grind
 by_cases h3:p.kind=3
 ·simp[aD.lS,aD.dz,aD.cnt,tF,aD.kM,h3,hz];cases p.unk<;>simp<;>grind
 by_cases h9:p.kind=9
 ·simp[aD.lS,aD.dz,aD.cnt,tF,aD.kM,h9,hs0];cases p.unk<;>simp<;>grind
 ·simp[aD.lS,aD.dz,tF,aD.kM,h1,h2,h3,h9]
theorem ve(s:ByteArray):strOfNums (ak s)=s:=by
 apply ByteArray.ext;apply Array.ext';simp only[strOfNums,ak,List.map_map];rw[List.map_congr_left (g:=id) (λb _=>by simp)];simp
theorem fI.below{w w':World}{p:aD}{L:List (Int×Int)}(h:fI w p L)(hb:Below w.heap.size w w'):fI w' p L:=by
 refine⟨h.1,λj hj=> ?_⟩;obtain⟨lb,lo,d,s,h1,h2,h3,h4,h5,h6,h7,h8,h9⟩:=h.2 j hj;exact⟨lb,lo,d,s,h1,fO h2 hb.size,h3,h4,h5,h6,h7,(hb.cell (p:=⟨lb,lo+j * 2,none⟩) h2).trans h8,(hb.cell (p:=⟨lb,lo+j * 2+1,none⟩) h2).trans h9⟩
variable{p:aD}
theorem eY(h:p.eZ=true):p.yH=true∧1<=p.ttl∧p.ttl<=255∧0<=p.hops∧p.hops<=255∧p.pay.size<=16∧(p.kind=1∨p.kind=2∨p.kind=9∨(p.kind=3∧1<=p.ln∧p.ln<=8)):=by
 rw[Qe]at h;simp only[eF,iM,aD.Tx]at h;obtain⟨⟨⟨⟨h1,h2⟩,h3⟩,h4⟩,h5⟩:=h;exact⟨h1,h2.1,h2.2,h3.1,h3.2,h4,h5⟩
theorem pU(h:p.yH=true):p.ln=p.dz.ln∧p.unk=p.dz.unk∧p.hops=p.dz.hops∧p.pay=p.dz.pay:=by
 simp only[aD.yH,yc,eF,iM]at h;exact⟨h.1,h.2.2.2.2.1,h.2.2.2.1,h.2.2.2.2.2.2.2.2.2.2.2⟩
def bE(w:World)(ao:Option Addr)(L:List (Int×Int)):Prop:=
 ∀j,j<L.length->∃lb lo d s,ao=some ⟨lb,lo,none⟩∧lb<w.heap.size∧L[j]?=some (d,s)∧0<=d∧d<4294967296∧0<=s∧s<4294967296∧
  w.cell? ⟨lb,lo+j * 2,none⟩=some (.int .u32 d)∧w.cell? ⟨lb,lo+j * 2+1,none⟩=some (.int .u32 s)
theorem bE.below{w w':World}{ao:Option Addr}{L:List (Int×Int)}(h:bE w ao L)(hb:Below w.heap.size w w'):bE w' ao L:=by
 intro j hj;obtain⟨lb,lo,d,s,h1,h2,h3,h4,h5,h6,h7,h8,h9⟩:=h j hj;exact⟨lb,lo,d,s,h1,fO h2 hb.size,h3,h4,h5,h6,h7,(hb.cell (p:=⟨lb,lo+j * 2,none⟩) h2).trans h8,(hb.cell (p:=⟨lb,lo+j * 2+1,none⟩) h2).trans h9⟩
theorem U0(W:World)(base:Nat)(v:Value)(xs:List Int)(h:W.ownsRow base 5 1 v xs.length (U xs))(hv:v≠ .slice none 0 0):
  (convert 58 9 v).run Tryz.prog W=.ok (.string (strOfNums xs)) W:=by
 rcases h.2 with⟨rfl,_⟩|⟨g,cap,cur,rfl,_⟩
 ·exact absurd rfl hv
 ·refine run_convert_bytes_arg (P:=Tryz.prog) W 58 5 Tryz.underlying58 Tryz.underlying5 g 0 xs.length cap xs rfl ?_ 9 Tryz.underlying9;intro i hi;rw[Nat.zero_add];rw[h.cellAt i (by simpa using hi)];simp[U,hi]
theorem Py:(Tryz.prog.info? 237).map (λi=>(i.zero,i.size,i.bytes))=some (some (.agg #[.int .u32 0,.int .u32 0]),2,8):=by kernel_rfl
theorem Jb(p:aD)(a:Option Addr)(c:Nat):({p with la:=a,lc:=c}:aD).eZ=p.eZ:=by
 unfold aD.eZ
 congr 1
 unfold aD.lS;dsimp only;split
 ·rfl
 split
 ·rfl
 split
 ·rfl
 split
 ·rfl
 ·rfl
def LC(L:List (Int×Int)):List Value:=L.flatMap λx=> [.int .u32 x.1,.int .u32 x.2]
theorem j4(L:List (Int×Int)):(LC L).length=L.length * 2:=by
 induction L with
 |nil=>rfl
 |cons a L ih=>
  simp only[LC,List.flatMap_cons,dx,dY,List.length_nil]at ih ⊢;omega
theorem acN(L:List (Int×Int))(j:Nat):(LC L)[j * 2]?=(L[j]?).map (λx=>Value.int .u32 x.1)∧(LC L)[j * 2+1]?=(L[j]?).map (λx=>Value.int .u32 x.2):=by
 induction L generalizing j with
 |nil=>simp[LC]
 |cons a L ih=>
  cases j with
  |zero=>simp[LC]
  |succ j=>
   have h:=ih j;simp only[LC,List.flatMap_cons]at h ⊢;rw[show(j+1)* 2=j * 2+1+1 by omega];simpa using h
theorem nI(W:World)(a b:Addr)(v:Value)(h:b.block≠a.block):(W.setCell a v).cell? b=W.cell? b:=
 World.cell?_of_block (kS W a v b.block h)
theorem Qf{p:aD}(h:p.eZ=true):1<=p.kind∧p.kind<=9∧0<=p.cnt∧p.cnt<=255∧p.ln<=8:=by
 obtain⟨hl,_,_,h1,h2,h3,hk⟩:=eY h;have hln:=(pU hl).1;unfold aD.cnt;rcases hk with hk|hk|hk|⟨hk,_,_⟩
 ·have:p.dz.ln=0:=by simp[aD.dz,hk]
  simp[hk];omega
 ·have:p.dz.ln=0:=by simp[aD.dz,hk]
  simp[hk];omega
 ·have:p.dz.ln=0:=by simp[aD.dz,hk]
  simp[hk];omega
 ·simp[hk];omega
variable{x0 x1 x2 x4:Int}{xs:List Int}{B R:Nat}{r:Option Nat}{p:aD}{A C W W':World}
theorem Rd.alloc(h:Rd R xs W)(o:Obj):Rd R xs (W.alloc o):=by
 obtain⟨v,h1,h2,hb,h3⟩:=h;have hlt:=World.block_lt_of_cell? W _ h1;refine⟨v,(World.cell?_alloc_lt _ _ _ hlt).trans h1,(World.frozen?_alloc_old W o _ (by simp at hlt ⊢;omega)).trans h2,hb,?_⟩;rcases h3 with h|⟨b,o',c,rfl,k1,k2,k3⟩
 ·exact .inl h
 ·exact .inr ⟨b,o',c,rfl,k1,k2,λj x hx=>(World.cell?_alloc_lt _ _ _ (World.block_lt_of_cell? W _ (k3 j x hx))).trans (k3 j x hx)⟩
theorem Rd.setCell(h:Rd R xs W){B:Nat}(hB:B≠R){i:Nat}(u u':Value)(hu:∀n,u≠ .int .u8 n)(hc:W.cell? ⟨B,i,none⟩=some u):Rd R xs (W.setCell ⟨B,i,none⟩ u'):=by
 obtain⟨v,h1,h2,hb,h3⟩:=h;refine⟨v,(World.cell?_setCell_other _ _ _ _ (λe=>hB (by cases e;rfl))).trans h1,(World.frozen?_setCell _ _ _ _).trans h2,hb,?_⟩;rcases h3 with h|⟨b,o',c,rfl,k1,k2,k3⟩
 ·exact .inl h
 ·refine .inr ⟨b,o',c,rfl,k1,k2,λj x hx=> ?_⟩;have hk:=k3 j x hx;rw[World.cell?_setCell_other _ _ _ _ (λe=>by rw[<-e,hc]at hk;exact hu _ (Option.some.inj hk))];exact hk
theorem Rd.drew(h:Rd R xs W):Rd R xs W.drew:=h
theorem Rd.lt(h:Rd R xs W):R<W.heap.size:=by
 obtain⟨v,h1,_⟩:=h;exact World.block_lt_of_cell? W _ h1
def PB(p:aD)(B:Nat)(W:World):Prop:=W.heap[B]?=some p.box
theorem PB.new(p:aD)(W:World):PB p W.heap.size (W.alloc p.box):=bS W _
theorem PB.lt(h:PB p B W):B<W.heap.size:=(iC.1 h).1
theorem PB.grown(h:PB p B W)(hg:W.grownBy W' (some R))(hne:B≠R):PB p B W':=(hg.block B h.lt (by simpa using hne)).trans h
theorem PB.alloc(h:PB p B W)(o:Obj):PB p B (W.alloc o):=(Below.heap_alloc W o B h.lt).trans h
theorem PB.cell(h:PB p B W):InC p B W:=by
 have k:=λi=>aG W B i _ _ _ h;exact⟨k 0,k 1,k 2,k 3,k 4,k 5,k 6,k 7,k 8,k 9,k 10,k 11⟩
theorem PB.free(h:PB p B W)(i:Nat):W.frozen? ⟨B,i,none⟩=false:=lW W B i _ _ h
theorem PB.other(h:PB p B W){a:Addr}(ha:B≠a.block)(v:Value):PB p B (W.setCell a v):=(kS W a v B ha).trans h
def aD.zero:aD:=⟨0,0,0,false,0,0,0,0,0,0,none,0,0,⟨#[]⟩⟩
theorem PB.set(h:PB p B W)(q:aD)(i:Nat)(v:Value)(hq:Obj.cells ((#[.int .i64 p.ttl,.int .i64 p.kind,.int .i64 p.hops,.bool p.unk,.int .u32 p.id,.int .u32 p.dest,.int .u32 p.aX,.int .u32 p.aJ,.int .u32 p.dw,.int .u32 p.life,.slice p.la p.ln p.lc,.string p.pay]:Array Value).setIfInBounds i v) 73 (0,0)=q.box):
  PB q B (W.setCell ⟨B,i,none⟩ v):=by
 unfold PB;rw[heap_setCell_same W B i _ _ v h];rw[hq]
theorem bF(R:Nat)(x:Int)(ys:List Int)(W:World)(h:Rd R (x::ys) W):
  Calls Tryz.prog 84 #[.pointer (some ⟨R,0,none⟩)] W λe w'=>e=.returned (.int .i64 x)∧Rd R ys w'∧W.grownBy w' (some R):=by
 refine(EP R _ W h).mono ?_;rintro e w' (⟨x',ys',hx,_,_,rfl,h1,h2,_⟩|⟨hx,_⟩)
 ·obtain⟨rfl,rfl⟩:=List.cons.inj hx;exact⟨rfl,h1,h2⟩
 ·cases hx
theorem vH(R:Nat)(W:World)(h:Rd R [] W):
  Calls Tryz.prog 84 #[.pointer (some ⟨R,0,none⟩)] W λe w'=>e=.panicked broken∧w'=W:=by
 refine(EP R _ W h).mono ?_;rintro e w' (⟨x',ys',hx,_⟩|⟨_,rfl,rfl⟩)
 ·cases hx
 ·exact⟨rfl,rfl⟩
def num(r:List Int)(i:Nat):Int:=n4 (r.getD (4 * i) 0) (r.getD (4 * i+1) 0) (r.getD (4 * i+2) 0) (r.getD (4 * i+3) 0)
def iY(x0 x1 x2 x4:Int)(r:List Int):aD:=
 if x1=1 then⟨x0,1,x4,x2==8,num r 0,num r 1,num r 2,num r 3,num r 4,0,none,0,0,⟨#[]⟩⟩
 else if x1=2 then⟨x0,2,x4,x2==8,0,num r 0,num r 1,num r 2,0,num r 3,none,0,0,⟨#[]⟩⟩
 else if x1=3 then⟨x0,3,0,x2==8,0,0,0,0,0,0,none,x4.toNat,0,⟨#[]⟩⟩
 else if x1=9 then⟨x0,9,0,x2==8,num r 0,num r 1,0,num r 2,0,0,none,0,0,strOfNums ((r.drop 12).take x4.toNat)⟩
 else⟨x0,x1,0,x2==8,0,0,0,0,0,0,none,0,0,⟨#[]⟩⟩
def qA(n:Nat)(r:List Int):List (Int×Int):=(List.range n).map λi=>(num r (2 * i),num r (2 * i+1))
def m_(x1 x4:Int)(r:List Int):List (Int×Int):=if x1=3 then qA x4.toNat r else []
def dR(x1 x4:Int):Nat:=if x1=1 then 20 else if x1=2 then 16 else if x1=3 then 8 * x4.toNat else if x1=9 then 12+x4.toNat else 0
def qB(xs:List Int):Bool:=
 match xs with
 |x0::x1::x2::x3::x4::r=>decide (x2=0∨x2=8)&&decide (x3=0)&&decide (r.length=dR x1 x4)&&(iY x0 x1 x2 x4 r).eZ
 |_=>false
theorem vS{B:World}(h:A.grownBy B r)(k:B.grownBy C r):A.grownBy C r:=
 ⟨k.os.trans h.os,k.tape.trans h.tape,k.output.trans h.output,dH h.size k.size,λi hi hne=>(k.block i (fO hi h.size) hne).trans (h.block i hi hne)⟩
theorem fG{x3:Int}{r:List Int}(h:r.length≠dR x1 x4):qB (x0::x1::x2::x3::x4::r)=false:=by
 simp[qB,h]
theorem Bd{r:List Int}(hf:x2=0∨x2=8)(h:r.length=dR x1 x4):qB (x0::x1::x2::0::x4::r)=(iY x0 x1 x2 x4 r).eZ:=by
 simp[qB,h,hf]
theorem Rd.bytes(h:Rd R xs W):∀x∈xs,0<=x∧x<=255:=by
 obtain⟨_,_,_,hb,_⟩:=h;exact hb
theorem uw{a b c d:Int}(ha:0<=a∧a<=255)(hb:0<=b∧b<=255)(hc:0<=c∧c<=255)(hd:0<=d∧d<=255):0<=n4 a b c d∧n4 a b c d<4294967296:=by
 unfold n4;omega
theorem PB.below(h:PB p B W)(hb:Below W.heap.size W W'):PB p B W':=(hb.block B h.lt).trans h
theorem fZ{B:World}(h:A.grownBy B r)(k:Below B.heap.size B C):A.grownBy C r:=
 vS h ⟨k.os,k.tape,k.output,k.size,λi hi _=>k.block i hi⟩
def Reads(xs:List Int)(v:Value)(W:World)(N:Nat):Prop:=
 ∃x0 x1 x2 x3 x4 r ao c,xs=x0::x1::x2::x3::x4::r∧v=({iY x0 x1 x2 x4 r with la:=ao,lc:=c}:aD).val∧
  (m_ x1 x4 r).length=(iY x0 x1 x2 x4 r).ln∧bE W ao (m_ x1 x4 r)∧∀b,ao=some b->N<=b.block
def jO(R:Nat)(xs:List Int)(W:World)(e:Ending)(w':World):Prop:=
 W.grownBy w' (some R)∧((qB xs=true∧∃v,e=.returned v∧Reads xs v w' W.heap.size)∨(qB xs=false∧e=.panicked broken))
theorem ax{B:World}(h:A.grownBy B r)(k:B.grownBy C r):A.grownBy C r:=vS h k
theorem uF{B:World}(h:A.grownBy B r):A.grownBy B.drew r:=⟨h.os,h.tape,h.output,h.size,h.block⟩
theorem bA{B:World}(h:A.grownBy B r){a:Addr}(ha:A.heap.size<=a.block)(v:Value):A.grownBy (B.setCell a v) r:=
 ⟨h.os,h.tape,h.output,by simpa using h.size,λi hi hne=>(kS B a v i (by omega)).trans (h.block i hi hne)⟩
@[reducible] def dD(w : World)(C : Nat)(p : aD): World :=
 ((((((((((((w.setCell ⟨C,0,none⟩ (.int .i64 p.ttl)).setCell ⟨C,1,none⟩ (.int .i64 p.kind)).setCell ⟨C,2,none⟩ (.int .i64 p.hops)).setCell ⟨C,3,none⟩ (.bool p.unk)).setCell ⟨C,4,none⟩ (.int .u32 p.id)).setCell ⟨C,5,none⟩ (.int .u32 p.dest)).setCell ⟨C,6,none⟩ (.int .u32 p.aX)).setCell ⟨C,7,none⟩ (.int .u32 p.aJ)).setCell ⟨C,8,none⟩ (.int .u32 p.dw)).setCell ⟨C,9,none⟩ (.int .u32 p.life)).setCell ⟨C,10,none⟩ (.slice p.la p.ln p.lc)).setCell ⟨C,11,none⟩ (.string p.pay))
theorem PB.storeAll{z:aD}{C:Nat}{w:World}(h:PB z C w)(p:aD):PB p C (dD w C p):=by
 have h0:=PB.set h ⟨p.ttl,z.kind,z.hops,z.unk,z.id,z.dest,z.aX,z.aJ,z.dw,z.life,z.la,z.ln,z.lc,z.pay⟩ 0 (.int .i64 p.ttl) rfl;have h1:=PB.set h0 ⟨p.ttl,p.kind,z.hops,z.unk,z.id,z.dest,z.aX,z.aJ,z.dw,z.life,z.la,z.ln,z.lc,z.pay⟩ 1 (.int .i64 p.kind) rfl;have h2:=PB.set h1 ⟨p.ttl,p.kind,p.hops,z.unk,z.id,z.dest,z.aX,z.aJ,z.dw,z.life,z.la,z.ln,z.lc,z.pay⟩ 2 (.int .i64 p.hops) rfl;have h3:=PB.set h2 ⟨p.ttl,p.kind,p.hops,p.unk,z.id,z.dest,z.aX,z.aJ,z.dw,z.life,z.la,z.ln,z.lc,z.pay⟩ 3 (.bool p.unk) rfl;have h4:=PB.set h3 ⟨p.ttl,p.kind,p.hops,p.unk,p.id,z.dest,z.aX,z.aJ,z.dw,z.life,z.la,z.ln,z.lc,z.pay⟩ 4 (.int .u32 p.id) rfl;have h5:=PB.set h4 ⟨p.ttl,p.kind,p.hops,p.unk,p.id,p.dest,z.aX,z.aJ,z.dw,z.life,z.la,z.ln,z.lc,z.pay⟩ 5 (.int .u32 p.dest) rfl;have h6:=PB.set h5 ⟨p.ttl,p.kind,p.hops,p.unk,p.id,p.dest,p.aX,z.aJ,z.dw,z.life,z.la,z.ln,z.lc,z.pay⟩ 6 (.int .u32 p.aX) rfl;have h7:=PB.set h6 ⟨p.ttl,p.kind,p.hops,p.unk,p.id,p.dest,p.aX,p.aJ,z.dw,z.life,z.la,z.ln,z.lc,z.pay⟩ 7 (.int .u32 p.aJ) rfl;have h8:=PB.set h7 ⟨p.ttl,p.kind,p.hops,p.unk,p.id,p.dest,p.aX,p.aJ,p.dw,z.life,z.la,z.ln,z.lc,z.pay⟩ 8 (.int .u32 p.dw) rfl;have h9:=PB.set h8 ⟨p.ttl,p.kind,p.hops,p.unk,p.id,p.dest,p.aX,p.aJ,p.dw,p.life,z.la,z.ln,z.lc,z.pay⟩ 9 (.int .u32 p.life) rfl;have h10:=PB.set h9 ⟨p.ttl,p.kind,p.hops,p.unk,p.id,p.dest,p.aX,p.aJ,p.dw,p.life,p.la,p.ln,p.lc,z.pay⟩ 10 (.slice p.la p.ln p.lc) rfl;have h11:=PB.set h10 ⟨p.ttl,p.kind,p.hops,p.unk,p.id,p.dest,p.aX,p.aJ,p.dw,p.life,p.la,p.ln,p.lc,p.pay⟩ 11 (.string p.pay) rfl;exact h11
theorem lQ{B:World}(h:A.grownBy B r){C:Nat}(hC:A.heap.size<=C)(p:aD):A.grownBy (dD B C p) r:=
 bA (bA (bA (bA (bA (bA (bA (bA (bA (bA (bA (bA h hC _) hC _) hC _) hC _) hC _) hC _) hC _) hC _) hC _) hC _) hC _) hC _
open Go.Maps
variable{a:qy}{bg:List (Bool×Int×Int)}{aR aI:List (Int×ByteArray)}{aQ:List Int}{B:Nat}{W W7:World}
theorem X7:(Tryz.prog.info? 77).map (λi=>(i.zero,i.size,i.bytes))=some (some (.agg #[.int .u32 0,.string ⟨#[]⟩]),2,24):=by kernel_rfl
theorem X6:(Tryz.prog.info? 195).map (λi=>(i.zero,i.size,i.bytes))=some (some (.int .i64 0),1,8):=by kernel_rfl
def jU(p:aD)(L:List (Int×Int)):List Int:=if p.eZ then zF p L else []
theorem VS(p:aD)(hp:p.Wf)(L:List (Int×Int))(w:World)(hL:fI w p L):
  Calls Tryz.prog 117 #[p.val] w λe w'=>∃a n c er,e=.returned (.tuple #[.slice a n c,.int .i64 er])∧Below w.heap.size w w'∧∀W,Below w'.heap.size w' W->(convert 58 9 (.slice a n c)).run Tryz.prog W=.ok (.string (strOfNums (jU p L))) W:=by
 cases hg:p.eZ
 ·refine(LX p hp hg w).mono ?_;rintro e w' ⟨rfl,hb⟩;refine⟨none,0,0,1,rfl,hb,λW _=> ?_⟩;have:jU p L=[]:=by simp[jU,hg]
  rw[this];exact run_convert_bytes_nil (P:=Tryz.prog) W 58 5 Tryz.underlying58 Tryz.underlying5 0 0 9 Tryz.underlying9
 ·obtain⟨h1,h2,h3,h4,h5⟩:=Qf hg;obtain⟨_,k1,k2,_,_,k3,_⟩:=eY hg;refine(JO p hp hg (by omega) (by omega) h1 h2 h3 h4 h5 (by omega) L w hL).mono ?_;rintro e w' ⟨v,rfl,hb,hv,ho⟩;obtain⟨g,cap,rfl,_⟩:=Dz ho hv;refine⟨_,_,_,0,rfl,hb,λW hW=> ?_⟩;have:jU p L=zF p L:=by simp[jU,hg]
  rw[this];exact U0 W _ _ _ (aL ho hW) hv
theorem U6(W:World)(r:Int):∀(j:Nat) (u:Value),(J6 [r])[j]?=some u->(W.alloc (.cells #[.int .i64 r] 195)).cell? ((⟨W.heap.size,0,none⟩:Addr).add j)=some u:=by
 intro j u hj;have h:=bS W (.cells #[.int .i64 r] 195);rw[Addr.add_lit,Nat.zero_add]
 match j,hj with
 |0,hj=>exact(aG _ _ 0 _ _ _ h).trans hj
 |j+1,hj=>simp[J6]at hj
theorem aaK(L:List Int):∀u∈J6 L,u.oneCell'=true:=by
 intro u hu;simp only[J6,dh]at hu;obtain⟨y,_,rfl⟩:=hu;rfl
theorem U7(W:World)(t:Int)(s:ByteArray):∀(j:Nat) (u:Value),(uL [(t,s)])[j]?=some u->(W.alloc (.cells #[.int .u32 t,.string s] 77)).cell? ((⟨W.heap.size,0,none⟩:Addr).add j)=some u:=by
 intro j u hj;have h:=bS W (.cells #[.int .u32 t,.string s] 77);rw[Addr.add_lit,Nat.zero_add]
 match j,hj with
 |0,hj=>exact(aG _ _ 0 _ _ _ h).trans hj
 |1,hj=>exact(aG _ _ 1 _ _ _ h).trans hj
 |j+2,hj=>simp[uL]at hj
theorem SC(L:List (Int×ByteArray)):∀u∈uL L,u.oneCell'=true:=by
 intro u hu;simp only[uL,List.mem_flatMap,eD,List.not_mem_nil,or_false]at hu;obtain⟨y,_,rfl|rfl⟩:=hu<;>rfl
theorem jI.alloc{base:Nat}(h:jI B base a bg aI aR aQ W)(o:Obj):jI B base a bg aI aR aQ (W.alloc o):=h.later ((aU _ _).alloc (aB _) o)
theorem jI.drew{base:Nat}(h:jI B base a bg aI aR aQ W):jI B base a bg aI aR aQ W.drew:=h.later (aU _ _).drew
theorem jI.drops{base:Nat}{ab8:List Int}(h:jI B base a bg aI aR aQ W){v7:Value}(ho:W7.ownsRow base 195 1 v7 ab8.length (J6 ab8))(hg:W.grownBy W7 a.bO.ownBlock):
  oV B a W7∧jI B base {a with bO:=v7} bg aI aR ab8 (W7.setCell ⟨B,6,none⟩ v7)∧Fx (jC B a) W (W7.setCell ⟨B,6,none⟩ v7):=by
 have hBr:a.bO.ownBlock≠some B:=aA h.bO h.blk (λc e=>(by cases e));have jd:oV B a W7:=h.blk.block (hg.block _ h.blk.lt (λe=>hBr e.symm));have hg2:W7.grownBy (W7.setCell ⟨B,6,none⟩ v7) (some B):=ah (aC _ (some B)) 6 v7;have f1:=h.aJ.kept hg (bX h.aJ h.bO (by decide));have f2:=h.bL.kept hg (bX h.bL h.bO (by decide));have f3:=h.nT.kept hg (bX h.nT h.bO (by decide));exact⟨jd,⟨jd.aax v7,f3.kept hg2 (.inr (aA f3 jd (λc e=>(by cases e)))),f1.kept hg2 (.inr (aA f1 jd (λc e=>(by cases e)))),f2.kept hg2 (.inr (aA f2 jd (λc e=>(by cases e)))),ho.kept hg2 (.inr (aA ho jd (λc e=>(by cases e))))⟩,
  aV (Fx.grown hg λk e=> .inr (.inr (.inr (.inr e)))) hg2 λi _ e=>by cases e;exact .inl rfl⟩
theorem jI.sends{base:Nat}{ab1:List (Int×ByteArray)}(h:jI B base a bg aI aR aQ W){v7:Value}(ho:W7.ownsRow base 77 2 v7 ab1.length (uL ab1))(hg:W.grownBy W7 a.aJ.ownBlock):
  oV B a W7∧jI B base {a with aJ:=v7} bg ab1 aR aQ (W7.setCell ⟨B,4,none⟩ v7)∧Fx (jC B a) W (W7.setCell ⟨B,4,none⟩ v7):=by
 have hBr:a.aJ.ownBlock≠some B:=aA h.aJ h.blk (λc e=>(by cases e));have jd:oV B a W7:=h.blk.block (hg.block _ h.blk.lt (λe=>hBr e.symm));have hg2:W7.grownBy (W7.setCell ⟨B,4,none⟩ v7) (some B):=ah (aC _ (some B)) 4 v7;have f1:=h.bO.kept hg (bX h.bO h.aJ (by decide));have f2:=h.bL.kept hg (bX h.bL h.aJ (by decide));have f3:=h.nT.kept hg (bX h.nT h.aJ (by decide));exact⟨jd,⟨jd.aaw v7,f3.kept hg2 (.inr (aA f3 jd (λc e=>(by cases e)))),ho.kept hg2 (.inr (aA ho jd (λc e=>(by cases e)))),f2.kept hg2 (.inr (aA f2 jd (λc e=>(by cases e)))),f1.kept hg2 (.inr (aA f1 jd (λc e=>(by cases e))))⟩,
  aV (Fx.grown hg λk e=> .inr (.inr (.inl e))) hg2 λi _ e=>by cases e;exact .inl rfl⟩
theorem Jo(B base:Nat)(a:qy)(bg:List (Bool×Int×Int))(aI aR:List (Int×ByteArray))(aQ:List Int)(r:Int)(w:World)(ha:jI B base a bg aI aR aQ w)(hbs:base<=w.heap.size)(hd:aQ.length<=1000000):
  Calls Tryz.prog 92 #[.pointer (some ⟨B,0,none⟩),.int .i64 r] w λe w'=>∃v7,e=.returned (.tuple #[])∧jI B base {a with bO:=v7} bg aI aR (aQ++ [r]) w'∧Fx (jC B a) w w':=by
 obtain⟨i0,hi,hz0,hz1,hz2⟩:=info_parts X6;have jM:Below w.heap.size w (w.alloc (.cells #[.int .i64 r] 195)):=bC;have ha1:=ha.alloc (.cells #[.int .i64 r] 195);have hcr:=U6 w r;have hrow:=ha1.bO;obtain⟨c0,c1,c2,c3,c4,c5,c6⟩:=ha.blk.cell;go_enter Tryz.func92,Tryz.ntmps92;go_wp2_with(at_builtin;refine wpList_append_own_at _ rfl _ _ 50 rfl base 195 i0 (.int .i64 0) 1 8 Tryz.underlying50 hi hz0 hz1 hz2 rfl (by decide) a.bO aQ.length (J6 aQ) rfl hrow ⟨w.heap.size,0,none⟩ 1 1 (J6 [r]) rfl rfl hcr (aaK [r]) (by unfold maxLen;omega) (by omega) ?c3 ?_)
 case c3=>simp;omega
 intro v7 w7 iy gW _ _;rw[<-LY]at iy;have hll:aQ.length+1=(aQ++ [r]).length:=by simp
 rw[hll]at iy;obtain⟨jd,hm,hf⟩:=ha1.drops iy gW;have hf':=(Fx.below (S:=jC B a) jM).trans hf (λi _ h=>h);obtain⟨d0,d1,d2,d3,d4,d5,d6⟩:=jd.cell;have g6:=jd.free 6;obtain⟨Rf,U_,hv7,_⟩:=ay iy;generalize (aQ++ [r]).length=nn at hv7;subst hv7;clear hll hrow hcr c0 c1 c2 c3 c4 c5 c6 ha1 jd gW iy;go_wp2;go_returns;exact⟨_,rfl,hm,hf'⟩
theorem Ap(B base:Nat)(a:qy)(bg:List (Bool×Int×Int))(aI aR:List (Int×ByteArray))(aQ:List Int)(tt:Int)(p:aD)(hp:p.Wf)(L:List (Int×Int))(w:World)(ha:jI B base a bg aI aR aQ w)(hbs:base<=w.heap.size)(hd:aI.length<=1000000)(hL:fI w p L):
  Calls Tryz.prog 80 #[.pointer (some ⟨B,0,none⟩),.int .u32 tt,p.val] w λe w'=>∃v7,e=.returned (.tuple #[])∧jI B base {a with aJ:=v7} bg (aI++ [(tt,strOfNums (jU p L))]) aR aQ w'∧Fx (jC B a) w w':=by
 obtain⟨i0,hi,hz0,hz1,hz2⟩:=info_parts X7;have hb0:Below w.heap.size w (w.alloc p.box):=bC;have hP:=PB.new p w;have HE:=(show Hid _ from λW hW=>VS p hp L W (hL.below hW));dsimp only[aD.box]at hb0;unfold PB at hP;dsimp only[aD.box]at hP;go_enter Tryz.func80,Tryz.ntmps80;go_upto_region 1 with(fail);generalize World.alloc _ _=W1 at hb0 hP ⊢;generalize w.heap.size=C at hP ⊢;obtain⟨b0,b1,b2,b3,b4,b5,b6,b7,b8,b9,b10,b11⟩:=PB.cell (show PB p C W1 from hP);go_wp2_with fail;refine aT (HE.out W1 hb0) ?_;rintro e w2 ⟨ea,en,ec,er,rfl,hb2,hcv⟩;have hbb:=hb0.trans (hb2.mono hb0.size);have ha2:=ha.later hbb;have afz:=hcv w2 (aU _ _);have afy:=hcv w2.drew (aU _ _).drew;generalize hss:strOfNums (jU p L)=ss at afz afy;have ae2:=(show Hid _ from hss);clear hss hcv hb0 hb2 hP b0 b1 b2 b3 b4 b5 b6 b7 b8 b9 b10 b11 HE;have hz:=hbb.size;have c4:=ha2.blk.cell.2.2.2.2.1;have haT:=λo=>(ha2.alloc o).blk.cell.2.2.2.2.1;have hrow:=λo=>(ha2.alloc o).drew.aJ;have hcf:=λW=>U7 W tt ss;have jM:Hid (∀o:Obj,base<=(w2.alloc o).drew.heap.size):=by
  intro o;show base<=(w2.alloc o).heap.size;rw[World.size_alloc];omega
 have HF:Hid (∀v7 w7,w7.ownsRow base 77 2 v7 (aI.length+1) (uL aI++uL [(tt,ss)])->(w2.alloc (.cells #[.int .u32 tt,.string ss] 77)).drew.grownBy w7 a.aJ.ownBlock->(w7.cell? ⟨B,4,none⟩=some a.aJ∧w7.frozen? ⟨B,4,none⟩=false)∧jI B base {a with aJ:=v7} bg (aI++ [(tt,ss)]) aR aQ (w7.setCell ⟨B,4,none⟩ v7)∧Fx (jC B a) w (w7.setCell ⟨B,4,none⟩ v7)):=by
  intro v7 w7 iy gW;rw[<-Co,show aI.length+1=(aI++ [(tt,ss)]).length by simp]at iy;have hb3:Below w2.heap.size w2 (w2.alloc (.cells #[.int .u32 tt,.string ss] 77)).drew:=(bC).drew;obtain⟨jd,hm,hf⟩:=(ha2.later hb3).sends iy gW;exact⟨⟨jd.cell.2.2.2.2.1,jd.free 4⟩,hm,((Fx.below (S:=jC B a) hbb).trans (Fx.below (S:=jC B a) hb3) (λ_ _ h=>h)).trans hf (λ_ _ h=>h)⟩
 clear ha ha2 hbb;go_wp2_with fail;go_region_law (refine gY rfl (.tmp 18) (.tmp 23) 48 rfl base 77 i0 (.agg #[.int .u32 0,.string ⟨#[]⟩]) 2 24 Tryz.underlying48 hi hz0 hz1 hz2 rfl (by decide) a.aJ aI.length (uL aI) (by simp[Act.eval]) (hrow _) ⟨_,0,none⟩ 1 1 (uL [(tt,ss)]) (by simp[Act.eval]) rfl (hcf _) (SC _) (by unfold maxLen;omega) (by omega) (jM.out _) ?_;intro v7 w7 iy gW _;obtain⟨⟨g1,g2⟩,hm,hf⟩:=HF.out _ _ iy gW;obtain⟨Rf,U_,rfl,_⟩:=ay iy)
 all_goals
  rw[<-ae2.out]at hm;generalize World.setCell _ _ _=w8 at hm hf ⊢;clear g1 g2 gW iy;go_wp2;go_returns;exact⟨_,rfl,hm,hf⟩
def eT(A:List Rt)(d:Int):Int:=((aK A d).map (·.seq)).getD 0
theorem Gz{me:Int}{T M:Nat}{f:Int->Option Nat}{g:Int->Value}{A:List Rt}{w:World}(h:MT me T M f g A w)(d:Int)(hd:a_ d):
  Calls Tryz.prog 157 #[.pointer (some ⟨T,0,none⟩),.int .u32 d] w λe w'=>e=.returned (.tuple #[.int .u32 (eT A d),.bool (aK A d).isSome])∧w'=w:=by
 obtain⟨t0,t1⟩:=h.blk.cell;have hlk:=h.map.look hd;cases hl:aK A d with
 |none=>
  rw[h.off hd hl]at hlk;simp only[gH]at hlk;have hn:eT A d=0:=by simp[eT,hl]
  rw[hn];clear h hn hl;go_enter Tryz.func157,Tryz.ntmps157;go_wp2;go_ret2;exact⟨rfl,rfl⟩
 |some x=>
  obtain⟨_,_,B,hB,hL,_⟩:=h.line hl;rw[hB]at hlk;simp only[gH]at hlk;obtain⟨b0,b1,b2,b3,b4,b5,b6⟩:=hL.cell;have hn:eT A d=x.seq:=by simp[eT,hl]
  rw[hn];clear h hn hl hL hB;go_enter Tryz.func157,Tryz.ntmps157;go_wp2;go_ret2;exact⟨rfl,rfl⟩
theorem DR(N:Nat)(x:mX){M:Nat}{ff:Int->Option Nat}{gg:Int->Value}{A:List Rt}{f:Int->Option Int}{sz:Nat}{w:World}(hn:Gb N x M ff gg A f sz w)(d:Int)(hd:a_ d):
  Calls Tryz.prog 159 #[.pointer (some ⟨N,0,none⟩),.int .u32 d] w λe w'=>e=.returned (.agg #[.int .u32 d,.int .u32 (eT A d)])∧Below w.heap.size w w':=by
 have hb0:Below w.heap.size w (w.alloc (.cells #[.int .u32 0,.int .u32 0] 237)):=bC;have hn1:=hn.later hb0;have hC:(w.alloc (.cells #[.int .u32 0,.int .u32 0] 237)).heap[w.heap.size]?=some (.cells #[.int .u32 0,.int .u32 0] 237):=bS _ _;go_enter Tryz.func159,Tryz.ntmps159;go_upto_region 1 with(fail);generalize World.alloc _ _=W1 at hb0 hn1 hC ⊢;obtain⟨n0,n2,n3,n4,n5,n6,n7,n8,n9,n10⟩:=hn1.nd.cell;have q0:W1.cell? ⟨w.heap.size,0,none⟩=some (.int .u32 0):=aG W1 w.heap.size 0 _ _ _ hC;have q1:W1.cell? ⟨w.heap.size,1,none⟩=some (.int .u32 0):=aG W1 w.heap.size 1 _ _ _ hC;have f0:=lW W1 w.heap.size 0 _ _ hC;have f1:=lW W1 w.heap.size 1 _ _ hC;go_wp2_with fail;refine aT (Gz hn1.tb d hd) ?_;rintro e w2 ⟨rfl,rfl⟩;have hb2:Below w.heap.size w ((w2.setCell ⟨w.heap.size,0,none⟩ (.int .u32 d)).setCell ⟨w.heap.size,1,none⟩ (.int .u32 (eT A d))):=(hb0.setCell (p:=⟨w.heap.size,0,none⟩) (aB _) _).setCell (p:=⟨w.heap.size,1,none⟩) (aB _) _;have hC2:((w2.setCell ⟨w.heap.size,0,none⟩ (.int .u32 d)).setCell ⟨w.heap.size,1,none⟩ (.int .u32 (eT A d))).heap[w.heap.size]?=some (.cells #[.int .u32 d,.int .u32 (eT A d)] 237):=by
  simp[World.setCell,Array.getElem?_modify,hC]
 clear hn1 n0 n2 n3 n4 n5 n6 n7 n8 n9 n10;go_wp2;generalize World.setCell _ _ _=W3 at hb2 hC2 ⊢;have p0:W3.cell? ⟨w.heap.size,0,none⟩=some (.int .u32 d):=aG W3 w.heap.size 0 _ _ _ hC2;have p1:W3.cell? ⟨w.heap.size,1,none⟩=some (.int .u32 (eT A d)):=aG W3 w.heap.size 1 _ _ _ hC2;exact bodyPost_ret (v:=.agg #[.int .u32 d,.int .u32 (eT A d)]) (by simp[results,Tryz.results159,go_sem,p0,p1]) rfl ⟨rfl,hb2⟩
def ZG(n:Nat):aD:=⟨1,3,0,false,0,0,0,0,0,0,none,n,0,⟨#[]⟩⟩
theorem aaV(n:Nat)(hn:n<=65536)(ao:Option Addr)(c:Nat):({ZG n with la:=ao,lc:=c}:aD).Wf:=by
 have hz:(⟨#[]⟩:ByteArray).size=0:=rfl;constructor<;>(dsimp only[ZG];omega)
theorem NQ(p:aD)(ao:Option Addr)(c:Nat)(L:List (Int×Int)):jU {p with la:=ao,lc:=c} L=jU p L:=by
 unfold jU;rw[Jb];rfl
def lsB(L:List (Int×Int)):ByteArray:=strOfNums (jU (ZG L.length) L)
def Pw(tt:Int)(L:List (Int×Int)):List (Int×ByteArray):=if L.length=0 then []else [(tt,lsB L)]
theorem Iq(B base:Nat)(a:qy)(bg:List (Bool×Int×Int))(aI aR:List (Int×ByteArray))(aQ:List Int)(tt:Int)(ao:Option Addr)(c:Nat)(L:List (Int×Int))(w:World)(ha:jI B base a bg aI aR aQ w)(hbs:base<=w.heap.size)(hd:aI.length<=1000000)(hn:L.length<=65536)(hL:bE w ao L):
  Calls Tryz.prog 137 #[.pointer (some ⟨B,0,none⟩),.int .u32 tt,.slice ao L.length c] w λe w'=>∃v7,e=.returned (.tuple #[])∧jI B base {a with aJ:=v7} bg (aI++Pw tt L) aR aQ w'∧Fx (jC B a) w w':=by
 by_cases h0:L.length=0
 ·have hf:Pw tt L=[]:=by simp[Pw,h0]
  rw[hf,gU];rw[h0];clear hf;go_enter Tryz.func137,Tryz.ntmps137;go_wp2;go_returns;exact⟨a.aJ,rfl,ha,Fx.refl _ _⟩
 ·have hf:Pw tt L=[(tt,strOfNums (jU {ZG L.length with la:=ao,lc:=c} L))]:=by
   rw[NQ];simp[Pw,h0,lsB]
  have hpos:(0:Int)<(L.length:Int):=by omega
  rw[hf];have HS:=(show Hid _ from Ap B base a bg aI aR aQ tt {ZG L.length with la:=ao,lc:=c} (aaV _ hn ao c) L w ha hbs hd ⟨rfl,hL⟩);clear hf hL;dsimp only[ZG,aD.val]at HS;go_enter Tryz.func137,Tryz.ntmps137;go_wp2_with fail;refine aT HS.out ?_;rintro e w' ⟨v7,rfl,h1,h2⟩;go_wp2;go_returns;exact⟨v7,rfl,h1,h2⟩
theorem Ir(N B base:Nat)(x:mX)(a:qy){M:Nat}{ff:Int->Option Nat}{gg:Int->Value}{A:List Rt}{f:Int->Option Int}{sz:Nat}(bg:List (Bool×Int×Int))(aI aR:List (Int×ByteArray))(aQ:List Int)(tt d:Int)(hd:a_ d)(w:World)(hn:Gb N x M ff gg A f sz w)(ha:jI B base a bg aI aR aQ w)(hbs:base<=w.heap.size)(hfl:aI.length<=1000000):
  Calls Tryz.prog 129 #[.pointer (some ⟨N,0,none⟩),.pointer (some ⟨B,0,none⟩),.int .u32 tt,.int .u32 d] w λe w'=>∃v7,e=.returned (.tuple #[])∧jI B base {a with aJ:=v7} bg (aI++ [(tt,lsB [(d,eT A d)])]) aR aQ w'∧Fx (jC B a) w w':=by
 have hs:a_ (eT A d):=by
  unfold eT;cases hl:aK A d with
  |none=>exact⟨by simp,by simp⟩
  |some y=>exact(hn.tb.ok y (bU hl).1).seq
 have HL:=(show Hid _ from DR N x hn d hd);have HS:Hid (∀w1,Below w.heap.size w w1->Calls Tryz.prog 137 #[.pointer (some ⟨B,0,none⟩),.int .u32 tt,.slice (some ⟨w1.heap.size,0,none⟩) 1 1] (w1.alloc (.cells #[.int .u32 d,.int .u32 (eT A d)] 237)) λe w'=>∃v7,e=.returned (.tuple #[])∧jI B base {a with aJ:=v7} bg (aI++ [(tt,lsB [(d,eT A d)])]) aR aQ w'∧Fx (jC B a) w w'):=by
  intro w1 hb;have hb2:Below w.heap.size w (w1.alloc (.cells #[.int .u32 d,.int .u32 (eT A d)] 237)):=hb.alloc hb.size _;have hH:bE (w1.alloc (.cells #[.int .u32 d,.int .u32 (eT A d)] 237)) (some ⟨w1.heap.size,0,none⟩) [(d,eT A d)]:=by
   intro j hj;have hj0:j=0:=by simpa using hj
   subst hj0;have hC:=bS w1 (.cells #[.int .u32 d,.int .u32 (eT A d)] 237);unfold a_ at hd hs;exact⟨w1.heap.size,0,d,eT A d,rfl,by simp,rfl,hd.1,by omega,hs.1,by omega,aG _ _ 0 _ _ _ hC,aG _ _ 1 _ _ _ hC⟩
  refine(Iq B base a bg aI aR aQ tt (some ⟨w1.heap.size,0,none⟩) 1 [(d,eT A d)] _ (ha.later hb2) (dH hbs hb2.size) hfl (by simp) hH).mono ?_;rintro e w' ⟨v7,rfl,h1,h2⟩;exact⟨v7,rfl,h1,(Fx.below (S:=jC B a) hb2).trans h2 (λ_ _ h=>h)⟩
 clear hn ha;go_enter Tryz.func129,Tryz.ntmps129;go_wp2_with fail;refine aT HL.out ?_;rintro e w1 ⟨rfl,hb1⟩;go_wp2_with fail;refine aT (HS.out w1 hb1) ?_;rintro e w' ⟨v7,rfl,h1,h2⟩;go_wp2;go_returns;exact⟨v7,rfl,h1,h2⟩
def zK(N:Nat)(x:mX)(M:Nat)(ff:Int->Option Nat)(gg:Int->Value)(A:List Rt)(k:Nat):Prop:=k=N∨k=x.Mo∨mY x.T M ff gg A k
def Gt(now:Int):qy:=⟨now,.slice none 0 0,⟨#[]⟩,false,.slice none 0 0,.slice none 0 0,.slice none 0 0⟩
theorem jI.zero(now:Int)(W:World):jI W.heap.size (W.heap.size+1) (Gt now) [] [] [] [] (W.alloc (oP (Gt now))):=
 ⟨bS _ _,⟨rfl,.inl ⟨rfl,rfl⟩⟩,⟨rfl,.inl ⟨rfl,rfl⟩⟩,⟨rfl,.inl ⟨rfl,rfl⟩⟩,⟨rfl,.inl ⟨rfl,rfl⟩⟩⟩
theorem QF(N:Nat)(x:mX){M:Nat}{ff:Int->Option Nat}{gg:Int->Value}{A:List Rt}{f:Int->Option Int}{sz:Nat}(now:Int)(w:World)(hn:Gb N x M ff gg A f sz w)(hcnt:0<=x.cnt∧x.cnt<=1000000)(hsz:sz<=1000000):
  Calls Tryz.prog 51 #[.pointer (some ⟨N,0,none⟩),.int .u64 now] w λe w'=>∃xR v7 sz',e=.returned (.pointer (some ⟨w.heap.size,0,none⟩))∧Gb N {x with own:=E9 x.seq x.own,cnt:=x.cnt+(bJ x.seq x.own f (iW A now)).2.length} M ff xR (iW A now) (bJ x.seq x.own f (iW A now)).1 sz' w'∧sz'<=sz+8∧jI w.heap.size (w.heap.size+1) {Gt now with nT:=v7} (bJ x.seq x.own f (iW A now)).2 [] [] [] w'∧(∀k,zK N x M ff xR (iW A now) k->zK N x M ff gg A k)∧Fx (zK N x M ff gg A) w w':=by
 have hb0:Below w.heap.size w (w.alloc (oP (Gt now))):=bC;have hn1:=hn.later hb0;have ha1:=jI.zero now w;have hlt:∀k,zK N x M ff gg A k->k<w.heap.size:=by
  rintro k (rfl|rfl|hk)
  ·exact hn.nd.lt
  ·exact hn.mo.lt
  ·exact hn.tb.lt hk
 have HE:Hid (Calls Tryz.prog 76 #[.pointer (some ⟨x.T,0,none⟩),.int .u64 now] (w.alloc (oP (Gt now))) λe w2=>∃xR,e=.returned (.tuple #[])∧Gb N x M ff xR (iW A now) f sz w2∧jI w.heap.size (w.heap.size+1) (Gt now) [] [] [] [] w2∧(∀k,mY x.T M ff xR (iW A now) k->mY x.T M ff gg A k)∧Fx (zK N x M ff gg A) w w2∧w.heap.size+1<=w2.heap.size):=by
  refine(LW (S:=mY x.T M ff gg A) now hn1.tb (λ_ h=>h) (λk hk=>hn1.tb.lt hk)).mono ?_;rintro e w2 ⟨xR,rfl,h2,h3,h4⟩;refine⟨xR,rfl,⟨hn1.nd.block (h4.block _ hn1.nd.lt λhk=> ?_),hn1.mo.block (h4.block _ hn1.mo.lt λhk=> ?_),h2,hn.ne⟩,ha1.kept λk hk=>h4.block _ (ha1.lt hk) λhk2=> ?_,h3,(Fx.below (S:=zK N x M ff gg A) hb0).trans h4 (λi _ h=> .inr (.inr h)),?_⟩
  ·exact hn1.tb.not (λe=>by
    obtain⟨D,⟨es,cl,hm,_⟩,_⟩:=hn1.tb.map;rw[<-e,show(w.alloc (oP (Gt now))).heap[N]?=_ from hn1.nd]at hm;cases hm) hn1.nd (rZ x) hk
  ·obtain⟨es,cl,hm⟩:=hn1.mo.obj;exact hn1.tb.not (Ne.symm hn1.ne) hm (vM es cl) hk
  ·obtain⟨o,p1,p2,_,p4⟩:=ha1.zx hk;exact hn1.tb.not (λe=>by
    obtain⟨D,⟨es,cl,hm,_⟩,_⟩:=hn1.tb.map;rw[<-e,p1]at hm;exact p4 _ _ (Option.some.inj hm)) p1 p2 hk2
  ·have:=h4.size;simp at this;omega
 have PY:=hn1.nd.cell.2.2.2.2.1;clear hb0 ha1;dsimp only[oP,Gt]at HE PY;go_enter Tryz.func51,Tryz.ntmps51;go_wp2_with fail;refine aT HE.out ?_;rintro e w2 ⟨xR,rfl,hn2,ha2,ht2,hf2,hs2⟩;clear HE PY hn1;go_wp2_with fail;refine aT (wM N w.heap.size (w.heap.size+1) x _ M ff xR (iW A now) f sz [] [] [] [] w2 hn2 ha2 hs2 hcnt hsz (by simp)) ?_;rintro e w3 ⟨v7,sz',rfl,k1,k2,k3,k4⟩;rw[List.nil_append]at k3;go_wp2;go_ret;refine⟨xR,v7,sz',rfl,k1,k2,k3,?_,hf2.trans k4 ?_⟩
 ·rintro k (h|h|h)
  ·exact .inl h
  ·exact .inr (.inl h)
  ·exact .inr (.inr (ht2 k h))
 ·rintro k hk (h|h|h)
  ·exact .inl h
  ·exact .inr (.inl h)
  ·exfalso;rcases h with h|h|h|h|h
   ·omega
   ·cases h
   ·cases h
   ·cases h
   ·cases h
theorem zD(ao:Option Addr)(n c:Nat)(L:List (Bool×Int×Int))(hL:L.length=n)(hn:n<=1000000)(_hbd:qx L)(w:World)(hA:gN w ao (RC L)):
  Calls Tryz.prog 43 #[.slice ao n c] w λe w'=>e=.returned (.int .u32 ((qI L).getD 0))∧Below w.heap.size w w':=by
 go_enter Tryz.func43,Tryz.ntmps43;go_wp2_with fail;go_loopw [3,8] (λq i wr=>∃k:Nat,k<=n∧i=.int .i64 k∧q=.int .u32 ((qI (L.take k)).getD 0)∧Below w.heap.size w wr) (λ_ i _=>n - (intOf i).toNat)
 case atStart=>exact⟨0,b_ _,rfl,rfl,aU _ _⟩
 case round=>
  obtain⟨k,hk,rfl,rfl,hb⟩:=hrel;by_cases hlt:k<n
  ·have hki:(k:Int)<(n:Int):=by omega
   obtain⟨x,hx⟩:∃x,L[k]?=some x:=⟨_,cK (by omega)⟩;have hat:∀i z,i<3->([.bool x.1,.int .u32 x.2.1,.int .u32 x.2.2]:List Value)[i]?=some z->(RC L)[k * 3+i]?=some z:=λi z hi hz=>(jh (λx:Bool×Int×Int=>([Value.bool x.1,Value.int .u32 x.2.1,Value.int .u32 x.2.2]:List Value)) 3 (by decide) (λ_=>rfl) L k i hi hx).trans hz;have hA':=hA.below hb;obtain⟨b1,o1,rfl,hj1⟩:=hA' (k * 3+0) _ (hat 0 _ (by decide) rfl);have d0:=hA'.one rfl (hat 0 _ (by decide) rfl);have d1:=hA'.one rfl (hat 1 _ (by decide) rfl);have d2:=hA'.one rfl (hat 2 _ (by decide) rfl);have eO:Hid (qI (L.take (k+1))=lH (qI (L.take k)) x):=by
    show _=_;rw[o8 hx,AV]
   obtain⟨xo,xa,xs⟩:=x;dsimp only at d0 d1 d2;rw[Nat.add_zero]at d0;rw[<-Nat.add_assoc]at d1 d2;have hb1:=hb.alloc hb.size (aY xo xa xs);clear hj1 hat hA' hx hb;generalize qI (L.take k)=cc at eO ⊢;dsimp only[aY]at hb1;cases xo
   ·have YU:Hid ((qI (L.take (k+1))).getD 0=cc.getD 0):=by
     show _=_;rw[eO.out];rfl
    clear eO;generalize cc.getD 0=t at YU ⊢;go_wp2;go_roundw
    case rel=>exact⟨k+1,by omega,by go_num,by rw[YU.out],hb1⟩
    case measure=>simp[intOf];omega
   ·have YU:Hid ((qI (L.take (k+1))).getD 0=max (cc.getD 0) xs):=by
     show _=_;rw[eO.out];rfl
    clear eO;generalize cc.getD 0=t at YU ⊢;go_wp2;go_roundw
    case rel=>exact⟨k+1,by omega,by go_num,by rw[YU.out],hb1⟩
    case measure=>simp[intOf];omega
  ·obtain rfl:k=n:=by omega
   rw[jD (by omega)];go_wp2;go_ret;exact⟨rfl,hb⟩
theorem qh(ao:Option Addr)(n c:Nat)(L:List (Bool×Int×Int))(hL:L.length=n)(hn:n<=100000)(hbd:qx L)(w:World)(hA:gN w ao (RC L)):
  Calls Tryz.prog 73 #[.slice ao n c] w λe w'=>e=.returned (.string (strOfNums (bB L)))∧Below w.heap.size w w':=by
 obtain⟨i1,ji,jz0,jz1,jz2⟩:=info_parts vQ;have hb0:Below w.heap.size w w:=aU _ _;go_enter Tryz.func73,Tryz.ntmps73;go_wp2_with fail;go_loopw [3,8] (λbv i wr=>∃k:Nat,k<=n∧i=.int .i64 k∧wr.ownsRow w.heap.size 5 1 bv (13 * k) (U (bB (L.take k)))∧Below w.heap.size w wr) (λ_ i _=>n - (intOf i).toNat)
 case atStart=>exact⟨0,b_ _,rfl,⟨rfl,.inl ⟨rfl,rfl⟩⟩,hb0⟩
 case round=>
  clear hb0;obtain⟨k,hk,rfl,ho,hb⟩:=hrel;by_cases hlt:k<n
  ·have hki:(k:Int)<(n:Int):=by omega
   obtain⟨⟨o,a,s⟩,hx⟩:∃x,L[k]?=some x:=⟨_,cK (by omega)⟩;have hbx:=hbd _ (gI hx);dsimp only at hbx;have hLr:=hA.below hb;have hat:∀i z,i<3->([.bool o,.int .u32 a,.int .u32 s]:List Value)[i]?=some z->(RC L)[k * 3+i]?=some z:=λi z hi hz=>(jh (λx:Bool×Int×Int=>([Value.bool x.1,Value.int .u32 x.2.1,Value.int .u32 x.2.2]:List Value)) 3 (by decide) (λ_=>rfl) L k i hi hx).trans hz;obtain⟨b1,o1,rfl,hj1⟩:=hLr (k * 3+0) _ (hat 0 _ (by decide) rfl);have c0:=hLr.one rfl (hat 0 _ (by decide) rfl);have c1:=hLr.one rfl (hat 1 _ (by decide) rfl);have c2:=hLr.one rfl (hat 2 _ (by decide) rfl);rw[Nat.add_zero]at c0;rw[<-Nat.add_assoc]at c1 c2;have hst:Hid (bB (L.take (k+1))=bB (L.take k)++AA o a s):=by
    show _=_;rw[List.take_add_one,hx,kL];rfl
   have jM:Below wr.heap.size wr (wr.alloc (aY o a s)):=bC;have hB1:=qJ.new o a s wr;have ho1:=aL ho jM;have hb1:=hb.alloc hb.size (aY o a s);dsimp only[aY]at hB1 ho1 hb1;clear hj1 hat hLr hx hb ho jM;go_upto_region 5 with(fail);generalize wr.heap.size=B1 at hB1 ⊢;generalize World.alloc _ _=W1 at hB1 ho1 hb1 ⊢;obtain⟨d0,d1,d2⟩:=hB1.cell;clear c0 c1 c2;go_wp2_with fail;refine(qw o a s hbx.1.1 hbx.1.2 hbx.2.1 hbx.2.2 _).mono ?_;rintro e W3 ⟨v3,rfl,hb3,hv3,ho3⟩;have hoB:=aL ho1 hb3;have hB3:=hb1.trans (hb3.mono hb1.size);obtain⟨g3,af7,rfl,hg3⟩:=Dz ho3 hv3;have hc3:∀(j:Nat) (u:Value),(U (AA o a s))[j]?=some u->W3.cell? ((⟨g3,0,none⟩:Addr).add j)=some u:=by
    intro j u hj;obtain⟨b',o',h1,_,h2⟩:=gN.ofRow ho3 j u hj;simp only[Option.some.injEq,Addr.mk.injEq,and_true]at h1;obtain⟨rfl,rfl⟩:=h1;have hadd:(⟨g3,0,none⟩:Addr).add j=⟨g3,0+j,none⟩:=by unfold Addr.add;split<;>simp_all
    rw[hadd];exact h2
   have h1c:∀u∈U (AA o a s),u.oneCell'=true:=by
    intro u hu;simp only[U,dh]at hu;obtain⟨y,_,rfl⟩:=hu;rfl
   have hlt3:=hoB.lt;clear ho1 hb1 hb3 ho3 d0 d1 d2 hB1;go_wp2_with(at_builtin;refine wpList_append_own _ rfl _ _ 58 rfl w.heap.size 5 i1 (.int .u8 0) 1 1 Tryz.underlying58 ji jz0 jz1 jz2 rfl (by decide) u3 (13 * k) (U (bB (L.take k))) rfl hoB ⟨g3,0,none⟩ 13 af7 (U (AA o a s)) rfl rfl hc3 h1c ?c1 ?c2 ?c3 ?_)
   case c1=>unfold maxLen;omega
   case c2=>omega
   case c3=>exact hB3.size
   intro v4 W4 DX hg4 _;have hB4:=hB3.grown hg4 hB3.size (λk hk=>(hlt3 k hk).1);rw[BX]at DX;clear hoB hB3 hc3 h1c hlt3 hg4;go_wp2;go_roundw
   case rel=>
    refine⟨k+1,by omega,by go_num,?_,hB4⟩;rw[hst.out];exact DX
   case measure=>simp[intOf];omega
  ·obtain rfl:k=n:=by omega
   rw[jD (by omega)]at ho;have hxl:=iF L;rw[hL]at hxl;rw[<-hxl]at ho;have hcv:=oO (qW ho (FP hbd));clear ho hxl;go_wp2;go_ret;exact⟨rfl,hb⟩
theorem Ih{q own:Int}(hq:a_ q)(f:Int->Option Int){A:List Rt}(hA:∀y∈A,y.Ok):qx (bJ q own f A).2:=by
 have h:∀(A:List Rt) (st:(Int->Option Int)×List (Bool×Int×Int)),(∀y∈A,y.Ok)->qx st.2->qx (A.foldl jF st).2:=by
  intro A
  induction A with
  |nil=>intro st _ h;exact h
  |cons y A ih=>
   intro st hA h;rw[fP];refine ih _ (λz hz=>hA z (iJ _ hz)) ?_;unfold jF;split
   ·intro z hz;rcases dG.1 hz with hz|hz
    ·exact h z hz
    ·rw[dO]at hz;subst hz;have:=hA y (gm ..);have h1:=this.dest;have h2:=this.seq;unfold a_ at h1 h2;dsimp only;omega
   ·exact h
 refine h A _ hA ?_;unfold pM;split
 ·intro z hz;rw[dO]at hz;subst hz;unfold a_ at hq;dsimp only;omega
 ·intro z hz;simp at hz
theorem Cg{a b:List (Bool×Int×Int)}(ha:qx a)(hb:qx b):qx (a++b):=λx hx=>(dG.1 hx).elim (ha x) (hb x)
@[reducible] def je: Obj := .cells #[.string ⟨#[]⟩, .bool false, .slice none 0 0, .slice none 0 0, .slice none 0 0] 52
def iZ(s:ByteArray)(bn:Bool)(aJ bL bO:Value):Value:=.agg #[.string s,.bool bn,aJ,bL,bO]
end Go.Proofs.YtakaadcpaeiccabGreat
