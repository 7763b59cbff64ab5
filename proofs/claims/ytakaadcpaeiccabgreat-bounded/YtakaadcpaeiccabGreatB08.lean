import Derived.Test.YtakaadcpaeiccabGreatB07
set_option maxHeartbeats 4000000
set_option maxRecDepth 100000
namespace Go.Proofs.YtakaadcpaeiccabGreat
open Go.RowKit
theorem Jp(p:aC)(hp:p.Wf)(hg:p.gJ=false)(w:World):
  Calls Tryz.prog 117 #[p.val] w λe w'=>e=.returned (.tuple #[.slice none 0 0,.int .i64 1])∧Below w.heap.size w w':=by
 go_enter Tryz.func117,Tryz.ntmps117;go_wp2_with(go_at_call 90;refine(dB p hp _).mono ?_;rintro e w1 ⟨rfl,hb1⟩);go_ret2;exact⟨rfl,(bn).trans (hb1.mono (by simp))⟩
def eT(w:World)(p:aC)(L:List (Int×Int)):Prop:=
 L.length=p.ln∧∀j,j<L.length->∃lb lo d s,p.la=some ⟨lb,lo,none⟩∧lb<w.heap.size∧L[j]?=some (d,s)∧0<=d∧d<4294967296∧0<=s∧s<4294967296∧
  w.cell? ⟨lb,lo+j * 2,none⟩=some (.int .u32 d)∧w.cell? ⟨lb,lo+j * 2+1,none⟩=some (.int .u32 s)
def QT(p:aC):Int:=if p.unk then 8 else 0
theorem Vb(p:aC)(w:World):
  Calls Tryz.prog 151 #[p.val] w λe w'=>e=.returned (.int .u8 (QT p))∧Below w.heap.size w w':=M_ p w
def aC.head(p:aC):List Int:=[p.ttl,p.kind,QT p,0,p.cnt]
def IK(p:aC)(L:List (Int×Int)):List Int:=p.head++p.mq p.nums.length++jE L L.length++aV p.pay
theorem Gz(p:aC)(hp:p.Wf)(hg:p.gJ=true)(ht0:1<=p.ttl)(ht1:p.ttl<=255)(hk0:1<=p.kind)(hk1:p.kind<=9)(hc0:0<=p.cnt)(hc1:p.cnt<=255)
  (hln:p.ln<=8) (hpay:p.pay.size<=16)
  (L:List (Int×Int)) (w:World) (hL:eT w p L):
  Calls Tryz.prog 117 #[p.val] w λe w'=>∃v,e=.returned (.tuple #[v,.int .i64 0])∧Below w.heap.size w w'∧v≠ .slice none 0 0∧w'.ownsRow (w.heap.size+1) 5 1 v (IK p L).length (U (IK p L)):=by
 go_enter Tryz.func117,Tryz.ntmps117;go_wp2_with(go_at_call 90;refine(dB p hp _).mono ?_;rintro e w1 ⟨rfl,hb1⟩);have ht0':0<=p.ttl:=by omega
 have hk0':0<=p.kind:=by omega
 have acC:p.kind<=255:=by omega
 have hI:=(xQ.WV p w).below hb1;clear hb1;go_region_held3 (xQ p w) (first|exact xQ.drew' (by assumption)|assumption|exact xQ.below (by assumption) (by assumption)|exact xQ.below (by assumption) (bn)) (first
  |(go_at_call 151;refine(Vb p _).mono ?_;rintro e w2 ⟨rfl,hb2⟩)
  |(go_at_call 126;refine(BN p _).mono ?_;rintro e w3 ⟨rfl,hb3⟩))
 rename_i ZR;rw[IntWalk.u8_in _ ⟨ht0',ht1⟩,IntWalk.u8_in _ ⟨hk0',acC⟩,IntWalk.u8_in _ ⟨hc0,hc1⟩]at ZR ⊢;have hz3:w.heap.size+1<=w3.heap.size:=by
  obtain⟨_,_,_,_,_,_,_,_,_,_,_,_,hs,_⟩:=hI;have h2:=hb2.size;have h3:=hb3.size;simp only[World.size_drew]at h2;omega
 have wY:=O0 (w.heap.size+1) w3 p.ttl p.kind (QT p) 0 p.cnt hz3;clear hI hb2 hb3;have hnn:(Value.slice (some ⟨w3.heap.size,0,none⟩) 5 5)≠ .slice none 0 0:=by simp
 generalize w3.alloc _=W3 at ZR wY ⊢;generalize Value.slice (some ⟨w3.heap.size,0,none⟩) 5 5=b0 at wY hnn ⊢;clear hz3;have hkc:=ZR.2.1;go_wp2_with(go_at_call 86;refine(EU p _ _ hkc).mono ?_;rintro e w4 ⟨ao,rfl,hb4,aaz⟩);have hE0:iE p w ao w4 b0 (p.head++p.mq 0):=by
  have ac1:=ZR;obtain⟨_,_,_,_,_,_,_,_,_,_,_,_,hs,hB⟩:=ac1;have hg:W3.grownBy w4 none:=⟨hb4.os,hb4.tape,hb4.output,hb4.size,λk hk _=>hb4.block k hk⟩;refine⟨ZR.below hb4,?_,hnn,λj hj=> ?_⟩
  ·simp only[aC.mq,List.take_zero,List.flatMap_nil,gX];exact wY.kept hg (by cases hv:b0.ownBlock<;>simp)
  ·obtain⟨N,h1,h2,h3⟩:=aaz j hj;exact⟨N,h1,by omega,h3⟩
 clear ZR wY hnn aaz hb4 hkc;have hn5:=ET p;go_loopw [4,26] (λb i wr=>∃k:Nat,k<=p.nums.length∧i=.int .i64 k∧iE p w ao wr b (p.head++p.mq k)) (λ_ i _=>p.nums.length - (intOf i).toNat)
 case atStart=>exact⟨0,bX _,rfl,hE0⟩
 case round=>
  clear hE0;obtain⟨k,hk,rfl,hE⟩:=hrel;by_cases hlt:k<p.nums.length
  ·obtain⟨o,x,hox,hcx,hx0,hx1⟩:=L_ hp hE.XH k hlt;obtain⟨N,rfl,hNk⟩:=hE.TV k hlt hox;have hlen:(p.head++p.mq k).length<=1000000:=by
    have:=t_ p k;simp only[bZ,aC.head,dR,List.length_nil];omega
   have hst:Hid (p.mq (k+1)=p.mq k++b4 x):=Mc hox;clear hox;go_wp2_with(go_at_call 57;refine(dh (w.heap.size+1) _ x (p.head++p.mq k) _ hx0 hx1 hE.own hE.nn hE.base hlen).mono ?_;rintro e w5 ⟨v',rfl,hown',hgrow,X6⟩);go_roundw
   case rel=>exact⟨k+1,by omega,by go_num,by rw[hst.out,<-List.append_assoc];exact hE.step hgrow hown' X6⟩
   case measure=>simp[intOf];omega
  ·obtain rfl:k=p.nums.length:=by omega
   obtain⟨_,_,_,_,_,_,_,_,_,_,c10,c11,hs,hB⟩:=id hE.XH;clear hk hlt;go_wp2_with fail;generalize hla:p.la=la;have hE1:iE p w ao wr u4 (p.head++p.mq p.nums.length++jE L 0):=by
    simpa only[jE,List.take_zero,List.flatMap_nil,gX]using hE
   clear hE c10 c11 hs hB;go_loopw [4,39] (λb i wx=>∃k:Nat,k<=p.ln∧i=.int .i64 k∧iE p w ao wx b (p.head++p.mq p.nums.length++jE L k)) (λ_ i _=>p.ln - (intOf i).toNat)
   case atStart=>exact⟨0,bX _,rfl,hE1⟩
   case round=>
    clear hE1;obtain⟨k,hk,rfl,hE⟩:=hrel;by_cases hlt:k<p.ln
    ·obtain⟨hLn,hLc⟩:=hL;obtain⟨lb,lo,d,s,hpa,hlb,hds,hd0,hd1,hs0,hs1,hcd,hcs⟩:=hLc k (by omega);obtain rfl:la=some ⟨lb,lo,none⟩:=hla.symm.trans hpa;have hB:=hE.XH.2.2.2.2.2.2.2.2.2.2.2.2.2;have hlen:(p.head++p.mq p.nums.length++jE L k).length<=900000:=by
      have:=t_ p p.nums.length;have:=Bu L k;simp only[bZ,aC.head,dR,List.length_nil];omega
     have hst:Hid (jE L (k+1)=jE L k++b4 d++b4 s):=Ii hds;have adW:wr.cell? ⟨lb,lo+k * 2,none⟩=some (.int .u32 d):=(hB.cell (p:=⟨lb,lo+k * 2,none⟩) hlb).trans hcd;have hcs':wr.cell? ⟨lb,lo+k * 2+1,none⟩=some (.int .u32 s):=(hB.cell (p:=⟨lb,lo+k * 2+1,none⟩) hlb).trans hcs;have hEa:=(hE.alloc (.cells #[.int .u32 d,.int .u32 s] 237)).drew;clear hds hpa hla hcd hcs hLc hLn hB;go_wp2_with fail;go_region_held3 (DZ wr.heap.size d s) (first|exact DZ.start _ _ _|assumption|exact DZ.grown (by assumption) hown5 oD|exact DZ.grown (by assumption) hEa.own kY) (first
      |(go_at_call_of 57 (Value.int IntKind.u32 d);refine(dh (w.heap.size+1) _ d (p.head++p.mq p.nums.length++jE L k) _ hd0 hd1 hEa.own hEa.nn hEa.base (by omega)).mono ?_;rintro e w5 ⟨v5,rfl,hown5,kY,Ay⟩)
      |(go_at_call_of 57 (Value.int IntKind.u32 s);refine(dh (w.heap.size+1) _ s (p.head++p.mq p.nums.length++jE L k++b4 d) _ hs0 hs1 hown5 Ay (hEa.step kY hown5 Ay).base (by rw[bZ,lS];omega)).mono ?_;rintro e w6 ⟨v6,rfl,hown6,oD,FL⟩))
     have U3:=(hEa.step kY hown5 Ay).step oD hown6 FL;clear hown5 kY Ay hown6 oD FL hEa hE;go_wp2;go_roundw
     case rel=>exact⟨k+1,by omega,by go_num,by rw[hst.out,<-List.append_assoc,<-List.append_assoc];exact U3⟩
     case measure=>simp[intOf];omega
    ·obtain rfl:k=p.ln:=by omega
     obtain⟨_,_,_,_,_,_,_,_,_,_,c10,c11,hs,hB⟩:=id hE.XH;obtain⟨i0,hi,hz0,hz1,hz2⟩:=info_parts qy;have hlen:(p.head++p.mq p.nums.length++jE L p.ln).length<=900000:=by
      have:=t_ p p.nums.length;have:=Bu L p.ln;have:=hL.1;simp only[bZ,aC.head,dR,List.length_nil];omega
     have hbase:=hE.base;have acr:=hE.own.lt;clear hk hlt hla;go_wp2_with(at_builtin;refine fM _ rfl _ _ 58 9 rfl (w.heap.size+1) 5 i0 (.int .u8 0) 1 1 Tryz.underlying58 hi hz0 hz1 hz2 rfl _ (p.head++p.mq p.nums.length++jE L p.ln).length (U (p.head++p.mq p.nums.length++jE L p.ln)) rfl hE.own hE.nn _ p.pay.size (byteCells p.pay) rfl (Src.ofString _ Tryz.underlying9 p.pay) ?c1 ?c2 ?c3 ?_)
     case c1=>unfold maxLen;omega
     case c2=>omega
     case c3=>exact hbase
     intro v' w7 hown' hgrow X6;go_wp2;go_ret2;refine⟨v',rfl,hB.grown hgrow (Nat.le_of_lt hs) (λk hk=>Nat.le_of_succ_le (acr k hk).1),X6,?_⟩;have hLn:L.length=p.ln:=hL.1;rw[wP,zO]at hown';have he:IK p L=p.head++p.mq p.nums.length++jE L p.ln++aV p.pay:=by
      simp only[IK,hLn]
     rw[he];simpa only[bZ,List.append_assoc,dI,Nat.add_assoc]using hown'
def aC.dH(p:aC):aC:=
 if p.kind=1 then⟨p.ttl,1,p.hops,p.unk,p.id,p.dest,if p.unk then 0 else p.bC,p.aG,p.dX,0,none,0,0,⟨#[]⟩⟩
 else if p.kind=2 then⟨p.ttl,2,p.hops,false,0,p.dest,p.bC,p.aG,0,p.life,none,0,0,⟨#[]⟩⟩
 else if p.kind=3 then⟨p.ttl,3,0,false,0,0,0,0,0,0,p.la,p.ln,p.lc,⟨#[]⟩⟩
 else if p.kind=9 then⟨p.ttl,9,0,false,p.id,p.dest,0,p.aG,0,0,none,0,0,p.pay⟩
 else⟨p.ttl,p.kind,0,false,0,0,0,0,0,0,none,0,0,⟨#[]⟩⟩
def IZ(p q:aC):Bool:=
 decide (p.ttl=q.ttl∧p.kind=q.kind∧p.hops=q.hops∧p.unk=q.unk∧p.id=q.id∧p.dest=q.dest∧p.bC=q.bC∧p.aG=q.aG∧p.dX=q.dX∧p.life=q.life∧p.pay=q.pay)
@[reducible] def InC(p : aC)(b : Nat)(W : World): Prop :=
 W.cell? ⟨b,0,none⟩=some (.int .i64 p.ttl)∧W.cell? ⟨b,1,none⟩=some (.int .i64 p.kind)∧W.cell? ⟨b,2,none⟩=some (.int .i64 p.hops)∧
 W.cell? ⟨b,3,none⟩=some (.bool p.unk)∧W.cell? ⟨b,4,none⟩=some (.int .u32 p.id)∧W.cell? ⟨b,5,none⟩=some (.int .u32 p.dest)∧
 W.cell? ⟨b,6,none⟩=some (.int .u32 p.bC)∧W.cell? ⟨b,7,none⟩=some (.int .u32 p.aG)∧W.cell? ⟨b,8,none⟩=some (.int .u32 p.dX)∧
 W.cell? ⟨b,9,none⟩=some (.int .u32 p.life)∧W.cell? ⟨b,10,none⟩=some (.slice p.la p.ln p.lc)∧W.cell? ⟨b,11,none⟩=some (.string p.pay)
def aC.Fu(p:aC):Bool:=decide (p.ln=p.dH.ln)&&IZ p p.dH
def aC.PX(p:aC):Bool:=decide (p.kind=1∨p.kind=2∨p.kind=9∨(p.kind=3∧1<=p.ln∧p.ln<=8))
theorem MZ(p:aC):p.gJ=(p.Fu&&decide (1<=p.ttl∧p.ttl<=255)&&decide (0<=p.hops∧p.hops<=255)&&decide (p.pay.size<=16)&&p.PX):=by
 have hz:∀s:ByteArray,s=⟨#[]⟩↔ s.size=0:=λs=>⟨λh=>by rw[h];rfl,λh=>ByteArray.ext (Array.eq_empty_of_size_eq_zero h)⟩;rw[Bool.eq_iff_iff];unfold aC.gJ aC.Fu aC.PX IZ;have hs0:(⟨#[]⟩:ByteArray).size=0:=rfl;have he:∀s:ByteArray,s=ByteArray.empty ↔ s.size=0:=hz;by_cases h1:p.kind=1
 ·simp only[aC.mF,aC.dH,aC.cnt,qV,aC.nu,h1,hz,if_true];cases p.unk<;>simp<;>grind
 by_cases h2:p.kind=2
 ·simp[aC.mF,aC.dH,aC.cnt,qV,aC.nu,h2,hz];cases p.unk<;>simp<;>grind
 by_cases h3:p.kind=3
 ·simp[aC.mF,aC.dH,aC.cnt,qV,aC.nu,h3,hz];cases p.unk<;>simp<;>grind
 by_cases h9:p.kind=9
 ·simp[aC.mF,aC.dH,aC.cnt,qV,aC.nu,h9,hs0];cases p.unk<;>simp<;>grind
 ·simp[aC.mF,aC.dH,qV,aC.nu,h1,h2,h3,h9]
theorem eT.below{w w':World}{p:aC}{L:List (Int×Int)}(h:eT w p L)(hb:Below w.heap.size w w'):eT w' p L:=by
 refine⟨h.1,λj hj=> ?_⟩;obtain⟨lb,lo,d,s,h1,h2,h3,h4,h5,h6,h7,h8,h9⟩:=h.2 j hj;exact⟨lb,lo,d,s,h1,fB h2 hb.size,h3,h4,h5,h6,h7,(hb.cell (p:=⟨lb,lo+j * 2,none⟩) h2).trans h8,(hb.cell (p:=⟨lb,lo+j * 2+1,none⟩) h2).trans h9⟩
variable{p:aC}
theorem l6(h:p.gJ=true):p.Fu=true∧1<=p.ttl∧p.ttl<=255∧0<=p.hops∧p.hops<=255∧p.pay.size<=16∧(p.kind=1∨p.kind=2∨p.kind=9∨(p.kind=3∧1<=p.ln∧p.ln<=8)):=by
 rw[MZ]at h;simp only[jr,qE,aC.PX]at h;obtain⟨⟨⟨⟨h1,h2⟩,h3⟩,h4⟩,h5⟩:=h;exact⟨h1,h2.1,h2.2,h3.1,h3.2,h4,h5⟩
theorem yP(h:p.Fu=true):p.ln=p.dH.ln∧p.unk=p.dH.unk∧p.hops=p.dH.hops∧p.pay=p.dH.pay:=by
 simp only[aC.Fu,IZ,jr,qE]at h;exact⟨h.1,h.2.2.2.2.1,h.2.2.2.1,h.2.2.2.2.2.2.2.2.2.2.2⟩
def bB(w:World)(ao:Option Addr)(L:List (Int×Int)):Prop:=
 ∀j,j<L.length->∃lb lo d s,ao=some ⟨lb,lo,none⟩∧lb<w.heap.size∧L[j]?=some (d,s)∧0<=d∧d<4294967296∧0<=s∧s<4294967296∧
  w.cell? ⟨lb,lo+j * 2,none⟩=some (.int .u32 d)∧w.cell? ⟨lb,lo+j * 2+1,none⟩=some (.int .u32 s)
theorem bB.below{w w':World}{ao:Option Addr}{L:List (Int×Int)}(h:bB w ao L)(hb:Below w.heap.size w w'):bB w' ao L:=by
 intro j hj;obtain⟨lb,lo,d,s,h1,h2,h3,h4,h5,h6,h7,h8,h9⟩:=h j hj;exact⟨lb,lo,d,s,h1,fB h2 hb.size,h3,h4,h5,h6,h7,(hb.cell (p:=⟨lb,lo+j * 2,none⟩) h2).trans h8,(hb.cell (p:=⟨lb,lo+j * 2+1,none⟩) h2).trans h9⟩
theorem Rb(W:World)(base:Nat)(v:Value)(xs:List Int)(h:W.ownsRow base 5 1 v xs.length (U xs))(hv:v≠ .slice none 0 0):
  (convert 58 9 v).run Tryz.prog W=.ok (.string (strOfNums xs)) W:=by
 rcases h.2 with⟨rfl,_⟩|⟨g,cap,cur,rfl,_⟩
 ·exact absurd rfl hv
 ·refine run_convert_bytes_arg (P:=Tryz.prog) W 58 5 Tryz.underlying58 Tryz.underlying5 g 0 xs.length cap xs rfl ?_ 9 Tryz.underlying9;intro i hi;rw[Nat.zero_add];rw[h.cellAt i (by simpa using hi)];simp[U,hi]
theorem Mq:(Tryz.prog.info? 237).map (λi=>(i.zero,i.size,i.bytes))=some (some (.agg #[.int .u32 0,.int .u32 0]),2,8):=by kernel_rfl
theorem FV(p:aC)(a:Option Addr)(c:Nat):({p with la:=a,lc:=c}:aC).gJ=p.gJ:=by
 unfold aC.gJ
 congr 1
 unfold aC.mF;dsimp only;split
 ·rfl
 split
 ·rfl
 split
 ·rfl
 split
 ·rfl
 ·rfl
def LC(L:List (Int×Int)):List Value:=L.flatMap λx=> [.int .u32 x.1,.int .u32 x.2]
theorem jH(L:List (Int×Int)):(LC L).length=L.length * 2:=by
 induction L with
 |nil=>rfl
 |cons a L ih=>
  simp only[LC,List.flatMap_cons,bZ,dR,List.length_nil]at ih ⊢;omega
theorem Zt(L:List (Int×Int))(j:Nat):(LC L)[j * 2]?=(L[j]?).map (λx=>Value.int .u32 x.1)∧(LC L)[j * 2+1]?=(L[j]?).map (λx=>Value.int .u32 x.2):=by
 induction L generalizing j with
 |nil=>simp[LC]
 |cons a L ih=>
  cases j with
  |zero=>simp[LC]
  |succ j=>
   have h:=ih j;simp only[LC,List.flatMap_cons]at h ⊢;rw[show(j+1)* 2=j * 2+1+1 by omega];simpa using h
theorem mK(W:World)(a b:Addr)(v:Value)(h:b.block≠a.block):(W.setCell a v).cell? b=W.cell? b:=
 World.cell?_of_block (kV W a v b.block h)
theorem M0{p:aC}(h:p.gJ=true):1<=p.kind∧p.kind<=9∧0<=p.cnt∧p.cnt<=255∧p.ln<=8:=by
 obtain⟨hl,_,_,h1,h2,h3,hk⟩:=l6 h;have hln:=(yP hl).1;unfold aC.cnt;rcases hk with hk|hk|hk|⟨hk,_,_⟩
 ·have:p.dH.ln=0:=by simp[aC.dH,hk]
  simp[hk];omega
 ·have:p.dH.ln=0:=by simp[aC.dH,hk]
  simp[hk];omega
 ·have:p.dH.ln=0:=by simp[aC.dH,hk]
  simp[hk];omega
 ·simp[hk];omega
variable{x0 x1 x2 x4:Int}{xs:List Int}{B R:Nat}{r:Option Nat}{p:aC}{A C W W':World}
theorem Rd.alloc(h:Rd R xs W)(o:Obj):Rd R xs (W.alloc o):=by
 obtain⟨v,h1,h2,hb,h3⟩:=h;have hlt:=World.block_lt_of_cell? W _ h1;refine⟨v,(World.cell?_alloc_lt _ _ _ hlt).trans h1,(World.frozen?_alloc_old W o _ (by simp at hlt ⊢;omega)).trans h2,hb,?_⟩;rcases h3 with h|⟨b,o',c,rfl,k1,k2,k3⟩
 ·exact .inl h
 ·exact .inr ⟨b,o',c,rfl,k1,k2,λj x hx=>(World.cell?_alloc_lt _ _ _ (World.block_lt_of_cell? W _ (k3 j x hx))).trans (k3 j x hx)⟩
theorem Rd.setCell(h:Rd R xs W){B:Nat}(hB:B≠R){i:Nat}(u u':Value)(hu:∀n,u≠ .int .u8 n)(hc:W.cell? ⟨B,i,none⟩=some u):Rd R xs (W.setCell ⟨B,i,none⟩ u'):=by
 obtain⟨v,h1,h2,hb,h3⟩:=h;refine⟨v,(World.cell?_setCell_other _ _ _ _ (λe=>hB (by cases e;rfl))).trans h1,(World.frozen?_setCell _ _ _ _).trans h2,hb,?_⟩;rcases h3 with h|⟨b,o',c,rfl,k1,k2,k3⟩
 ·exact .inl h
 ·refine .inr ⟨b,o',c,rfl,k1,k2,λj x hx=> ?_⟩;have hk:=k3 j x hx;rw[World.cell?_setCell_other _ _ _ _ (λe=>by rw[<-e,hc]at hk;exact hu _ (Option.some.inj hk))];exact hk
theorem Rd.drew(h:Rd R xs W):Rd R xs W.drew:=h
theorem Rd.lt(h:Rd R xs W):R<W.heap.size:=by
 obtain⟨v,h1,_⟩:=h;exact World.block_lt_of_cell? W _ h1
def PB(p:aC)(B:Nat)(W:World):Prop:=W.heap[B]?=some p.box
theorem PB.new(p:aC)(W:World):PB p W.heap.size (W.alloc p.box):=bO W _
theorem PB.lt(h:PB p B W):B<W.heap.size:=(gN.1 h).1
theorem PB.grown(h:PB p B W)(hg:W.grownBy W' (some R))(hne:B≠R):PB p B W':=(hg.block B h.lt (by simpa using hne)).trans h
theorem PB.alloc(h:PB p B W)(o:Obj):PB p B (W.alloc o):=(Below.heap_alloc W o B h.lt).trans h
theorem PB.cell(h:PB p B W):InC p B W:=by
 have k:=λi=>aF W B i _ _ _ h;exact⟨k 0,k 1,k 2,k 3,k 4,k 5,k 6,k 7,k 8,k 9,k 10,k 11⟩
theorem PB.free(h:PB p B W)(i:Nat):W.frozen? ⟨B,i,none⟩=false:=mg W B i _ _ h
theorem PB.other(h:PB p B W){a:Addr}(ha:B≠a.block)(v:Value):PB p B (W.setCell a v):=(kV W a v B ha).trans h
def aC.zero:aC:=⟨0,0,0,false,0,0,0,0,0,0,none,0,0,⟨#[]⟩⟩
theorem PB.set(h:PB p B W)(q:aC)(i:Nat)(v:Value)(hq:Obj.cells ((#[.int .i64 p.ttl,.int .i64 p.kind,.int .i64 p.hops,.bool p.unk,.int .u32 p.id,.int .u32 p.dest,.int .u32 p.bC,.int .u32 p.aG,.int .u32 p.dX,.int .u32 p.life,.slice p.la p.ln p.lc,.string p.pay]:Array Value).setIfInBounds i v) 73 (0,0)=q.box):
  PB q B (W.setCell ⟨B,i,none⟩ v):=by
 unfold PB;rw[heap_setCell_same W B i _ _ v h];rw[hq]
theorem bE(R:Nat)(x:Int)(ys:List Int)(W:World)(h:Rd R (x::ys) W):
  Calls Tryz.prog 84 #[.pointer (some ⟨R,0,none⟩)] W λe w'=>e=.returned (.int .i64 x)∧Rd R ys w'∧W.grownBy w' (some R):=by
 refine(Cx R _ W h).mono ?_;rintro e w' (⟨x',ys',hx,_,_,rfl,h1,h2,_⟩|⟨hx,_⟩)
 ·obtain⟨rfl,rfl⟩:=List.cons.inj hx;exact⟨rfl,h1,h2⟩
 ·cases hx
theorem tZ(R:Nat)(W:World)(h:Rd R [] W):
  Calls Tryz.prog 84 #[.pointer (some ⟨R,0,none⟩)] W λe w'=>e=.panicked broken∧w'=W:=by
 refine(Cx R _ W h).mono ?_;rintro e w' (⟨x',ys',hx,_⟩|⟨_,rfl,rfl⟩)
 ·cases hx
 ·exact⟨rfl,rfl⟩
def num(r:List Int)(i:Nat):Int:=n4 (r.getD (4 * i) 0) (r.getD (4 * i+1) 0) (r.getD (4 * i+2) 0) (r.getD (4 * i+3) 0)
def iZ(x0 x1 x2 x4:Int)(r:List Int):aC:=
 if x1=1 then⟨x0,1,x4,x2==8,num r 0,num r 1,num r 2,num r 3,num r 4,0,none,0,0,⟨#[]⟩⟩
 else if x1=2 then⟨x0,2,x4,x2==8,0,num r 0,num r 1,num r 2,0,num r 3,none,0,0,⟨#[]⟩⟩
 else if x1=3 then⟨x0,3,0,x2==8,0,0,0,0,0,0,none,x4.toNat,0,⟨#[]⟩⟩
 else if x1=9 then⟨x0,9,0,x2==8,num r 0,num r 1,0,num r 2,0,0,none,0,0,strOfNums ((r.drop 12).take x4.toNat)⟩
 else⟨x0,x1,0,x2==8,0,0,0,0,0,0,none,0,0,⟨#[]⟩⟩
def tY(n:Nat)(r:List Int):List (Int×Int):=(List.range n).map λi=>(num r (2 * i),num r (2 * i+1))
def pO(x1 x4:Int)(r:List Int):List (Int×Int):=if x1=3 then tY x4.toNat r else []
def eG(x1 x4:Int):Nat:=if x1=1 then 20 else if x1=2 then 16 else if x1=3 then 8 * x4.toNat else if x1=9 then 12+x4.toNat else 0
def D_(xs:List Int):Bool:=
 match xs with
 |x0::x1::x2::x3::x4::r=>decide (x2=0∨x2=8)&&decide (x3=0)&&decide (r.length=eG x1 x4)&&(iZ x0 x1 x2 x4 r).gJ
 |_=>false
theorem uw{B:World}(h:A.grownBy B r)(k:B.grownBy C r):A.grownBy C r:=
 ⟨k.os.trans h.os,k.tape.trans h.tape,k.output.trans h.output,dF h.size k.size,λi hi hne=>(k.block i (fB hi h.size) hne).trans (h.block i hi hne)⟩
theorem fq{x3:Int}{r:List Int}(h:r.length≠eG x1 x4):D_ (x0::x1::x2::x3::x4::r)=false:=by
 simp[D_,h]
theorem yT{r:List Int}(hf:x2=0∨x2=8)(h:r.length=eG x1 x4):D_ (x0::x1::x2::0::x4::r)=(iZ x0 x1 x2 x4 r).gJ:=by
 simp[D_,h,hf]
theorem Rd.bytes(h:Rd R xs W):∀x∈xs,0<=x∧x<=255:=by
 obtain⟨_,_,_,hb,_⟩:=h;exact hb
theorem rV{a b c d:Int}(ha:0<=a∧a<=255)(hb:0<=b∧b<=255)(hc:0<=c∧c<=255)(hd:0<=d∧d<=255):0<=n4 a b c d∧n4 a b c d<4294967296:=by
 unfold n4;omega
theorem PB.below(h:PB p B W)(hb:Below W.heap.size W W'):PB p B W':=(hb.block B h.lt).trans h
theorem fw{B:World}(h:A.grownBy B r)(k:Below B.heap.size B C):A.grownBy C r:=
 uw h ⟨k.os,k.tape,k.output,k.size,λi hi _=>k.block i hi⟩
def Reads(xs:List Int)(v:Value)(W:World)(N:Nat):Prop:=
 ∃x0 x1 x2 x3 x4 r ao c,xs=x0::x1::x2::x3::x4::r∧v=({iZ x0 x1 x2 x4 r with la:=ao,lc:=c}:aC).val∧
  (pO x1 x4 r).length=(iZ x0 x1 x2 x4 r).ln∧bB W ao (pO x1 x4 r)∧∀b,ao=some b->N<=b.block
def jm(R:Nat)(xs:List Int)(W:World)(e:Ending)(w':World):Prop:=
 W.grownBy w' (some R)∧((D_ xs=true∧∃v,e=.returned v∧Reads xs v w' W.heap.size)∨(D_ xs=false∧e=.panicked broken))
theorem ax{B:World}(h:A.grownBy B r)(k:B.grownBy C r):A.grownBy C r:=uw h k
theorem su{B:World}(h:A.grownBy B r):A.grownBy B.drew r:=⟨h.os,h.tape,h.output,h.size,h.block⟩
theorem a_{B:World}(h:A.grownBy B r){a:Addr}(ha:A.heap.size<=a.block)(v:Value):A.grownBy (B.setCell a v) r:=
 ⟨h.os,h.tape,h.output,by simpa using h.size,λi hi hne=>(kV B a v i (by omega)).trans (h.block i hi hne)⟩
@[reducible] def cZ(w : World)(C : Nat)(p : aC): World :=
 ((((((((((((w.setCell ⟨C,0,none⟩ (.int .i64 p.ttl)).setCell ⟨C,1,none⟩ (.int .i64 p.kind)).setCell ⟨C,2,none⟩ (.int .i64 p.hops)).setCell ⟨C,3,none⟩ (.bool p.unk)).setCell ⟨C,4,none⟩ (.int .u32 p.id)).setCell ⟨C,5,none⟩ (.int .u32 p.dest)).setCell ⟨C,6,none⟩ (.int .u32 p.bC)).setCell ⟨C,7,none⟩ (.int .u32 p.aG)).setCell ⟨C,8,none⟩ (.int .u32 p.dX)).setCell ⟨C,9,none⟩ (.int .u32 p.life)).setCell ⟨C,10,none⟩ (.slice p.la p.ln p.lc)).setCell ⟨C,11,none⟩ (.string p.pay))
theorem PB.storeAll{z:aC}{C:Nat}{w:World}(h:PB z C w)(p:aC):PB p C (cZ w C p):=by
 have h0:=PB.set h ⟨p.ttl,z.kind,z.hops,z.unk,z.id,z.dest,z.bC,z.aG,z.dX,z.life,z.la,z.ln,z.lc,z.pay⟩ 0 (.int .i64 p.ttl) rfl;have h1:=PB.set h0 ⟨p.ttl,p.kind,z.hops,z.unk,z.id,z.dest,z.bC,z.aG,z.dX,z.life,z.la,z.ln,z.lc,z.pay⟩ 1 (.int .i64 p.kind) rfl;have h2:=PB.set h1 ⟨p.ttl,p.kind,p.hops,z.unk,z.id,z.dest,z.bC,z.aG,z.dX,z.life,z.la,z.ln,z.lc,z.pay⟩ 2 (.int .i64 p.hops) rfl;have h3:=PB.set h2 ⟨p.ttl,p.kind,p.hops,p.unk,z.id,z.dest,z.bC,z.aG,z.dX,z.life,z.la,z.ln,z.lc,z.pay⟩ 3 (.bool p.unk) rfl;have h4:=PB.set h3 ⟨p.ttl,p.kind,p.hops,p.unk,p.id,z.dest,z.bC,z.aG,z.dX,z.life,z.la,z.ln,z.lc,z.pay⟩ 4 (.int .u32 p.id) rfl;have h5:=PB.set h4 ⟨p.ttl,p.kind,p.hops,p.unk,p.id,p.dest,z.bC,z.aG,z.dX,z.life,z.la,z.ln,z.lc,z.pay⟩ 5 (.int .u32 p.dest) rfl;have h6:=PB.set h5 ⟨p.ttl,p.kind,p.hops,p.unk,p.id,p.dest,p.bC,z.aG,z.dX,z.life,z.la,z.ln,z.lc,z.pay⟩ 6 (.int .u32 p.bC) rfl;have h7:=PB.set h6 ⟨p.ttl,p.kind,p.hops,p.unk,p.id,p.dest,p.bC,p.aG,z.dX,z.life,z.la,z.ln,z.lc,z.pay⟩ 7 (.int .u32 p.aG) rfl;have h8:=PB.set h7 ⟨p.ttl,p.kind,p.hops,p.unk,p.id,p.dest,p.bC,p.aG,p.dX,z.life,z.la,z.ln,z.lc,z.pay⟩ 8 (.int .u32 p.dX) rfl;have h9:=PB.set h8 ⟨p.ttl,p.kind,p.hops,p.unk,p.id,p.dest,p.bC,p.aG,p.dX,p.life,z.la,z.ln,z.lc,z.pay⟩ 9 (.int .u32 p.life) rfl;have h10:=PB.set h9 ⟨p.ttl,p.kind,p.hops,p.unk,p.id,p.dest,p.bC,p.aG,p.dX,p.life,p.la,p.ln,p.lc,z.pay⟩ 10 (.slice p.la p.ln p.lc) rfl;have h11:=PB.set h10 ⟨p.ttl,p.kind,p.hops,p.unk,p.id,p.dest,p.bC,p.aG,p.dX,p.life,p.la,p.ln,p.lc,p.pay⟩ 11 (.string p.pay) rfl;exact h11
theorem kP{B:World}(h:A.grownBy B r){C:Nat}(hC:A.heap.size<=C)(p:aC):A.grownBy (cZ B C p) r:=
 a_ (a_ (a_ (a_ (a_ (a_ (a_ (a_ (a_ (a_ (a_ (a_ h hC _) hC _) hC _) hC _) hC _) hC _) hC _) hC _) hC _) hC _) hC _) hC _
open Go.Maps
variable{a:oW}{aY:List (Bool×Int×Int)}{aT aI:List (Int×ByteArray)}{aM:List Int}{B:Nat}{W W7:World}
theorem Uy:(Tryz.prog.info? 77).map (λi=>(i.zero,i.size,i.bytes))=some (some (.agg #[.int .u32 0,.string ⟨#[]⟩]),2,24):=by kernel_rfl
theorem Ux:(Tryz.prog.info? 195).map (λi=>(i.zero,i.size,i.bytes))=some (some (.int .i64 0),1,8):=by kernel_rfl
def qH(p:aC)(L:List (Int×Int)):List Int:=if p.gJ then IK p L else []
theorem R8(p:aC)(hp:p.Wf)(L:List (Int×Int))(w:World)(hL:eT w p L):
  Calls Tryz.prog 117 #[p.val] w λe w'=>∃a n c er,e=.returned (.tuple #[.slice a n c,.int .i64 er])∧Below w.heap.size w w'∧∀W,Below w'.heap.size w' W->(convert 58 9 (.slice a n c)).run Tryz.prog W=.ok (.string (strOfNums (qH p L))) W:=by
 cases hg:p.gJ
 ·refine(Jp p hp hg w).mono ?_;rintro e w' ⟨rfl,hb⟩;refine⟨none,0,0,1,rfl,hb,λW _=> ?_⟩;have:qH p L=[]:=by simp[qH,hg]
  rw[this];exact run_convert_bytes_nil (P:=Tryz.prog) W 58 5 Tryz.underlying58 Tryz.underlying5 0 0 9 Tryz.underlying9
 ·obtain⟨h1,h2,h3,h4,h5⟩:=M0 hg;obtain⟨_,k1,k2,_,_,k3,_⟩:=l6 hg;refine(Gz p hp hg (by omega) (by omega) h1 h2 h3 h4 h5 (by omega) L w hL).mono ?_;rintro e w' ⟨v,rfl,hb,hv,ho⟩;obtain⟨g,cap,rfl,_⟩:=Bj ho hv;refine⟨_,_,_,0,rfl,hb,λW hW=> ?_⟩;have:qH p L=IK p L:=by simp[qH,hg]
  rw[this];exact Rb W _ _ _ (aJ ho hW) hv
theorem Rh(W:World)(r:Int):∀(j:Nat) (u:Value),(GZ [r])[j]?=some u->(W.alloc (.cells #[.int .i64 r] 195)).cell? ((⟨W.heap.size,0,none⟩:Addr).add j)=some u:=by
 intro j u hj;have h:=bO W (.cells #[.int .i64 r] 195);rw[Addr.add_lit,Nat.zero_add]
 match j,hj with
 |0,hj=>exact(aF _ _ 0 _ _ _ h).trans hj
 |j+1,hj=>simp[GZ]at hj
theorem Xo(L:List Int):∀u∈GZ L,u.oneCell'=true:=by
 intro u hu;simp only[GZ,dO]at hu;obtain⟨y,_,rfl⟩:=hu;rfl
theorem Ri(W:World)(t:Int)(s:ByteArray):∀(j:Nat) (u:Value),(sK [(t,s)])[j]?=some u->(W.alloc (.cells #[.int .u32 t,.string s] 77)).cell? ((⟨W.heap.size,0,none⟩:Addr).add j)=some u:=by
 intro j u hj;have h:=bO W (.cells #[.int .u32 t,.string s] 77);rw[Addr.add_lit,Nat.zero_add]
 match j,hj with
 |0,hj=>exact(aF _ _ 0 _ _ _ h).trans hj
 |1,hj=>exact(aF _ _ 1 _ _ _ h).trans hj
 |j+2,hj=>simp[sK]at hj
theorem Pf(L:List (Int×ByteArray)):∀u∈sK L,u.oneCell'=true:=by
 intro u hu;simp only[sK,List.mem_flatMap,eF,List.not_mem_nil,or_false]at hu;obtain⟨y,_,rfl|rfl⟩:=hu<;>rfl
theorem je.alloc{base:Nat}(h:je B base a aY aI aT aM W)(o:Obj):je B base a aY aI aT aM (W.alloc o):=h.later ((aR _ _).alloc (aA _) o)
theorem je.drew{base:Nat}(h:je B base a aY aI aT aM W):je B base a aY aI aT aM W.drew:=h.later (aR _ _).drew
theorem je.drops{base:Nat}{YZ:List Int}(h:je B base a aY aI aT aM W){v7:Value}(ho:W7.ownsRow base 195 1 v7 YZ.length (GZ YZ))(hg:W.grownBy W7 a.bN.ownBlock):
  nW B a W7∧je B base {a with bN:=v7} aY aI aT YZ (W7.setCell ⟨B,6,none⟩ v7)∧Fx (iX B a) W (W7.setCell ⟨B,6,none⟩ v7):=by
 have hBr:a.bN.ownBlock≠some B:=aH h.bN h.blk (λc e=>(by cases e));have iG:nW B a W7:=h.blk.block (hg.block _ h.blk.lt (λe=>hBr e.symm));have hg2:W7.grownBy (W7.setCell ⟨B,6,none⟩ v7) (some B):=ah (ay _ (some B)) 6 v7;have f1:=h.aG.kept hg (bP h.aG h.bN (by decide));have f2:=h.bL.kept hg (bP h.bL h.bN (by decide));have f3:=h.mW.kept hg (bP h.mW h.bN (by decide));exact⟨iG,⟨iG.Xc v7,f3.kept hg2 (.inr (aH f3 iG (λc e=>(by cases e)))),f1.kept hg2 (.inr (aH f1 iG (λc e=>(by cases e)))),f2.kept hg2 (.inr (aH f2 iG (λc e=>(by cases e)))),ho.kept hg2 (.inr (aH ho iG (λc e=>(by cases e))))⟩,
  aQ (Fx.grown hg λk e=> .inr (.inr (.inr (.inr e)))) hg2 λi _ e=>by cases e;exact .inl rfl⟩
theorem je.sends{base:Nat}{YR:List (Int×ByteArray)}(h:je B base a aY aI aT aM W){v7:Value}(ho:W7.ownsRow base 77 2 v7 YR.length (sK YR))(hg:W.grownBy W7 a.aG.ownBlock):
  nW B a W7∧je B base {a with aG:=v7} aY YR aT aM (W7.setCell ⟨B,4,none⟩ v7)∧Fx (iX B a) W (W7.setCell ⟨B,4,none⟩ v7):=by
 have hBr:a.aG.ownBlock≠some B:=aH h.aG h.blk (λc e=>(by cases e));have iG:nW B a W7:=h.blk.block (hg.block _ h.blk.lt (λe=>hBr e.symm));have hg2:W7.grownBy (W7.setCell ⟨B,4,none⟩ v7) (some B):=ah (ay _ (some B)) 4 v7;have f1:=h.bN.kept hg (bP h.bN h.aG (by decide));have f2:=h.bL.kept hg (bP h.bL h.aG (by decide));have f3:=h.mW.kept hg (bP h.mW h.aG (by decide));exact⟨iG,⟨iG.Xb v7,f3.kept hg2 (.inr (aH f3 iG (λc e=>(by cases e)))),ho.kept hg2 (.inr (aH ho iG (λc e=>(by cases e)))),f2.kept hg2 (.inr (aH f2 iG (λc e=>(by cases e)))),f1.kept hg2 (.inr (aH f1 iG (λc e=>(by cases e))))⟩,
  aQ (Fx.grown hg λk e=> .inr (.inr (.inl e))) hg2 λi _ e=>by cases e;exact .inl rfl⟩
theorem F8(B base:Nat)(a:oW)(aY:List (Bool×Int×Int))(aI aT:List (Int×ByteArray))(aM:List Int)(r:Int)(w:World)(ha:je B base a aY aI aT aM w)(hbs:base<=w.heap.size)(hd:aM.length<=1000000):
  Calls Tryz.prog 92 #[.pointer (some ⟨B,0,none⟩),.int .i64 r] w λe w'=>∃v7,e=.returned (.tuple #[])∧je B base {a with bN:=v7} aY aI aT (aM++ [r]) w'∧Fx (iX B a) w w':=by
 obtain⟨i0,hi,hz0,hz1,hz2⟩:=info_parts Ux;have jh:Below w.heap.size w (w.alloc (.cells #[.int .i64 r] 195)):=bn;have ha1:=ha.alloc (.cells #[.int .i64 r] 195);have hcr:=Rh w r;have hrow:=ha1.bN;obtain⟨c0,c1,c2,c3,c4,c5,c6⟩:=ha.blk.cell;go_enter Tryz.func92,Tryz.ntmps92;go_wp2_with(at_builtin;refine wpList_append_own_at _ rfl _ _ 50 rfl base 195 i0 (.int .i64 0) 1 8 Tryz.underlying50 hi hz0 hz1 hz2 rfl (by decide) a.bN aM.length (GZ aM) rfl hrow ⟨w.heap.size,0,none⟩ 1 1 (GZ [r]) rfl rfl hcr (Xo [r]) (by unfold maxLen;omega) (by omega) ?c3 ?_)
 case c3=>simp;omega
 intro v7 w7 gB fP _ _;rw[<-Jq]at gB;have hll:aM.length+1=(aM++ [r]).length:=by simp
 rw[hll]at gB;obtain⟨iG,hm,hf⟩:=ha1.drops gB fP;have hf':=(Fx.below (S:=iX B a) jh).trans hf (λi _ h=>h);obtain⟨d0,d1,d2,d3,d4,d5,d6⟩:=iG.cell;have g6:=iG.free 6;obtain⟨N8,Rk,hv7,_⟩:=ak gB;generalize (aM++ [r]).length=nn at hv7;subst hv7;clear hll hrow hcr c0 c1 c2 c3 c4 c5 c6 ha1 iG fP gB;go_wp2;go_returns;exact⟨_,rfl,hm,hf'⟩
theorem yo(B base:Nat)(a:oW)(aY:List (Bool×Int×Int))(aI aT:List (Int×ByteArray))(aM:List Int)(tt:Int)(p:aC)(hp:p.Wf)(L:List (Int×Int))(w:World)(ha:je B base a aY aI aT aM w)(hbs:base<=w.heap.size)(hd:aI.length<=1000000)(hL:eT w p L):
  Calls Tryz.prog 80 #[.pointer (some ⟨B,0,none⟩),.int .u32 tt,p.val] w λe w'=>∃v7,e=.returned (.tuple #[])∧je B base {a with aG:=v7} aY (aI++ [(tt,strOfNums (qH p L))]) aT aM w'∧Fx (iX B a) w w':=by
 obtain⟨i0,hi,hz0,hz1,hz2⟩:=info_parts Uy;have hb0:Below w.heap.size w (w.alloc p.box):=bn;have hP:=PB.new p w;have HE:=(show Hid _ from λW hW=>R8 p hp L W (hL.below hW));dsimp only[aC.box]at hb0;unfold PB at hP;dsimp only[aC.box]at hP;go_enter Tryz.func80,Tryz.ntmps80;go_upto_region 1 with(fail);generalize World.alloc _ _=W1 at hb0 hP ⊢;generalize w.heap.size=C at hP ⊢;obtain⟨b0,b1,b2,b3,b4,b5,b6,b7,b8,b9,b10,b11⟩:=PB.cell (show PB p C W1 from hP);go_wp2_with fail;refine aN (HE.out W1 hb0) ?_;rintro e w2 ⟨ea,en,ec,er,rfl,hb2,hcv⟩;have hbb:=hb0.trans (hb2.mono hb0.size);have ha2:=ha.later hbb;have acM:=hcv w2 (aR _ _);have acL:=hcv w2.drew (aR _ _).drew;generalize hss:strOfNums (qH p L)=ss at acM acL;have ab8:=(show Hid _ from hss);clear hss hcv hb0 hb2 hP b0 b1 b2 b3 b4 b5 b6 b7 b8 b9 b10 b11 HE;have hz:=hbb.size;have c4:=ha2.blk.cell.2.2.2.2.1;have haT:=λo=>(ha2.alloc o).blk.cell.2.2.2.2.1;have hrow:=λo=>(ha2.alloc o).drew.aG;have hcf:=λW=>Ri W tt ss;have jh:Hid (∀o:Obj,base<=(w2.alloc o).drew.heap.size):=by
  intro o;show base<=(w2.alloc o).heap.size;rw[World.size_alloc];omega
 have HF:Hid (∀v7 w7,w7.ownsRow base 77 2 v7 (aI.length+1) (sK aI++sK [(tt,ss)])->(w2.alloc (.cells #[.int .u32 tt,.string ss] 77)).drew.grownBy w7 a.aG.ownBlock->(w7.cell? ⟨B,4,none⟩=some a.aG∧w7.frozen? ⟨B,4,none⟩=false)∧je B base {a with aG:=v7} aY (aI++ [(tt,ss)]) aT aM (w7.setCell ⟨B,4,none⟩ v7)∧Fx (iX B a) w (w7.setCell ⟨B,4,none⟩ v7)):=by
  intro v7 w7 gB fP;rw[<-Aa,show aI.length+1=(aI++ [(tt,ss)]).length by simp]at gB;have hb3:Below w2.heap.size w2 (w2.alloc (.cells #[.int .u32 tt,.string ss] 77)).drew:=(bn).drew;obtain⟨iG,hm,hf⟩:=(ha2.later hb3).sends gB fP;exact⟨⟨iG.cell.2.2.2.2.1,iG.free 4⟩,hm,((Fx.below (S:=iX B a) hbb).trans (Fx.below (S:=iX B a) hb3) (λ_ _ h=>h)).trans hf (λ_ _ h=>h)⟩
 clear ha ha2 hbb;go_wp2_with fail;go_region_law (refine gu rfl (.tmp 18) (.tmp 23) 48 rfl base 77 i0 (.agg #[.int .u32 0,.string ⟨#[]⟩]) 2 24 Tryz.underlying48 hi hz0 hz1 hz2 rfl (by decide) a.aG aI.length (sK aI) (by simp[Act.eval]) (hrow _) ⟨_,0,none⟩ 1 1 (sK [(tt,ss)]) (by simp[Act.eval]) rfl (hcf _) (Pf _) (by unfold maxLen;omega) (by omega) (jh.out _) ?_;intro v7 w7 gB fP _;obtain⟨⟨g1,g2⟩,hm,hf⟩:=HF.out _ _ gB fP;obtain⟨N8,Rk,rfl,_⟩:=ak gB)
 all_goals
  rw[<-ab8.out]at hm;generalize World.setCell _ _ _=w8 at hm hf ⊢;clear g1 g2 fP gB;go_wp2;go_returns;exact⟨_,rfl,hm,hf⟩
def eB(A:List Rt)(d:Int):Int:=((aK A d).map (·.seq)).getD 0
theorem Em{me:Int}{T M:Nat}{f:Int->Option Nat}{g:Int->Value}{A:List Rt}{w:World}(h:MT me T M f g A w)(d:Int)(hd:bg d):
  Calls Tryz.prog 157 #[.pointer (some ⟨T,0,none⟩),.int .u32 d] w λe w'=>e=.returned (.tuple #[.int .u32 (eB A d),.bool (aK A d).isSome])∧w'=w:=by
 obtain⟨t0,t1⟩:=h.blk.cell;have hlk:=h.map.look hd;cases hl:aK A d with
 |none=>
  rw[h.off hd hl]at hlk;simp only[fO]at hlk;have hn:eB A d=0:=by simp[eB,hl]
  rw[hn];clear h hn hl;go_enter Tryz.func157,Tryz.ntmps157;go_wp2;go_ret2;exact⟨rfl,rfl⟩
 |some x=>
  obtain⟨_,_,B,hB,hL,_⟩:=h.line hl;rw[hB]at hlk;simp only[fO]at hlk;obtain⟨b0,b1,b2,b3,b4,b5,b6⟩:=hL.cell;have hn:eB A d=x.seq:=by simp[eB,hl]
  rw[hn];clear h hn hl hL hB;go_enter Tryz.func157,Tryz.ntmps157;go_wp2;go_ret2;exact⟨rfl,rfl⟩
theorem Bp(N:Nat)(x:l8){M:Nat}{ff:Int->Option Nat}{gg:Int->Value}{A:List Rt}{f:Int->Option Int}{sz:Nat}{w:World}(hn:DT N x M ff gg A f sz w)(d:Int)(hd:bg d):
  Calls Tryz.prog 159 #[.pointer (some ⟨N,0,none⟩),.int .u32 d] w λe w'=>e=.returned (.agg #[.int .u32 d,.int .u32 (eB A d)])∧Below w.heap.size w w':=by
 have hb0:Below w.heap.size w (w.alloc (.cells #[.int .u32 0,.int .u32 0] 237)):=bn;have hn1:=hn.later hb0;have hC:(w.alloc (.cells #[.int .u32 0,.int .u32 0] 237)).heap[w.heap.size]?=some (.cells #[.int .u32 0,.int .u32 0] 237):=bO _ _;go_enter Tryz.func159,Tryz.ntmps159;go_upto_region 1 with(fail);generalize World.alloc _ _=W1 at hb0 hn1 hC ⊢;obtain⟨n0,n2,n3,n4,n5,n6,n7,n8,n9,n10⟩:=hn1.nd.cell;have q0:W1.cell? ⟨w.heap.size,0,none⟩=some (.int .u32 0):=aF W1 w.heap.size 0 _ _ _ hC;have q1:W1.cell? ⟨w.heap.size,1,none⟩=some (.int .u32 0):=aF W1 w.heap.size 1 _ _ _ hC;have f0:=mg W1 w.heap.size 0 _ _ hC;have f1:=mg W1 w.heap.size 1 _ _ hC;go_wp2_with fail;refine aN (Em hn1.tb d hd) ?_;rintro e w2 ⟨rfl,rfl⟩;have hb2:Below w.heap.size w ((w2.setCell ⟨w.heap.size,0,none⟩ (.int .u32 d)).setCell ⟨w.heap.size,1,none⟩ (.int .u32 (eB A d))):=(hb0.setCell (p:=⟨w.heap.size,0,none⟩) (aA _) _).setCell (p:=⟨w.heap.size,1,none⟩) (aA _) _;have hC2:((w2.setCell ⟨w.heap.size,0,none⟩ (.int .u32 d)).setCell ⟨w.heap.size,1,none⟩ (.int .u32 (eB A d))).heap[w.heap.size]?=some (.cells #[.int .u32 d,.int .u32 (eB A d)] 237):=by
  simp[World.setCell,dM,hC]
 clear hn1 n0 n2 n3 n4 n5 n6 n7 n8 n9 n10;go_wp2;generalize World.setCell _ _ _=W3 at hb2 hC2 ⊢;have p0:W3.cell? ⟨w.heap.size,0,none⟩=some (.int .u32 d):=aF W3 w.heap.size 0 _ _ _ hC2;have p1:W3.cell? ⟨w.heap.size,1,none⟩=some (.int .u32 (eB A d)):=aF W3 w.heap.size 1 _ _ _ hC2;exact bodyPost_ret (v:=.agg #[.int .u32 d,.int .u32 (eB A d)]) (by simp[results,Tryz.results159,go_sem,p0,p1]) rfl ⟨rfl,hb2⟩
def Xz(n:Nat):aC:=⟨1,3,0,false,0,0,0,0,0,0,none,n,0,⟨#[]⟩⟩
theorem Xy(n:Nat)(hn:n<=65536)(ao:Option Addr)(c:Nat):({Xz n with la:=ao,lc:=c}:aC).Wf:=by
 have hz:(⟨#[]⟩:ByteArray).size=0:=rfl;constructor<;>(dsimp only[Xz];omega)
theorem KE(p:aC)(ao:Option Addr)(c:Nat)(L:List (Int×Int)):qH {p with la:=ao,lc:=c} L=qH p L:=by
 unfold qH;rw[FV];rfl
def lsB(L:List (Int×Int)):ByteArray:=strOfNums (qH (Xz L.length) L)
def NU(tt:Int)(L:List (Int×Int)):List (Int×ByteArray):=if L.length=0 then []else [(tt,lsB L)]
theorem Fh(B base:Nat)(a:oW)(aY:List (Bool×Int×Int))(aI aT:List (Int×ByteArray))(aM:List Int)(tt:Int)(ao:Option Addr)(c:Nat)(L:List (Int×Int))(w:World)(ha:je B base a aY aI aT aM w)(hbs:base<=w.heap.size)(hd:aI.length<=1000000)(hn:L.length<=65536)(hL:bB w ao L):
  Calls Tryz.prog 137 #[.pointer (some ⟨B,0,none⟩),.int .u32 tt,.slice ao L.length c] w λe w'=>∃v7,e=.returned (.tuple #[])∧je B base {a with aG:=v7} aY (aI++NU tt L) aT aM w'∧Fx (iX B a) w w':=by
 by_cases h0:L.length=0
 ·have hf:NU tt L=[]:=by simp[NU,h0]
  rw[hf,gX];rw[h0];clear hf;go_enter Tryz.func137,Tryz.ntmps137;go_wp2;go_returns;exact⟨a.aG,rfl,ha,Fx.refl _ _⟩
 ·have hf:NU tt L=[(tt,strOfNums (qH {Xz L.length with la:=ao,lc:=c} L))]:=by
   rw[KE];simp[NU,h0,lsB]
  have hpos:(0:Int)<(L.length:Int):=by omega
  rw[hf];have HS:=(show Hid _ from yo B base a aY aI aT aM tt {Xz L.length with la:=ao,lc:=c} (Xy _ hn ao c) L w ha hbs hd ⟨rfl,hL⟩);clear hf hL;dsimp only[Xz,aC.val]at HS;go_enter Tryz.func137,Tryz.ntmps137;go_wp2_with fail;refine aN HS.out ?_;rintro e w' ⟨v7,rfl,h1,h2⟩;go_wp2;go_returns;exact⟨v7,rfl,h1,h2⟩
theorem Fj(N B base:Nat)(x:l8)(a:oW){M:Nat}{ff:Int->Option Nat}{gg:Int->Value}{A:List Rt}{f:Int->Option Int}{sz:Nat}(aY:List (Bool×Int×Int))(aI aT:List (Int×ByteArray))(aM:List Int)(tt d:Int)(hd:bg d)(w:World)(hn:DT N x M ff gg A f sz w)(ha:je B base a aY aI aT aM w)(hbs:base<=w.heap.size)(hfl:aI.length<=1000000):
  Calls Tryz.prog 129 #[.pointer (some ⟨N,0,none⟩),.pointer (some ⟨B,0,none⟩),.int .u32 tt,.int .u32 d] w λe w'=>∃v7,e=.returned (.tuple #[])∧je B base {a with aG:=v7} aY (aI++ [(tt,lsB [(d,eB A d)])]) aT aM w'∧Fx (iX B a) w w':=by
 have hs:bg (eB A d):=by
  unfold eB;cases hl:aK A d with
  |none=>exact⟨by simp,by simp⟩
  |some y=>exact(hn.tb.ok y (dN hl).1).seq
 have HL:=(show Hid _ from Bp N x hn d hd);have HS:Hid (∀w1,Below w.heap.size w w1->Calls Tryz.prog 137 #[.pointer (some ⟨B,0,none⟩),.int .u32 tt,.slice (some ⟨w1.heap.size,0,none⟩) 1 1] (w1.alloc (.cells #[.int .u32 d,.int .u32 (eB A d)] 237)) λe w'=>∃v7,e=.returned (.tuple #[])∧je B base {a with aG:=v7} aY (aI++ [(tt,lsB [(d,eB A d)])]) aT aM w'∧Fx (iX B a) w w'):=by
  intro w1 hb;have hb2:Below w.heap.size w (w1.alloc (.cells #[.int .u32 d,.int .u32 (eB A d)] 237)):=hb.alloc hb.size _;have hH:bB (w1.alloc (.cells #[.int .u32 d,.int .u32 (eB A d)] 237)) (some ⟨w1.heap.size,0,none⟩) [(d,eB A d)]:=by
   intro j hj;have hj0:j=0:=by simpa using hj
   subst hj0;have hC:=bO w1 (.cells #[.int .u32 d,.int .u32 (eB A d)] 237);unfold bg at hd hs;exact⟨w1.heap.size,0,d,eB A d,rfl,by simp,rfl,hd.1,by omega,hs.1,by omega,aF _ _ 0 _ _ _ hC,aF _ _ 1 _ _ _ hC⟩
  refine(Fh B base a aY aI aT aM tt (some ⟨w1.heap.size,0,none⟩) 1 [(d,eB A d)] _ (ha.later hb2) (dF hbs hb2.size) hfl (by simp) hH).mono ?_;rintro e w' ⟨v7,rfl,h1,h2⟩;exact⟨v7,rfl,h1,(Fx.below (S:=iX B a) hb2).trans h2 (λ_ _ h=>h)⟩
 clear hn ha;go_enter Tryz.func129,Tryz.ntmps129;go_wp2_with fail;refine aN HL.out ?_;rintro e w1 ⟨rfl,hb1⟩;go_wp2_with fail;refine aN (HS.out w1 hb1) ?_;rintro e w' ⟨v7,rfl,h1,h2⟩;go_wp2;go_returns;exact⟨v7,rfl,h1,h2⟩
def xG(N:Nat)(x:l8)(M:Nat)(ff:Int->Option Nat)(gg:Int->Value)(A:List Rt)(k:Nat):Prop:=k=N∨k=x.Mo∨l9 x.T M ff gg A k
def Ed(now:Int):oW:=⟨now,.slice none 0 0,⟨#[]⟩,false,.slice none 0 0,.slice none 0 0,.slice none 0 0⟩
theorem je.zero(now:Int)(W:World):je W.heap.size (W.heap.size+1) (Ed now) [] [] [] [] (W.alloc (nS (Ed now))):=
 ⟨bO _ _,⟨rfl,.inl ⟨rfl,rfl⟩⟩,⟨rfl,.inl ⟨rfl,rfl⟩⟩,⟨rfl,.inl ⟨rfl,rfl⟩⟩,⟨rfl,.inl ⟨rfl,rfl⟩⟩⟩
theorem Nt(N:Nat)(x:l8){M:Nat}{ff:Int->Option Nat}{gg:Int->Value}{A:List Rt}{f:Int->Option Int}{sz:Nat}(now:Int)(w:World)(hn:DT N x M ff gg A f sz w)(hcnt:0<=x.cnt∧x.cnt<=1000000)(hsz:sz<=1000000):
  Calls Tryz.prog 51 #[.pointer (some ⟨N,0,none⟩),.int .u64 now] w λe w'=>∃vL v7 sz',e=.returned (.pointer (some ⟨w.heap.size,0,none⟩))∧DT N {x with own:=GL x.seq x.own,cnt:=x.cnt+(bI x.seq x.own f (iM A now)).2.length} M ff vL (iM A now) (bI x.seq x.own f (iM A now)).1 sz' w'∧sz'<=sz+8∧je w.heap.size (w.heap.size+1) {Ed now with mW:=v7} (bI x.seq x.own f (iM A now)).2 [] [] [] w'∧(∀k,xG N x M ff vL (iM A now) k->xG N x M ff gg A k)∧Fx (xG N x M ff gg A) w w':=by
 have hb0:Below w.heap.size w (w.alloc (nS (Ed now))):=bn;have hn1:=hn.later hb0;have ha1:=je.zero now w;have hlt:∀k,xG N x M ff gg A k->k<w.heap.size:=by
  rintro k (rfl|rfl|hk)
  ·exact hn.nd.lt
  ·exact hn.mo.lt
  ·exact hn.tb.lt hk
 have HE:Hid (Calls Tryz.prog 76 #[.pointer (some ⟨x.T,0,none⟩),.int .u64 now] (w.alloc (nS (Ed now))) λe w2=>∃vL,e=.returned (.tuple #[])∧DT N x M ff vL (iM A now) f sz w2∧je w.heap.size (w.heap.size+1) (Ed now) [] [] [] [] w2∧(∀k,l9 x.T M ff vL (iM A now) k->l9 x.T M ff gg A k)∧Fx (xG N x M ff gg A) w w2∧w.heap.size+1<=w2.heap.size):=by
  refine(Jo (S:=l9 x.T M ff gg A) now hn1.tb (λ_ h=>h) (λk hk=>hn1.tb.lt hk)).mono ?_;rintro e w2 ⟨vL,rfl,h2,h3,h4⟩;refine⟨vL,rfl,⟨hn1.nd.block (h4.block _ hn1.nd.lt λhk=> ?_),hn1.mo.block (h4.block _ hn1.mo.lt λhk=> ?_),h2,hn.ne⟩,ha1.kept λk hk=>h4.block _ (ha1.lt hk) λhk2=> ?_,h3,(Fx.below (S:=xG N x M ff gg A) hb0).trans h4 (λi _ h=> .inr (.inr h)),?_⟩
  ·exact hn1.tb.not (λe=>by
    obtain⟨D,⟨es,cl,hm,_⟩,_⟩:=hn1.tb.map;rw[<-e,show(w.alloc (nS (Ed now))).heap[N]?=_ from hn1.nd]at hm;cases hm) hn1.nd (qx x) hk
  ·obtain⟨es,cl,hm⟩:=hn1.mo.obj;exact hn1.tb.not (Ne.symm hn1.ne) hm (uh es cl) hk
  ·obtain⟨o,p1,p2,_,p4⟩:=ha1.wZ hk;exact hn1.tb.not (λe=>by
    obtain⟨D,⟨es,cl,hm,_⟩,_⟩:=hn1.tb.map;rw[<-e,p1]at hm;exact p4 _ _ (Option.some.inj hm)) p1 p2 hk2
  ·have:=h4.size;simp at this;omega
 have ML:=hn1.nd.cell.2.2.2.2.1;clear hb0 ha1;dsimp only[nS,Ed]at HE ML;go_enter Tryz.func51,Tryz.ntmps51;go_wp2_with fail;refine aN HE.out ?_;rintro e w2 ⟨vL,rfl,hn2,ha2,ht2,hf2,hs2⟩;clear HE ML hn1;go_wp2_with fail;refine aN (uV N w.heap.size (w.heap.size+1) x _ M ff vL (iM A now) f sz [] [] [] [] w2 hn2 ha2 hs2 hcnt hsz (by simp)) ?_;rintro e w3 ⟨v7,sz',rfl,k1,k2,k3,k4⟩;rw[List.nil_append]at k3;go_wp2;go_ret;refine⟨vL,v7,sz',rfl,k1,k2,k3,?_,hf2.trans k4 ?_⟩
 ·rintro k (h|h|h)
  ·exact .inl h
  ·exact .inr (.inl h)
  ·exact .inr (.inr (ht2 k h))
 ·rintro k hk (h|h|h)
  ·exact .inl h
  ·exact .inr (.inl h)
  ·exfalso;rcases h with h|h|h|h|h
   ·omega
   ·cases h
   ·cases h
   ·cases h
   ·cases h
theorem xw(ao:Option Addr)(n c:Nat)(L:List (Bool×Int×Int))(hL:L.length=n)(hn:n<=1000000)(_hbd:oV L)(w:World)(hA:fU w ao (RC L)):
  Calls Tryz.prog 43 #[.slice ao n c] w λe w'=>e=.returned (.int .u32 ((qF L).getD 0))∧Below w.heap.size w w':=by
 go_enter Tryz.func43,Tryz.ntmps43;go_wp2_with fail;go_loopw [3,8] (λq i wr=>∃k:Nat,k<=n∧i=.int .i64 k∧q=.int .u32 ((qF (L.take k)).getD 0)∧Below w.heap.size w wr) (λ_ i _=>n - (intOf i).toNat)
 case atStart=>exact⟨0,bX _,rfl,rfl,aR _ _⟩
 case round=>
  obtain⟨k,hk,rfl,rfl,hb⟩:=hrel;by_cases hlt:k<n
  ·have hki:(k:Int)<(n:Int):=by omega
   obtain⟨x,hx⟩:∃x,L[k]?=some x:=⟨_,bW (by omega)⟩;have hat:∀i z,i<3->([.bool x.1,.int .u32 x.2.1,.int .u32 x.2.2]:List Value)[i]?=some z->(RC L)[k * 3+i]?=some z:=λi z hi hz=>(jW (λx:Bool×Int×Int=>([Value.bool x.1,Value.int .u32 x.2.1,Value.int .u32 x.2.2]:List Value)) 3 (by decide) (λ_=>rfl) L k i hi hx).trans hz;have hA':=hA.below hb;obtain⟨b1,o1,rfl,hj1⟩:=hA' (k * 3+0) _ (hat 0 _ (by decide) rfl);have d0:=hA'.one rfl (hat 0 _ (by decide) rfl);have d1:=hA'.one rfl (hat 1 _ (by decide) rfl);have d2:=hA'.one rfl (hat 2 _ (by decide) rfl);have eO:Hid (qF (L.take (k+1))=oN (qF (L.take k)) x):=by
    show _=_;rw[nZ hx,yJ]
   obtain⟨xo,xa,xs⟩:=x;dsimp only at d0 d1 d2;rw[Nat.add_zero]at d0;rw[<-Nat.add_assoc]at d1 d2;have hb1:=hb.alloc hb.size (aU xo xa xs);clear hj1 hat hA' hx hb;generalize qF (L.take k)=cc at eO ⊢;dsimp only[aU]at hb1;cases xo
   ·have Vk:Hid ((qF (L.take (k+1))).getD 0=cc.getD 0):=by
     show _=_;rw[eO.out];rfl
    clear eO;generalize cc.getD 0=t at Vk ⊢;go_wp2;go_roundw
    case rel=>exact⟨k+1,by omega,by go_num,by rw[Vk.out],hb1⟩
    case measure=>simp[intOf];omega
   ·have Vk:Hid ((qF (L.take (k+1))).getD 0=max (cc.getD 0) xs):=by
     show _=_;rw[eO.out];rfl
    clear eO;generalize cc.getD 0=t at Vk ⊢;go_wp2;go_roundw
    case rel=>exact⟨k+1,by omega,by go_num,by rw[Vk.out],hb1⟩
    case measure=>simp[intOf];omega
  ·obtain rfl:k=n:=by omega
   rw[l_ (by omega)];go_wp2;go_ret;exact⟨rfl,hb⟩
theorem oP(ao:Option Addr)(n c:Nat)(L:List (Bool×Int×Int))(hL:L.length=n)(hn:n<=100000)(hbd:oV L)(w:World)(hA:fU w ao (RC L)):
  Calls Tryz.prog 73 #[.slice ao n c] w λe w'=>e=.returned (.string (strOfNums (bA L)))∧Below w.heap.size w w':=by
 obtain⟨i1,ji,jz0,jz1,jz2⟩:=info_parts qy;have hb0:Below w.heap.size w w:=aR _ _;go_enter Tryz.func73,Tryz.ntmps73;go_wp2_with fail;go_loopw [3,8] (λbv i wr=>∃k:Nat,k<=n∧i=.int .i64 k∧wr.ownsRow w.heap.size 5 1 bv (13 * k) (U (bA (L.take k)))∧Below w.heap.size w wr) (λ_ i _=>n - (intOf i).toNat)
 case atStart=>exact⟨0,bX _,rfl,⟨rfl,.inl ⟨rfl,rfl⟩⟩,hb0⟩
 case round=>
  clear hb0;obtain⟨k,hk,rfl,ho,hb⟩:=hrel;by_cases hlt:k<n
  ·have hki:(k:Int)<(n:Int):=by omega
   obtain⟨⟨o,a,s⟩,hx⟩:∃x,L[k]?=some x:=⟨_,bW (by omega)⟩;have hbx:=hbd _ (jY hx);dsimp only at hbx;have UU:=hA.below hb;have hat:∀i z,i<3->([.bool o,.int .u32 a,.int .u32 s]:List Value)[i]?=some z->(RC L)[k * 3+i]?=some z:=λi z hi hz=>(jW (λx:Bool×Int×Int=>([Value.bool x.1,Value.int .u32 x.2.1,Value.int .u32 x.2.2]:List Value)) 3 (by decide) (λ_=>rfl) L k i hi hx).trans hz;obtain⟨b1,o1,rfl,hj1⟩:=UU (k * 3+0) _ (hat 0 _ (by decide) rfl);have c0:=UU.one rfl (hat 0 _ (by decide) rfl);have c1:=UU.one rfl (hat 1 _ (by decide) rfl);have c2:=UU.one rfl (hat 2 _ (by decide) rfl);rw[Nat.add_zero]at c0;rw[<-Nat.add_assoc]at c1 c2;have hst:Hid (bA (L.take (k+1))=bA (L.take k)++yB o a s):=by
    show _=_;rw[List.take_add_one,hx,jX];rfl
   have jh:Below wr.heap.size wr (wr.alloc (aU o a s)):=bn;have hB1:=o7.new o a s wr;have ho1:=aJ ho jh;have hb1:=hb.alloc hb.size (aU o a s);dsimp only[aU]at hB1 ho1 hb1;clear hj1 hat UU hx hb ho jh;go_upto_region 5 with(fail);generalize wr.heap.size=B1 at hB1 ⊢;generalize World.alloc _ _=W1 at hB1 ho1 hb1 ⊢;obtain⟨d0,d1,d2⟩:=hB1.cell;clear c0 c1 c2;go_wp2_with fail;refine(oU o a s hbx.1.1 hbx.1.2 hbx.2.1 hbx.2.2 _).mono ?_;rintro e W3 ⟨v3,rfl,hb3,hv3,ho3⟩;have hoB:=aJ ho1 hb3;have hB3:=hb1.trans (hb3.mono hb1.size);obtain⟨g3,adm,rfl,hg3⟩:=Bj ho3 hv3;have hc3:∀(j:Nat) (u:Value),(U (yB o a s))[j]?=some u->W3.cell? ((⟨g3,0,none⟩:Addr).add j)=some u:=by
    intro j u hj;obtain⟨b',o',h1,_,h2⟩:=fU.ofRow ho3 j u hj;simp only[Option.some.injEq,Addr.mk.injEq,and_true]at h1;obtain⟨rfl,rfl⟩:=h1;have hadd:(⟨g3,0,none⟩:Addr).add j=⟨g3,0+j,none⟩:=by unfold Addr.add;split<;>simp_all
    rw[hadd];exact h2
   have h1c:∀u∈U (yB o a s),u.oneCell'=true:=by
    intro u hu;simp only[U,dO]at hu;obtain⟨y,_,rfl⟩:=hu;rfl
   have hlt3:=hoB.lt;clear ho1 hb1 hb3 ho3 d0 d1 d2 hB1;go_wp2_with(at_builtin;refine wpList_append_own _ rfl _ _ 58 rfl w.heap.size 5 i1 (.int .u8 0) 1 1 Tryz.underlying58 ji jz0 jz1 jz2 rfl (by decide) u3 (13 * k) (U (bA (L.take k))) rfl hoB ⟨g3,0,none⟩ 13 adm (U (yB o a s)) rfl rfl hc3 h1c ?c1 ?c2 ?c3 ?_)
   case c1=>unfold maxLen;omega
   case c2=>omega
   case c3=>exact hB3.size
   intro v4 W4 Bw hg4 _;have hB4:=hB3.grown hg4 hB3.size (λk hk=>(hlt3 k hk).1);rw[zO]at Bw;clear hoB hB3 hc3 h1c hlt3 hg4;go_wp2;go_roundw
   case rel=>
    refine⟨k+1,by omega,by go_num,?_,hB4⟩;rw[hst.out];exact Bw
   case measure=>simp[intOf];omega
  ·obtain rfl:k=n:=by omega
   rw[l_ (by omega)]at ho;have hxl:=gU L;rw[hL]at hxl;rw[<-hxl]at ho;have hcv:=qB (pI ho (Dp hbd));clear ho hxl;go_wp2;go_ret;exact⟨rfl,hb⟩
theorem EY{q own:Int}(hq:bg q)(f:Int->Option Int){A:List Rt}(hA:∀y∈A,y.Ok):oV (bI q own f A).2:=by
 have h:∀(A:List Rt) (st:(Int->Option Int)×List (Bool×Int×Int)),(∀y∈A,y.Ok)->oV st.2->oV (A.foldl lX st).2:=by
  intro A
  induction A with
  |nil=>intro st _ h;exact h
  |cons y A ih=>
   intro st hA h;rw[iH];refine ih _ (λz hz=>hA z (kU _ hz)) ?_;unfold lX;split
   ·intro z hz;rcases fA.1 hz with hz|hz
    ·exact h z hz
    ·rw[fD]at hz;subst hz;have:=hA y (jo ..);have h1:=this.dest;have h2:=this.seq;unfold bg at h1 h2;dsimp only;omega
   ·exact h
 refine h A _ hA ?_;unfold pJ;split
 ·intro z hz;rw[fD]at hz;subst hz;unfold bg at hq;dsimp only;omega
 ·intro z hz;simp at hz
theorem zW{a b:List (Bool×Int×Int)}(ha:oV a)(hb:oV b):oV (a++b):=λx hx=>(fA.1 hx).elim (ha x) (hb x)
@[reducible] def iK: Obj := .cells #[.string ⟨#[]⟩, .bool false, .slice none 0 0, .slice none 0 0, .slice none 0 0] 52
def iC(s:ByteArray)(bq:Bool)(aG bL bN:Value):Value:=.agg #[.string s,.bool bq,aG,bL,bN]
structure Mm where
 fr:Int
 id:Int
 dw:Int
 iF:Int
def Mm.key(e:Mm):Int×Int:=(e.fr,e.id)
def ol(E:List Mm)(q:Int×Int)(now:Int):Bool:=E.any λe=>decide (e.key=q)&&decide (now<e.dw)
def dQ(E:List Mm)(q:Int×Int)(dw iF:Int):List Mm:=E.filter (λe=>!decide (e.key=q))++ [⟨q.1,q.2,dw,iF⟩]
def dK(E:List Mm)(q:Int×Int)(dw iF:Int):List Mm:=if 16<(dQ E q dw iF).length then(dQ E q dw iF).tail else dQ E q dw iF
structure Sr where
 dest:Int
 txt:List ByteArray
 ttl:Int
 ret:Nat
 due:Int
 id:Int
 out:Bool
structure St where
 me:Int
 seq:Int
 bR:Int
 b_:Int
 dZ:Int
 A:List Rt
 mem:List Mm
 tn:Int
 f:Int->Option Int
 own:Int
 cnt:Int
 Q:List Sr
 tl:Int
 pc:List Int
 now:Int
 aY:List (Bool×Int×Int)
 aI:List (Int×ByteArray)
 aT:List (Int×ByteArray)
 aM:List Int
 bq:Bool
 lk:Int
namespace St
def write(s:St):St:={s with f:=(bI s.seq s.own s.f s.A).1,own:=GL s.seq s.own,cnt:=s.cnt+(bI s.seq s.own s.f s.A).2.length,aY:=s.aY++(bI s.seq s.own s.f s.A).2}
def drop(s:St)(r:Int):St:={s with aM:=s.aM++ [r]}
def send(s:St)(t:Int)(p:aC)(L:List (Int×Int)):St:={s with aI:=s.aI++ [(t,strOfNums (qH p L))]}
def lose(s:St)(t:Int)(L:List (Int×Int)):St:={s with aI:=s.aI++NU t L}
def kF(s:St)(t d:Int):St:=s.lose t [(d,eB s.A d)]
def begin(s:St)(now:Int):St:={s with now:=now,A:=iM s.A now,aY:=[],aI:=[],aT:=[],aM:=[],bq:=false}.write
def cmp(s:St):List (Bool×Int×Int):=dH (some s.own)++gQ s.f (s.A.map (·.dest))
def finish(s:St):St:=
 if s.write.cnt>24 then {s.write with aY:=s.write.cmp,cnt:=s.write.cmp.length,bq:=true}else s.write
def bD(s:St):ByteArray:=strOfNums (bA s.aY)
def far(h:Int):Int:=min (h+1) 255
def answer(s:St)(p:aC):St:=
 if (bJ s.A p.aG s.now).2 then s.send (bJ s.A p.aG s.now).1.next {p with ttl:=8,kind:=2} []else s.drop 3
def rQ(hops d q fm life:Int):aC:=⟨0,0,hops,false,0,d,q,fm,0,life,none,0,0,⟨#[]⟩⟩
def iD(s:St)(p:aC):St:={s with seq:=max s.seq p.bC}.answer (rQ 0 s.me (max s.seq p.bC) p.aG 6000)
def gM(s:St)(p:aC)(r:Rt):St:=
 {s with A:=kQ (if (bJ s.A p.aG s.now).2 then kQ s.A p.dest (bJ s.A p.aG s.now).1.next else s.A) p.aG r.next}.answer (rQ r.hops p.dest r.seq p.aG ((r.exp - s.now)%4294967296))
def askOn(s:St)(p:aC):St:=
 s.send 0 {p with ttl:=p.ttl - 1,hops:=far p.hops,bC:=if (aK s.A p.dest).isSome then max p.bC (eB s.A p.dest)else p.bC,unk:=if (aK s.A p.dest).isSome then false else p.unk} []
def asked(s:St)(p:aC):St:=
 if p.dest=s.me then s.iD p
 else if (bJ s.A p.dest s.now).2&&(p.unk||decide ((bJ s.A p.dest s.now).1.seq>=p.bC))then s.gM p (bJ s.A p.dest s.now).1
 else if p.ttl=1 then s.drop 4 else s.askOn p
def learn(s:St)(fr:Int)(p:aC):St:=
 if (ig s.me s.A p.aG p.dX (far p.hops) fr (s.now+3000)).2=4 then {s with A:=(ig s.me s.A p.aG p.dX (far p.hops) fr (s.now+3000)).1}.drop 2
 else if (ig s.me s.A p.aG p.dX (far p.hops) fr (s.now+3000)).2=3 then {s with A:=ic (ig s.me s.A p.aG p.dX (far p.hops) fr (s.now+3000)).1 p.aG (s.now+3000)}.asked p
 else {s with A:=(ig s.me s.A p.aG p.dX (far p.hops) fr (s.now+3000)).1}.asked p
def dm(s:St)(fr:Int)(p:aC):St:=
 if p.aG=s.me∨ol s.mem (p.aG,p.id) s.now then s.drop 1
 else {s with mem:=dK s.mem (p.aG,p.id) (s.now+1280) s.tn,tn:=s.tn+1}.learn fr p
def Dy(i d me:Int)(t:ByteArray):aC:=⟨8,9,0,false,i,d,0,me,0,0,none,0,0,t⟩
def aX(s:St)(d:Int)(t:ByteArray):St:=
 if (bJ s.A d s.now).2 then {s with dZ:=(s.dZ+1)%4294967296,A:=ic s.A d (s.now+3000)}.send (bJ s.A d s.now).1.next (Dy ((s.dZ+1)%4294967296) d s.me t) []
 else s
def jK(Q:List Sr)(d:Int):Option Sr:=Q.find? λq=>decide (q.dest=d)
def sendAll(s:St)(d:Int):St:=
 match jK s.Q d with
 |none=>s
 |some q=>if (bJ s.A d s.now).2 then {q.txt.foldl (λs t=>s.aX d t) s with Q:=s.Q.filter λz=>!decide (z.dest=d)}else s
def iJ(s:St)(fr:Int)(p:aC):St:=
 if (bJ s.A p.aG s.now).2 then
  {s with A:=ic (kQ (kQ s.A p.dest (bJ s.A p.aG s.now).1.next) p.aG fr) p.aG (s.now+3000)}.send (bJ s.A p.aG s.now).1.next {p with ttl:=p.ttl - 1,hops:=far p.hops} []
 else s.drop 3
def fC(s:St)(fr:Int)(p:aC):St:=
 if p.dest=s.me then s.drop 1
 else
  let u:=ig s.me s.A p.dest p.bC (far p.hops) fr (s.now+p.life)
  let s:={s with A:=u.1}
  if u.2=4 then s.drop 2
  else if p.aG=s.me then(if u.2=3 then(s.sendAll p.dest).drop 7 else s.sendAll p.dest)
  else if p.ttl=1 then s.drop 4
  else s.iJ fr p
def Fg(fr:Int)(z:List Rt×Bool×List (Int×Int))(l:Int×Int):List Rt×Bool×List (Int×Int):=
 if l5 z.1 fr l.1 then(fV z.1 fr l.1 l.2,true,if ((aK z.1 l.1).any λy=>decide (0<y.bG.length))then z.2.2++ [(l.1,eB (fV z.1 fr l.1 l.2) l.1)]else z.2.2)else z
def gZ(s:St)(fr:Int)(L:List (Int×Int)):St:=
 let z:=L.foldl (Fg fr) (s.A,false,[])
 let s:={s with A:=z.1}
 (if z.2.1 then s else s.drop 7).lose 0 z.2.2
def uy(y:Rt):Rt:={y with seq:=gr y.seq}
def fH(s:St)(fr:Int)(p:aC):St:=
 if p.dest=s.me then {s with aT:=s.aT++ [(p.aG,p.pay)]}
 else if p.ttl=1 then s.drop 4
 else if (bJ s.A p.dest s.now).2 then {s with A:=ic (ic s.A p.dest (s.now+3000)) p.aG (s.now+3000)}.send (bJ s.A p.dest s.now).1.next {p with ttl:=p.ttl - 1} []
 else {s.drop 3 with A:=gD s.A p.dest uy}.kF fr p.dest
def eH(s:St)(fr:Int)(p:aC):St:=
 if p.kind=9∧p.dest≠s.me then {(s.drop 8).kF fr p.dest with bR:=s.now+2000}else s.drop 8
def gT(s:St)(fr:Int)(p:aC)(L:List (Int×Int)):St:=
 if s.now<s.bR then s.eH fr p
 else if p.kind=1 then s.dm fr p
 else if p.kind=2 then s.fC fr p
 else if p.kind=3 then s.gZ fr L
 else s.fH fr p
def hear(s:St)(fr:Int)(xs:List Int):St:=
 if D_ xs=false∨fr=0∨fr=s.me then s.drop 0
 else s.gT fr (iZ (xs.getD 0 0) (xs.getD 1 0) (xs.getD 2 0) (xs.getD 4 0) (xs.drop 5)) (pO (xs.getD 1 0) (xs.getD 4 0) (xs.drop 5))
def receive(s:St)(now fr:Int)(xs:List Int):St:=((s.begin now).hear fr xs).finish
def broken(s:St)(now eu:Int):St:=
 let s:=s.begin now
 ({s with A:=s.A.map (cO eu 0)}.lose 0 (ng eu s.A)).finish
def full(pc:List Int)(now:Int):Bool:=decide (pc.length=5)&&(decide (now<1000)||decide (pc.getD 0 0>now - 1000))
def dA(pc:List Int)(now:Int):List Int:=(if pc.length=5 then pc.tail else pc)++ [now]
def EG(ttl:Int)(unk:Bool)(i d q me sq:Int):aC:=⟨ttl,1,0,unk,i,d,q,me,sq,0,none,0,0,⟨#[]⟩⟩
def request(s:St)(d ttl:Int):St:=
 let s1:={s with seq:=gr s.seq,b_:=(s.b_+1)%4294967296}.write
 {s1 with pc:=dA s1.pc s1.now,mem:=dK s1.mem (s1.me,s1.b_) (s1.now+1280) s1.tn,tn:=s1.tn+1}.send 0 (EG ttl (!(aK s1.A d).isSome) s1.b_ d (eB s1.A d) s1.me s1.seq) []
def bY(Q:List Sr)(q:Sr):List Sr:=Q.map λz=>if z.dest=q.dest then q else z
def ask(s:St)(q:Sr):St:=
 if full s.pc s.now then let s:=s.drop 9;{s with tl:=s.tl+1,Q:=bY s.Q {q with due:=s.now+1000,id:=s.tl+1,out:=false}}
 else if s.now<s.bR then let s:=s.drop 8;{s with tl:=s.tl+1,Q:=bY s.Q {q with due:=s.now+1000,id:=s.tl+1,out:=false}}
 else let s:=s.request q.dest q.ttl;{s with tl:=s.tl+1,Q:=bY s.Q {q with due:=s.now+80 * (q.ttl+2)* 2 ^ q.ret,id:=s.tl+1,out:=true}}
def jy(d:Int)(t:ByteArray):Sr:=⟨d,[t],1,0,0,0,false⟩
def hold(s:St)(q:Sr)(t:ByteArray):St×Sr:=
 if q.txt.length=4 then(s.drop 6,{q with txt:=q.txt.tail++ [t]})else(s,{q with txt:=q.txt++ [t]})
def await(s:St)(d:Int)(t:ByteArray):St:=
 match jK s.Q d with
 |some q=> {(s.hold q t).1 with Q:=bY s.Q (s.hold q t).2}
 |none=> {s with Q:=s.Q++ [jy d t]}.ask (jy d t)
def sends(s:St)(now d:Int)(t:ByteArray):St:=
 let s:=s.begin now
 (if (bJ s.A d s.now).2 then s.aX d t else s.await d t).finish
def Vg(s:St)(d:Int):St:={s with Q:=s.Q.filter λz=>!decide (z.dest=d)}
def widen(s:St)(q:Sr):St:=
 if q.ttl+2<=5 then s.ask {q with ttl:=q.ttl+2}
 else if q.ttl<8 then s.ask {q with ttl:=8}
 else if q.ret<2 then s.ask {q with ret:=q.ret+1}
 else {s with aM:=s.aM++List.replicate q.txt.length 5}.Vg q.dest
def step(s:St)(q:Sr):St:=
 if (bJ s.A q.dest s.now).2 then s.sendAll q.dest
 else if q.out then s.widen q else s.ask q
def LY(a b:Sr):Bool:=decide (a.due<b.due)||(decide (a.due=b.due)&&decide (a.id<=b.id))
def lF(Q:List Sr)(now:Int):List Sr:=(Q.filter λq=>decide (q.due<=now)).mergeSort LY
def tick(s:St)(now:Int):St:=
 let s:=s.begin now
 ((lF s.Q now).foldl step s).finish
end St
open Go.RowKit Go.Maps
variable{tn:Int}{E:List Mm}{Ms:Nat}{W:World}
structure vU(Ms:Nat)(tn:Int)(E:List Mm)(W:World):Prop where
 map:∃g,kD W Ms g E.length∧(∀e∈E,g e.key=some (e.dw,e.iF))∧∀k m,uT k->g k=some m->∃e∈E,e.key=k∧m=(e.dw,e.iF)
 ok:∀e∈E,uT e.key∧0<=e.dw∧0<=e.iF∧e.iF<tn
 vQ:E.Pairwise λa b=>a.dw<=b.dw∧a.iF<b.iF∧a.key≠b.key
 len:E.length<=16
 tn0:0<=tn
theorem vU.block{W':World}(h:vU Ms tn E W)(he:W'.heap[Ms]?=W.heap[Ms]?):vU Ms tn E W':=by
 obtain⟨⟨g,h1,h2,h3⟩,h4,h5,h6,h7⟩:=h;exact⟨⟨g,h1.block he,h2,h3⟩,h4,h5,h6,h7⟩
theorem vU.lt(h:vU Ms tn E W):Ms<W.heap.size:=by
 obtain⟨g,h1,_⟩:=h.map;exact h1.lt
theorem vU.obj(h:vU Ms tn E W):∃es cl,W.heap[Ms]?=some (.map es cl):=by
 obtain⟨g,h1,_⟩:=h.map;exact h1.obj
theorem vU.made(w:World):vU w.heap.size 0 [] (w.alloc (.map #[] 0)):=
 ⟨⟨_,kD.made w,λe he=>by simp at he,λk m _ h=>by cases h⟩,λe he=>by simp at he,List.Pairwise.nil,by simp,by simp⟩
theorem vU.has_eq{g:Int×Int->Option (Int×Int)}(_h:vU Ms tn E W)(h2:∀e∈E,g e.key=some (e.dw,e.iF))(h3:∀k m,uT k->g k=some m->∃e∈E,e.key=k∧m=(e.dw,e.iF)){q:Int×Int}(hq:uT q){now:Int}(hn:0<=now):
  decide (now<((g q).getD (0,0)).1)=ol E q now:=by
 unfold ol;cases hg:g q with
 |none=>
  simp only[Option.getD_none];rw[dL (by omega)];symm;rw[List.any_eq_false];intro e he hc;simp only[jr,qE]at hc;have:=h2 e he;rw[hc.1,hg]at this;cases this
 |some m=>
  obtain⟨e,he,hk,rfl⟩:=h3 q m hq hg;simp only[Option.getD_some];by_cases hlt:now<e.dw
  ·rw[eX hlt];symm;rw[List.any_eq_true];exact⟨e,he,by simp[hk,hlt]⟩
  ·rw[dL hlt];symm;rw[List.any_eq_false];intro e' he' hc;simp only[jr,qE]at hc;have h4:=h2 e' he';rw[hc.1,hg]at h4;simp only[Option.some.injEq,Prod.mk.injEq]at h4;omega
@[reducible] def fo(q : Int × Int): Obj := .cells #[.int .u32 q.1, .int .u32 q.2] 261
@[reducible] def lZ(m : Int × Int): Obj := .cells #[.int .u64 m.1, .int .i64 m.2] 279
theorem Ih(a b:Int×Int)(w:World):
  Calls Tryz.prog 196 #[vN a,vN b] w λe w'=>e=.returned (.bool (if a.1=b.1 then decide (a.2<b.2)else decide (a.1<b.1)))∧Below w.heap.size w w':=by
 obtain⟨a1,a2⟩:=a;obtain⟨b1,b2⟩:=b;have hB:Below w.heap.size w ((w.alloc (lZ (a1,a2))).alloc (lZ (b1,b2))):=(bn).alloc (by simp) _;dsimp only[lZ]at hB;dsimp only[vN];by_cases h:a1=b1
 ·subst h;have e:(a1 !=a1)=false:=by simp
  rw[aO rfl];go_enter Tryz.func196,Tryz.ntmps196;go_wp2;all_goals (go_ret;exact⟨rfl,hB⟩)
 ·have e:(a1 !=b1)=true:=by simpa using h
  rw[aD h];go_enter Tryz.func196,Tryz.ntmps196;go_wp2;all_goals (go_ret;exact⟨rfl,hB⟩)
theorem YW(a b:Int)(w:World):(Instr.field 279 (.agg #[.int .u64 a,.int .i64 b]) 0).run Tryz.prog w=.ok (.int .u64 a) w:=by kernel_rfl
theorem Ox(N:Nat)(x:l8)(E:List Mm)(q:Int×Int)(hq:uT q)(now:Int)(hn:0<=now)(w:World)(hN:gW N x w)(hs:vU x.Ms x.tn E w):
  Calls Tryz.prog 160 #[.pointer (some ⟨N,8,none⟩),jC q,.int .u64 now] w λe w'=>e=.returned (.bool (ol E q now))∧Below w.heap.size w w':=by
 obtain⟨g,h1,h2,h3⟩:=hs.map;have hE:=(show Hid _ from hs.has_eq h2 h3 hq hn);have hb0:Below w.heap.size w (w.alloc (fo q)):=bn;have hC:=bO w (fo q);have hN1:=hN.later hb0;have hg1:=h1.block (hb0.block _ h1.lt);clear hs hN h1 h2 h3;dsimp only[fo]at hb0 hC hN1 hg1;dsimp only[jC];go_enter Tryz.func160,Tryz.ntmps160;go_upto_region 1 with(fail);generalize World.alloc _ _=W1 at hb0 hC hN1 hg1 ⊢;generalize w.heap.size=C at hC ⊢;obtain⟨n0,n2,n3,n4,n5,n6,n7,n8,n9,n10⟩:=hN1.cell;have c0:W1.cell? ⟨C,0,none⟩=some (.int .u32 q.1):=aF _ _ 0 _ _ _ hC;have c1:W1.cell? ⟨C,1,none⟩=some (.int .u32 q.2):=aF _ _ 1 _ _ _ hC;have hl0:=hg1.look hq;have hl1:=(show kD W1.drew _ _ _ from hg1).look hq;have hbq:Hid (∀k,Below w.heap.size w (W1.drewN k)):=λk=>below_drewN hb0 k;dsimp only[jC]at hl0 hl1;generalize hv:(g q).getD (0,0)=m at hE hl0 hl1;clear hv hg1 hN1 hC hb0;dsimp only[vN]at hl0 hl1;have xg:=λw=>YW m.1 m.2 w;have hbd:Below w.heap.size w W1.drew:=hbq.out 1;go_region
 go_wp2;go_ret;exact⟨kL hE.out,hbd⟩
def zM(a b:Mm):Prop:=if a.dw=b.dw then a.iF<b.iF else a.dw<b.dw
def uS(E:List Mm)(left:Lit->Bool)(an:Bool)(f l:Int×Int):Prop:=
 if an then ∃e∈E,left (gP e.key)=false∧f=e.key∧l=(e.dw,e.iF)∧∀z∈E,left (gP z.key)=false->¬zM z e
 else ∀e∈E,left (gP e.key)=true
theorem uS.done{e0:Mm}{left:Lit->Bool}{an:Bool}{f l:Int×Int}(h:uS (e0::E) left an f l)(hl:∀kl,left kl=false)(ha:(e0::E).Pairwise λa b=>a.dw<=b.dw∧a.iF<b.iF∧a.key≠b.key):f=e0.key:=by
 unfold uS at h;split at h
 ·obtain⟨e,he,_,rfl,_,h⟩:=h;rcases eF.1 he with rfl|he
  ·rfl
  ·exfalso;refine h e0 (jo ..) (hl _) ?_;have:=(List.pairwise_cons.1 ha).1 e he;unfold zM;split<;>omega
 ·have:=h e0 (jo ..);rw[hl]at this;cases this
theorem uS.yes(hE:∀e∈E,uT e.key)(hu:E.Pairwise λa b=>a.dw<=b.dw∧a.iF<b.iF∧a.key≠b.key){left:Lit->Bool}{an:Bool}{f l:Int×Int}(h:uS E left an f l){e:Mm}(he:e∈E)(hq:left (gP e.key)=true)(hb:an=true->(if e.dw=l.1 then e.iF<l.2 else e.dw<l.1)):
  uS E (λz=>left z&&!z.sameKey (gP e.key)) true e.key (e.dw,e.iF):=by
 have hkey:∀z∈E,gP z.key=gP e.key->z=e:=by
  intro z hz hq;have hk:=tN (hE z hz) (hE e he) hq;by_cases Mv:z=e
  ·exact Mv
  ·exfalso;obtain⟨i,hi,rfl⟩:=List.mem_iff_getElem.1 hz;obtain⟨j,hj,rfl⟩:=List.mem_iff_getElem.1 he;rcases Nat.lt_trichotomy i j with hij|hij|hij
   ·exact(List.pairwise_iff_getElem.1 hu i j hi hj hij).2.2 hk
   ·subst hij;exact Mv rfl
   ·exact(List.pairwise_iff_getElem.1 hu j i hj hi hij).2.2 hk.symm
 unfold uS at h ⊢;rw[aO rfl];refine⟨e,he,by simp[gP,Lit.sameKey],rfl,rfl,λz hz hl=> ?_⟩;by_cases Mv:gP z.key=gP e.key
 ·rw[hkey z hz Mv];unfold zM;simp
 ·have hlz:left (gP z.key)=false:=by
   cases hc:left (gP z.key)with
   |false=>rfl
   |true=>
    exfalso;dsimp only at hl;rw[hc,Bool.true_and]at hl;have:(gP z.key).sameKey (gP e.key)=true:=by simpa using hl
    exact Mv (by simpa[gP,Lit.sameKey]using this)
  cases han:an with
  |false=>
   rw[han]at h;have:=h z hz;rw[hlz]at this;cases this
  |true=>
   rw[han,aO rfl]at h;obtain⟨e1,he1,_,_,rfl,h⟩:=h;have h1:=h z hz hlz;have h2:=hb han;unfold zM at h1 ⊢;dsimp only at h2;intro h3;apply h1;split at h3<;>split at h2<;>split<;>omega
theorem uS.no(hE:∀e∈E,uT e.key)(hu:E.Pairwise λa b=>a.dw<=b.dw∧a.iF<b.iF∧a.key≠b.key){left:Lit->Bool}{f l:Int×Int}(h:uS E left true f l){e:Mm}(he:e∈E)(hb:¬(if e.dw=l.1 then e.iF<l.2 else e.dw<l.1)):
  uS E (λz=>left z&&!z.sameKey (gP e.key)) true f l:=by
 unfold uS at h ⊢;rw[aO rfl]at h ⊢;obtain⟨e1,he1,hl1,rfl,rfl,h⟩:=h;refine⟨e1,he1,by simp[hl1],rfl,rfl,λz hz hl=> ?_⟩;by_cases hlz:left (gP z.key)=false
 ·exact h z hz hlz
 ·have hc:left (gP z.key)=true:=by simpa using hlz
  dsimp only at hl;rw[hc,Bool.true_and]at hl;have:(gP z.key).sameKey (gP e.key)=true:=by simpa using hl
  have hk:=tN (hE z hz) (hE e he) (by simpa[gP,Lit.sameKey]using this);have Mv:z=e:=by
   by_cases Mv:z=e
   ·exact Mv
   ·exfalso;obtain⟨i,hi,rfl⟩:=List.mem_iff_getElem.1 hz;obtain⟨j,hj,rfl⟩:=List.mem_iff_getElem.1 he;rcases Nat.lt_trichotomy i j with hij|hij|hij
    ·exact(List.pairwise_iff_getElem.1 hu i j hi hj hij).2.2 hk
    ·subst hij;exact Mv rfl
    ·exact(List.pairwise_iff_getElem.1 hu j i hj hi hij).2.2 hk.symm
  rw[Mv];unfold zM;exact hb
end Go.Proofs.YtakaadcpaeiccabGreat
