import Derived.Test.YtakaadcpaeiccabGreatV07
set_option maxHeartbeats 4000000
set_option maxRecDepth 100000
namespace Go.Proofs.YtakaadcpaeiccabGreat
open Go.RowKit
theorem KP(p:aD)(hp:p.Wf)(hg:p.eG=false)(w:World):
  Calls Tryz.prog 117 #[p.val] w λe w'=>e=.returned (.tuple #[.slice none 0 0,.int .i64 1])∧Below w.heap.size w w':=by
 go_enter Tryz.func117,Tryz.ntmps117;go_wp2_with(go_at_call 90;refine(dP p hp _).mono ?_;rintro e w1 ⟨rfl,hb1⟩);go_ret2;exact⟨rfl,(bC).trans (hb1.mono (by simp))⟩
def fH(w:World)(p:aD)(L:List (Int×Int)):Prop:=
 L.length=p.ln∧∀j,j<L.length->∃lb lo d s,p.la=some ⟨lb,lo,none⟩∧lb<w.heap.size∧L[j]?=some (d,s)∧0<=d∧d<4294967296∧0<=s∧s<4294967296∧
  w.cell? ⟨lb,lo+j * 2,none⟩=some (.int .u32 d)∧w.cell? ⟨lb,lo+j * 2+1,none⟩=some (.int .u32 s)
def lN(p:aD):Int:=if p.unk then 8 else 0
theorem XF(p:aD)(w:World):
  Calls Tryz.prog 151 #[p.val] w λe w'=>e=.returned (.int .u8 (lN p))∧Below w.heap.size w w':=O7 p w
def aD.head(p:aD):List Int:=[p.ttl,p.kind,lN p,0,p.cnt]
def yR(p:aD)(L:List (Int×Int)):List Int:=p.head++p.lJ p.nums.length++ic L L.length++aA p.pay
theorem I4(p:aD)(hp:p.Wf)(hg:p.eG=true)(ht0:1<=p.ttl)(ht1:p.ttl<=255)(hk0:1<=p.kind)(hk1:p.kind<=9)(hc0:0<=p.cnt)(hc1:p.cnt<=255)
  (hln:p.ln<=8) (hpay:p.pay.size<=16)
  (L:List (Int×Int)) (w:World) (hL:fH w p L):
  Calls Tryz.prog 117 #[p.val] w λe w'=>∃v,e=.returned (.tuple #[v,.int .i64 0])∧Below w.heap.size w w'∧v≠ .slice none 0 0∧w'.ownsRow (w.heap.size+1) 5 1 v (yR p L).length (U (yR p L)):=by
 go_enter Tryz.func117,Tryz.ntmps117;go_wp2_with(go_at_call 90;refine(dP p hp _).mono ?_;rintro e w1 ⟨rfl,hb1⟩);have ht0':0<=p.ttl:=by omega
 have hk0':0<=p.kind:=by omega
 have aee:p.kind<=255:=by omega
 have hI:=(zx.Ze p w).below hb1;clear hb1;go_region_held3 (zx p w) (first|exact zx.drew' (by assumption)|assumption|exact zx.below (by assumption) (by assumption)|exact zx.below (by assumption) (bC)) (first
  |(go_at_call 151;refine(XF p _).mono ?_;rintro e w2 ⟨rfl,hb2⟩)
  |(go_at_call 126;refine(Dq p _).mono ?_;rintro e w3 ⟨rfl,hb3⟩))
 rename_i hI3;rw[IntWalk.u8_in _ ⟨ht0',ht1⟩,IntWalk.u8_in _ ⟨hk0',aee⟩,IntWalk.u8_in _ ⟨hc0,hc1⟩]at hI3 ⊢;have hz3:w.heap.size+1<=w3.heap.size:=by
  obtain⟨_,_,_,_,_,_,_,_,_,_,_,_,hs,_⟩:=hI;have h2:=hb2.size;have h3:=hb3.size;simp only[World.size_drew]at h2;omega
 have yL:=QX (w.heap.size+1) w3 p.ttl p.kind (lN p) 0 p.cnt hz3;clear hI hb2 hb3;have hnn:(Value.slice (some ⟨w3.heap.size,0,none⟩) 5 5)≠ .slice none 0 0:=by simp
 generalize w3.alloc _=W3 at hI3 yL ⊢;generalize Value.slice (some ⟨w3.heap.size,0,none⟩) 5 5=b0 at yL hnn ⊢;clear hz3;have hkc:=hI3.2.1;go_wp2_with(go_at_call 86;refine(Gy p _ _ hkc).mono ?_;rintro e w4 ⟨ao,rfl,hb4,ace⟩);have hE0:jo p w ao w4 b0 (p.head++p.lJ 0):=by
  have aeF:=hI3;obtain⟨_,_,_,_,_,_,_,_,_,_,_,_,hs,hB⟩:=aeF;have hg:W3.grownBy w4 none:=⟨hb4.os,hb4.tape,hb4.output,hb4.size,λk hk _=>hb4.block k hk⟩;refine⟨hI3.below hb4,?_,hnn,λj hj=> ?_⟩
  ·simp only[aD.lJ,List.take_zero,List.flatMap_nil,fw];exact yL.kept hg (by cases hv:b0.ownBlock<;>simp)
  ·obtain⟨N,h1,h2,h3⟩:=ace j hj;exact⟨N,h1,by omega,h3⟩
 clear hI3 yL hnn ace hb4 hkc;have hn5:=Gx p;go_loopw [4,26] (λb i wr=>∃k:Nat,k<=p.nums.length∧i=.int .i64 k∧jo p w ao wr b (p.head++p.lJ k)) (λ_ i _=>p.nums.length - (intOf i).toNat)
 case atStart=>exact⟨0,dm _,rfl,hE0⟩
 case round=>
  clear hE0;obtain⟨k,hk,rfl,hE⟩:=hrel;by_cases hlt:k<p.nums.length
  ·obtain⟨o,x,hox,hcx,hx0,hx1⟩:=Oc hp hE.ZV k hlt;obtain⟨N,rfl,hNk⟩:=hE.Wj k hlt hox;have hlen:(p.head++p.lJ k).length<=1000000:=by
    have:=vB p k;simp only[bU,aD.head,dZ,List.length_nil];omega
   have hst:Hid (p.lJ (k+1)=p.lJ k++b4 x):=Oe hox;clear hox;go_wp2_with(go_at_call 57;refine(dH (w.heap.size+1) _ x (p.head++p.lJ k) _ hx0 hx1 hE.own hE.nn hE.base hlen).mono ?_;rintro e w5 ⟨v',rfl,hown',hgrow,aah⟩);go_roundw
   case rel=>exact⟨k+1,by omega,by go_num,by rw[hst.out,<-List.append_assoc];exact hE.step hgrow hown' aah⟩
   case measure=>simp[intOf];omega
  ·obtain rfl:k=p.nums.length:=by omega
   obtain⟨_,_,_,_,_,_,_,_,_,_,c10,c11,hs,hB⟩:=id hE.ZV;clear hk hlt;go_wp2_with fail;generalize hla:p.la=la;have hE1:jo p w ao wr u4 (p.head++p.lJ p.nums.length++ic L 0):=by
    simpa only[ic,List.take_zero,List.flatMap_nil,fw]using hE
   clear hE c10 c11 hs hB;go_loopw [4,39] (λb i wx=>∃k:Nat,k<=p.ln∧i=.int .i64 k∧jo p w ao wx b (p.head++p.lJ p.nums.length++ic L k)) (λ_ i _=>p.ln - (intOf i).toNat)
   case atStart=>exact⟨0,dm _,rfl,hE1⟩
   case round=>
    clear hE1;obtain⟨k,hk,rfl,hE⟩:=hrel;by_cases hlt:k<p.ln
    ·obtain⟨hLn,hLc⟩:=hL;obtain⟨lb,lo,d,s,hpa,hlb,hds,hd0,hd1,hs0,hs1,hcd,hcs⟩:=hLc k (by omega);obtain rfl:la=some ⟨lb,lo,none⟩:=hla.symm.trans hpa;have hB:=hE.ZV.2.2.2.2.2.2.2.2.2.2.2.2.2;have hlen:(p.head++p.lJ p.nums.length++ic L k).length<=900000:=by
      have:=vB p p.nums.length;have:=C_ L k;simp only[bU,aD.head,dZ,List.length_nil];omega
     have hst:Hid (ic L (k+1)=ic L k++b4 d++b4 s):=JR hds;have afC:wr.cell? ⟨lb,lo+k * 2,none⟩=some (.int .u32 d):=(hB.cell (p:=⟨lb,lo+k * 2,none⟩) hlb).trans hcd;have hcs':wr.cell? ⟨lb,lo+k * 2+1,none⟩=some (.int .u32 s):=(hB.cell (p:=⟨lb,lo+k * 2+1,none⟩) hlb).trans hcs;have hEa:=(hE.alloc (.cells #[.int .u32 d,.int .u32 s] 237)).drew;clear hds hpa hla hcd hcs hLc hLn hB;go_wp2_with fail;go_region_held3 (FC wr.heap.size d s) (first|exact FC.start _ _ _|assumption|exact FC.grown (by assumption) hown5 pI|exact FC.grown (by assumption) hEa.own lY) (first
      |(go_at_call_of 57 (Value.int IntKind.u32 d);refine(dH (w.heap.size+1) _ d (p.head++p.lJ p.nums.length++ic L k) _ hd0 hd1 hEa.own hEa.nn hEa.base (by omega)).mono ?_;rintro e w5 ⟨v5,rfl,hown5,lY,Ca⟩)
      |(go_at_call_of 57 (Value.int IntKind.u32 s);refine(dH (w.heap.size+1) _ s (p.head++p.lJ p.nums.length++ic L k++b4 d) _ hs0 hs1 hown5 Ca (hEa.step lY hown5 Ca).base (by rw[bU,kZ];omega)).mono ?_;rintro e w6 ⟨v6,rfl,hown6,pI,Ht⟩))
     have Xw:=(hEa.step lY hown5 Ca).step pI hown6 Ht;clear hown5 lY Ca hown6 pI Ht hEa hE;go_wp2;go_roundw
     case rel=>exact⟨k+1,by omega,by go_num,by rw[hst.out,<-List.append_assoc,<-List.append_assoc];exact Xw⟩
     case measure=>simp[intOf];omega
    ·obtain rfl:k=p.ln:=by omega
     obtain⟨_,_,_,_,_,_,_,_,_,_,c10,c11,hs,hB⟩:=id hE.ZV;obtain⟨i0,hi,hz0,hz1,hz2⟩:=info_parts vL;have hlen:(p.head++p.lJ p.nums.length++ic L p.ln).length<=900000:=by
      have:=vB p p.nums.length;have:=C_ L p.ln;have:=hL.1;simp only[bU,aD.head,dZ,List.length_nil];omega
     have hbase:=hE.base;have ad6:=hE.own.lt;clear hk hlt hla;go_wp2_with(at_builtin;refine iN _ rfl _ _ 58 9 rfl (w.heap.size+1) 5 i0 (.int .u8 0) 1 1 Tryz.underlying58 hi hz0 hz1 hz2 rfl _ (p.head++p.lJ p.nums.length++ic L p.ln).length (U (p.head++p.lJ p.nums.length++ic L p.ln)) rfl hE.own hE.nn _ p.pay.size (byteCells p.pay) rfl (Src.ofString _ Tryz.underlying9 p.pay) ?c1 ?c2 ?c3 ?_)
     case c1=>unfold maxLen;omega
     case c2=>omega
     case c3=>exact hbase
     intro v' w7 hown' hgrow aah;go_wp2;go_ret2;refine⟨v',rfl,hB.grown hgrow (Nat.le_of_lt hs) (λk hk=>Nat.le_of_succ_le (ad6 k hk).1),aah,?_⟩;have hLn:L.length=p.ln:=hL.1;rw[yB,Bd]at hown';have he:yR p L=p.head++p.lJ p.nums.length++ic L p.ln++aA p.pay:=by
      simp only[yR,hLn]
     rw[he];simpa only[bU,List.append_assoc,dz,Nat.add_assoc]using hown'
def aD.dO(p:aD):aD:=
 if p.kind=1 then⟨p.ttl,1,p.hops,p.unk,p.id,p.dest,if p.unk then 0 else p.bA,p.aH,p.dQ,0,none,0,0,⟨#[]⟩⟩
 else if p.kind=2 then⟨p.ttl,2,p.hops,false,0,p.dest,p.bA,p.aH,0,p.life,none,0,0,⟨#[]⟩⟩
 else if p.kind=3 then⟨p.ttl,3,0,false,0,0,0,0,0,0,p.la,p.ln,p.lc,⟨#[]⟩⟩
 else if p.kind=9 then⟨p.ttl,9,0,false,p.id,p.dest,0,p.aH,0,0,none,0,0,p.pay⟩
 else⟨p.ttl,p.kind,0,false,0,0,0,0,0,0,none,0,0,⟨#[]⟩⟩
def Ff(p q:aD):Bool:=
 decide (p.ttl=q.ttl∧p.kind=q.kind∧p.hops=q.hops∧p.unk=q.unk∧p.id=q.id∧p.dest=q.dest∧p.bA=q.bA∧p.aH=q.aH∧p.dQ=q.dQ∧p.life=q.life∧p.pay=q.pay)
@[reducible] def InC(p : aD)(b : Nat)(W : World): Prop :=
 W.cell? ⟨b,0,none⟩=some (.int .i64 p.ttl)∧W.cell? ⟨b,1,none⟩=some (.int .i64 p.kind)∧W.cell? ⟨b,2,none⟩=some (.int .i64 p.hops)∧
 W.cell? ⟨b,3,none⟩=some (.bool p.unk)∧W.cell? ⟨b,4,none⟩=some (.int .u32 p.id)∧W.cell? ⟨b,5,none⟩=some (.int .u32 p.dest)∧
 W.cell? ⟨b,6,none⟩=some (.int .u32 p.bA)∧W.cell? ⟨b,7,none⟩=some (.int .u32 p.aH)∧W.cell? ⟨b,8,none⟩=some (.int .u32 p.dQ)∧
 W.cell? ⟨b,9,none⟩=some (.int .u32 p.life)∧W.cell? ⟨b,10,none⟩=some (.slice p.la p.ln p.lc)∧W.cell? ⟨b,11,none⟩=some (.string p.pay)
def aD.Da(p:aD):Bool:=decide (p.ln=p.dO.ln)&&Ff p p.dO
def aD.RV(p:aD):Bool:=decide (p.kind=1∨p.kind=2∨p.kind=9∨(p.kind=3∧1<=p.ln∧p.ln<=8))
theorem OX(p:aD):p.eG=(p.Da&&decide (1<=p.ttl∧p.ttl<=255)&&decide (0<=p.hops∧p.hops<=255)&&decide (p.pay.size<=16)&&p.RV):=by
 have hz:∀s:ByteArray,s=⟨#[]⟩↔ s.size=0:=λs=>⟨λh=>by rw[h];rfl,λh=>ByteArray.ext (Array.eq_empty_of_size_eq_zero h)⟩;rw[Bool.eq_iff_iff];unfold aD.eG aD.Da aD.RV Ff;have hs0:(⟨#[]⟩:ByteArray).size=0:=rfl;have he:∀s:ByteArray,s=ByteArray.empty ↔ s.size=0:=hz;by_cases h1:p.kind=1
 ·simp only[aD.l5,aD.dO,aD.cnt,oL,aD.kY,h1,hz,if_true];cases p.unk<;>simp<;>grind
 by_cases h2:p.kind=2
 ·simp[aD.l5,aD.dO,aD.cnt,oL,aD.kY,h2,hz];cases p.unk<;>simp<;>grind
 by_cases h3:p.kind=3
 ·simp[aD.l5,aD.dO,aD.cnt,oL,aD.kY,h3,hz];cases p.unk<;>simp<;>grind
 by_cases h9:p.kind=9
 ·simp[aD.l5,aD.dO,aD.cnt,oL,aD.kY,h9,hs0];cases p.unk<;>simp<;>grind
 ·simp[aD.l5,aD.dO,oL,aD.kY,h1,h2,h3,h9]
theorem uV(s:ByteArray):strOfNums (aA s)=s:=by
 apply ByteArray.ext;apply Array.ext';simp only[strOfNums,aA,List.map_map];rw[List.map_congr_left (g:=id) (λb _=>by simp)];simp
theorem fH.below{w w':World}{p:aD}{L:List (Int×Int)}(h:fH w p L)(hb:Below w.heap.size w w'):fH w' p L:=by
 refine⟨h.1,λj hj=> ?_⟩;obtain⟨lb,lo,d,s,h1,h2,h3,h4,h5,h6,h7,h8,h9⟩:=h.2 j hj;exact⟨lb,lo,d,s,h1,fZ h2 hb.size,h3,h4,h5,h6,h7,(hb.cell (p:=⟨lb,lo+j * 2,none⟩) h2).trans h8,(hb.cell (p:=⟨lb,lo+j * 2+1,none⟩) h2).trans h9⟩
variable{p:aD}
theorem jm(h:p.eG=true):p.Da=true∧1<=p.ttl∧p.ttl<=255∧0<=p.hops∧p.hops<=255∧p.pay.size<=16∧(p.kind=1∨p.kind=2∨p.kind=9∨(p.kind=3∧1<=p.ln∧p.ln<=8)):=by
 rw[OX]at h;simp only[jr,qi,aD.RV]at h;obtain⟨⟨⟨⟨h1,h2⟩,h3⟩,h4⟩,h5⟩:=h;exact⟨h1,h2.1,h2.2,h3.1,h3.2,h4,h5⟩
theorem Ai(h:p.Da=true):p.ln=p.dO.ln∧p.unk=p.dO.unk∧p.hops=p.dO.hops∧p.pay=p.dO.pay:=by
 simp only[aD.Da,Ff,jr,qi]at h;exact⟨h.1,h.2.2.2.2.1,h.2.2.2.1,h.2.2.2.2.2.2.2.2.2.2.2⟩
def bF(w:World)(ao:Option Addr)(L:List (Int×Int)):Prop:=
 ∀j,j<L.length->∃lb lo d s,ao=some ⟨lb,lo,none⟩∧lb<w.heap.size∧L[j]?=some (d,s)∧0<=d∧d<4294967296∧0<=s∧s<4294967296∧
  w.cell? ⟨lb,lo+j * 2,none⟩=some (.int .u32 d)∧w.cell? ⟨lb,lo+j * 2+1,none⟩=some (.int .u32 s)
theorem bF.below{w w':World}{ao:Option Addr}{L:List (Int×Int)}(h:bF w ao L)(hb:Below w.heap.size w w'):bF w' ao L:=by
 intro j hj;obtain⟨lb,lo,d,s,h1,h2,h3,h4,h5,h6,h7,h8,h9⟩:=h j hj;exact⟨lb,lo,d,s,h1,fZ h2 hb.size,h3,h4,h5,h6,h7,(hb.cell (p:=⟨lb,lo+j * 2,none⟩) h2).trans h8,(hb.cell (p:=⟨lb,lo+j * 2+1,none⟩) h2).trans h9⟩
theorem TU(W:World)(base:Nat)(v:Value)(xs:List Int)(h:W.ownsRow base 5 1 v xs.length (U xs))(hv:v≠ .slice none 0 0):
  (convert 58 9 v).run Tryz.prog W=.ok (.string (strOfNums xs)) W:=by
 rcases h.2 with⟨rfl,_⟩|⟨g,cap,cur,rfl,_⟩
 ·exact absurd rfl hv
 ·refine run_convert_bytes_arg (P:=Tryz.prog) W 58 5 Tryz.underlying58 Tryz.underlying5 g 0 xs.length cap xs rfl ?_ 9 Tryz.underlying9;intro i hi;rw[Nat.zero_add];rw[h.cellAt i (by simpa using hi)];simp[U,hi]
theorem Ow:(Tryz.prog.info? 237).map (λi=>(i.zero,i.size,i.bytes))=some (some (.agg #[.int .u32 0,.int .u32 0]),2,8):=by kernel_rfl
theorem Ib(p:aD)(a:Option Addr)(c:Nat):({p with la:=a,lc:=c}:aD).eG=p.eG:=by
 unfold aD.eG
 congr 1
 unfold aD.l5;dsimp only;split
 ·rfl
 split
 ·rfl
 split
 ·rfl
 split
 ·rfl
 ·rfl
def LC(L:List (Int×Int)):List Value:=L.flatMap λx=> [.int .u32 x.1,.int .u32 x.2]
theorem j_(L:List (Int×Int)):(LC L).length=L.length * 2:=by
 induction L with
 |nil=>rfl
 |cons a L ih=>
  simp only[LC,List.flatMap_cons,bU,dZ,List.length_nil]at ih ⊢;omega
theorem abx(L:List (Int×Int))(j:Nat):(LC L)[j * 2]?=(L[j]?).map (λx=>Value.int .u32 x.1)∧(LC L)[j * 2+1]?=(L[j]?).map (λx=>Value.int .u32 x.2):=by
 induction L generalizing j with
 |nil=>simp[LC]
 |cons a L ih=>
  cases j with
  |zero=>simp[LC]
  |succ j=>
   have h:=ih j;simp only[LC,List.flatMap_cons]at h ⊢;rw[show(j+1)* 2=j * 2+1+1 by omega];simpa using h
theorem nK(W:World)(a b:Addr)(v:Value)(h:b.block≠a.block):(W.setCell a v).cell? b=W.cell? b:=
 World.cell?_of_block (lV W a v b.block h)
theorem OY{p:aD}(h:p.eG=true):1<=p.kind∧p.kind<=9∧0<=p.cnt∧p.cnt<=255∧p.ln<=8:=by
 obtain⟨hl,_,_,h1,h2,h3,hk⟩:=jm h;have hln:=(Ai hl).1;unfold aD.cnt;rcases hk with hk|hk|hk|⟨hk,_,_⟩
 ·have:p.dO.ln=0:=by simp[aD.dO,hk]
  simp[hk];omega
 ·have:p.dO.ln=0:=by simp[aD.dO,hk]
  simp[hk];omega
 ·have:p.dO.ln=0:=by simp[aD.dO,hk]
  simp[hk];omega
 ·simp[hk];omega
variable{x0 x1 x2 x4:Int}{xs:List Int}{B R:Nat}{r:Option Nat}{p:aD}{A C W W':World}
theorem Rd.alloc(h:Rd R xs W)(o:Obj):Rd R xs (W.alloc o):=by
 obtain⟨v,h1,h2,hb,h3⟩:=h;have hlt:=World.block_lt_of_cell? W _ h1;refine⟨v,(World.cell?_alloc_lt _ _ _ hlt).trans h1,(World.frozen?_alloc_old W o _ (by simp at hlt ⊢;omega)).trans h2,hb,?_⟩;rcases h3 with h|⟨b,o',c,rfl,k1,k2,k3⟩
 ·exact .inl h
 ·exact .inr ⟨b,o',c,rfl,k1,k2,λj x hx=>(World.cell?_alloc_lt _ _ _ (World.block_lt_of_cell? W _ (k3 j x hx))).trans (k3 j x hx)⟩
theorem Rd.setCell(h:Rd R xs W){B:Nat}(hB:B≠R){i:Nat}(u u':Value)(hu:∀n,u≠ .int .u8 n)(hc:W.cell? ⟨B,i,none⟩=some u):Rd R xs (W.setCell ⟨B,i,none⟩ u'):=by
 obtain⟨v,h1,h2,hb,h3⟩:=h;refine⟨v,(World.cell?_setCell_other _ _ _ _ (λe=>hB (by cases e;rfl))).trans h1,(World.frozen?_setCell _ _ _ _).trans h2,hb,?_⟩;rcases h3 with h|⟨b,o',c,rfl,k1,k2,k3⟩
 ·exact .inl h
 ·refine .inr ⟨b,o',c,rfl,k1,k2,λj x hx=> ?_⟩;have hk:=k3 j x hx;rw[World.cell?_setCell_other _ _ _ _ (λe=>by rw[<-e,hc]at hk;exact hu _ (Option.some.inj hk))];exact hk
theorem Rd.drew(h:Rd R xs W):Rd R xs W.drew:=h
theorem Rd.lt(h:Rd R xs W):R<W.heap.size:=by
 obtain⟨v,h1,_⟩:=h;exact World.block_lt_of_cell? W _ h1
def PB(p:aD)(B:Nat)(W:World):Prop:=W.heap[B]?=some p.box
theorem PB.new(p:aD)(W:World):PB p W.heap.size (W.alloc p.box):=bV W _
theorem PB.lt(h:PB p B W):B<W.heap.size:=(iA.1 h).1
theorem PB.grown(h:PB p B W)(hg:W.grownBy W' (some R))(hne:B≠R):PB p B W':=(hg.block B h.lt (by simpa using hne)).trans h
theorem PB.alloc(h:PB p B W)(o:Obj):PB p B (W.alloc o):=(Below.heap_alloc W o B h.lt).trans h
theorem PB.cell(h:PB p B W):InC p B W:=by
 have k:=λi=>aJ W B i _ _ _ h;exact⟨k 0,k 1,k 2,k 3,k 4,k 5,k 6,k 7,k 8,k 9,k 10,k 11⟩
theorem PB.free(h:PB p B W)(i:Nat):W.frozen? ⟨B,i,none⟩=false:=ng W B i _ _ h
theorem PB.other(h:PB p B W){a:Addr}(ha:B≠a.block)(v:Value):PB p B (W.setCell a v):=(lV W a v B ha).trans h
def aD.zero:aD:=⟨0,0,0,false,0,0,0,0,0,0,none,0,0,⟨#[]⟩⟩
theorem PB.set(h:PB p B W)(q:aD)(i:Nat)(v:Value)(hq:Obj.cells ((#[.int .i64 p.ttl,.int .i64 p.kind,.int .i64 p.hops,.bool p.unk,.int .u32 p.id,.int .u32 p.dest,.int .u32 p.bA,.int .u32 p.aH,.int .u32 p.dQ,.int .u32 p.life,.slice p.la p.ln p.lc,.string p.pay]:Array Value).setIfInBounds i v) 73 (0,0)=q.box):
  PB q B (W.setCell ⟨B,i,none⟩ v):=by
 unfold PB;rw[heap_setCell_same W B i _ _ v h];rw[hq]
theorem bG(R:Nat)(x:Int)(ys:List Int)(W:World)(h:Rd R (x::ys) W):
  Calls Tryz.prog 84 #[.pointer (some ⟨R,0,none⟩)] W λe w'=>e=.returned (.int .i64 x)∧Rd R ys w'∧W.grownBy w' (some R):=by
 refine(Ef R _ W h).mono ?_;rintro e w' (⟨x',ys',hx,_,_,rfl,h1,h2,_⟩|⟨hx,_⟩)
 ·obtain⟨rfl,rfl⟩:=List.cons.inj hx;exact⟨rfl,h1,h2⟩
 ·cases hx
theorem vz(R:Nat)(W:World)(h:Rd R [] W):
  Calls Tryz.prog 84 #[.pointer (some ⟨R,0,none⟩)] W λe w'=>e=.panicked broken∧w'=W:=by
 refine(Ef R _ W h).mono ?_;rintro e w' (⟨x',ys',hx,_⟩|⟨_,rfl,rfl⟩)
 ·cases hx
 ·exact⟨rfl,rfl⟩
def num(r:List Int)(i:Nat):Int:=n4 (r.getD (4 * i) 0) (r.getD (4 * i+1) 0) (r.getD (4 * i+2) 0) (r.getD (4 * i+3) 0)
def jd(x0 x1 x2 x4:Int)(r:List Int):aD:=
 if x1=1 then⟨x0,1,x4,x2==8,num r 0,num r 1,num r 2,num r 3,num r 4,0,none,0,0,⟨#[]⟩⟩
 else if x1=2 then⟨x0,2,x4,x2==8,0,num r 0,num r 1,num r 2,0,num r 3,none,0,0,⟨#[]⟩⟩
 else if x1=3 then⟨x0,3,0,x2==8,0,0,0,0,0,0,none,x4.toNat,0,⟨#[]⟩⟩
 else if x1=9 then⟨x0,9,0,x2==8,num r 0,num r 1,0,num r 2,0,0,none,0,0,strOfNums ((r.drop 12).take x4.toNat)⟩
 else⟨x0,x1,0,x2==8,0,0,0,0,0,0,none,0,0,⟨#[]⟩⟩
def qJ(n:Nat)(r:List Int):List (Int×Int):=(List.range n).map λi=>(num r (2 * i),num r (2 * i+1))
def pF(x1 x4:Int)(r:List Int):List (Int×Int):=if x1=3 then qJ x4.toNat r else []
def eZ(x1 x4:Int):Nat:=if x1=1 then 20 else if x1=2 then 16 else if x1=3 then 8 * x4.toNat else if x1=9 then 12+x4.toNat else 0
def Ey(xs:List Int):Bool:=
 match xs with
 |x0::x1::x2::x3::x4::r=>decide (x2=0∨x2=8)&&decide (x3=0)&&decide (r.length=eZ x1 x4)&&(jd x0 x1 x2 x4 r).eG
 |_=>false
theorem vM{B:World}(h:A.grownBy B r)(k:B.grownBy C r):A.grownBy C r:=
 ⟨k.os.trans h.os,k.tape.trans h.tape,k.output.trans h.output,dN h.size k.size,λi hi hne=>(k.block i (fZ hi h.size) hne).trans (h.block i hi hne)⟩
theorem fQ{x3:Int}{r:List Int}(h:r.length≠eZ x1 x4):Ey (x0::x1::x2::x3::x4::r)=false:=by
 simp[Ey,h]
theorem wZ{r:List Int}(hf:x2=0∨x2=8)(h:r.length=eZ x1 x4):Ey (x0::x1::x2::0::x4::r)=(jd x0 x1 x2 x4 r).eG:=by
 simp[Ey,h,hf]
theorem Rd.bytes(h:Rd R xs W):∀x∈xs,0<=x∧x<=255:=by
 obtain⟨_,_,_,hb,_⟩:=h;exact hb
theorem uh{a b c d:Int}(ha:0<=a∧a<=255)(hb:0<=b∧b<=255)(hc:0<=c∧c<=255)(hd:0<=d∧d<=255):0<=n4 a b c d∧n4 a b c d<4294967296:=by
 unfold n4;omega
theorem PB.below(h:PB p B W)(hb:Below W.heap.size W W'):PB p B W':=(hb.block B h.lt).trans h
theorem fV{B:World}(h:A.grownBy B r)(k:Below B.heap.size B C):A.grownBy C r:=
 vM h ⟨k.os,k.tape,k.output,k.size,λi hi _=>k.block i hi⟩
def Reads(xs:List Int)(v:Value)(W:World)(N:Nat):Prop:=
 ∃x0 x1 x2 x3 x4 r ao c,xs=x0::x1::x2::x3::x4::r∧v=({jd x0 x1 x2 x4 r with la:=ao,lc:=c}:aD).val∧
  (pF x1 x4 r).length=(jd x0 x1 x2 x4 r).ln∧bF W ao (pF x1 x4 r)∧∀b,ao=some b->N<=b.block
def jS(R:Nat)(xs:List Int)(W:World)(e:Ending)(w':World):Prop:=
 W.grownBy w' (some R)∧((Ey xs=true∧∃v,e=.returned v∧Reads xs v w' W.heap.size)∨(Ey xs=false∧e=.panicked broken))
theorem ak{B:World}(h:A.grownBy B r)(k:B.grownBy C r):A.grownBy C r:=vM h k
theorem uy{B:World}(h:A.grownBy B r):A.grownBy B.drew r:=⟨h.os,h.tape,h.output,h.size,h.block⟩
theorem bq{B:World}(h:A.grownBy B r){a:Addr}(ha:A.heap.size<=a.block)(v:Value):A.grownBy (B.setCell a v) r:=
 ⟨h.os,h.tape,h.output,by simpa using h.size,λi hi hne=>(lV B a v i (by omega)).trans (h.block i hi hne)⟩
@[reducible] def dG(w : World)(C : Nat)(p : aD): World :=
 ((((((((((((w.setCell ⟨C,0,none⟩ (.int .i64 p.ttl)).setCell ⟨C,1,none⟩ (.int .i64 p.kind)).setCell ⟨C,2,none⟩ (.int .i64 p.hops)).setCell ⟨C,3,none⟩ (.bool p.unk)).setCell ⟨C,4,none⟩ (.int .u32 p.id)).setCell ⟨C,5,none⟩ (.int .u32 p.dest)).setCell ⟨C,6,none⟩ (.int .u32 p.bA)).setCell ⟨C,7,none⟩ (.int .u32 p.aH)).setCell ⟨C,8,none⟩ (.int .u32 p.dQ)).setCell ⟨C,9,none⟩ (.int .u32 p.life)).setCell ⟨C,10,none⟩ (.slice p.la p.ln p.lc)).setCell ⟨C,11,none⟩ (.string p.pay))
theorem PB.storeAll{z:aD}{C:Nat}{w:World}(h:PB z C w)(p:aD):PB p C (dG w C p):=by
 have h0:=PB.set h ⟨p.ttl,z.kind,z.hops,z.unk,z.id,z.dest,z.bA,z.aH,z.dQ,z.life,z.la,z.ln,z.lc,z.pay⟩ 0 (.int .i64 p.ttl) rfl;have h1:=PB.set h0 ⟨p.ttl,p.kind,z.hops,z.unk,z.id,z.dest,z.bA,z.aH,z.dQ,z.life,z.la,z.ln,z.lc,z.pay⟩ 1 (.int .i64 p.kind) rfl;have h2:=PB.set h1 ⟨p.ttl,p.kind,p.hops,z.unk,z.id,z.dest,z.bA,z.aH,z.dQ,z.life,z.la,z.ln,z.lc,z.pay⟩ 2 (.int .i64 p.hops) rfl;have h3:=PB.set h2 ⟨p.ttl,p.kind,p.hops,p.unk,z.id,z.dest,z.bA,z.aH,z.dQ,z.life,z.la,z.ln,z.lc,z.pay⟩ 3 (.bool p.unk) rfl;have h4:=PB.set h3 ⟨p.ttl,p.kind,p.hops,p.unk,p.id,z.dest,z.bA,z.aH,z.dQ,z.life,z.la,z.ln,z.lc,z.pay⟩ 4 (.int .u32 p.id) rfl;have h5:=PB.set h4 ⟨p.ttl,p.kind,p.hops,p.unk,p.id,p.dest,z.bA,z.aH,z.dQ,z.life,z.la,z.ln,z.lc,z.pay⟩ 5 (.int .u32 p.dest) rfl;have h6:=PB.set h5 ⟨p.ttl,p.kind,p.hops,p.unk,p.id,p.dest,p.bA,z.aH,z.dQ,z.life,z.la,z.ln,z.lc,z.pay⟩ 6 (.int .u32 p.bA) rfl;have h7:=PB.set h6 ⟨p.ttl,p.kind,p.hops,p.unk,p.id,p.dest,p.bA,p.aH,z.dQ,z.life,z.la,z.ln,z.lc,z.pay⟩ 7 (.int .u32 p.aH) rfl;have h8:=PB.set h7 ⟨p.ttl,p.kind,p.hops,p.unk,p.id,p.dest,p.bA,p.aH,p.dQ,z.life,z.la,z.ln,z.lc,z.pay⟩ 8 (.int .u32 p.dQ) rfl;have h9:=PB.set h8 ⟨p.ttl,p.kind,p.hops,p.unk,p.id,p.dest,p.bA,p.aH,p.dQ,p.life,z.la,z.ln,z.lc,z.pay⟩ 9 (.int .u32 p.life) rfl;have h10:=PB.set h9 ⟨p.ttl,p.kind,p.hops,p.unk,p.id,p.dest,p.bA,p.aH,p.dQ,p.life,p.la,p.ln,p.lc,z.pay⟩ 10 (.slice p.la p.ln p.lc) rfl;have h11:=PB.set h10 ⟨p.ttl,p.kind,p.hops,p.unk,p.id,p.dest,p.bA,p.aH,p.dQ,p.life,p.la,p.ln,p.lc,p.pay⟩ 11 (.string p.pay) rfl;exact h11
theorem lM{B:World}(h:A.grownBy B r){C:Nat}(hC:A.heap.size<=C)(p:aD):A.grownBy (dG B C p) r:=
 bq (bq (bq (bq (bq (bq (bq (bq (bq (bq (bq (bq h hC _) hC _) hC _) hC _) hC _) hC _) hC _) hC _) hC _) hC _) hC _) hC _
open Go.Maps
variable{a:qh}{bg:List (Bool×Int×Int)}{aO aF:List (Int×ByteArray)}{aP:List Int}{B:Nat}{W W7:World}
theorem WY:(Tryz.prog.info? 77).map (λi=>(i.zero,i.size,i.bytes))=some (some (.agg #[.int .u32 0,.string ⟨#[]⟩]),2,24):=by kernel_rfl
theorem WX:(Tryz.prog.info? 195).map (λi=>(i.zero,i.size,i.bytes))=some (some (.int .i64 0),1,8):=by kernel_rfl
def pR(p:aD)(L:List (Int×Int)):List Int:=if p.eG then yR p L else []
theorem UW(p:aD)(hp:p.Wf)(L:List (Int×Int))(w:World)(hL:fH w p L):
  Calls Tryz.prog 117 #[p.val] w λe w'=>∃a n c er,e=.returned (.tuple #[.slice a n c,.int .i64 er])∧Below w.heap.size w w'∧∀W,Below w'.heap.size w' W->(convert 58 9 (.slice a n c)).run Tryz.prog W=.ok (.string (strOfNums (pR p L))) W:=by
 cases hg:p.eG
 ·refine(KP p hp hg w).mono ?_;rintro e w' ⟨rfl,hb⟩;refine⟨none,0,0,1,rfl,hb,λW _=> ?_⟩;have:pR p L=[]:=by simp[pR,hg]
  rw[this];exact run_convert_bytes_nil (P:=Tryz.prog) W 58 5 Tryz.underlying58 Tryz.underlying5 0 0 9 Tryz.underlying9
 ·obtain⟨h1,h2,h3,h4,h5⟩:=OY hg;obtain⟨_,k1,k2,_,_,k3,_⟩:=jm hg;refine(I4 p hp hg (by omega) (by omega) h1 h2 h3 h4 h5 (by omega) L w hL).mono ?_;rintro e w' ⟨v,rfl,hb,hv,ho⟩;obtain⟨g,cap,rfl,_⟩:=CR ho hv;refine⟨_,_,_,0,rfl,hb,λW hW=> ?_⟩;have:pR p L=yR p L:=by simp[pR,hg]
  rw[this];exact TU W _ _ _ (aN ho hW) hv
theorem TY(W:World)(r:Int):∀(j:Nat) (u:Value),(Jj [r])[j]?=some u->(W.alloc (.cells #[.int .i64 r] 195)).cell? ((⟨W.heap.size,0,none⟩:Addr).add j)=some u:=by
 intro j u hj;have h:=bV W (.cells #[.int .i64 r] 195);rw[Addr.add_lit,Nat.zero_add]
 match j,hj with
 |0,hj=>exact(aJ _ _ 0 _ _ _ h).trans hj
 |j+1,hj=>simp[Jj]at hj
theorem Zz(L:List Int):∀u∈Jj L,u.oneCell'=true:=by
 intro u hu;simp only[Jj,dW]at hu;obtain⟨y,_,rfl⟩:=hu;rfl
theorem T9(W:World)(t:Int)(s:ByteArray):∀(j:Nat) (u:Value),(uH [(t,s)])[j]?=some u->(W.alloc (.cells #[.int .u32 t,.string s] 77)).cell? ((⟨W.heap.size,0,none⟩:Addr).add j)=some u:=by
 intro j u hj;have h:=bV W (.cells #[.int .u32 t,.string s] 77);rw[Addr.add_lit,Nat.zero_add]
 match j,hj with
 |0,hj=>exact(aJ _ _ 0 _ _ _ h).trans hj
 |1,hj=>exact(aJ _ _ 1 _ _ _ h).trans hj
 |j+2,hj=>simp[uH]at hj
theorem Rf(L:List (Int×ByteArray)):∀u∈uH L,u.oneCell'=true:=by
 intro u hu;simp only[uH,List.mem_flatMap,fE,List.not_mem_nil,or_false]at hu;obtain⟨y,_,rfl|rfl⟩:=hu<;>rfl
theorem jP.alloc{base:Nat}(h:jP B base a bg aF aO aP W)(o:Obj):jP B base a bg aF aO aP (W.alloc o):=h.later ((aV _ _).alloc (aB _) o)
theorem jP.drew{base:Nat}(h:jP B base a bg aF aO aP W):jP B base a bg aF aO aP W.drew:=h.later (aV _ _).drew
theorem jP.drops{base:Nat}{aa1:List Int}(h:jP B base a bg aF aO aP W){v7:Value}(ho:W7.ownsRow base 195 1 v7 aa1.length (Jj aa1))(hg:W.grownBy W7 a.bP.ownBlock):
  oU B a W7∧jP B base {a with bP:=v7} bg aF aO aa1 (W7.setCell ⟨B,6,none⟩ v7)∧Fx (jL B a) W (W7.setCell ⟨B,6,none⟩ v7):=by
 have hBr:a.bP.ownBlock≠some B:=aL h.bP h.blk (λc e=>(by cases e));have jq:oU B a W7:=h.blk.block (hg.block _ h.blk.lt (λe=>hBr e.symm));have hg2:W7.grownBy (W7.setCell ⟨B,6,none⟩ v7) (some B):=ah (aC _ (some B)) 6 v7;have f1:=h.aH.kept hg (bX h.aH h.bP (by decide));have f2:=h.bO.kept hg (bX h.bO h.bP (by decide));have f3:=h.nV.kept hg (bX h.nV h.bP (by decide));exact⟨jq,⟨jq.Zn v7,f3.kept hg2 (.inr (aL f3 jq (λc e=>(by cases e)))),f1.kept hg2 (.inr (aL f1 jq (λc e=>(by cases e)))),f2.kept hg2 (.inr (aL f2 jq (λc e=>(by cases e)))),ho.kept hg2 (.inr (aL ho jq (λc e=>(by cases e))))⟩,
  aW (Fx.grown hg λk e=> .inr (.inr (.inr (.inr e)))) hg2 λi _ e=>by cases e;exact .inl rfl⟩
theorem jP.sends{base:Nat}{aaT:List (Int×ByteArray)}(h:jP B base a bg aF aO aP W){v7:Value}(ho:W7.ownsRow base 77 2 v7 aaT.length (uH aaT))(hg:W.grownBy W7 a.aH.ownBlock):
  oU B a W7∧jP B base {a with aH:=v7} bg aaT aO aP (W7.setCell ⟨B,4,none⟩ v7)∧Fx (jL B a) W (W7.setCell ⟨B,4,none⟩ v7):=by
 have hBr:a.aH.ownBlock≠some B:=aL h.aH h.blk (λc e=>(by cases e));have jq:oU B a W7:=h.blk.block (hg.block _ h.blk.lt (λe=>hBr e.symm));have hg2:W7.grownBy (W7.setCell ⟨B,4,none⟩ v7) (some B):=ah (aC _ (some B)) 4 v7;have f1:=h.bP.kept hg (bX h.bP h.aH (by decide));have f2:=h.bO.kept hg (bX h.bO h.aH (by decide));have f3:=h.nV.kept hg (bX h.nV h.aH (by decide));exact⟨jq,⟨jq.Zm v7,f3.kept hg2 (.inr (aL f3 jq (λc e=>(by cases e)))),ho.kept hg2 (.inr (aL ho jq (λc e=>(by cases e)))),f2.kept hg2 (.inr (aL f2 jq (λc e=>(by cases e)))),f1.kept hg2 (.inr (aL f1 jq (λc e=>(by cases e))))⟩,
  aW (Fx.grown hg λk e=> .inr (.inr (.inl e))) hg2 λi _ e=>by cases e;exact .inl rfl⟩
theorem Im(B base:Nat)(a:qh)(bg:List (Bool×Int×Int))(aF aO:List (Int×ByteArray))(aP:List Int)(r:Int)(w:World)(ha:jP B base a bg aF aO aP w)(hbs:base<=w.heap.size)(hd:aP.length<=1000000):
  Calls Tryz.prog 92 #[.pointer (some ⟨B,0,none⟩),.int .i64 r] w λe w'=>∃v7,e=.returned (.tuple #[])∧jP B base {a with bP:=v7} bg aF aO (aP++ [r]) w'∧Fx (jL B a) w w':=by
 obtain⟨i0,hi,hz0,hz1,hz2⟩:=info_parts WX;have jE:Below w.heap.size w (w.alloc (.cells #[.int .i64 r] 195)):=bC;have ha1:=ha.alloc (.cells #[.int .i64 r] 195);have hcr:=TY w r;have hrow:=ha1.bP;obtain⟨c0,c1,c2,c3,c4,c5,c6⟩:=ha.blk.cell;go_enter Tryz.func92,Tryz.ntmps92;go_wp2_with(at_builtin;refine wpList_append_own_at _ rfl _ _ 50 rfl base 195 i0 (.int .i64 0) 1 8 Tryz.underlying50 hi hz0 hz1 hz2 rfl (by decide) a.bP aP.length (Jj aP) rfl hrow ⟨w.heap.size,0,none⟩ 1 1 (Jj [r]) rfl rfl hcr (Zz [r]) (by unfold maxLen;omega) (by omega) ?c3 ?_)
 case c3=>simp;omega
 intro v7 w7 ig gQ _ _;rw[<-KQ]at ig;have hll:aP.length+1=(aP++ [r]).length:=by simp
 rw[hll]at ig;obtain⟨jq,hm,hf⟩:=ha1.drops ig gQ;have hf':=(Fx.below (S:=jL B a) jE).trans hf (λi _ h=>h);obtain⟨d0,d1,d2,d3,d4,d5,d6⟩:=jq.cell;have g6:=jq.free 6;obtain⟨Qc,Ua,hv7,_⟩:=ax ig;generalize (aP++ [r]).length=nn at hv7;subst hv7;clear hll hrow hcr c0 c1 c2 c3 c4 c5 c6 ha1 jq gQ ig;go_wp2;go_returns;exact⟨_,rfl,hm,hf'⟩
theorem zP(B base:Nat)(a:qh)(bg:List (Bool×Int×Int))(aF aO:List (Int×ByteArray))(aP:List Int)(tt:Int)(p:aD)(hp:p.Wf)(L:List (Int×Int))(w:World)(ha:jP B base a bg aF aO aP w)(hbs:base<=w.heap.size)(hd:aF.length<=1000000)(hL:fH w p L):
  Calls Tryz.prog 80 #[.pointer (some ⟨B,0,none⟩),.int .u32 tt,p.val] w λe w'=>∃v7,e=.returned (.tuple #[])∧jP B base {a with aH:=v7} bg (aF++ [(tt,strOfNums (pR p L))]) aO aP w'∧Fx (jL B a) w w':=by
 obtain⟨i0,hi,hz0,hz1,hz2⟩:=info_parts WY;have hb0:Below w.heap.size w (w.alloc p.box):=bC;have hP:=PB.new p w;have HE:=(show Hid _ from λW hW=>UW p hp L W (hL.below hW));dsimp only[aD.box]at hb0;unfold PB at hP;dsimp only[aD.box]at hP;go_enter Tryz.func80,Tryz.ntmps80;go_upto_region 1 with(fail);generalize World.alloc _ _=W1 at hb0 hP ⊢;generalize w.heap.size=C at hP ⊢;obtain⟨b0,b1,b2,b3,b4,b5,b6,b7,b8,b9,b10,b11⟩:=PB.cell (show PB p C W1 from hP);go_wp2_with fail;refine aU (HE.out W1 hb0) ?_;rintro e w2 ⟨ea,en,ec,er,rfl,hb2,hcv⟩;have hbb:=hb0.trans (hb2.mono hb0.size);have ha2:=ha.later hbb;have aep:=hcv w2 (aV _ _);have aeo:=hcv w2.drew (aV _ _).drew;generalize hss:strOfNums (pR p L)=ss at aep aeo;have adS:=(show Hid _ from hss);clear hss hcv hb0 hb2 hP b0 b1 b2 b3 b4 b5 b6 b7 b8 b9 b10 b11 HE;have hz:=hbb.size;have c4:=ha2.blk.cell.2.2.2.2.1;have haT:=λo=>(ha2.alloc o).blk.cell.2.2.2.2.1;have hrow:=λo=>(ha2.alloc o).drew.aH;have hcf:=λW=>T9 W tt ss;have jE:Hid (∀o:Obj,base<=(w2.alloc o).drew.heap.size):=by
  intro o;show base<=(w2.alloc o).heap.size;rw[World.size_alloc];omega
 have HF:Hid (∀v7 w7,w7.ownsRow base 77 2 v7 (aF.length+1) (uH aF++uH [(tt,ss)])->(w2.alloc (.cells #[.int .u32 tt,.string ss] 77)).drew.grownBy w7 a.aH.ownBlock->(w7.cell? ⟨B,4,none⟩=some a.aH∧w7.frozen? ⟨B,4,none⟩=false)∧jP B base {a with aH:=v7} bg (aF++ [(tt,ss)]) aO aP (w7.setCell ⟨B,4,none⟩ v7)∧Fx (jL B a) w (w7.setCell ⟨B,4,none⟩ v7)):=by
  intro v7 w7 ig gQ;rw[<-Bv,show aF.length+1=(aF++ [(tt,ss)]).length by simp]at ig;have hb3:Below w2.heap.size w2 (w2.alloc (.cells #[.int .u32 tt,.string ss] 77)).drew:=(bC).drew;obtain⟨jq,hm,hf⟩:=(ha2.later hb3).sends ig gQ;exact⟨⟨jq.cell.2.2.2.2.1,jq.free 4⟩,hm,((Fx.below (S:=jL B a) hbb).trans (Fx.below (S:=jL B a) hb3) (λ_ _ h=>h)).trans hf (λ_ _ h=>h)⟩
 clear ha ha2 hbb;go_wp2_with fail;go_region_law (refine gW rfl (.tmp 18) (.tmp 23) 48 rfl base 77 i0 (.agg #[.int .u32 0,.string ⟨#[]⟩]) 2 24 Tryz.underlying48 hi hz0 hz1 hz2 rfl (by decide) a.aH aF.length (uH aF) (by simp[Act.eval]) (hrow _) ⟨_,0,none⟩ 1 1 (uH [(tt,ss)]) (by simp[Act.eval]) rfl (hcf _) (Rf _) (by unfold maxLen;omega) (by omega) (jE.out _) ?_;intro v7 w7 ig gQ _;obtain⟨⟨g1,g2⟩,hm,hf⟩:=HF.out _ _ ig gQ;obtain⟨Qc,Ua,rfl,_⟩:=ax ig)
 all_goals
  rw[<-adS.out]at hm;generalize World.setCell _ _ _=w8 at hm hf ⊢;clear g1 g2 gQ ig;go_wp2;go_returns;exact⟨_,rfl,hm,hf⟩
def eP(A:List Rt)(d:Int):Int:=((aK A d).map (·.seq)).getD 0
theorem FW{me:Int}{T M:Nat}{f:Int->Option Nat}{g:Int->Value}{A:List Rt}{w:World}(h:MT me T M f g A w)(d:Int)(hd:a_ d):
  Calls Tryz.prog 157 #[.pointer (some ⟨T,0,none⟩),.int .u32 d] w λe w'=>e=.returned (.tuple #[.int .u32 (eP A d),.bool (aK A d).isSome])∧w'=w:=by
 obtain⟨t0,t1⟩:=h.blk.cell;have hlk:=h.map.look hd;cases hl:aK A d with
 |none=>
  rw[h.off hd hl]at hlk;simp only[gJ]at hlk;have hn:eP A d=0:=by simp[eP,hl]
  rw[hn];clear h hn hl;go_enter Tryz.func157,Tryz.ntmps157;go_wp2;go_ret2;exact⟨rfl,rfl⟩
 |some x=>
  obtain⟨_,_,B,hB,hL,_⟩:=h.line hl;rw[hB]at hlk;simp only[gJ]at hlk;obtain⟨b0,b1,b2,b3,b4,b5,b6⟩:=hL.cell;have hn:eP A d=x.seq:=by simp[eP,hl]
  rw[hn];clear h hn hl hL hB;go_enter Tryz.func157,Tryz.ntmps157;go_wp2;go_ret2;exact⟨rfl,rfl⟩
theorem CY(N:Nat)(x:mX){M:Nat}{ff:Int->Option Nat}{gg:Int->Value}{A:List Rt}{f:Int->Option Int}{sz:Nat}{w:World}(hn:Fu N x M ff gg A f sz w)(d:Int)(hd:a_ d):
  Calls Tryz.prog 159 #[.pointer (some ⟨N,0,none⟩),.int .u32 d] w λe w'=>e=.returned (.agg #[.int .u32 d,.int .u32 (eP A d)])∧Below w.heap.size w w':=by
 have hb0:Below w.heap.size w (w.alloc (.cells #[.int .u32 0,.int .u32 0] 237)):=bC;have hn1:=hn.later hb0;have hC:(w.alloc (.cells #[.int .u32 0,.int .u32 0] 237)).heap[w.heap.size]?=some (.cells #[.int .u32 0,.int .u32 0] 237):=bV _ _;go_enter Tryz.func159,Tryz.ntmps159;go_upto_region 1 with(fail);generalize World.alloc _ _=W1 at hb0 hn1 hC ⊢;obtain⟨n0,n2,n3,n4,n5,n6,n7,n8,n9,n10⟩:=hn1.nd.cell;have q0:W1.cell? ⟨w.heap.size,0,none⟩=some (.int .u32 0):=aJ W1 w.heap.size 0 _ _ _ hC;have q1:W1.cell? ⟨w.heap.size,1,none⟩=some (.int .u32 0):=aJ W1 w.heap.size 1 _ _ _ hC;have f0:=ng W1 w.heap.size 0 _ _ hC;have f1:=ng W1 w.heap.size 1 _ _ hC;go_wp2_with fail;refine aU (FW hn1.tb d hd) ?_;rintro e w2 ⟨rfl,rfl⟩;have hb2:Below w.heap.size w ((w2.setCell ⟨w.heap.size,0,none⟩ (.int .u32 d)).setCell ⟨w.heap.size,1,none⟩ (.int .u32 (eP A d))):=(hb0.setCell (p:=⟨w.heap.size,0,none⟩) (aB _) _).setCell (p:=⟨w.heap.size,1,none⟩) (aB _) _;have hC2:((w2.setCell ⟨w.heap.size,0,none⟩ (.int .u32 d)).setCell ⟨w.heap.size,1,none⟩ (.int .u32 (eP A d))).heap[w.heap.size]?=some (.cells #[.int .u32 d,.int .u32 (eP A d)] 237):=by
  simp[World.setCell,d_,hC]
 clear hn1 n0 n2 n3 n4 n5 n6 n7 n8 n9 n10;go_wp2;generalize World.setCell _ _ _=W3 at hb2 hC2 ⊢;have p0:W3.cell? ⟨w.heap.size,0,none⟩=some (.int .u32 d):=aJ W3 w.heap.size 0 _ _ _ hC2;have p1:W3.cell? ⟨w.heap.size,1,none⟩=some (.int .u32 (eP A d)):=aJ W3 w.heap.size 1 _ _ _ hC2;exact bodyPost_ret (v:=.agg #[.int .u32 d,.int .u32 (eP A d)]) (by simp[results,Tryz.results159,go_sem,p0,p1]) rfl ⟨rfl,hb2⟩
def ZM(n:Nat):aD:=⟨1,3,0,false,0,0,0,0,0,0,none,n,0,⟨#[]⟩⟩
theorem ZL(n:Nat)(hn:n<=65536)(ao:Option Addr)(c:Nat):({ZM n with la:=ao,lc:=c}:aD).Wf:=by
 have hz:(⟨#[]⟩:ByteArray).size=0:=rfl;constructor<;>(dsimp only[ZM];omega)
theorem MN(p:aD)(ao:Option Addr)(c:Nat)(L:List (Int×Int)):pR {p with la:=ao,lc:=c} L=pR p L:=by
 unfold pR;rw[Ib];rfl
def lsB(L:List (Int×Int)):ByteArray:=strOfNums (pR (ZM L.length) L)
def P7(tt:Int)(L:List (Int×Int)):List (Int×ByteArray):=if L.length=0 then []else [(tt,lsB L)]
theorem GX(B base:Nat)(a:qh)(bg:List (Bool×Int×Int))(aF aO:List (Int×ByteArray))(aP:List Int)(tt:Int)(ao:Option Addr)(c:Nat)(L:List (Int×Int))(w:World)(ha:jP B base a bg aF aO aP w)(hbs:base<=w.heap.size)(hd:aF.length<=1000000)(hn:L.length<=65536)(hL:bF w ao L):
  Calls Tryz.prog 137 #[.pointer (some ⟨B,0,none⟩),.int .u32 tt,.slice ao L.length c] w λe w'=>∃v7,e=.returned (.tuple #[])∧jP B base {a with aH:=v7} bg (aF++P7 tt L) aO aP w'∧Fx (jL B a) w w':=by
 by_cases h0:L.length=0
 ·have hf:P7 tt L=[]:=by simp[P7,h0]
  rw[hf,fw];rw[h0];clear hf;go_enter Tryz.func137,Tryz.ntmps137;go_wp2;go_returns;exact⟨a.aH,rfl,ha,Fx.refl _ _⟩
 ·have hf:P7 tt L=[(tt,strOfNums (pR {ZM L.length with la:=ao,lc:=c} L))]:=by
   rw[MN];simp[P7,h0,lsB]
  have hpos:(0:Int)<(L.length:Int):=by omega
  rw[hf];have HS:=(show Hid _ from zP B base a bg aF aO aP tt {ZM L.length with la:=ao,lc:=c} (ZL _ hn ao c) L w ha hbs hd ⟨rfl,hL⟩);clear hf hL;dsimp only[ZM,aD.val]at HS;go_enter Tryz.func137,Tryz.ntmps137;go_wp2_with fail;refine aU HS.out ?_;rintro e w' ⟨v7,rfl,h1,h2⟩;go_wp2;go_returns;exact⟨v7,rfl,h1,h2⟩
theorem GY(N B base:Nat)(x:mX)(a:qh){M:Nat}{ff:Int->Option Nat}{gg:Int->Value}{A:List Rt}{f:Int->Option Int}{sz:Nat}(bg:List (Bool×Int×Int))(aF aO:List (Int×ByteArray))(aP:List Int)(tt d:Int)(hd:a_ d)(w:World)(hn:Fu N x M ff gg A f sz w)(ha:jP B base a bg aF aO aP w)(hbs:base<=w.heap.size)(hfl:aF.length<=1000000):
  Calls Tryz.prog 129 #[.pointer (some ⟨N,0,none⟩),.pointer (some ⟨B,0,none⟩),.int .u32 tt,.int .u32 d] w λe w'=>∃v7,e=.returned (.tuple #[])∧jP B base {a with aH:=v7} bg (aF++ [(tt,lsB [(d,eP A d)])]) aO aP w'∧Fx (jL B a) w w':=by
 have hs:a_ (eP A d):=by
  unfold eP;cases hl:aK A d with
  |none=>exact⟨by simp,by simp⟩
  |some y=>exact(hn.tb.ok y (dA hl).1).seq
 have HL:=(show Hid _ from CY N x hn d hd);have HS:Hid (∀w1,Below w.heap.size w w1->Calls Tryz.prog 137 #[.pointer (some ⟨B,0,none⟩),.int .u32 tt,.slice (some ⟨w1.heap.size,0,none⟩) 1 1] (w1.alloc (.cells #[.int .u32 d,.int .u32 (eP A d)] 237)) λe w'=>∃v7,e=.returned (.tuple #[])∧jP B base {a with aH:=v7} bg (aF++ [(tt,lsB [(d,eP A d)])]) aO aP w'∧Fx (jL B a) w w'):=by
  intro w1 hb;have hb2:Below w.heap.size w (w1.alloc (.cells #[.int .u32 d,.int .u32 (eP A d)] 237)):=hb.alloc hb.size _;have hH:bF (w1.alloc (.cells #[.int .u32 d,.int .u32 (eP A d)] 237)) (some ⟨w1.heap.size,0,none⟩) [(d,eP A d)]:=by
   intro j hj;have hj0:j=0:=by simpa using hj
   subst hj0;have hC:=bV w1 (.cells #[.int .u32 d,.int .u32 (eP A d)] 237);unfold a_ at hd hs;exact⟨w1.heap.size,0,d,eP A d,rfl,by simp,rfl,hd.1,by omega,hs.1,by omega,aJ _ _ 0 _ _ _ hC,aJ _ _ 1 _ _ _ hC⟩
  refine(GX B base a bg aF aO aP tt (some ⟨w1.heap.size,0,none⟩) 1 [(d,eP A d)] _ (ha.later hb2) (dN hbs hb2.size) hfl (by simp) hH).mono ?_;rintro e w' ⟨v7,rfl,h1,h2⟩;exact⟨v7,rfl,h1,(Fx.below (S:=jL B a) hb2).trans h2 (λ_ _ h=>h)⟩
 clear hn ha;go_enter Tryz.func129,Tryz.ntmps129;go_wp2_with fail;refine aU HL.out ?_;rintro e w1 ⟨rfl,hb1⟩;go_wp2_with fail;refine aU (HS.out w1 hb1) ?_;rintro e w' ⟨v7,rfl,h1,h2⟩;go_wp2;go_returns;exact⟨v7,rfl,h1,h2⟩
def yY(N:Nat)(x:mX)(M:Nat)(ff:Int->Option Nat)(gg:Int->Value)(A:List Rt)(k:Nat):Prop:=k=N∨k=x.Mo∨mZ x.T M ff gg A k
def FO(now:Int):qh:=⟨now,.slice none 0 0,⟨#[]⟩,false,.slice none 0 0,.slice none 0 0,.slice none 0 0⟩
theorem jP.zero(now:Int)(W:World):jP W.heap.size (W.heap.size+1) (FO now) [] [] [] [] (W.alloc (oN (FO now))):=
 ⟨bV _ _,⟨rfl,.inl ⟨rfl,rfl⟩⟩,⟨rfl,.inl ⟨rfl,rfl⟩⟩,⟨rfl,.inl ⟨rfl,rfl⟩⟩,⟨rfl,.inl ⟨rfl,rfl⟩⟩⟩
theorem Pq(N:Nat)(x:mX){M:Nat}{ff:Int->Option Nat}{gg:Int->Value}{A:List Rt}{f:Int->Option Int}{sz:Nat}(now:Int)(w:World)(hn:Fu N x M ff gg A f sz w)(hcnt:0<=x.cnt∧x.cnt<=1000000)(hsz:sz<=1000000):
  Calls Tryz.prog 51 #[.pointer (some ⟨N,0,none⟩),.int .u64 now] w λe w'=>∃xB v7 sz',e=.returned (.pointer (some ⟨w.heap.size,0,none⟩))∧Fu N {x with own:=Jc x.seq x.own,cnt:=x.cnt+(bK x.seq x.own f (iF A now)).2.length} M ff xB (iF A now) (bK x.seq x.own f (iF A now)).1 sz' w'∧sz'<=sz+8∧jP w.heap.size (w.heap.size+1) {FO now with nV:=v7} (bK x.seq x.own f (iF A now)).2 [] [] [] w'∧(∀k,yY N x M ff xB (iF A now) k->yY N x M ff gg A k)∧Fx (yY N x M ff gg A) w w':=by
 have hb0:Below w.heap.size w (w.alloc (oN (FO now))):=bC;have hn1:=hn.later hb0;have ha1:=jP.zero now w;have hlt:∀k,yY N x M ff gg A k->k<w.heap.size:=by
  rintro k (rfl|rfl|hk)
  ·exact hn.nd.lt
  ·exact hn.mo.lt
  ·exact hn.tb.lt hk
 have HE:Hid (Calls Tryz.prog 76 #[.pointer (some ⟨x.T,0,none⟩),.int .u64 now] (w.alloc (oN (FO now))) λe w2=>∃xB,e=.returned (.tuple #[])∧Fu N x M ff xB (iF A now) f sz w2∧jP w.heap.size (w.heap.size+1) (FO now) [] [] [] [] w2∧(∀k,mZ x.T M ff xB (iF A now) k->mZ x.T M ff gg A k)∧Fx (yY N x M ff gg A) w w2∧w.heap.size+1<=w2.heap.size):=by
  refine(KN (S:=mZ x.T M ff gg A) now hn1.tb (λ_ h=>h) (λk hk=>hn1.tb.lt hk)).mono ?_;rintro e w2 ⟨xB,rfl,h2,h3,h4⟩;refine⟨xB,rfl,⟨hn1.nd.block (h4.block _ hn1.nd.lt λhk=> ?_),hn1.mo.block (h4.block _ hn1.mo.lt λhk=> ?_),h2,hn.ne⟩,ha1.kept λk hk=>h4.block _ (ha1.lt hk) λhk2=> ?_,h3,(Fx.below (S:=yY N x M ff gg A) hb0).trans h4 (λi _ h=> .inr (.inr h)),?_⟩
  ·exact hn1.tb.not (λe=>by
    obtain⟨D,⟨es,cl,hm,_⟩,_⟩:=hn1.tb.map;rw[<-e,show(w.alloc (oN (FO now))).heap[N]?=_ from hn1.nd]at hm;cases hm) hn1.nd (rT x) hk
  ·obtain⟨es,cl,hm⟩:=hn1.mo.obj;exact hn1.tb.not (Ne.symm hn1.ne) hm (vG es cl) hk
  ·obtain⟨o,p1,p2,_,p4⟩:=ha1.yM hk;exact hn1.tb.not (λe=>by
    obtain⟨D,⟨es,cl,hm,_⟩,_⟩:=hn1.tb.map;rw[<-e,p1]at hm;exact p4 _ _ (Option.some.inj hm)) p1 p2 hk2
  ·have:=h4.size;simp at this;omega
 have OL:=hn1.nd.cell.2.2.2.2.1;clear hb0 ha1;dsimp only[oN,FO]at HE OL;go_enter Tryz.func51,Tryz.ntmps51;go_wp2_with fail;refine aU HE.out ?_;rintro e w2 ⟨xB,rfl,hn2,ha2,ht2,hf2,hs2⟩;clear HE OL hn1;go_wp2_with fail;refine aU (wG N w.heap.size (w.heap.size+1) x _ M ff xB (iF A now) f sz [] [] [] [] w2 hn2 ha2 hs2 hcnt hsz (by simp)) ?_;rintro e w3 ⟨v7,sz',rfl,k1,k2,k3,k4⟩;rw[List.nil_append]at k3;go_wp2;go_ret;refine⟨xB,v7,sz',rfl,k1,k2,k3,?_,hf2.trans k4 ?_⟩
 ·rintro k (h|h|h)
  ·exact .inl h
  ·exact .inr (.inl h)
  ·exact .inr (.inr (ht2 k h))
 ·rintro k hk (h|h|h)
  ·exact .inl h
  ·exact .inr (.inl h)
  ·exfalso;rcases h with h|h|h|h|h
   ·omega
   ·cases h
   ·cases h
   ·cases h
   ·cases h
theorem yQ(ao:Option Addr)(n c:Nat)(L:List (Bool×Int×Int))(hL:L.length=n)(hn:n<=1000000)(_hbd:qg L)(w:World)(hA:gG w ao (RC L)):
  Calls Tryz.prog 43 #[.slice ao n c] w λe w'=>e=.returned (.int .u32 ((sD L).getD 0))∧Below w.heap.size w w':=by
 go_enter Tryz.func43,Tryz.ntmps43;go_wp2_with fail;go_loopw [3,8] (λq i wr=>∃k:Nat,k<=n∧i=.int .i64 k∧q=.int .u32 ((sD (L.take k)).getD 0)∧Below w.heap.size w wr) (λ_ i _=>n - (intOf i).toNat)
 case atStart=>exact⟨0,dm _,rfl,rfl,aV _ _⟩
 case round=>
  obtain⟨k,hk,rfl,rfl,hb⟩:=hrel;by_cases hlt:k<n
  ·have hki:(k:Int)<(n:Int):=by omega
   obtain⟨x,hx⟩:∃x,L[k]?=some x:=⟨_,bS (by omega)⟩;have hat:∀i z,i<3->([.bool x.1,.int .u32 x.2.1,.int .u32 x.2.2]:List Value)[i]?=some z->(RC L)[k * 3+i]?=some z:=λi z hi hz=>(jR (λx:Bool×Int×Int=>([Value.bool x.1,Value.int .u32 x.2.1,Value.int .u32 x.2.2]:List Value)) 3 (by decide) (λ_=>rfl) L k i hi hx).trans hz;have hA':=hA.below hb;obtain⟨b1,o1,rfl,hj1⟩:=hA' (k * 3+0) _ (hat 0 _ (by decide) rfl);have d0:=hA'.one rfl (hat 0 _ (by decide) rfl);have d1:=hA'.one rfl (hat 1 _ (by decide) rfl);have d2:=hA'.one rfl (hat 2 _ (by decide) rfl);have eO:Hid (sD (L.take (k+1))=pX (sD (L.take k)) x):=by
    show _=_;rw[oZ hx,Ab]
   obtain⟨xo,xa,xs⟩:=x;dsimp only at d0 d1 d2;rw[Nat.add_zero]at d0;rw[<-Nat.add_assoc]at d1 d2;have hb1:=hb.alloc hb.size (aY xo xa xs);clear hj1 hat hA' hx hb;generalize sD (L.take k)=cc at eO ⊢;dsimp only[aY]at hb1;cases xo
   ·have XP:Hid ((sD (L.take (k+1))).getD 0=cc.getD 0):=by
     show _=_;rw[eO.out];rfl
    clear eO;generalize cc.getD 0=t at XP ⊢;go_wp2;go_roundw
    case rel=>exact⟨k+1,by omega,by go_num,by rw[XP.out],hb1⟩
    case measure=>simp[intOf];omega
   ·have XP:Hid ((sD (L.take (k+1))).getD 0=max (cc.getD 0) xs):=by
     show _=_;rw[eO.out];rfl
    clear eO;generalize cc.getD 0=t at XP ⊢;go_wp2;go_roundw
    case rel=>exact⟨k+1,by omega,by go_num,by rw[XP.out],hb1⟩
    case measure=>simp[intOf];omega
  ·obtain rfl:k=n:=by omega
   rw[kN (by omega)];go_wp2;go_ret;exact⟨rfl,hb⟩
theorem qb(ao:Option Addr)(n c:Nat)(L:List (Bool×Int×Int))(hL:L.length=n)(hn:n<=100000)(hbd:qg L)(w:World)(hA:gG w ao (RC L)):
  Calls Tryz.prog 73 #[.slice ao n c] w λe w'=>e=.returned (.string (strOfNums (bD L)))∧Below w.heap.size w w':=by
 obtain⟨i1,ji,jz0,jz1,jz2⟩:=info_parts vL;have hb0:Below w.heap.size w w:=aV _ _;go_enter Tryz.func73,Tryz.ntmps73;go_wp2_with fail;go_loopw [3,8] (λbv i wr=>∃k:Nat,k<=n∧i=.int .i64 k∧wr.ownsRow w.heap.size 5 1 bv (13 * k) (U (bD (L.take k)))∧Below w.heap.size w wr) (λ_ i _=>n - (intOf i).toNat)
 case atStart=>exact⟨0,dm _,rfl,⟨rfl,.inl ⟨rfl,rfl⟩⟩,hb0⟩
 case round=>
  clear hb0;obtain⟨k,hk,rfl,ho,hb⟩:=hrel;by_cases hlt:k<n
  ·have hki:(k:Int)<(n:Int):=by omega
   obtain⟨⟨o,a,s⟩,hx⟩:∃x,L[k]?=some x:=⟨_,bS (by omega)⟩;have hbx:=hbd _ (iV hx);dsimp only at hbx;have hLr:=hA.below hb;have hat:∀i z,i<3->([.bool o,.int .u32 a,.int .u32 s]:List Value)[i]?=some z->(RC L)[k * 3+i]?=some z:=λi z hi hz=>(jR (λx:Bool×Int×Int=>([Value.bool x.1,Value.int .u32 x.2.1,Value.int .u32 x.2.2]:List Value)) 3 (by decide) (λ_=>rfl) L k i hi hx).trans hz;obtain⟨b1,o1,rfl,hj1⟩:=hLr (k * 3+0) _ (hat 0 _ (by decide) rfl);have c0:=hLr.one rfl (hat 0 _ (by decide) rfl);have c1:=hLr.one rfl (hat 1 _ (by decide) rfl);have c2:=hLr.one rfl (hat 2 _ (by decide) rfl);rw[Nat.add_zero]at c0;rw[<-Nat.add_assoc]at c1 c2;have hst:Hid (bD (L.take (k+1))=bD (L.take k)++zV o a s):=by
    show _=_;rw[List.take_add_one,hx,kL];rfl
   have jE:Below wr.heap.size wr (wr.alloc (aY o a s)):=bC;have hB1:=qx.new o a s wr;have ho1:=aN ho jE;have hb1:=hb.alloc hb.size (aY o a s);dsimp only[aY]at hB1 ho1 hb1;clear hj1 hat hLr hx hb ho jE;go_upto_region 5 with(fail);generalize wr.heap.size=B1 at hB1 ⊢;generalize World.alloc _ _=W1 at hB1 ho1 hb1 ⊢;obtain⟨d0,d1,d2⟩:=hB1.cell;clear c0 c1 c2;go_wp2_with fail;refine(qf o a s hbx.1.1 hbx.1.2 hbx.2.1 hbx.2.2 _).mono ?_;rintro e W3 ⟨v3,rfl,hb3,hv3,ho3⟩;have hoB:=aN ho1 hb3;have hB3:=hb1.trans (hb3.mono hb1.size);obtain⟨g3,aeV,rfl,hg3⟩:=CR ho3 hv3;have hc3:∀(j:Nat) (u:Value),(U (zV o a s))[j]?=some u->W3.cell? ((⟨g3,0,none⟩:Addr).add j)=some u:=by
    intro j u hj;obtain⟨b',o',h1,_,h2⟩:=gG.ofRow ho3 j u hj;simp only[Option.some.injEq,Addr.mk.injEq,and_true]at h1;obtain⟨rfl,rfl⟩:=h1;have hadd:(⟨g3,0,none⟩:Addr).add j=⟨g3,0+j,none⟩:=by unfold Addr.add;split<;>simp_all
    rw[hadd];exact h2
   have h1c:∀u∈U (zV o a s),u.oneCell'=true:=by
    intro u hu;simp only[U,dW]at hu;obtain⟨y,_,rfl⟩:=hu;rfl
   have hlt3:=hoB.lt;clear ho1 hb1 hb3 ho3 d0 d1 d2 hB1;go_wp2_with(at_builtin;refine wpList_append_own _ rfl _ _ 58 rfl w.heap.size 5 i1 (.int .u8 0) 1 1 Tryz.underlying58 ji jz0 jz1 jz2 rfl (by decide) u3 (13 * k) (U (bD (L.take k))) rfl hoB ⟨g3,0,none⟩ 13 aeV (U (zV o a s)) rfl rfl hc3 h1c ?c1 ?c2 ?c3 ?_)
   case c1=>unfold maxLen;omega
   case c2=>omega
   case c3=>exact hB3.size
   intro v4 W4 Dc hg4 _;have hB4:=hB3.grown hg4 hB3.size (λk hk=>(hlt3 k hk).1);rw[Bd]at Dc;clear hoB hB3 hc3 h1c hlt3 hg4;go_wp2;go_roundw
   case rel=>
    refine⟨k+1,by omega,by go_num,?_,hB4⟩;rw[hst.out];exact Dc
   case measure=>simp[intOf];omega
  ·obtain rfl:k=n:=by omega
   rw[kN (by omega)]at ho;have hxl:=iE L;rw[hL]at hxl;rw[<-hxl]at ho;have hcv:=rZ (qI ho (EW hbd));clear ho hxl;go_wp2;go_ret;exact⟨rfl,hb⟩
theorem GD{q own:Int}(hq:a_ q)(f:Int->Option Int){A:List Rt}(hA:∀y∈A,y.Ok):qg (bK q own f A).2:=by
 have h:∀(A:List Rt) (st:(Int->Option Int)×List (Bool×Int×Int)),(∀y∈A,y.Ok)->qg st.2->qg (A.foldl mP st).2:=by
  intro A
  induction A with
  |nil=>intro st _ h;exact h
  |cons y A ih=>
   intro st hA h;rw[gZ];refine ih _ (λz hz=>hA z (lU _ hz)) ?_;unfold mP;split
   ·intro z hz;rcases fu.1 hz with hz|hz
    ·exact h z hz
    ·rw[fM]at hz;subst hz;have:=hA y (jT ..);have h1:=this.dest;have h2:=this.seq;unfold a_ at h1 h2;dsimp only;omega
   ·exact h
 refine h A _ hA ?_;unfold qL;split
 ·intro z hz;rw[fM]at hz;subst hz;unfold a_ at hq;dsimp only;omega
 ·intro z hz;simp at hz
theorem Bn{a b:List (Bool×Int×Int)}(ha:qg a)(hb:qg b):qg (a++b):=λx hx=>(fu.1 hx).elim (ha x) (hb x)
@[reducible] def jy: Obj := .cells #[.string ⟨#[]⟩, .bool false, .slice none 0 0, .slice none 0 0, .slice none 0 0] 52
def jg(s:ByteArray)(bB:Bool)(aH bO bP:Value):Value:=.agg #[.string s,.bool bB,aH,bO,bP]
structure Mm where
 fr:Int
 id:Int
 dF:Int
 iM:Int
def Mm.key(e:Mm):Int×Int:=(e.fr,e.id)
def iR(E:List Mm)(q:Int×Int)(now:Int):Bool:=E.any λe=>decide (e.key=q)&&decide (now<e.dF)
def dK(E:List Mm)(q:Int×Int)(dF iM:Int):List Mm:=E.filter (λe=>!decide (e.key=q))++ [⟨q.1,q.2,dF,iM⟩]
def dw(E:List Mm)(q:Int×Int)(dF iM:Int):List Mm:=if 16<(dK E q dF iM).length then(dK E q dF iM).tail else dK E q dF iM
structure Sr where
 dest:Int
 txt:List ByteArray
 ttl:Int
 ret:Nat
 due:Int
 id:Int
 out:Bool
structure St where
 me:Int
 seq:Int
 bN:Int
 b_:Int
 eu:Int
 A:List Rt
 mem:List Mm
 tn:Int
 f:Int->Option Int
 own:Int
 cnt:Int
 Q:List Sr
 tl:Int
 pc:List Int
 now:Int
 bg:List (Bool×Int×Int)
 aF:List (Int×ByteArray)
 aO:List (Int×ByteArray)
 aP:List Int
 bB:Bool
 lk:Int
namespace St
def write(s:St):St:={s with f:=(bK s.seq s.own s.f s.A).1,own:=Jc s.seq s.own,cnt:=s.cnt+(bK s.seq s.own s.f s.A).2.length,bg:=s.bg++(bK s.seq s.own s.f s.A).2}
def drop(s:St)(r:Int):St:={s with aP:=s.aP++ [r]}
def send(s:St)(t:Int)(p:aD)(L:List (Int×Int)):St:={s with aF:=s.aF++ [(t,strOfNums (pR p L))]}
def lose(s:St)(t:Int)(L:List (Int×Int)):St:={s with aF:=s.aF++P7 t L}
def lD(s:St)(t d:Int):St:=s.lose t [(d,eP s.A d)]
def begin(s:St)(now:Int):St:={s with now:=now,A:=iF s.A now,bg:=[],aF:=[],aO:=[],aP:=[],bB:=false}.write
def cmp(s:St):List (Bool×Int×Int):=dO (some s.own)++iD s.f (s.A.map (·.dest))
def finish(s:St):St:=
 if s.write.cnt>24 then {s.write with bg:=s.write.cmp,cnt:=s.write.cmp.length,bB:=true}else s.write
def bH(s:St):ByteArray:=strOfNums (bD s.bg)
def far(h:Int):Int:=min (h+1) 255
def answer(s:St)(p:aD):St:=
 if (bE s.A p.aH s.now).2 then s.send (bE s.A p.aH s.now).1.next {p with ttl:=8,kind:=2} []else s.drop 3
def su(hops d q fm life:Int):aD:=⟨0,0,hops,false,0,d,q,fm,0,life,none,0,0,⟨#[]⟩⟩
def iG(s:St)(p:aD):St:={s with seq:=max s.seq p.bA}.answer (su 0 s.me (max s.seq p.bA) p.aH 6000)
def iy(s:St)(p:aD)(r:Rt):St:=
 {s with A:=kM (if (bE s.A p.aH s.now).2 then kM s.A p.dest (bE s.A p.aH s.now).1.next else s.A) p.aH r.next}.answer (su r.hops p.dest r.seq p.aH ((r.exp - s.now)%4294967296))
def askOn(s:St)(p:aD):St:=
 s.send 0 {p with ttl:=p.ttl - 1,hops:=far p.hops,bA:=if (aK s.A p.dest).isSome then max p.bA (eP s.A p.dest)else p.bA,unk:=if (aK s.A p.dest).isSome then false else p.unk} []
def asked(s:St)(p:aD):St:=
 if p.dest=s.me then s.iG p
 else if (bE s.A p.dest s.now).2&&(p.unk||decide ((bE s.A p.dest s.now).1.seq>=p.bA))then s.iy p (bE s.A p.dest s.now).1
 else if p.ttl=1 then s.drop 4 else s.askOn p
def learn(s:St)(fr:Int)(p:aD):St:=
 if (fA s.me s.A p.aH p.dQ (far p.hops) fr (s.now+3000)).2=4 then {s with A:=(fA s.me s.A p.aH p.dQ (far p.hops) fr (s.now+3000)).1}.drop 2
 else if (fA s.me s.A p.aH p.dQ (far p.hops) fr (s.now+3000)).2=3 then {s with A:=gU (fA s.me s.A p.aH p.dQ (far p.hops) fr (s.now+3000)).1 p.aH (s.now+3000)}.asked p
 else {s with A:=(fA s.me s.A p.aH p.dQ (far p.hops) fr (s.now+3000)).1}.asked p
def bR(s:St)(fr:Int)(p:aD):St:=
 if p.aH=s.me∨iR s.mem (p.aH,p.id) s.now then s.drop 1
 else {s with mem:=dw s.mem (p.aH,p.id) (s.now+1280) s.tn,tn:=s.tn+1}.learn fr p
def Fa(i d me:Int)(t:ByteArray):aD:=⟨8,9,0,false,i,d,0,me,0,0,none,0,0,t⟩
def aZ(s:St)(d:Int)(t:ByteArray):St:=
 if (bE s.A d s.now).2 then {s with eu:=(s.eu+1)%4294967296,A:=gU s.A d (s.now+3000)}.send (bE s.A d s.now).1.next (Fa ((s.eu+1)%4294967296) d s.me t) []
 else s
def jU(Q:List Sr)(d:Int):Option Sr:=Q.find? λq=>decide (q.dest=d)
def sendAll(s:St)(d:Int):St:=
 match jU s.Q d with
 |none=>s
 |some q=>if (bE s.A d s.now).2 then {q.txt.foldl (λs t=>s.aZ d t) s with Q:=s.Q.filter λz=>!decide (z.dest=d)}else s
def iT(s:St)(fr:Int)(p:aD):St:=
 if (bE s.A p.aH s.now).2 then
  {s with A:=gU (kM (kM s.A p.dest (bE s.A p.aH s.now).1.next) p.aH fr) p.aH (s.now+3000)}.send (bE s.A p.aH s.now).1.next {p with ttl:=p.ttl - 1,hops:=far p.hops} []
 else s.drop 3
def dM(s:St)(fr:Int)(p:aD):St:=
 if p.dest=s.me then s.drop 1
 else
  let u:=fA s.me s.A p.dest p.bA (far p.hops) fr (s.now+p.life)
  let s:={s with A:=u.1}
  if u.2=4 then s.drop 2
  else if p.aH=s.me then(if u.2=3 then(s.sendAll p.dest).drop 7 else s.sendAll p.dest)
  else if p.ttl=1 then s.drop 4
  else s.iT fr p
def GV(fr:Int)(z:List Rt×Bool×List (Int×Int))(l:Int×Int):List Rt×Bool×List (Int×Int):=
 if mV z.1 fr l.1 then(gN z.1 fr l.1 l.2,true,if ((aK z.1 l.1).any λy=>decide (0<y.bL.length))then z.2.2++ [(l.1,eP (gN z.1 fr l.1 l.2) l.1)]else z.2.2)else z
def iL(s:St)(fr:Int)(L:List (Int×Int)):St:=
 let z:=L.foldl (GV fr) (s.A,false,[])
 let s:={s with A:=z.1}
 (if z.2.1 then s else s.drop 7).lose 0 z.2.2
def vN(y:Rt):Rt:={y with seq:=gr y.seq}
def dU(s:St)(fr:Int)(p:aD):St:=
 if p.dest=s.me then {s with aO:=s.aO++ [(p.aH,p.pay)]}
 else if p.ttl=1 then s.drop 4
 else if (bE s.A p.dest s.now).2 then {s with A:=gU (gU s.A p.dest (s.now+3000)) p.aH (s.now+3000)}.send (bE s.A p.dest s.now).1.next {p with ttl:=p.ttl - 1} []
 else {s.drop 3 with A:=gK s.A p.dest vN}.lD fr p.dest
def fF(s:St)(fr:Int)(p:aD):St:=
 if p.kind=9∧p.dest≠s.me then {(s.drop 8).lD fr p.dest with bN:=s.now+2000}else s.drop 8
def fD(s:St)(fr:Int)(p:aD)(L:List (Int×Int)):St:=
 if s.now<s.bN then s.fF fr p
 else if p.kind=1 then s.bR fr p
 else if p.kind=2 then s.dM fr p
 else if p.kind=3 then s.iL fr L
 else s.dU fr p
def hear(s:St)(fr:Int)(xs:List Int):St:=
 if Ey xs=false∨fr=0∨fr=s.me then s.drop 0
 else s.fD fr (jd (xs.getD 0 0) (xs.getD 1 0) (xs.getD 2 0) (xs.getD 4 0) (xs.drop 5)) (pF (xs.getD 1 0) (xs.getD 4 0) (xs.drop 5))
def receive(s:St)(now fr:Int)(xs:List Int):St:=((s.begin now).hear fr xs).finish
def broken(s:St)(now fq:Int):St:=
 let s:=s.begin now
 ({s with A:=s.A.map (dD fq 0)}.lose 0 (n_ fq s.A)).finish
def full(pc:List Int)(now:Int):Bool:=decide (pc.length=5)&&(decide (now<1000)||decide (pc.getD 0 0>now - 1000))
def dI(pc:List Int)(now:Int):List Int:=(if pc.length=5 then pc.tail else pc)++ [now]
def BO(ttl:Int)(unk:Bool)(i d q me sq:Int):aD:=⟨ttl,1,0,unk,i,d,q,me,sq,0,none,0,0,⟨#[]⟩⟩
def request(s:St)(d ttl:Int):St:=
 let s1:={s with seq:=gr s.seq,b_:=(s.b_+1)%4294967296}.write
 {s1 with pc:=dI s1.pc s1.now,mem:=dw s1.mem (s1.me,s1.b_) (s1.now+1280) s1.tn,tn:=s1.tn+1}.send 0 (BO ttl (!(aK s1.A d).isSome) s1.b_ d (eP s1.A d) s1.me s1.seq) []
def dh(Q:List Sr)(q:Sr):List Sr:=Q.map λz=>if z.dest=q.dest then q else z
def ask(s:St)(q:Sr):St:=
 if full s.pc s.now then let s:=s.drop 9;{s with tl:=s.tl+1,Q:=dh s.Q {q with due:=s.now+1000,id:=s.tl+1,out:=false}}
 else if s.now<s.bN then let s:=s.drop 8;{s with tl:=s.tl+1,Q:=dh s.Q {q with due:=s.now+1000,id:=s.tl+1,out:=false}}
 else let s:=s.request q.dest q.ttl;{s with tl:=s.tl+1,Q:=dh s.Q {q with due:=s.now+80 * (q.ttl+2)* 2 ^ q.ret,id:=s.tl+1,out:=true}}
def jh(d:Int)(t:ByteArray):Sr:=⟨d,[t],1,0,0,0,false⟩
def hold(s:St)(q:Sr)(t:ByteArray):St×Sr:=
 if q.txt.length=4 then(s.drop 6,{q with txt:=q.txt.tail++ [t]})else(s,{q with txt:=q.txt++ [t]})
def await(s:St)(d:Int)(t:ByteArray):St:=
 match jU s.Q d with
 |some q=> {(s.hold q t).1 with Q:=dh s.Q (s.hold q t).2}
 |none=> {s with Q:=s.Q++ [jh d t]}.ask (jh d t)
def sends(s:St)(now d:Int)(t:ByteArray):St:=
 let s:=s.begin now
 (if (bE s.A d s.now).2 then s.aZ d t else s.await d t).finish
def XK(s:St)(d:Int):St:={s with Q:=s.Q.filter λz=>!decide (z.dest=d)}
def widen(s:St)(q:Sr):St:=
 if q.ttl+2<=5 then s.ask {q with ttl:=q.ttl+2}
 else if q.ttl<8 then s.ask {q with ttl:=8}
 else if q.ret<2 then s.ask {q with ret:=q.ret+1}
 else {s with aP:=s.aP++List.replicate q.txt.length 5}.XK q.dest
def step(s:St)(q:Sr):St:=
 if (bE s.A q.dest s.now).2 then s.sendAll q.dest
 else if q.out then s.widen q else s.ask q
def N8(a b:Sr):Bool:=decide (a.due<b.due)||(decide (a.due=b.due)&&decide (a.id<=b.id))
def jA(Q:List Sr)(now:Int):List Sr:=(Q.filter λq=>decide (q.due<=now)).mergeSort N8
def tick(s:St)(now:Int):St:=
 let s:=s.begin now
 ((jA s.Q now).foldl step s).finish
end St
open Go.RowKit Go.Maps
variable{tn:Int}{E:List Mm}{Ms:Nat}{W:World}
structure xN(Ms:Nat)(tn:Int)(E:List Mm)(W:World):Prop where
 map:∃g,lu W Ms g E.length∧(∀e∈E,g e.key=some (e.dF,e.iM))∧∀k m,wD k->g k=some m->∃e∈E,e.key=k∧m=(e.dF,e.iM)
 ok:∀e∈E,wD e.key∧0<=e.dF∧0<=e.iM∧e.iM<tn
 yE:E.Pairwise λa b=>a.dF<=b.dF∧a.iM<b.iM∧a.key≠b.key
 len:E.length<=16
 tn0:0<=tn
theorem xN.block{W':World}(h:xN Ms tn E W)(he:W'.heap[Ms]?=W.heap[Ms]?):xN Ms tn E W':=by
 obtain⟨⟨g,h1,h2,h3⟩,h4,h5,h6,h7⟩:=h;exact⟨⟨g,h1.block he,h2,h3⟩,h4,h5,h6,h7⟩
theorem xN.lt(h:xN Ms tn E W):Ms<W.heap.size:=by
 obtain⟨g,h1,_⟩:=h.map;exact h1.lt
theorem xN.obj(h:xN Ms tn E W):∃es cl,W.heap[Ms]?=some (.map es cl):=by
 obtain⟨g,h1,_⟩:=h.map;exact h1.obj
theorem xN.made(w:World):xN w.heap.size 0 [] (w.alloc (.map #[] 0)):=
 ⟨⟨_,lu.made w,λe he=>by simp at he,λk m _ h=>by cases h⟩,λe he=>by simp at he,List.Pairwise.nil,by simp,by simp⟩
theorem xN.has_eq{g:Int×Int->Option (Int×Int)}(_h:xN Ms tn E W)(h2:∀e∈E,g e.key=some (e.dF,e.iM))(h3:∀k m,wD k->g k=some m->∃e∈E,e.key=k∧m=(e.dF,e.iM)){q:Int×Int}(hq:wD q){now:Int}(hn:0<=now):
  decide (now<((g q).getD (0,0)).1)=iR E q now:=by
 unfold iR;cases hg:g q with
 |none=>
  simp only[Option.getD_none];rw[eU (by omega)];symm;rw[List.any_eq_false];intro e he hc;simp only[jr,qi]at hc;have:=h2 e he;rw[hc.1,hg]at this;cases this
 |some m=>
  obtain⟨e,he,hk,rfl⟩:=h3 q m hq hg;simp only[Option.getD_some];by_cases hlt:now<e.dF
  ·rw[f_ hlt];symm;rw[List.any_eq_true];exact⟨e,he,by simp[hk,hlt]⟩
  ·rw[eU hlt];symm;rw[List.any_eq_false];intro e' he' hc;simp only[jr,qi]at hc;have h4:=h2 e' he';rw[hc.1,hg]at h4;simp only[Option.some.injEq,Prod.mk.injEq]at h4;omega
@[reducible] def fP(q : Int × Int): Obj := .cells #[.int .u32 q.1, .int .u32 q.2] 261
@[reducible] def mU(m : Int × Int): Obj := .cells #[.int .u64 m.1, .int .i64 m.2] 279
theorem JQ(a b:Int×Int)(w:World):
  Calls Tryz.prog 196 #[xG a,xG b] w λe w'=>e=.returned (.bool (if a.1=b.1 then decide (a.2<b.2)else decide (a.1<b.1)))∧Below w.heap.size w w':=by
 obtain⟨a1,a2⟩:=a;obtain⟨b1,b2⟩:=b;have hB:Below w.heap.size w ((w.alloc (mU (a1,a2))).alloc (mU (b1,b2))):=(bC).alloc (by simp) _;dsimp only[mU]at hB;dsimp only[xG];by_cases h:a1=b1
 ·subst h;have e:(a1 !=a1)=false:=by simp
  rw[aI rfl];go_enter Tryz.func196,Tryz.ntmps196;go_wp2;all_goals (go_ret;exact⟨rfl,hB⟩)
 ·have e:(a1 !=b1)=true:=by simpa using h
  rw[ay h];go_enter Tryz.func196,Tryz.ntmps196;go_wp2;all_goals (go_ret;exact⟨rfl,hB⟩)
theorem aaY(a b:Int)(w:World):(Instr.field 279 (.agg #[.int .u64 a,.int .i64 b]) 0).run Tryz.prog w=.ok (.int .u64 a) w:=by kernel_rfl
theorem Qx(N:Nat)(x:mX)(E:List Mm)(q:Int×Int)(hq:wD q)(now:Int)(hn:0<=now)(w:World)(hN:iI N x w)(hs:xN x.Ms x.tn E w):
  Calls Tryz.prog 160 #[.pointer (some ⟨N,8,none⟩),jX q,.int .u64 now] w λe w'=>e=.returned (.bool (iR E q now))∧Below w.heap.size w w':=by
 obtain⟨g,h1,h2,h3⟩:=hs.map;have hE:=(show Hid _ from hs.has_eq h2 h3 hq hn);have hb0:Below w.heap.size w (w.alloc (fP q)):=bC;have hC:=bV w (fP q);have hN1:=hN.later hb0;have hg1:=h1.block (hb0.block _ h1.lt);clear hs hN h1 h2 h3;dsimp only[fP]at hb0 hC hN1 hg1;dsimp only[jX];go_enter Tryz.func160,Tryz.ntmps160;go_upto_region 1 with(fail);generalize World.alloc _ _=W1 at hb0 hC hN1 hg1 ⊢;generalize w.heap.size=C at hC ⊢;obtain⟨n0,n2,n3,n4,n5,n6,n7,n8,n9,n10⟩:=hN1.cell;have c0:W1.cell? ⟨C,0,none⟩=some (.int .u32 q.1):=aJ _ _ 0 _ _ _ hC;have c1:W1.cell? ⟨C,1,none⟩=some (.int .u32 q.2):=aJ _ _ 1 _ _ _ hC;have hl0:=hg1.look hq;have hl1:=(show lu W1.drew _ _ _ from hg1).look hq;have hbq:Hid (∀k,Below w.heap.size w (W1.drewN k)):=λk=>below_drewN hb0 k;dsimp only[jX]at hl0 hl1;generalize hv:(g q).getD (0,0)=m at hE hl0 hl1;clear hv hg1 hN1 hC hb0;dsimp only[xG]at hl0 hl1;have yO:=λw=>aaY m.1 m.2 w;have hbd:Below w.heap.size w W1.drew:=hbq.out 1;go_region
 go_wp2;go_ret;exact⟨lI hE.out,hbd⟩
def Bc(a b:Mm):Prop:=if a.dF=b.dF then a.iM<b.iM else a.dF<b.dF
def wC(E:List Mm)(left:Lit->Bool)(an:Bool)(f l:Int×Int):Prop:=
 if an then ∃e∈E,left (iC e.key)=false∧f=e.key∧l=(e.dF,e.iM)∧∀z∈E,left (iC z.key)=false->¬Bc z e
 else ∀e∈E,left (iC e.key)=true
theorem wC.done{e0:Mm}{left:Lit->Bool}{an:Bool}{f l:Int×Int}(h:wC (e0::E) left an f l)(hl:∀kl,left kl=false)(ha:(e0::E).Pairwise λa b=>a.dF<=b.dF∧a.iM<b.iM∧a.key≠b.key):f=e0.key:=by
 unfold wC at h;split at h
 ·obtain⟨e,he,_,rfl,_,h⟩:=h;rcases fE.1 he with rfl|he
  ·rfl
  ·exfalso;refine h e0 (jT ..) (hl _) ?_;have:=(List.pairwise_cons.1 ha).1 e he;unfold Bc;split<;>omega
 ·have:=h e0 (jT ..);rw[hl]at this;cases this
theorem wC.yes(hE:∀e∈E,wD e.key)(hu:E.Pairwise λa b=>a.dF<=b.dF∧a.iM<b.iM∧a.key≠b.key){left:Lit->Bool}{an:Bool}{f l:Int×Int}(h:wC E left an f l){e:Mm}(he:e∈E)(hq:left (iC e.key)=true)(hb:an=true->(if e.dF=l.1 then e.iM<l.2 else e.dF<l.1)):
  wC E (λz=>left z&&!z.sameKey (iC e.key)) true e.key (e.dF,e.iM):=by
 have hkey:∀z∈E,iC z.key=iC e.key->z=e:=by
  intro z hz hq;have hk:=u_ (hE z hz) (hE e he) hq;by_cases Ox:z=e
  ·exact Ox
  ·exfalso;obtain⟨i,hi,rfl⟩:=List.mem_iff_getElem.1 hz;obtain⟨j,hj,rfl⟩:=List.mem_iff_getElem.1 he;rcases Nat.lt_trichotomy i j with hij|hij|hij
   ·exact(List.pairwise_iff_getElem.1 hu i j hi hj hij).2.2 hk
   ·subst hij;exact Ox rfl
   ·exact(List.pairwise_iff_getElem.1 hu j i hj hi hij).2.2 hk.symm
 unfold wC at h ⊢;rw[aI rfl];refine⟨e,he,by simp[iC,Lit.sameKey],rfl,rfl,λz hz hl=> ?_⟩;by_cases Ox:iC z.key=iC e.key
 ·rw[hkey z hz Ox];unfold Bc;simp
 ·have hlz:left (iC z.key)=false:=by
   cases hc:left (iC z.key)with
   |false=>rfl
   |true=>
    exfalso;dsimp only at hl;rw[hc,Bool.true_and]at hl;have:(iC z.key).sameKey (iC e.key)=true:=by simpa using hl
    exact Ox (by simpa[iC,Lit.sameKey]using this)
  cases han:an with
  |false=>
   rw[han]at h;have:=h z hz;rw[hlz]at this;cases this
  |true=>
   rw[han,aI rfl]at h;obtain⟨e1,he1,_,_,rfl,h⟩:=h;have h1:=h z hz hlz;have h2:=hb han;unfold Bc at h1 ⊢;dsimp only at h2;intro h3;apply h1;split at h3<;>split at h2<;>split<;>omega
theorem wC.no(hE:∀e∈E,wD e.key)(hu:E.Pairwise λa b=>a.dF<=b.dF∧a.iM<b.iM∧a.key≠b.key){left:Lit->Bool}{f l:Int×Int}(h:wC E left true f l){e:Mm}(he:e∈E)(hb:¬(if e.dF=l.1 then e.iM<l.2 else e.dF<l.1)):
  wC E (λz=>left z&&!z.sameKey (iC e.key)) true f l:=by
 unfold wC at h ⊢;rw[aI rfl]at h ⊢;obtain⟨e1,he1,hl1,rfl,rfl,h⟩:=h;refine⟨e1,he1,by simp[hl1],rfl,rfl,λz hz hl=> ?_⟩;by_cases hlz:left (iC z.key)=false
 ·exact h z hz hlz
 ·have hc:left (iC z.key)=true:=by simpa using hlz
  dsimp only at hl;rw[hc,Bool.true_and]at hl;have:(iC z.key).sameKey (iC e.key)=true:=by simpa using hl
  have hk:=u_ (hE z hz) (hE e he) (by simpa[iC,Lit.sameKey]using this);have Ox:z=e:=by
   by_cases Ox:z=e
   ·exact Ox
   ·exfalso;obtain⟨i,hi,rfl⟩:=List.mem_iff_getElem.1 hz;obtain⟨j,hj,rfl⟩:=List.mem_iff_getElem.1 he;rcases Nat.lt_trichotomy i j with hij|hij|hij
    ·exact(List.pairwise_iff_getElem.1 hu i j hi hj hij).2.2 hk
    ·subst hij;exact Ox rfl
    ·exact(List.pairwise_iff_getElem.1 hu j i hj hi hij).2.2 hk.symm
  rw[Ox];unfold Bc;exact hb
end Go.Proofs.YtakaadcpaeiccabGreat
