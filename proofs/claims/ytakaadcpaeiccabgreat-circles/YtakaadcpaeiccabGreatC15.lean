import Derived.Deep.CutRange
import Derived.Test.YtakaadcpaeiccabGreatC04
set_option maxHeartbeats 2000000
namespace Go.Proofs.YtakaadcpaeiccabGreat
open Go.RowKit
theorem J_(p:ah)(hp:p.Wf)(hg:p.dL=false)(w:World):
  Calls Tryz.prog 117 #[p.val]w fun e w'=>e=.returned(.tuple #[.slice none 0 0,.int .i64 1])∧Below w.heap.size w w':=by
 go_enter Tryz.func117,Tryz.ntmps117
 go_wp2_with(go_at_call 90;refine(bz p hp _).mono ?_;rintro e w1⟨rfl,hb1⟩)
 go_ret2
 exact⟨rfl,((Below.refl _ _).alloc(Nat.le_refl _)_).trans(hb1.mono(by simp))⟩
def eY(w:World)(p:ah)(L:List(Int×Int)):Prop:=
 L.length=p.ln∧∀j,j<L.length→∃lb lo d s,p.la=some⟨lb,lo,none⟩∧lb<w.heap.size∧L[j]?=some(d,s)∧0≤d∧d<4294967296∧0≤s∧s<4294967296∧
  w.cell?⟨lb,lo+j * 2,none⟩=some(.int .u32 d)∧w.cell?⟨lb,lo+j * 2+1,none⟩=some(.int .u32 s)
def mW(p:ah):Int:=if p.iK then 8 else 0
theorem XB(p:ah)(w:World):
  Calls Tryz.prog 151 #[p.val]w fun e w'=>e=.returned(.int .u8(mW p))∧Below w.heap.size w w':=OP p w
def ah.head(p:ah):List Int:=[p.aS,p.kind,mW p,0,p.cnt]
def xU(p:ah)(L:List(Int×Int)):List Int:=p.head++p.jW p.nums.length++gL L L.length++aF p.pay
theorem Hz(p:ah)(hp:p.Wf)(hg:p.dL=true)(ht0:1≤p.aS)(ht1:p.aS≤255)(hk0:1≤p.kind)(hk1:p.kind≤9)(hc0:0≤p.cnt)(hc1:p.cnt≤255)
  (hln:p.ln≤8)(hpay:p.pay.size≤16)
  (L:List(Int×Int))(w:World)(hL:eY w p L):
  Calls Tryz.prog 117 #[p.val]w fun e w'=>∃v,e=.returned(.tuple #[v,.int .i64 0])∧Below w.heap.size w w'∧v≠ .slice none 0 0∧w'.ownsRow(w.heap.size+1)5 1 v(xU p L).length(U(xU p L)):=by
 go_enter Tryz.func117,Tryz.ntmps117
 go_wp2_with(go_at_call 90;refine(bz p hp _).mono ?_;rintro e w1⟨rfl,hb1⟩)
 have ht0':0≤p.aS:=by omega
 have hk0':0≤p.kind:=by omega
 have aeJ:p.kind≤255:=by omega
 have hI:=(yt.Zn p w).below hb1;clear hb1;go_region_held3(yt p w)(first|exact yt.drew'(by assumption)|assumption|exact yt.below(by assumption)(by assumption)|exact yt.below(by assumption)((Below.refl _ _).alloc(Nat.le_refl _)_))(first
  |(go_at_call 151;refine(XB p _).mono ?_;rintro e w2⟨rfl,hb2⟩)
  |(go_at_call 126;refine(Co p _).mono ?_;rintro e w3⟨rfl,hb3⟩))
 rename_i hI3;rw [IntWalk.u8_in _⟨ht0',ht1⟩,IntWalk.u8_in _⟨hk0',aeJ⟩,IntWalk.u8_in _⟨hc0,hc1⟩]at hI3 ⊢;have hz3:w.heap.size+1≤w3.heap.size:=by
  obtain⟨_,_,_,_,_,_,_,_,_,_,_,_,hs,_⟩:=hI;have h2:=hb2.size;have h3:=hb3.size;simp only [World.size_drew]at h2;omega
 have xJ:=QS(w.heap.size+1)w3 p.aS p.kind(mW p)0 p.cnt hz3;clear hI hb2 hb3;have hnn:(Value.slice(some⟨w3.heap.size,0,none⟩)5 5)≠ .slice none 0 0:=by simp
 generalize w3.alloc _=W3 at hI3 xJ ⊢;generalize Value.slice(some⟨w3.heap.size,0,none⟩)5 5=b0 at xJ hnn ⊢;clear hz3;have hkc:=hI3.2.1;go_wp2_with(go_at_call 86;refine(FE p _ _ hkc).mono ?_;rintro e w4⟨ao,rfl,hb4,acr⟩)
 have hE0:iI p w ao w4 b0(p.head++p.jW 0):=by
  have afa:=hI3;obtain⟨_,_,_,_,_,_,_,_,_,_,_,_,hs,hB⟩:=afa;have hg:W3.grownBy w4 none:=⟨hb4.os,hb4.tape,hb4.output,hb4.size,fun k hk _=>hb4.block k hk⟩;refine⟨hI3.below hb4,?_,hnn,fun j hj=> ?_⟩
  ·simp only [ah.jW,List.take_zero,List.flatMap_nil,List.append_nil];exact xJ.kept hg(by cases hv:b0.ownBlock<;>simp)
  ·obtain⟨N,h1,h2,h3⟩:=acr j hj;exact⟨N,h1,by omega,h3⟩
 clear hI3 xJ hnn acr hb4 hkc;have hn5:=FD p;go_loopw [4,26](fun b i wr=>∃k:Nat,k≤p.nums.length∧i=.int .i64 k∧iI p w ao wr b(p.head++p.jW k))(fun _ i _=>p.nums.length - (intOf i).toNat)
 case atStart=>exact⟨0,Nat.zero_le _,rfl,hE0⟩
 case round=>
  clear hE0;obtain⟨k,hk,rfl,hE⟩:=hrel;by_cases hlt:k<p.nums.length
  ·obtain⟨o,x,hox,hcx,hx0,hx1⟩:=NM hp hE.ZZ k hlt;obtain⟨N,rfl,hNk⟩:=hE.V8 k hlt hox;have hlen:(p.head++p.jW k).length≤1000000:=by
    have:=uE p k;simp only [List.length_append,ah.head,List.length_cons,List.length_nil];omega
   have hst:Hid(p.jW(k+1)=p.jW k++b4 x):=NP hox;clear hox;go_wp2_with(go_at_call 57;refine(dB(w.heap.size+1)_ x(p.head++p.jW k)_ hx0 hx1 hE.own hE.nn hE.base hlen).mono ?_;rintro e w5⟨v',rfl,hown',hgrow,aan⟩)
   go_roundw
   case rel=>exact⟨k+1,by omega,by go_num,by rw [hst.out,←List.append_assoc];exact hE.step hgrow hown' aan⟩
   case measure=>simp [intOf];omega
  ·obtain rfl:k=p.nums.length:=by omega
   obtain⟨_,_,_,_,_,_,_,_,_,_,c10,c11,hs,hB⟩:=id hE.ZZ;clear hk hlt;go_wp2_with fail
   generalize hla:p.la=la;have hE1:iI p w ao wr u4(p.head++p.jW p.nums.length++gL L 0):=by
    simpa only [gL,List.take_zero,List.flatMap_nil,List.append_nil]using hE
   clear hE c10 c11 hs hB;go_loopw [4,39](fun b i wx=>∃k:Nat,k≤p.ln∧i=.int .i64 k∧iI p w ao wx b(p.head++p.jW p.nums.length++gL L k))(fun _ i _=>p.ln - (intOf i).toNat)
   case atStart=>exact⟨0,Nat.zero_le _,rfl,hE1⟩
   case round=>
    clear hE1;obtain⟨k,hk,rfl,hE⟩:=hrel;by_cases hlt:k<p.ln
    ·obtain⟨hLn,hLc⟩:=hL;obtain⟨lb,lo,d,s,hpa,hlb,hds,hd0,hd1,hs0,hs1,hcd,hcs⟩:=hLc k(by omega);obtain rfl:la=some⟨lb,lo,none⟩:=hla.symm.trans hpa;have hB:=hE.ZZ.2.2.2.2.2.2.2.2.2.2.2.2.2;have hlen:(p.head++p.jW p.nums.length++gL L k).length≤900000:=by
      have:=uE p p.nums.length;have:=BU L k;simp only [List.length_append,ah.head,List.length_cons,List.length_nil];omega
     have hst:Hid(gL L(k+1)=gL L k++b4 d++b4 s):=Jd hds;have afY:wr.cell?⟨lb,lo+k * 2,none⟩=some(.int .u32 d):=(hB.cell(p:=⟨lb,lo+k * 2,none⟩)hlb).trans hcd;have hcs':wr.cell?⟨lb,lo+k * 2+1,none⟩=some(.int .u32 s):=(hB.cell(p:=⟨lb,lo+k * 2+1,none⟩)hlb).trans hcs;have hEa:=(hE.alloc(.cells #[.int .u32 d,.int .u32 s]237)).drew;clear hds hpa hla hcd hcs hLc hLn hB;go_wp2_with fail
     go_region_held3(Ey wr.heap.size d s)(first|exact Ey.start _ _ _|assumption|exact Ey.grown(by assumption)hown5 o_|exact Ey.grown(by assumption)hEa.own lh)(first
      |(go_at_call_of 57(Value.int IntKind.u32 d);refine(dB(w.heap.size+1)_ d(p.head++p.jW p.nums.length++gL L k)_ hd0 hd1 hEa.own hEa.nn hEa.base(by omega)).mono ?_;rintro e w5⟨v5,rfl,hown5,lh,A9⟩)
      |(go_at_call_of 57(Value.int IntKind.u32 s);refine(dB(w.heap.size+1)_ s(p.head++p.jW p.nums.length++gL L k++b4 d)_ hs0 hs1 hown5 A9(hEa.step lh hown5 A9).base(by rw [List.length_append,kH];omega)).mono ?_;rintro e w6⟨v6,rfl,hown6,o_,Gn⟩))
     have Xq:=(hEa.step lh hown5 A9).step o_ hown6 Gn;clear hown5 lh A9 hown6 o_ Gn hEa hE;go_wp2
     go_roundw
     case rel=>exact⟨k+1,by omega,by go_num,by rw [hst.out,←List.append_assoc,←List.append_assoc];exact Xq⟩
     case measure=>simp [intOf];omega
    ·obtain rfl:k=p.ln:=by omega
     obtain⟨_,_,_,_,_,_,_,_,_,_,c10,c11,hs,hB⟩:=id hE.ZZ;obtain⟨i0,hi,hz0,hz1,hz2⟩:=info_parts uN;have hlen:(p.head++p.jW p.nums.length++gL L p.ln).length≤900000:=by
      have:=uE p p.nums.length;have:=BU L p.ln;have:=hL.1;simp only [List.length_append,ah.head,List.length_cons,List.length_nil];omega
     have hbase:=hE.base;have aeA:=hE.own.lt;clear hk hlt hla;go_wp2_with(at_builtin;refine ik _ rfl _ _ 58 9 rfl(w.heap.size+1)5 i0(.int .u8 0)1 1 Tryz.underlying58 hi hz0 hz1 hz2 rfl _(p.head++p.jW p.nums.length++gL L p.ln).length(U(p.head++p.jW p.nums.length++gL L p.ln))rfl hE.own hE.nn _ p.pay.size(byteCells p.pay)rfl(Src.ofString _ Tryz.underlying9 p.pay) ?c1 ?c2 ?c3 ?_)
     case c1=>unfold maxLen;omega
     case c2=>omega
     case c3=>exact hbase
     intro v' w7 hown' hgrow aan;go_wp2
     go_ret2
     refine⟨v',rfl,hB.grown hgrow(Nat.le_of_lt hs)(fun k hk=>Nat.ig(aeA k hk).1),aan,?_⟩;have hLn:L.length=p.ln:=hL.1;rw [xy,Ae]at hown';have he:xU p L=p.head++p.jW p.nums.length++gL L p.ln++aF p.pay:=by
      simp only [xU,hLn]
     rw [he];simpa only [List.length_append,List.append_assoc,dx,Nat.add_assoc]using hown'
def ah.dw(p:ah):ah:=
 if p.kind=1 then⟨p.aS,1,p.hops,p.iK,p.id,p.dest,if p.iK then 0 else p.aW,p.aI,p.dm,0,none,0,0,⟨#[]⟩⟩
 else if p.kind=2 then⟨p.aS,2,p.hops,false,0,p.dest,p.aW,p.aI,0,p.life,none,0,0,⟨#[]⟩⟩
 else if p.kind=3 then⟨p.aS,3,0,false,0,0,0,0,0,0,p.la,p.ln,p.lc,⟨#[]⟩⟩
 else if p.kind=9 then⟨p.aS,9,0,false,p.id,p.dest,0,p.aI,0,0,none,0,0,p.pay⟩
 else⟨p.aS,p.kind,0,false,0,0,0,0,0,0,none,0,0,⟨#[]⟩⟩
def wD(p q:ah):Bool:=
 decide(p.aS=q.aS∧p.kind=q.kind∧p.hops=q.hops∧p.iK=q.iK∧p.id=q.id∧p.dest=q.dest∧p.aW=q.aW∧p.aI=q.aI∧p.dm=q.dm∧p.life=q.life∧p.pay=q.pay)
@[reducible] def InC (p : ah) (b : Nat) (W : World) : Prop :=
 W.cell?⟨b,0,none⟩=some(.int .i64 p.aS)∧W.cell?⟨b,1,none⟩=some(.int .i64 p.kind)∧W.cell?⟨b,2,none⟩=some(.int .i64 p.hops)∧
 W.cell?⟨b,3,none⟩=some(.bool p.iK)∧W.cell?⟨b,4,none⟩=some(.int .u32 p.id)∧W.cell?⟨b,5,none⟩=some(.int .u32 p.dest)∧
 W.cell?⟨b,6,none⟩=some(.int .u32 p.aW)∧W.cell?⟨b,7,none⟩=some(.int .u32 p.aI)∧W.cell?⟨b,8,none⟩=some(.int .u32 p.dm)∧
 W.cell?⟨b,9,none⟩=some(.int .u32 p.life)∧W.cell?⟨b,10,none⟩=some(.slice p.la p.ln p.lc)∧W.cell?⟨b,11,none⟩=some(.string p.pay)
def ah.wU(p:ah):Bool:=decide(p.ln=p.dw.ln)&&wD p p.dw
def ah.RB(p:ah):Bool:=decide(p.kind=1∨p.kind=2∨p.kind=9∨(p.kind=3∧1≤p.ln∧p.ln≤8))
theorem OE(p:ah):p.dL=(p.wU&&decide(1≤p.aS∧p.aS≤255)&&decide(0≤p.hops∧p.hops≤255)&&decide(p.pay.size≤16)&&p.RB):=by
 have hz:∀s:ByteArray,s=⟨#[]⟩↔ s.size=0:=fun s=>⟨fun h=>by rw [h];rfl,fun h=>ByteArray.ext(Array.eq_empty_of_size_eq_zero h)⟩;rw [Bool.eq_iff_iff];unfold ah.dL ah.wU ah.RB wD;have hs0:(⟨#[]⟩:ByteArray).size=0:=rfl;have he:∀s:ByteArray,s=ByteArray.empty ↔ s.size=0:=hz;by_cases h1:p.kind=1
 ·simp only [ah.kW,ah.dw,ah.cnt,rY,ah.jV,h1,hz,if_true];cases p.iK<;>simp<;>grind
 by_cases h2:p.kind=2
 ·simp [ah.kW,ah.dw,ah.cnt,rY,ah.jV,h2,hz];cases p.iK<;>simp<;>grind
 by_cases h3:p.kind=3
 ·simp [ah.kW,ah.dw,ah.cnt,rY,ah.jV,h3,hz];cases p.iK<;>simp<;>grind
 by_cases h9:p.kind=9
 ·simp [ah.kW,ah.dw,ah.cnt,rY,ah.jV,h9,hs0];cases p.iK<;>simp<;>grind
 ·simp [ah.kW,ah.dw,rY,ah.jV,h1,h2,h3,h9]
theorem um(s:ByteArray):strOfNums(aF s)=s:=by
 apply ByteArray.ext;apply Array.ext';simp only [strOfNums,aF,List.map_map];rw [List.map_congr_left(g:=id)(fun b _=>by simp)];simp
theorem eY.below {w w':World} {p:ah} {L:List(Int×Int)}(h:eY w p L)(hb:Below w.heap.size w w'):eY w' p L:=by
 refine⟨h.1,fun j hj=> ?_⟩;obtain⟨lb,lo,d,s,h1,h2,h3,h4,h5,h6,h7,h8,h9⟩:=h.2 j hj;exact⟨lb,lo,d,s,h1,Nat.lt_of_lt_of_le h2 hb.size,h3,h4,h5,h6,h7,(hb.cell(p:=⟨lb,lo+j * 2,none⟩)h2).trans h8,(hb.cell(p:=⟨lb,lo+j * 2+1,none⟩)h2).trans h9⟩
theorem ek {p:ah}(h:p.dL=true):p.wU=true∧1≤p.aS∧p.aS≤255∧0≤p.hops∧p.hops≤255∧p.pay.size≤16∧(p.kind=1∨p.kind=2∨p.kind=9∨(p.kind=3∧1≤p.ln∧p.ln≤8)):=by
 rw [OE]at h;simp only [Bool.and_eq_true,decide_eq_true_eq,ah.RB]at h;obtain⟨⟨⟨⟨h1,h2⟩,h3⟩,h4⟩,h5⟩:=h;exact⟨h1,h2.1,h2.2,h3.1,h3.2,h4,h5⟩
theorem o9 {p:ah}(h:p.wU=true):p.ln=p.dw.ln∧p.iK=p.dw.iK∧p.hops=p.dw.hops∧p.pay=p.dw.pay:=by
 simp only [ah.wU,wD,Bool.and_eq_true,decide_eq_true_eq]at h;exact⟨h.1,h.2.2.2.2.1,h.2.2.2.1,h.2.2.2.2.2.2.2.2.2.2.2⟩
def bu(w:World)(ao:Option Addr)(L:List(Int×Int)):Prop:=
 ∀j,j<L.length→∃lb lo d s,ao=some⟨lb,lo,none⟩∧lb<w.heap.size∧L[j]?=some(d,s)∧0≤d∧d<4294967296∧0≤s∧s<4294967296∧
  w.cell?⟨lb,lo+j * 2,none⟩=some(.int .u32 d)∧w.cell?⟨lb,lo+j * 2+1,none⟩=some(.int .u32 s)
theorem bu.below {w w':World} {ao:Option Addr} {L:List(Int×Int)}(h:bu w ao L)(hb:Below w.heap.size w w'):bu w' ao L:=by
 intro j hj;obtain⟨lb,lo,d,s,h1,h2,h3,h4,h5,h6,h7,h8,h9⟩:=h j hj;exact⟨lb,lo,d,s,h1,Nat.lt_of_lt_of_le h2 hb.size,h3,h4,h5,h6,h7,(hb.cell(p:=⟨lb,lo+j * 2,none⟩)h2).trans h8,(hb.cell(p:=⟨lb,lo+j * 2+1,none⟩)h2).trans h9⟩
theorem TK(W:World)(base:Nat)(v:Value)(xs:List Int)(h:W.ownsRow base 5 1 v xs.length(U xs))(hv:v≠ .slice none 0 0):
  (convert 58 9 v).run Tryz.prog W=.ok(.string(strOfNums xs))W:=by
 rcases h.2 with⟨rfl,_⟩|⟨g,cap,cur,rfl,_⟩
 ·exact absurd rfl hv
 ·refine run_convert_bytes_arg(P:=Tryz.prog)W 58 5 Tryz.underlying58 Tryz.underlying5 g 0 xs.length cap xs rfl ?_ 9 Tryz.underlying9;intro i hi;rw [Nat.zero_add];rw [h.cellAt i(by simpa using hi)];simp [U,hi]
theorem N_:(Tryz.prog.info? 237).map(fun i=>(i.zero,i.size,i.bytes))=some(some(.agg #[.int .u32 0,.int .u32 0]),2,8):=by kernel_rfl
theorem zM(p:ah)(a:Option Addr)(c:Nat):({p with la:=a,lc:=c}:ah).dL=p.dL:=by
 unfold ah.dL
 congr 1
 unfold ah.kW;dsimp only;split
 ·rfl
 split
 ·rfl
 split
 ·rfl
 split
 ·rfl
 ·rfl
def LC(L:List(Int×Int)):List Value:=L.flatMap fun x=> [.int .u32 x.1,.int .u32 x.2]
theorem jC(L:List(Int×Int)):(LC L).length=L.length * 2:=by
 induction L with
 |nil=>rfl
 |cons a L ih=>
  simp only [LC,List.flatMap_cons,List.length_append,List.length_cons,List.length_nil]at ih ⊢;omega
theorem abJ(L:List(Int×Int))(j:Nat):(LC L)[j * 2]?=(L[j]?).map(fun x=>Value.int .u32 x.1)∧(LC L)[j * 2+1]?=(L[j]?).map(fun x=>Value.int .u32 x.2):=by
 induction L generalizing j with
 |nil=>simp [LC]
 |cons a L ih=>
  cases j with
  |zero=>simp [LC]
  |succ j=>
   have h:=ih j;simp only [LC,List.flatMap_cons]at h ⊢;rw [show(j+1)* 2=j * 2+1+1 by omega];simpa using h
theorem mK(W:World)(a b:Addr)(v:Value)(h:b.block≠a.block):(W.setCell a v).cell? b=W.cell? b:=
 World.cell?_of_block(Below.heap_setCell W a v b.block h)
theorem OG {p:ah}(h:p.dL=true):1≤p.kind∧p.kind≤9∧0≤p.cnt∧p.cnt≤255∧p.ln≤8:=by
 obtain⟨hl,_,_,h1,h2,h3,hk⟩:=ek h;have hln:=(o9 hl).1;unfold ah.cnt;rcases hk with hk|hk|hk|⟨hk,_,_⟩
 ·have:p.dw.ln=0:=by simp [ah.dw,hk]
  simp [hk];omega
 ·have:p.dw.ln=0:=by simp [ah.dw,hk]
  simp [hk];omega
 ·have:p.dw.ln=0:=by simp [ah.dw,hk]
  simp [hk];omega
 ·simp [hk];omega
theorem Rd.alloc {R:Nat} {xs:List Int} {W:World}(h:Rd R xs W)(o:Obj):Rd R xs(W.alloc o):=by
 obtain⟨v,h1,h2,hb,h3⟩:=h;have hlt:=World.block_lt_of_cell? W _ h1;refine⟨v,(World.cell?_alloc_lt _ _ _ hlt).trans h1,(World.frozen?_alloc_old W o _(by simp at hlt ⊢;omega)).trans h2,hb,?_⟩;rcases h3 with h|⟨b,o',c,rfl,k1,k2,k3⟩
 ·exact .inl h
 ·exact .inr⟨b,o',c,rfl,k1,k2,fun j x hx=>(World.cell?_alloc_lt _ _ _(World.block_lt_of_cell? W _(k3 j x hx))).trans(k3 j x hx)⟩
theorem Rd.setCell {R:Nat} {xs:List Int} {W:World}(h:Rd R xs W) {B:Nat}(hB:B≠R) {i:Nat}(u u':Value)(hu:∀n,u≠ .int .u8 n)(hc:W.cell?⟨B,i,none⟩=some u):Rd R xs(W.setCell⟨B,i,none⟩u'):=by
 obtain⟨v,h1,h2,hb,h3⟩:=h;refine⟨v,(World.cell?_setCell_other _ _ _ _(fun e=>hB(by cases e;rfl))).trans h1,(World.frozen?_setCell _ _ _ _).trans h2,hb,?_⟩;rcases h3 with h|⟨b,o',c,rfl,k1,k2,k3⟩
 ·exact .inl h
 ·refine .inr⟨b,o',c,rfl,k1,k2,fun j x hx=> ?_⟩;have hk:=k3 j x hx;rw [World.cell?_setCell_other _ _ _ _(fun e=>by rw [←e,hc]at hk;exact hu _(Option.some.inj hk))];exact hk
theorem Rd.drew {R:Nat} {xs:List Int} {W:World}(h:Rd R xs W):Rd R xs W.drew:=h
theorem Rd.lt {R:Nat} {xs:List Int} {W:World}(h:Rd R xs W):R<W.heap.size:=by
 obtain⟨v,h1,_⟩:=h;exact World.block_lt_of_cell? W _ h1
def PB(p:ah)(B:Nat)(W:World):Prop:=W.heap[B]?=some p.box
theorem PB.new(p:ah)(W:World):PB p W.heap.size(W.alloc p.box):=heap_alloc_new W _
theorem PB.lt {p:ah} {B:Nat} {W:World}(h:PB p B W):B<W.heap.size:=(Array.getElem?_eq_some_iff.1 h).1
theorem PB.grown {p:ah} {B R:Nat} {W W':World}(h:PB p B W)(hg:W.grownBy W'(some R))(hne:B≠R):PB p B W':=(hg.block B h.lt(by simpa using hne)).trans h
theorem PB.alloc {p:ah} {B:Nat} {W:World}(h:PB p B W)(o:Obj):PB p B(W.alloc o):=(Below.heap_alloc W o B h.lt).trans h
theorem PB.cell {p:ah} {B:Nat} {W:World}(h:PB p B W):InC p B W:=by
 have k:=fun i=>cell_of_row W B i _ _ _ h;exact⟨k 0,k 1,k 2,k 3,k 4,k 5,k 6,k 7,k 8,k 9,k 10,k 11⟩
theorem PB.free {p:ah} {B:Nat} {W:World}(h:PB p B W)(i:Nat):W.frozen?⟨B,i,none⟩=false:=frozen_of_row W B i _ _ h
theorem PB.other {p:ah} {B:Nat} {W:World}(h:PB p B W) {a:Addr}(ha:B≠a.block)(v:Value):PB p B(W.setCell a v):=(Below.heap_setCell W a v B ha).trans h
def ah.zero:ah:=⟨0,0,0,false,0,0,0,0,0,0,none,0,0,⟨#[]⟩⟩
theorem PB.set {p:ah} {B:Nat} {W:World}(h:PB p B W)(q:ah)(i:Nat)(v:Value)(hq:Obj.cells((#[.int .i64 p.aS,.int .i64 p.kind,.int .i64 p.hops,.bool p.iK,.int .u32 p.id,.int .u32 p.dest,.int .u32 p.aW,.int .u32 p.aI,.int .u32 p.dm,.int .u32 p.life,.slice p.la p.ln p.lc,.string p.pay]:Array Value).setIfInBounds i v)73(0,0)=q.box):
  PB q B(W.setCell⟨B,i,none⟩v):=by
 unfold PB;rw [heap_setCell_same W B i _ _ v h];rw [hq]
theorem aG(R:Nat)(x:Int)(ys:List Int)(W:World)(h:Rd R(x::ys)W):
  Calls Tryz.prog 84 #[.pointer(some⟨R,0,none⟩)]W fun e w'=>e=.returned(.int .i64 x)∧Rd R ys w'∧W.grownBy w'(some R):=by
 refine(Df R _ W h).mono ?_;rintro e w'(⟨x',ys',hx,_,_,rfl,h1,h2,_⟩|⟨hx,_⟩)
 ·obtain⟨rfl,rfl⟩:=List.cons.inj hx;exact⟨rfl,h1,h2⟩
 ·cases hx
theorem o5(R:Nat)(W:World)(h:Rd R []W):
  Calls Tryz.prog 84 #[.pointer(some⟨R,0,none⟩)]W fun e w'=>e=.panicked broken∧w'=W:=by
 refine(Df R _ W h).mono ?_;rintro e w'(⟨x',ys',hx,_⟩|⟨_,rfl,rfl⟩)
 ·cases hx
 ·exact⟨rfl,rfl⟩
def num(r:List Int)(i:Nat):Int:=n4(r.getD(4 * i)0)(r.getD(4 * i+1)0)(r.getD(4 * i+2)0)(r.getD(4 * i+3)0)
def fU(x0 x1 x2 x4:Int)(r:List Int):ah:=
 if x1=1 then⟨x0,1,x4,x2==8,num r 0,num r 1,num r 2,num r 3,num r 4,0,none,0,0,⟨#[]⟩⟩
 else if x1=2 then⟨x0,2,x4,x2==8,0,num r 0,num r 1,num r 2,0,num r 3,none,0,0,⟨#[]⟩⟩
 else if x1=3 then⟨x0,3,0,x2==8,0,0,0,0,0,0,none,x4.toNat,0,⟨#[]⟩⟩
 else if x1=9 then⟨x0,9,0,x2==8,num r 0,num r 1,0,num r 2,0,0,none,0,0,strOfNums((r.drop 12).take x4.toNat)⟩
 else⟨x0,x1,0,x2==8,0,0,0,0,0,0,none,0,0,⟨#[]⟩⟩
def oV(n:Nat)(r:List Int):List(Int×Int):=(List.range n).map fun i=>(num r(2 * i),num r(2 * i+1))
def jX(x1 x4:Int)(r:List Int):List(Int×Int):=if x1=3 then oV x4.toNat r else []
def bC(x1 x4:Int):Nat:=if x1=1 then 20 else if x1=2 then 16 else if x1=3 then 8 * x4.toNat else if x1=9 then 12+x4.toNat else 0
def uM(xs:List Int):Bool:=
 match xs with
 |x0::x1::x2::x3::x4::r=>decide(x2=0∨x2=8)&&decide(x3=0)&&decide(r.length=bC x1 x4)&&(fU x0 x1 x2 x4 r).dL
 |_=>false
theorem uR {A B C:World} {r:Option Nat}(h:A.grownBy B r)(k:B.grownBy C r):A.grownBy C r:=
 ⟨k.os.trans h.os,k.tape.trans h.tape,k.output.trans h.output,Nat.le_trans h.size k.size,fun i hi hne=>(k.block i(Nat.lt_of_lt_of_le hi h.size)hne).trans(h.block i hi hne)⟩
theorem bL {x0 x1 x2 x3 x4:Int} {r:List Int}(h:r.length≠bC x1 x4):uM(x0::x1::x2::x3::x4::r)=false:=by
 simp [uM,h]
theorem nu {x0 x1 x2 x4:Int} {r:List Int}(hf:x2=0∨x2=8)(h:r.length=bC x1 x4):uM(x0::x1::x2::0::x4::r)=(fU x0 x1 x2 x4 r).dL:=by
 simp [uM,h,hf]
theorem Rd.bytes {R:Nat} {xs:List Int} {W:World}(h:Rd R xs W):∀x∈xs,0≤x∧x≤255:=by
 obtain⟨_,_,_,hb,_⟩:=h;exact hb
theorem kz {a b c d:Int}(ha:0≤a∧a≤255)(hb:0≤b∧b≤255)(hc:0≤c∧c≤255)(hd:0≤d∧d≤255):0≤n4 a b c d∧n4 a b c d<4294967296:=by
 unfold n4;omega
theorem PB.below {p:ah} {B:Nat} {W W':World}(h:PB p B W)(hb:Below W.heap.size W W'):PB p B W':=(hb.block B h.lt).trans h
theorem bO {A B C:World} {r:Option Nat}(h:A.grownBy B r)(k:Below B.heap.size B C):A.grownBy C r:=
 uR h⟨k.os,k.tape,k.output,k.size,fun i hi _=>k.block i hi⟩
def Reads(xs:List Int)(v:Value)(W:World)(N:Nat):Prop:=
 ∃x0 x1 x2 x3 x4 r ao c,xs=x0::x1::x2::x3::x4::r∧v=({fU x0 x1 x2 x4 r with la:=ao,lc:=c}:ah).val∧
  (jX x1 x4 r).length=(fU x0 x1 x2 x4 r).ln∧bu W ao(jX x1 x4 r)∧∀b,ao=some b→N≤b.block
def dV(R:Nat)(xs:List Int)(W:World)(e:Ending)(w':World):Prop:=
 W.grownBy w'(some R)∧((uM xs=true∧∃v,e=.returned v∧Reads xs v w' W.heap.size)∨(uM xs=false∧e=.panicked broken))
theorem ae {A B C:World} {r:Option Nat}(h:A.grownBy B r)(k:B.grownBy C r):A.grownBy C r:=uR h k
theorem kE {A B:World} {r:Option Nat}(h:A.grownBy B r):A.grownBy B.drew r:=⟨h.os,h.tape,h.output,h.size,h.block⟩
theorem aL {A B:World} {r:Option Nat}(h:A.grownBy B r) {a:Addr}(ha:A.heap.size≤a.block)(v:Value):A.grownBy(B.setCell a v)r:=
 ⟨h.os,h.tape,h.output,by simpa using h.size,fun i hi hne=>(Below.heap_setCell B a v i(by omega)).trans(h.block i hi hne)⟩
@[reducible] def bV (w : World) (C : Nat) (p : ah) : World :=
 ((((((((((((w.setCell⟨C,0,none⟩(.int .i64 p.aS)).setCell⟨C,1,none⟩(.int .i64 p.kind)).setCell⟨C,2,none⟩(.int .i64 p.hops)).setCell⟨C,3,none⟩(.bool p.iK)).setCell⟨C,4,none⟩(.int .u32 p.id)).setCell⟨C,5,none⟩(.int .u32 p.dest)).setCell⟨C,6,none⟩(.int .u32 p.aW)).setCell⟨C,7,none⟩(.int .u32 p.aI)).setCell⟨C,8,none⟩(.int .u32 p.dm)).setCell⟨C,9,none⟩(.int .u32 p.life)).setCell⟨C,10,none⟩(.slice p.la p.ln p.lc)).setCell⟨C,11,none⟩(.string p.pay))
theorem PB.storeAll {z:ah} {C:Nat} {w:World}(h:PB z C w)(p:ah):PB p C(bV w C p):=by
 have h0:=PB.set h⟨p.aS,z.kind,z.hops,z.iK,z.id,z.dest,z.aW,z.aI,z.dm,z.life,z.la,z.ln,z.lc,z.pay⟩0(.int .i64 p.aS)rfl;have h1:=PB.set h0⟨p.aS,p.kind,z.hops,z.iK,z.id,z.dest,z.aW,z.aI,z.dm,z.life,z.la,z.ln,z.lc,z.pay⟩1(.int .i64 p.kind)rfl;have h2:=PB.set h1⟨p.aS,p.kind,p.hops,z.iK,z.id,z.dest,z.aW,z.aI,z.dm,z.life,z.la,z.ln,z.lc,z.pay⟩2(.int .i64 p.hops)rfl;have h3:=PB.set h2⟨p.aS,p.kind,p.hops,p.iK,z.id,z.dest,z.aW,z.aI,z.dm,z.life,z.la,z.ln,z.lc,z.pay⟩3(.bool p.iK)rfl;have h4:=PB.set h3⟨p.aS,p.kind,p.hops,p.iK,p.id,z.dest,z.aW,z.aI,z.dm,z.life,z.la,z.ln,z.lc,z.pay⟩4(.int .u32 p.id)rfl;have h5:=PB.set h4⟨p.aS,p.kind,p.hops,p.iK,p.id,p.dest,z.aW,z.aI,z.dm,z.life,z.la,z.ln,z.lc,z.pay⟩5(.int .u32 p.dest)rfl;have h6:=PB.set h5⟨p.aS,p.kind,p.hops,p.iK,p.id,p.dest,p.aW,z.aI,z.dm,z.life,z.la,z.ln,z.lc,z.pay⟩6(.int .u32 p.aW)rfl;have h7:=PB.set h6⟨p.aS,p.kind,p.hops,p.iK,p.id,p.dest,p.aW,p.aI,z.dm,z.life,z.la,z.ln,z.lc,z.pay⟩7(.int .u32 p.aI)rfl;have h8:=PB.set h7⟨p.aS,p.kind,p.hops,p.iK,p.id,p.dest,p.aW,p.aI,p.dm,z.life,z.la,z.ln,z.lc,z.pay⟩8(.int .u32 p.dm)rfl;have h9:=PB.set h8⟨p.aS,p.kind,p.hops,p.iK,p.id,p.dest,p.aW,p.aI,p.dm,p.life,z.la,z.ln,z.lc,z.pay⟩9(.int .u32 p.life)rfl;have h10:=PB.set h9⟨p.aS,p.kind,p.hops,p.iK,p.id,p.dest,p.aW,p.aI,p.dm,p.life,p.la,p.ln,p.lc,z.pay⟩10(.slice p.la p.ln p.lc)rfl;have h11:=PB.set h10⟨p.aS,p.kind,p.hops,p.iK,p.id,p.dest,p.aW,p.aI,p.dm,p.life,p.la,p.ln,p.lc,p.pay⟩11(.string p.pay)rfl;exact h11
theorem fE {A B:World} {r:Option Nat}(h:A.grownBy B r) {C:Nat}(hC:A.heap.size≤C)(p:ah):A.grownBy(bV B C p)r:=
 aL(aL(aL(aL(aL(aL(aL(aL(aL(aL(aL(aL h hC _)hC _)hC _)hC _)hC _)hC _)hC _)hC _)hC _)hC _)hC _)hC _
end Go.Proofs.YtakaadcpaeiccabGreat
