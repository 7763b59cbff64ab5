import Derived.Test.YtakaadcpaeiccabGreatC31
import Derived.ChangeMaps5
import Derived.Lib.SmallJoins
set_option maxHeartbeats 8000000
set_option maxRecDepth 100000
namespace Go.Proofs.YtakaadcpaeiccabGreat
open Go.RowKit Go.Maps
variable{L:List Int}{k:Nat}
theorem Ta:(Tryz.prog.info? 94).map (λi=>(i.zero,i.size,i.bytes))=some (some (.pointer none),1,8):=by kernel_rfl
def NwI(M:Nat)(w:World)(L:List Int)(k:Nat)(wr:World):Prop:=∃y:MG,y.G=M∧MM y (aS.new (L.take k)) wr∧Fx (λ_=>False) w wr∧∀q,oZ y (aS.new (L.take k)) q->w.heap.size<=q
theorem GK(hk:k<L.length):aS.new (L.take (k+1))={aS.new (L.take k)with S:=(aS.new (L.take k)).S++ [F4 (L.getD k 0)]}:=by
 unfold aS.new;rw[List.take_add_one,List.map_append]
 congr 1
 rw[List.getD_eq_getElem?_getD,cZ hk];rfl
theorem Eo(L:List Int):(aS.new L).S.length=L.length:=by
 unfold aS.new;rw[iK]
theorem Xm{M:Nat}{w wr:World}(hk:k<L.length){y:MG}(hG:y.G=M)(hm:MM y (aS.new (L.take k)) wr)(hf:Fx (λ_=>False) w wr)(hge:∀q,oZ y (aS.new (L.take k)) q->w.heap.size<=q)(W4:World)(x2:SG)(hB:x2.B=wr.heap.size)(hx:mZ x2 (F4 (L.getD k 0)) W4)(h4:Fx (λq=>q=wr.heap.size) (wr.alloc (mR (L.getD k 0))) W4)(hxg:∀q,lF x2 (F4 (L.getD k 0)) q->wr.heap.size<=q):
  MM y (aS.new (L.take k)) W4∧∀(v7:Value) (w7:World),w7.ownsRow 0 94 1 v7 ((aS.new (L.take k)).S.length+1) (KU y.L++ [.pointer (some ⟨wr.heap.size,0,none⟩)])->(W4.alloc (.cells #[.pointer (some ⟨wr.heap.size,0,none⟩)] 94)).grownBy w7 y.sv.ownBlock->(v7.ownBlock=y.sv.ownBlock∨v7.ownBlock=some (W4.alloc (.cells #[.pointer (some ⟨wr.heap.size,0,none⟩)] 94)).heap.size)->(w7.cell? ⟨M,1,none⟩=some y.sv∧w7.frozen? ⟨M,1,none⟩=false)∧Hid (NwI M w L (k+1) (w7.setCell ⟨M,1,none⟩ v7)):=by
 subst hG;have hsz:(wr.alloc (mR (L.getD k 0))).heap.size=wr.heap.size+1:=by simp
 have hz4:=h4.size;have hm2:=hm.later ((aV wr.heap.size wr).alloc (aD _) (mR (L.getD k 0)));have Cb:MM y (aS.new (L.take k)) W4:=hm2.kept λq hq=>h4.block q (hm2.lt hq) λe=>by
  have:=hm.lt hq;omega
 refine⟨Cb,λv7 w7 ho hg hv=> ?_⟩;have hb5:Below W4.heap.size W4 (W4.alloc (.cells #[.pointer (some ⟨wr.heap.size,0,none⟩)] 94)):=bq;have hm5:=Cb.later hb5;rw[<-hB]at ho;obtain⟨c1,VG,hin⟩:=hm5.add (hx.later hb5) (λq hq hq'=>by
  have h1:=hxg q hq;have h2:=hm.lt hq';omega) ho hg hv
 refine⟨c1,hide ⟨{y with L:=y.L++ [x2],sv:=v7},rfl,?_,?_,λq hq=> ?_⟩⟩
 ·rw[GK hk];exact VG
 ·have f1:Fx (λ_=>False) w (wr.alloc (mR (L.getD k 0))):=hf.trans (S':=λ_=>False) (Fx.below ((aV wr.heap.size wr).alloc (aD _) _)) λ_ _ h=>h;have hzf:=hf.size;have f2:Fx (λ_=>False) w W4:=f1.trans h4 λi hi e=>by omega
  have f3:Fx (λ_=>False) w (W4.alloc (.cells #[.pointer (some ⟨wr.heap.size,0,none⟩)] 94)):=f2.trans (S':=λ_=>False) (Fx.below hb5) λ_ _ h=>h;have f4:Fx (λ_=>False) w w7:=aW f3 hg λi hi e=>by
   have:=hge i (.inr (.inl e));omega
  exact aW f4 (ah (aC w7 (some y.G)) 1 v7) λi hi e=>by
   cases e;have:=hge y.G (.inl rfl);omega
 ·rw[GK hk]at hq;have hzf:=hf.size;have agA:=hb5.size;rcases hin q hq with h|h|⟨h,_⟩
  ·exact hge q h
  ·have:=hxg q h;omega
  ·omega
theorem aer(g n c:Nat)(L:List Int)(w:World)(hL:L.length=n)(hn:0<n∧n<=6)(hcap:n<=c)(hU:∀k,k<n->bB (L.getD k 0))(hgl:g<w.heap.size)(hc:∀k,k<n->w.cell? ⟨g,k,none⟩=some (.int .u32 (L.getD k 0)))(h0:∀k,k<n->L.getD k 0≠0)(hd:∀j k,j<k->k<n->L.getD j 0≠L.getD k 0):
  Calls Tryz.prog 27 #[.slice (some ⟨g,0,none⟩) n c] w λe w'=>∃y:MG,e=.returned (.tuple #[.pointer (some ⟨y.G,0,none⟩),.int .i64 0])∧MM y (aS.new L) w'∧Fx (λ_=>False) w w'∧∀q,oZ y (aS.new L) q->w.heap.size<=q:=by
 have HFt:=hide (Yq g n c L w hn hcap hc h0 hd);have hst:Hid (NwI w.heap.size w L 0 (w.alloc (.cells #[.int .u64 0,.slice none 0 0,.slice none 0 0] 97))):=by
  refine hide ⟨⟨w.heap.size,.slice none 0 0,.slice none 0 0,[]⟩,rfl,⟨bS _ _,⟨rfl,.inl ⟨rfl,rfl⟩⟩,⟨rfl,.inl ⟨rfl,rfl⟩⟩,rfl,λi x s h=>(by cases h),λi j x s x' s' _ h=>(by cases h)⟩,Fx.below (bq),λq hq=> ?_⟩;rcases hq with h|h|h|⟨i,x,s,h,_⟩
  ·exact Nat.le_of_eq h.symm
  ·cases h
  ·cases h
  ·cases h
 replace hc:=hide hc;replace h0:=hide h0;replace hU:=hide hU;obtain⟨i0,hi,hz0,hz1,hz2⟩:=info_parts Ta;go_enter Tryz.func27,Tryz.ntmps27;go_upto_region 4 with(go_at_call 61;refine HFt.out.mono ?_;rintro e w2 ⟨rfl,hw⟩;have hw2:=hw.symm;subst hw2);generalize World.alloc _ _=W1 at hst ⊢;generalize w.heap.size=M at hst ⊢;go_wp2_with fail;go_loopw [15] (λi wr=>∃(j:Nat),j<=n∧i=.int .i64 j∧Hid (NwI M w L j wr)) (λi _=>n - (intOf i).toNat)
 case atStart=>exact⟨0,dh _,rfl,hst⟩
 case round=>
  obtain⟨j,hj,rfl,hr⟩:=hrel;by_cases hlt:j<n
  ·have hlL:j<L.length:=by omega
   have hix:(j:Int)<(n:Int):=by omega
   obtain⟨y,hG,hm,hf,hge⟩:=hr.out;have k0:=(World.cell?_of_block (a:=⟨g,j,none⟩) (hf.block g hgl (λh=>h))).trans (hc.out j hlt);have HX:=Z_ wr _ (hU.out j hlt) (h0.out j hlt);have HS:=Xm hlL hG hm hf hge;have hlen:(aS.new (L.take j)).S.length=j:=by
    rw[Eo,List.length_take];omega
   have q0:wr.cell? ⟨M,0,none⟩=some (.int .u64 0):=by
    rw[<-hG];exact hm.cell.1
   obtain⟨a,ha⟩:∃a,L.getD j 0=a:=⟨_,rfl⟩;rw[ha]at k0 HX HS;have q2:=(((aV wr.heap.size wr).alloc (aD _) (mR a)).cell (World.block_lt_of_cell? _ _ q0)).trans q0;obtain⟨W2,hW2⟩:∃W2,wr.alloc (mR a)=W2:=⟨_,rfl⟩;rw[hW2]at HX HS q2;unfold mR at hW2;obtain⟨D,hD⟩:∃D,wr.heap.size=D:=⟨_,rfl⟩;obtain⟨mk,hmk⟩:∃mk,aS.new (L.take j)=mk:=⟨_,rfl⟩;rw[hmk]at HS hlen;rw[hlen]at HS;rw[hD]at HX HS;replace HX:=hide HX;have HS2:Hid (∀(W4:World) (x2:SG),x2.B=D->mZ x2 (F4 a) W4->Fx (λq=>q=D) W2 W4->(∀q,lF x2 (F4 a) q->D<=q)->∃ao cc,y.sv=.slice ao j cc∧W4.cell? ⟨M,1,none⟩=some (.slice ao j cc)∧(W4.alloc (.cells #[.pointer (some ⟨D,0,none⟩)] 94)).ownsRow 0 94 1 (.slice ao j cc) j (KU y.L)∧∀(v7:Value) (w7:World),w7.ownsRow 0 94 1 v7 (j+1) (KU y.L++ [.pointer (some ⟨D,0,none⟩)])->(W4.alloc (.cells #[.pointer (some ⟨D,0,none⟩)] 94)).grownBy w7 (Value.slice ao j cc).ownBlock->(v7.ownBlock=(Value.slice ao j cc).ownBlock∨v7.ownBlock=some (W4.alloc (.cells #[.pointer (some ⟨D,0,none⟩)] 94)).heap.size)->(w7.cell? ⟨M,1,none⟩=some (.slice ao j cc)∧w7.frozen? ⟨M,1,none⟩=false)∧Hid (NwI M w L (j+1) (w7.setCell ⟨M,1,none⟩ v7))):=by
    refine hide λW4 x2 p1 p2 p3 p4=> ?_;obtain⟨Cb,hnx⟩:=HS W4 x2 p1 p2 p3 p4;obtain⟨ao,cc,hsv,_⟩:=ak Cb.zF;rw[hlen]at hsv;have hs5:=(Cb.later ((aV W4.heap.size W4).alloc (aD _) (.cells #[.pointer (some ⟨D,0,none⟩)] 94))).zF;have c1:=Cb.cell.2.1;rw[hsv,hlen]at hs5;rw[hG,hsv]at c1;rw[hsv]at hnx;exact⟨ao,cc,hsv,c1,hs5,hnx⟩
   have hsrc:Hid (∀W4:World,Src Tryz.prog 1 95 (.slice (some ⟨W4.heap.size,0,none⟩) 1 1) 1 [.pointer (some ⟨D,0,none⟩)] (W4.alloc (.cells #[.pointer (some ⟨D,0,none⟩)] 94))):=hide λW4=>Src.ofRow (base:=0) (e':=94) (e:=94) Tryz.underlying95 ⟨rfl,.inr ⟨W4.heap.size,1,_,rfl,dh _,bS _ _,aD _,by decide,rfl,rfl⟩⟩ (λu hu=>by
    rw[eZ]at hu;subst hu;rfl)
   have hmx:Hid (j+1<=maxLen∧(j+1)* 8<=140737488355328):=by unfold maxLen;exact hide (by omega)
   clear HS hm hf hge hlen hmk ha q0 hG hr;go_upto_region 8 with(fail);clear hW2 hD k0;go_wp2_with(first
    |(go_at_call 37;refine HX.out.mono ?_;rintro e W3 ⟨aK,bP,bQ,rfl,HW⟩)
    |(go_at_call 62;refine HW.out.mono ?_;rintro e W4 ⟨rfl,x2,hB2,hm2,hf2,adu⟩;obtain⟨ao,cc,hsv,c1,hs5,hnx⟩:=HS2.out W4 x2 hB2 hm2 hf2 adu;have hsr:=hsrc.out W4;replace hnx:=hide hnx;clear hB2 hm2 hf2 adu HW hsv)
    |(at_builtin;refine uM rfl _ _ _ _ rfl 0 94 i0 (.pointer none) 1 8 Tryz.underlying95 hi hz0 hz1 hz2 rfl (.slice ao j cc) j (KU y.L) rfl hs5 _ 1 [.pointer (some ⟨D,0,none⟩)] rfl hsr hmx.out.1 hmx.out.2 (dh _) ?_;intro v7 w7 ho hg hv;obtain⟨⟨g1,g2⟩,hnw⟩:=hnx.out v7 w7 ho hg hv;obtain⟨Qz,UM,rfl,_⟩:=ak ho;clear ho hg hv hnx hs5 hsr))
   go_roundw
   case rel=>exact⟨j+1,by omega,by go_num,hnw⟩
   case measure=>simp[intOf];omega
  ·obtain rfl:j=n:=by omega
   obtain⟨y,hG,hm,hf,hge⟩:=hr.out;rw[ko (Nat.le_of_eq hL)]at hm hge;have hfin:Hid (∃y:MG,y.G=M∧MM y (aS.new L) wr∧Fx (λ_=>False) w wr∧∀q,oZ y (aS.new L) q->w.heap.size<=q):=⟨y,hG,hm,hf,hge⟩;clear hm hf hge hG hr hc h0 hU;go_wp2;go_returns;obtain⟨y,hG,hm,hf,hge⟩:=hfin.out;exact⟨y,by rw[hG];rfl,hm,hf,hge⟩
variable{m:aS}
theorem aac{a:Int}(hU:bB a)(h0:a≠0):Cj 1 0 0 (F4 a):=by
 have hs:Cj 1 0 0 ⟨a,[],none,List.replicate 6 false,false,0⟩:=⟨hU,h0,λx h=>(by cases h),dh _,eY _,λz hz=>(by cases hz),λz hz=>(by cases hz)⟩;have hp:=En hs (eY _) ⟨eY _,by decide⟩;dsimp only at hp;have hne:(St.new a [] 0).ot.bA≠ []∨(St.new a [] 0).ot.bC=true:=by
  refine .inl λe=> ?_;have h1:=hp.no;have h2:=hp.yes;have h3:=hp.pos;have e':(St.new a [] 0).bA=[]:=e;dsimp only at h1 h2 h3;rw[e']at h1 h2;cases hr:(St.new a [] 0).bC with
  |false=>
   have h4:=h1 hr;simp only[List.length_nil]at h4;omega
  |true=>
   have h4:=h2 hr;simp only[List.length_nil]at h4;omega
 have hwe:=bJ.jY (s:=⟨a,[],some (St.new a [] 0),List.replicate 6 false,false,0⟩) hne rfl;have hs2:(bJ.write ⟨a,[],some (St.new a [] 0),List.replicate 6 false,false,0⟩ (St.new a [] 0).ot).1=F4 a:=by
  rw[hwe];unfold F4;dsimp only;split<;>rfl
 have:=hp.write;rw[hs2]at this;exact this
theorem Mq{L:List Int}(hn:L.length<=6)(hU:∀a∈L,bB a)(h0:∀a∈L,a≠0):iT 1 0 (aS.new L)∧qE (aS.new L):=by
 refine⟨⟨by rw[Eo];exact hn,dh _,⟨eY _,by show(0:Int)<=4611686018427387904;decide⟩,λs hs=> ?_⟩,λf hf=>by cases hf⟩;obtain⟨a,ha,rfl⟩:=di.1 hs;exact aac (hU a ha) (h0 a ha)
def Qk(L:List (Int×ByteArray)):Prop:=∀f∈L,f.2.size<=65536
theorem qE.launch(h:qE m){i j:Nat}{b:ByteArray}(hi:i<m.S.length)(hj:j<m.S.length)(hb:b.size<=65536):qE (m.launch (i,j,b)):=by
 intro f hf;have h1:∀f∈m.bO++ [(i,j,b)],f.1<m.S.length∧f.2.1<m.S.length∧f.2.2.size<=65536:=by
  intro f hf;rcases eu.1 hf with hf|hf
  ·exact h f hf
  ·rw[eZ]at hf;subst hf;exact⟨hi,hj,hb⟩
 unfold aS.launch at hf;dsimp only at hf;split at hf
 ·exact h1 f (List.mem_of_mem_tail hf)
 ·exact h1 f hf
theorem qE.put(h:qE m)(i:Nat)(s:bJ):qE (m.put i s):=by
 intro f hf;rw[(ic _ _ _).1,List.length_set];exact h f hf
theorem qE.foldl{i:Nat}{b:ByteArray}(hb:b.size<=65536):∀(l:List Nat) (m:aS),qE m->i<m.S.length->(∀j∈l,j<m.S.length)->qE (l.foldl (λm j=>m.launch (i,j,b)) m)
 | [],_,h,_,_=>h
 |a::l,m,h,hi,hl=>by
  rw[gH];exact qE.foldl hb l _ (h.launch hi (hl a (iJ ..)) hb) hi λj hj=>hl j (jR _ hj)
theorem qE.bU(h:qE m){i:Nat}{f:Int×ByteArray}(hi:i<m.S.length)(hb:f.2.size<=65536):qE (m.bU i f):=by
 refine qE.foldl hb _ _ h hi λj hj=> ?_;unfold aS.heard at hj;exact List.mem_range.1 (List.mem_filter.1 hj).1
variable{c:sF}{n:Nat}{s s':St}
theorem Px{p:aF}{L:List (Int×Int)}(h:L=[]∨L.length=p.ln):(strOfNums (nI p L)).size<=65536:=by
 have hs:∀xs:List Int,(strOfNums xs).size=xs.length:=λxs=>by simp[strOfNums,ByteArray.size]
 rw[hs];unfold nI;split
 ·rename_i hg;obtain⟨hl,_,_,_,_,hp,hk⟩:=eT hg;have hln:p.ln<=8:=by
   have h1:=(pR hl).1;rcases hk with hk|hk|hk|hk
   ·rw[h1];simp[aF.dz,hk]
   ·rw[h1];simp[aF.dz,hk]
   ·rw[h1];simp[aF.dz,hk]
   ·exact hk.2.2
  have hL:L.length<=8:=by
   rcases h with h|h
   ·rw[h];exact dh _
   ·omega
  have h1:=vv p p.nums.length;have h2:(iq L L.length).length<=64:=by
   unfold iq;rw[List.take_length,wZ];omega
  simp only[yP,dw,aF.head,dU,List.length_nil,dA];omega
 ·exact dh _
theorem abI(h:Pr c s s')(hs:∀f∈s.aL,f.2.size<=65536):∀f∈s'.aL,f.2.size<=65536:=by
 cases h with
 |yI h=>rw[h.aL];exact hs
 |tab _=>exact hs
 |aK t p L _ hz=>
  intro f hf;rcases eu.1 (show f∈s.aL++ [(t,strOfNums (nI p L))]from hf)with hf|hf
  ·exact hs f hf
  ·rw[eZ]at hf;subst hf;exact Px hz
 |grw=>exact hs
 |mx _ _ _ _=>exact hs
 |wr=>exact hs
theorem Yi(h:fQ c n s s')(hs:∀f∈s.aL,f.2.size<=65536):∀f∈s'.aL,f.2.size<=65536:=by
 induction h with
 |nil=>exact hs
 |snoc _ k ih=>exact abI k (ih hs)
theorem vK{now:Int}(h:fQ c n (s.locked.begin now) s'):∀f∈s'.finish.freed.aL,f.2.size<=65536:=by
 have h1:=Yi h (λf hf=>by cases hf);rw[show s'.finish.freed.aL=s'.aL from(aP s').aL];exact h1
variable{b:ByteArray}{m:aS}{φ:aS->Int×ByteArray->aS×List Ev}{i j:Nat}{o:Op}
abbrev m_:=List (Int×ByteArray)
abbrev BQ:=aS×List Ev
structure P7(J:BQ->m_->Prop)(i:Nat)(z:BQ)(P:m_)(s:bJ)(o:Ot):Prop where
 idle:o.idle=true->J (z.1.put i s,z.2) P
 whole:o.idle=false->(s.write o).2=true->J (z.1.put i (s.write o).1,z.2++ [⟨i,0,o⟩]) (o.aL++P)
 aex:o.idle=false->(s.write o).2=false->J (z.1.put i (s.write o).1,z.2++ [⟨i,0,Ot.none⟩]) P
structure Y4(J:BQ->m_->Prop)(i:Nat):Prop where
 send:∀m e f P,J (m,e) (f::P)->J (m.bU i f,e) P
 brk:∀m e P f s z,J (m,e) (f::P)->f.1≠0->m.heard i f.1=[]->(m.bU i f).S[i]?=some s->s.nd=some z->P7 J i (m.bU i f,e) P {s with nd:=some (z.brk m.now f.1)} (z.brk m.now f.1).ot
theorem IC(φ:aS->Int×ByteArray->aS×List Ev)(a:List Ev):∀(L:m_) (m:aS) (b:List Ev),L.foldl (uy φ) (m,a++b)=((L.foldl (uy φ) (m,b)).1,a++(L.foldl (uy φ) (m,b)).2)
 | [],_,_=>rfl
 |f::L,m,b=>by
  rw[gH,gH];unfold uy;dsimp only;rw[List.append_assoc];exact IC φ a L _ _
theorem ZB{J:BQ->m_->Prop}(hφ:∀m e f P,J (m,e) (f::P)->J ((φ m f).1,e++(φ m f).2) P):∀(L:m_) (z:BQ) (P:m_),J z (L++P)->J (L.foldl (uy φ) z) P
 | [],_,_,h=>h
 |f::L,z,P,h=>by
  rw[gH];exact ZB hφ L _ P (hφ z.1 z.2 f (L++P) h)
theorem WY(m:aS)(i:Nat)(s s':bJ):(m.put i s).put i s'=m.put i s':=by
 unfold aS.put;dsimp only;rw[List.set_set]
theorem ab1(hi:i<m.S.length)(s:bJ):(m.put i s).at' i=s:=eX (by rw[(ic _ _ _).1,List.getElem?_set_self hi])
theorem IB{J:BQ->m_->Prop}(hφ:∀m e f P,J (m,e) (f::P)->J ((φ m f).1,e++(φ m f).2) P){m:aS}{e:List Ev}{P:m_}{s:bJ}{o:Ot}(hi:i<m.S.length)(h:P7 J i (m,e) P s o):J (((m.put i s).jH φ i o).1,e++((m.put i s).jH φ i o).2) P:=by
 unfold aS.jH;rw[ab1 hi,WY];split
 ·rename_i hd;rw[iD];exact h.idle hd
 ·rename_i hd;have hd':o.idle=false:=by simpa using hd
  split
  ·rename_i hw;have h1:=ZB hφ o.aL _ P (h.whole hd' hw);rw[IC]at h1;exact h1
  ·rename_i hw;exact h.aex hd' (by simpa using hw)
theorem Yz{J:BQ->m_->Prop}(hJ:Y4 J i){m:aS}{e:List Ev}{P:m_}{s:bJ}{o:Ot}(hi:i<m.S.length)(h:P7 J i (m,e) P s o):J (((m.put i s).did i o).1,e++((m.put i s).did i o).2) P:=by
 refine IB (φ:=aS.jo i) (λm e f P hj=> ?_) hi h;have h1:=hJ.send m e f P hj;unfold aS.jo;split
 ·rw[iD];exact h1
 ·rename_i hne;simp only[not_or,Classical.not_not]at hne;split
  ·rw[iD];exact h1
  ·rename_i z hz;have hi2:i<(m.bU i f).S.length:=by
    refine Nat.lt_of_not_le λhle=> ?_;unfold aS.at' at hz;rw[List.getD_eq_getElem?_getD,List.getElem?_eq_none hle]at hz;cases hz
   have hs:=cZ hi2;have hz':((m.bU i f).S[i]).nd=some z:=by rw[eX hs]at hz;exact hz
   have h2:=hJ.brk m e P f _ z hj hne.2 hne.1 hs hz';rw[eX hs];refine IB (φ:=aS.nX i) (λm e f P hj=> ?_) hi2 h2;rw[show(aS.nX i m f).2=[]from rfl,iD];exact hJ.send m e f P hj
structure Dx(I:Nat->BQ->Prop)(J:Nat->Nat->BQ->m_->Prop)(o:Op):Prop where
 mono:∀k z,I (k+1) z->I k z
 out:∀k i z,J k i z []->I k z
 did:∀k i,Y4 (J k i) i
 evn:∀k0 m e a r,I k0 (m,e)->I k0 (m,e++ [⟨a,r,Ot.none⟩])
 link:∀k0 m e (a b:Nat),a<m.S.length->b<m.S.length->o.dX=1->I k0 (m,e)->I k0 (m.link a b o.on,e)
 snd:∀m e (a b:Nat) s z,m.S[a]?=some s->s.nd=some z->b<m.S.length->o.dX=2->o.a=a->o.b=b->o.txt.size<=16->(m.at' b).addr≠z.me->(m.at' b).addr≠0->I 1 (m,e)->P7 (J 0 a) a (m,e) [] {s with nd:=some (z.snd m.now (m.at' b).addr o.txt)} (z.snd m.now (m.at' b).addr o.txt).ot
 tim:∀m e,1<=o.n->o.n<=60000->o.dX=3->I (m.S.length+1) (m,e)->I m.S.length ({m with now:=m.now+o.n},e)
 kU:∀k0 m e (i:Nat) s z,m.S[i]?=some s->s.nd=some z->o.dX=3->I (k0+1) (m,e)->P7 (J k0 i) i (m,e) [] {s with nd:=some (z.kU m.now)} (z.kU m.now).ot
 land:∀k0 m e (k:Nat) f,m.bO[k]?=some f->o.dX=4∨o.dX=5->I k0 (m,e)->I k0 ({m with bO:=m.bO.eraseIdx k},e)
 rcv:∀k0 m e (k:Nat) f s z,m.bO[k]?=some f->m.S[f.2.1]?=some s->s.nd=some z->o.dX=4->I (k0+1) (m,e)->P7 (J k0 f.2.1) f.2.1 ({m with bO:=m.bO.eraseIdx k},e) [] {s with nd:=some (z.rcv m.now (m.at' f.1).addr (aI f.2.2))} (z.rcv m.now (m.at' f.1).addr (aI f.2.2)).ot
 twice:∀k0 m e (k:Nat) f,m.bO[k]?=some f->o.dX=6->I k0 (m,e)->I k0 (m.launch f,e)
 cut:∀k0 m e (k:Nat) f n,m.bO[k]?=some f->o.dX≠1->n<=f.2.2.size->I k0 (m,e)->I k0 ({m with bO:=m.bO.set k (f.1,f.2.1,f.2.2.extract 0 n)},e)
 inj:∀k0 m e (a b:Nat) s z,m.S[a]?=some s->s.nd=some z->b<m.S.length->o.dX=8->I (k0+1) (m,e)->P7 (J k0 a) a (m,e) [] {s with nd:=some (z.rcv m.now (m.at' b).addr (aI o.txt))} (z.rcv m.now (m.at' b).addr (aI o.txt)).ot
 stop:∀k0 m e (a:Nat) s,m.S[a]?=some s->I k0 (m,e)->I k0 (m.put a s.stop,e)
 aey:∀k0 m e (a:Nat) s n,m.S[a]?=some s->I k0 (m,e)->I k0 (m.put a {s with tears:=true,whole:=max 0 n},e)
 KE:∀k0 m e (a:Nat) s,m.S[a]?=some s->s.nd=none->I (k0+1) (m,e)->P7 (J k0 a) a (m,e) [] {s with nd:=some (St.new s.addr s.bn m.now)} (St.new s.addr s.bn m.now).ot
theorem vU{I:Nat->BQ->Prop}{J:Nat->Nat->BQ->m_->Prop}(h:Dx I J o){k0:Nat}{m:aS}{e:List Ev}{i:Nat}{s:bJ}{z:St}(hs:m.S[i]?=some s)(hw:P7 (J k0 i) i (m,e) [] {s with nd:=some z} z.ot):I k0 ((m.act i z).1,e++(m.act i z).2):=by
 rw[Be hs];exact h.out k0 i _ (Yz (h.did k0 i) (eB.1 hs).1 hw)
theorem FY{I:Nat->BQ->Prop}{J:Nat->Nat->BQ->m_->Prop}(h:Dx I J o)(ho:o.dX=3)(e:List Ev):∀(l:List Nat) (z:BQ),I l.length (z.1,e++z.2)->I 0 ((l.foldl aS.sH z).1,e++(l.foldl aS.sH z).2)
 | [],_,hz=>hz
 |i::l,z,hz=>by
  rw[gH];refine FY h ho e l _ ?_;rw[dU]at hz;unfold aS.sH;split
  ·exact h.mono _ _ hz
  ·rename_i s hs;have hi2:i<z.1.S.length:=by
    refine Nat.lt_of_not_le λhle=> ?_;unfold aS.at' at hs;rw[List.getD_eq_getElem?_getD,List.getElem?_eq_none hle]at hs;cases hs
   have hu:=cZ hi2;have hs':(z.1.S[i]).nd=some s:=by rw[eX hu]at hs;exact hs
   have h1:=vU h hu (h.kU _ z.1 (e++z.2) i _ s hu hs' ho hz);dsimp only;rw[<-List.append_assoc];exact h1
theorem Dh(h:(m.at' i).nd=none):m.hear i j b=(m,[]):=by
 unfold aS.hear;rw[h]
theorem Df{s:St}(h:(m.at' i).nd=some s):m.hear i j b=m.act i (s.rcv m.now (m.at' j).addr (aI b)):=by
 unfold aS.hear;rw[h]
theorem zG{I:Nat->BQ->Prop}{J:Nat->Nat->BQ->m_->Prop}(h:Dx I J o){m:aS}{e:List Ev}(hfl:∀f∈m.bO,f.2.1<m.S.length){n:Nat}(hn:m.S.length+1<=n)(hIn:I n (m,e)):I 0 ((m.step o).1,e++(m.step o).2):=by
 have TT:∀(k j:Nat) (z:BQ),I (k+j) z->I k z:=by
  intro k j
  induction j with
  |zero=>exact λz h=>h
  |succ j ih=>exact λz hz=>ih z (h.mono _ _ hz)
 have hI:I 0 (m,e):=TT 0 n _ (by rw[Nat.zero_add];exact hIn);have hI1:I (0+1) (m,e):=TT 1 (n - 1) _ (by rw[show 1+(n - 1)=n by omega];exact hIn);have hIS:I (m.S.length+1) (m,e):=TT _ (n - (m.S.length+1)) _ (by rw[show m.S.length+1+(n - (m.S.length+1))=n by omega];exact hIn);unfold aS.step;split
 ·exact h.evn _ _ _ _ _ hI
 rename_i hmay;have kJ:m.may o=true:=by simpa using hmay
 unfold aS.may at kJ;split
 ·rename_i h1;rw[aQ h1,fF]at kJ;obtain⟨i,hi,hil⟩:=kK kJ.1;obtain⟨j,hj,hjl⟩:=kK kJ.2;rw[hi,hj,iU,iU,iD];exact h.link _ m e i j hil hjl h1 hI
 rename_i h1;rw[aM h1]at kJ;split
 ·rename_i h2;rw[aQ (.inl h2),fF]at kJ;obtain⟨i,hi,hil⟩:=lM kJ.1;obtain⟨j,hj,hjl⟩:=kK kJ.2;rw[hi,hj,iU,iU];have hs:=cZ hil;unfold aS.send;rw[eX hs];split
  ·rw[iD];exact hI
  ·rename_i z hz;split
   ·exact h.evn _ _ _ _ _ hI
   ·rename_i hsz;split
    ·exact h.evn _ _ _ _ _ hI
    ·rename_i hd;simp only[not_or]at hd;exact vU h hs (h.snd m e i j _ z hs hz hjl h2 hi hj (by omega) hd.1 hd.2 hI1)
 rename_i h2;split
 ·rename_i h3;unfold aS.tick;split
  ·rw[iD];exact hI
  ·rename_i hn;simp only[not_or]at hn;refine FY h h3 e _ _ ?_;rw[iD,List.length_range];exact h.tim m e (by omega) (by omega) h3 hIS
 rename_i h3;split
 ·rename_i h4;unfold aS.flight;split
  ·rw[iD];exact hI
  ·rename_i hn;simp only[not_or]at hn;dsimp only;have hk:o.a.toNat%m.bO.length<m.bO.length:=Nat.mod_lt _ (by omega);generalize o.a.toNat%m.bO.length=k at hk;obtain⟨f,hf⟩:∃f,m.bO[k]?=some f:=⟨_,cZ hk⟩;have hgd:m.bO.getD k (0,0,⟨#[]⟩)=f:=by rw[List.getD_eq_getElem?_getD,hf];rfl
   rw[hgd];have afm:=hfl f (gG hf);split
   ·rename_i h5;have hs:=cZ afm;have ha:({m with bO:=m.bO.eraseIdx k}:aS).at' f.2.1=m.S[f.2.1]:=eX (m:={m with bO:=m.bO.eraseIdx k}) hs;cases hz:(m.S[f.2.1]).nd with
    |none=>
     rw[Dh (by rw[ha];exact hz),iD];exact h.land _ m e k f hf (.inl h5) hI
    |some z=>
     rw[Df (by rw[ha];exact hz)];exact vU (m:={m with bO:=m.bO.eraseIdx k}) h hs (h.rcv _ m e k f _ z hf hs hz h5 hI1)
   ·split
    ·rename_i h5 h6;rw[iD];exact h.land _ m e k f hf (.inr h6) hI
    ·split
     ·rename_i h6;rw[iD];exact h.twice _ m e k f hf h6 hI
     ·rw[iD];exact h.cut _ m e k f _ hf h1 (Nat.sub_le _ _) hI
 rename_i h4;split
 ·rename_i h8;rw[aQ (.inr h8),fF]at kJ;obtain⟨i,hi,hil⟩:=lM kJ.1;obtain⟨j,hj,hjl⟩:=kK kJ.2;rw[hi,hj,iU,iU];have hs:=cZ hil;cases hz:(m.S[i]).nd with
  |none=>
   rw[Dh (by rw[eX hs];exact hz),iD];exact hI
  |some z=>
   rw[Df (by rw[eX hs];exact hz)];exact vU h hs (h.inj _ m e i j _ z hs hz hjl h8 hI1)
 rename_i h8;rw[aM (by simp[h2,h8])]at kJ;split
 ·rename_i h9;rw[aQ (.inl h9)]at kJ;obtain⟨i,hi,hil⟩:=lM kJ;rw[hi,iU,iD,eX (cZ hil)];exact h.stop _ m e i _ (cZ hil) hI
 rename_i h9;split
 ·rename_i h10;rw[aQ (.inr h10)]at kJ;obtain⟨i,hi,hil⟩:=lM kJ;rw[hi,iU,iD,eX (cZ hil)];exact h.aey _ m e i _ _ (cZ hil) hI
 rename_i h10;split
 ·rename_i h11;rw[aM (by simp[h9,h10]),aQ h11,fF]at kJ;obtain⟨i,hi,hil⟩:=kK kJ.1;rw[hi,iU];have hs:=cZ hil;unfold aS.KE;rw[eX hs];have hz:(m.S[i]).nd=none:=by
   have h2:=kJ.2;unfold aS.runs at h2;rw[hi,iU,eX hs]at h2;have h3:m.has (i:Int)=true:=by
    unfold aS.has;simp;omega
   rw[h3]at h2;simpa using h2
  exact vU h hs (h.KE _ m e i _ hs hz hI1)
 ·rw[iD];exact hI
variable{c:sF}{A:List Rt}{m:aS}{n:Nat}{f:Rt->Rt}{s s':St}
def Fj(me:Int)(A:List Rt):Prop:=∀y∈A,y.dest≠me∧(y.valid=false->y.bH=[])
theorem DL{me:Int}(h:Fj me A)(hf:∀y,(f y).dest=y.dest∧((y.valid=false->y.bH=[])->(f y).valid=false->(f y).bH=[])):Fj me (A.map f):=by
 intro y hy;obtain⟨z,hz,rfl⟩:=di.1 hy;obtain⟨h1,h2⟩:=h z hz;obtain⟨e1,e2⟩:=hf z;exact⟨by rw[e1];exact h1,e2 h2⟩
theorem uN{me:Int}{d:Int}(h:Fj me A)(hf:∀y,(f y).dest=y.dest∧((y.valid=false->y.bH=[])->(f y).valid=false->(f y).bH=[])):Fj me (g_ A d f):=by
 refine DL h λy=> ?_;split
 ·exact hf y
 ·exact⟨rfl,λh=>h⟩
theorem Lx{me:Int}(h:Fj me A)(d q hp n e:Int):Fj me (iW me A d q hp n e).1:=by
 unfold iW;split
 ·exact h
 ·rename_i hd;simp only[not_or]at hd;split
  ·split
   ·exact uN h λy=>⟨rfl,λ_ h=>by cases h⟩
   ·exact h
  ·split
   ·exact h
   ·intro y hy;unfold ul at hy;rcases eu.1 hy with hy|hy
    ·exact h y (List.mem_of_mem_take hy)
    ·rcases fe.1 hy with rfl|hy
     ·exact⟨hd.1,λh=>by cases h⟩
     ·exact h y (List.mem_of_mem_drop hy)
theorem Cu(fr q:Int)(y:Rt):(bY fr q y).dest=y.dest∧((y.valid=false->y.bH=[])->(bY fr q y).valid=false->(bY fr q y).bH=[]):=by
 refine⟨eG _ _ y,?_⟩;unfold bY;split
 ·exact λ_ _=>rfl
 ·exact λh=>h
theorem Wl{me:Int}(h:Fj me A)(now:Int):Fj me (iZ A now):=by
 refine DL h λy=>⟨gX now y,?_⟩;unfold oP;split
 ·exact λ_ _=>rfl
 ·exact λh=>h
theorem Wi{me now:Int}{A':List Rt}(t:U2 me now c A A')(h:Fj me A):Fj me A':=by
 cases t with
 |VX=>exact Lx h _ _ _ _ _
 |VW=>exact Lx h _ _ _ _ _
 |use d e=>
  refine uN h λy=>⟨mE e y,?_⟩;unfold tJ;split
  ·rename_i hv;exact λ_ h=>by
    dsimp only at h;rw[hv]at h;cases h
  ·exact λh=>h
 |bH d n=>
  refine uN h λy=>⟨lu n y,?_⟩;unfold rJ;split
  ·rename_i hv;exact λ_ h=>by
    dsimp only at h;rw[hv.1]at h;cases h
  ·exact λh=>h
 |lose fr p L hc x hx=>exact uN h λy=>Cu fr x.2 y
 |brk d_=>exact DL h λy=>Cu d_ 0 y
 |grow d _=>exact uN h λy=>⟨rfl,λh=>h⟩
theorem Z5(k:Pr c s s')(h:Fj s.me s.A):Fj s'.me s'.A:=by
 cases k with
 |yI e=>rw[e.me,e.A];exact h
 |tab t=>exact Wi t h
 |aK _ _ _ _ _=>exact h
 |grw=>exact h
 |mx _ _ _ _=>exact h
 |wr=>exact h
theorem Wj(k:fQ c n s s')(h:Fj s.me s.A):Fj s'.me s'.A:=by
 induction k with
 |nil=>exact h
 |snoc _ k ih=>exact Z5 k (ih h)
theorem uO{now:Int}(k:fQ c n (s.locked.begin now) s')(h:Fj s.me s.A):Fj s'.finish.freed.me s'.finish.freed.A:=by
 have h1:Fj (s.locked.begin now).me (s.locked.begin now).A:=Wl h now;have h2:=Wj k h1;have e:=aP s';show Fj s'.finish.me s'.finish.A;rw[e.me,e.A];exact h2
structure NK(z:St):Prop where
 NU:mg z
 tb:Fj z.me z.A
theorem EX(h:mg s):mg s.finish.freed:=by
 intro q hq;have e:=(aP s).Q;have hq':q∈s.finish.Q:=hq;rw[e]at hq';exact h q hq'
theorem NK.rcv{z:St}(h:NK z)(now fr:Int)(xs:List Int)(hb:∀x∈xs,0<=x∧x<=255):NK (z.rcv now fr xs)∧Qk (z.rcv now fr xs).aL:=by
 have h4:∀q∈z.Q,q.txt.length<=4:=λq hq=>(h.NU q hq).1;obtain⟨n,s',h1,h2⟩:=LW z now fr xs h4;refine⟨⟨EX (s:=(z.locked.begin now).hear fr xs) λq hq=>h.NU q ((AV (z.locked.begin now) fr xs hb h4).qs q hq),?_⟩,?_⟩
 ·rw[h2];exact uO h1 h.tb
 ·rw[h2];exact vK h1
theorem NK.brk{z:St}(h:NK z)(now d_:Int):NK (z.brk now d_)∧Qk (z.brk now d_).aL:=by
 obtain⟨s',h1,h2⟩:=Ff z now d_;refine⟨⟨λq hq=> ?_,?_⟩,?_⟩
 ·rw[(Ba z now d_).2.2]at hq;exact h.NU q hq
 ·rw[h2];exact uO h1 h.tb
 ·rw[h2];exact vK h1
theorem Cz:∀(D:List Sr) (s:St),(∀q∈D,q.txt.length<=4∧1<=q.ttl∧q.ttl<=8)->mg s->mg (D.foldl St.step s)
 | [],_,_,h=>h
 |q::D,s,hD,h=>by
  rw[gH];exact Cz D _ (λz hz=>hD z (jR _ hz)) (Gj h (hD q iJ))
theorem NK.kU{z:St}(h:NK z)(now:Int):NK (z.kU now)∧Qk (z.kU now).aL:=by
 obtain⟨s',h1,h2⟩:=DK z now h.NU;refine⟨⟨EX (s:=(St.kS z.Q now).foldl St.step (z.locked.begin now)) (Cz _ _ (λq hq=>h.NU q (Iy hq)) h.NU),?_⟩,?_⟩
 ·rw[h2];exact uO h1 h.tb
 ·rw[h2];exact vK h1
theorem NT(h:mg s)(d:Int)(t:ByteArray):mg (s.await d t):=by
 unfold St.await;split
 ·rename_i q hq;have hq4:=h q (jh hq).1;intro z hz;have hz':z∈St.dm s.Q (s.hold q t).2:=hz;rcases fI hz' with rfl|⟨k,_⟩
  ·unfold St.hold;split
   ·rename_i e;dsimp only;rw[dw,List.length_tail,List.length_singleton];exact⟨by omega,hq4.2⟩
   ·dsimp only;rw[dw,List.length_singleton];exact⟨by omega,hq4.2⟩
  ·exact h z k
 ·refine uX (λz hz=> ?_) ⟨by simp[St.iQ],by show(1:Int)<=1∧(1:Int)<=8;omega⟩;rcases eu.1 hz with hz|hz
  ·exact h z hz
  ·rw[eZ]at hz;subst hz;exact⟨by simp[St.iQ],by show(1:Int)<=1∧(1:Int)<=8;omega⟩
theorem NK.snd{z:St}(h:NK z)(now d:Int)(t:ByteArray):NK (z.snd now d t)∧Qk (z.snd now d t).aL:=by
 obtain⟨n,s',h1,h2⟩:=LJ z now d t;refine⟨⟨EX (s:=if (bN (z.locked.begin now).A d (z.locked.begin now).now).2 then(z.locked.begin now).bg d t else(z.locked.begin now).await d t) ?_,?_⟩,?_⟩
 ·split
  ·intro q hq;rw[(gK _ _ _).1]at hq;exact h.NU q hq
  ·exact NT (s:=z.locked.begin now) h.NU d t
 ·rw[h2];exact uO h1 h.tb
 ·rw[h2];exact vK h1
theorem JW(me:Int)(xs:List Int)(now:Int):NK (St.new me xs now)∧(St.new me xs now).aL=[]:=by
 have e:=aP (St.raw me xs now);rw[St.uh];refine⟨⟨λq hq=> ?_,?_⟩,e.aL⟩
 ·rw[e.Q]at hq;cases hq
 ·rw[e.me,e.A];have e2:(St.raw me xs now).A=uH me ((cmpL (jl xs)).take (cmpL (jl xs)).length):=by rw[List.take_length];rfl
  rw[e2];intro y hy;obtain⟨j,x,_,hj,hp,rfl⟩:=El _ _ _ y hy;unfold BK at hp;simp only[fF,bne_iff_ne]at hp;exact⟨hp.2,λ_=>rfl⟩
def Vj(m:aS):Prop:=∀(i:Nat) s z,m.S[i]?=some s->s.nd=some z->NK z
theorem Vj.put(h:Vj m)(i:Nat){s:bJ}(hs:∀z,s.nd=some z->NK z):Vj (m.put i s):=by
 intro j u z hj hz;rw[(ic _ _ _).1]at hj;rcases b_ hj with⟨_,rfl⟩|⟨_,hj⟩
 ·exact hs z hz
 ·exact h j u z hj hz
theorem Vj.S{m':aS}(h:Vj m)(e:m'.S=m.S):Vj m':=λi s z hs hz=>h i s z (by rw[<-e];exact hs) hz
theorem FU(s:bJ)(o:Ot):(∀z,(s.write o).1.nd=some z->s.nd=some z)∧((s.write o).2=true->(s.write o).1.nd=s.nd)∧(s.write o).1.addr=s.addr∧(s.write o).1.hrs=s.hrs:=by
 unfold bJ.write;split
 ·exact⟨λ_ h=>h,λ_=>rfl,rfl,rfl⟩
 ·split
  ·exact⟨λ_ h=>(by cases h),λh=>(by cases h),rfl,rfl⟩
  ·exact⟨λ_ h=>h,λ_=>rfl,rfl,rfl⟩
def FK(m:aS):Prop:=qE m∧Vj m
def FKJ(i:Nat)(z:BQ)(P:m_):Prop:=FK z.1∧i<z.1.S.length∧Qk P
theorem Dm{i:Nat}{e:List Ev}{P:m_}{s:bJ}{z:St}(h:FKJ i (m,e) P)(hz:NK z)(hf:Qk z.aL):P7 (FKJ i) i (m,e) P {s with nd:=some z} z.ot:=by
 have hl:∀s:bJ,i<(m.put i s).S.length:=λs=>by rw[(ic _ _ _).1,List.length_set];exact h.2.1
 have hnk:Vj (m.put i (bJ.write {s with nd:=some z} z.ot).1):=h.1.2.put i λu hu=>by
  have h1:=(FU {s with nd:=some z} z.ot).1 u hu;cases h1;exact hz
 refine⟨λ_=>⟨⟨h.1.1.put i _,h.1.2.put i λu hu=> ?_⟩,hl _,h.2.2⟩,λ_ _=>⟨⟨h.1.1.put i _,hnk⟩,hl _,λf hf'=> ?_⟩,λ_ _=>⟨⟨h.1.1.put i _,hnk⟩,hl _,h.2.2⟩⟩
 ·cases hu;exact hz
 ·rcases eu.1 hf' with h1|h1
  ·exact hf f h1
  ·exact h.2.2 f h1
theorem abL(i:Nat):Y4 (FKJ i) i:=by
 have hse:∀m e f P,FKJ i (m,e) (f::P)->FKJ i (m.bU i f,e) P:=λm e f P h=>by
  have e1:=(jk m i f).1;exact⟨⟨h.1.1.bU h.2.1 (h.2.2 f iJ),h.1.2.S e1⟩,by show i<(m.bU i f).S.length;rw[e1];exact h.2.1,λg hg=>h.2.2 g (jR _ hg)⟩
 refine⟨hse,λm e P f s z h _ _ hs hz=> ?_⟩;have h':=hse m e f P h;obtain⟨h1,h2⟩:=(h'.1.2 i s z hs hz).brk m.now f.1;exact Dm h' h1 h2
theorem Wu(b:ByteArray)(n:Nat)(hn:n<=b.size):(b.extract 0 n).size<=b.size:=by
 rw[ByteArray.size_extract];omega
theorem Yp(o:Op):Dx (λ_ z=>FK z.1) (λ_=>FKJ) o:=by
 have hin:∀i m e,i<m.S.length->FK m->FKJ i (m,e) []:=λi m e hi h=>⟨h,hi,λf hf=>(by cases hf)⟩;have hlt:∀ {m:aS} {i:Nat} {s:bJ},m.S[i]?=some s->i<m.S.length:=λh=>(eB.1 h).1;refine⟨λ_ _ h=>h,λ_ i z h=>h.1,λ_=>abL,λ_ m e a r h=>h,?_,?_,λm e _ _ _ h=>h,?_,?_,?_,?_,?_,?_,?_,?_,?_⟩
 ·intro _ m e a b ha hb _ h;show FK (m.link a b o.on);unfold aS.link;split
  ·exact h
  ·have hk:∀(m:aS) (c:Nat) (L:List Bool),Vj m->Vj (m.put c {m.at' c with hrs:=L}):=λm c L hm=>hm.put c λz hz=>by
    by_cases hc:c<m.S.length
    ·have hs:=cZ hc;rw[eX hs]at hz;exact hm c _ z hs hz
    ·unfold aS.at' at hz;rw[List.getD_eq_getElem?_getD,List.getElem?_eq_none (by omega)]at hz;cases hz
   exact⟨(h.1.put a _).put b _,hk _ b _ (hk m a _ h.2)⟩
 ·intro m e a b s z hs hz hb _ _ _ _ _ _ h;obtain⟨h1,h2⟩:=(h.2 a s z hs hz).snd m.now (m.at' b).addr o.txt;exact Dm (hin a m e (hlt hs) h) h1 h2
 ·intro _ m e i s z hs hz _ h;obtain⟨h1,h2⟩:=(h.2 i s z hs hz).kU m.now;exact Dm (hin i m e (hlt hs) h) h1 h2
 ·intro _ m e k f hf _ h;exact⟨λg hg=>h.1 g (List.mem_of_mem_eraseIdx hg),h.2⟩
 ·intro _ m e k f s z hf hs hz _ h;obtain⟨h1,h2⟩:=(h.2 f.2.1 s z hs hz).rcv m.now (m.at' f.1).addr (aI f.2.2) (ou _);exact Dm (hin f.2.1 {m with bO:=m.bO.eraseIdx k} e (hlt hs) ⟨λg hg=>h.1 g (List.mem_of_mem_eraseIdx hg),h.2⟩) h1 h2
 ·intro _ m e k f hf _ h;obtain⟨h1,h2,h3⟩:=h.1 f (gG hf);exact⟨h.1.launch (i:=f.1) (j:=f.2.1) (b:=f.2.2) h1 h2 h3,h.2⟩
 ·intro _ m e k f n hf _ hn h;obtain⟨h1,h2,h3⟩:=h.1 f (gG hf);refine⟨λg hg=> ?_,h.2⟩;rcases List.mem_or_eq_of_mem_set hg with hg|rfl
  ·exact h.1 g hg
  ·exact⟨h1,h2,dH (Wu _ _ hn) h3⟩
 ·intro _ m e a b s z hs hz hb _ h;obtain⟨h1,h2⟩:=(h.2 a s z hs hz).rcv m.now (m.at' b).addr (aI o.txt) (ou _);exact Dm (hin a m e (hlt hs) h) h1 h2
 ·intro _ m e a s hs h;exact⟨h.1.put a _,h.2.put a λz hz=>by cases hz⟩
 ·intro _ m e a s n hs h;exact⟨h.1.put a _,h.2.put a λz hz=>h.2 a s z hs hz⟩
 ·intro _ m e a s hs _ h;obtain⟨h1,h2⟩:=JW s.addr s.bn m.now;exact Dm (hin a m e (hlt hs) h) h1 (by rw[h2];exact λf hf=>by cases hf)
theorem FK.step(h:FK m)(o:Op):FK (m.step o).1:=zG (Yp o) (e:=[]) (λf hf=>(h.1 f hf).2.1) (n:=m.S.length+1) (aD _) h
theorem Un{L:List Int}(hn:L.length<=6)(hU:∀a∈L,bB a)(h0:∀a∈L,a≠0):FK (aS.new L):=by
 refine⟨(Mq hn hU h0).2,λi s z hs hz=> ?_⟩;obtain⟨a,_,rfl⟩:=di.1 (gG (show(L.map λa=>(⟨a,bE (St.new a [] 0).bA,some (St.new a [] 0),List.replicate 6 false,false,0⟩:bJ))[i]?=some s from hs));cases hz;exact(JW a [] 0).1
variable{N:Int}{e:List Ev}{A:List Int}{y:MG}{m:aS}{i k n:Nat}{s s':bJ}{W W' w:World}
def ZK(A:List Int)(N:Int)(k:Nat)(z:BQ):Prop:=z.1.S.map (·.addr)=A∧z.1.now<=N+(if k<=A.length then 60000 else 0)
theorem Ew{S:List bJ}(hs:S[i]?=some s)(e:s'.addr=s.addr):(S.set i s').map (·.addr)=S.map (·.addr):=by
 rw[List.map_set];refine List.ext_getElem? λj=> ?_;by_cases hj:j=i
 ·subst hj;have hl:=(eB.1 hs).1;rw[List.getElem?_set_self (by rw[iK];exact hl),kr,hs,e];rfl
 ·rw[List.getElem?_set_ne (λh=>hj h.symm)]
theorem o_{e':List Ev}(h:ZK A N k (m,e)){i:Nat}{s s':bJ}(hs:m.S[i]?=some s)(ha:s'.addr=s.addr):ZK A N k (m.put i s',e'):=⟨(Ew hs ha).trans h.1,h.2⟩
theorem wE{P:m_}{o:Ot}(h:ZK A N k (m,e))(hs:m.S[i]?=some s)(ha:s'.addr=s.addr):P7 (λz _=>ZK A N k z) i (m,e) P s' o:=by
 have hw:=(FU s' o).2.2.1;exact⟨λ_=>o_ h hs ha,λ_ _=>o_ h hs (hw.trans ha),λ_ _=>o_ h hs (hw.trans ha)⟩
theorem oz{z:BQ}(h:ZK A N (k+1) z):ZK A N k z:=by
 refine⟨h.1,Int.le_trans h.2 ?_⟩;split<;>split<;>omega
theorem QZ(A:List Int)(N:Int)(o:Op):Dx (ZK A N) (λk _ z _=>ZK A N k z) o:=by
 refine⟨λk z h=>oz h,λk i z h=>h,λk i=>⟨λm e f P h=> ?_,λm e P f s z h _ _ hs hz=> ?_⟩,λ_ m e a r h=>h,?_,?_,?_,?_,?_,?_,?_,?_,?_,?_,?_,?_⟩
 ·have e:=jk m i f;exact⟨by rw[e.1];exact h.1,by show(m.bU i f).now<=_;rw[e.2];exact h.2⟩
 ·have e1:=jk m i f;refine wE ⟨?_,?_⟩ hs rfl
  ·rw[e1.1];exact h.1
  ·show(m.bU i f).now<=_;rw[e1.2];exact h.2
 ·intro k0 m e a b ha hb _ h;unfold aS.link;split
  ·exact h
  ·have hsa:=cZ ha;have hb':b<(m.put a {m.at' a with hrs:=(m.at' a).hrs.set b o.on}).S.length:=by rw[(ic _ _ _).1,List.length_set];exact hb
   have hsb:=cZ hb';exact o_ (o_ (e':=e) h hsa (by rw[eX hsa])) hsb (by rw[eX hsb])
 ·intro m e a b s z hs _ _ _ _ _ _ _ _ h;exact wE (oz h) hs rfl
 ·intro m e h1 h2 _ h;have hl:m.S.length=A.length:=by rw[<-h.1,iK]
  refine⟨h.1,?_⟩;have h3:=h.2;rw[aM (by omega)]at h3;rw[aQ (by omega)];show m.now+o.n<=_;dsimp only at h3;omega
 ·intro k0 m e i s z hs _ _ h;exact wE (oz h) hs rfl
 ·intro k0 m e k f _ _ h;exact h
 ·intro k0 m e k f s z _ hs _ _ h;have h':=oz h;exact wE (m:={m with bO:=m.bO.eraseIdx k}) ⟨h'.1,h'.2⟩ hs rfl
 ·intro k0 m e k f _ _ h;exact h
 ·intro k0 m e k f n _ _ _ h;exact h
 ·intro k0 m e a b s z hs _ _ _ h;exact wE (oz h) hs rfl
 ·intro k0 m e a s hs h;exact o_ h hs rfl
 ·intro k0 m e a s n hs h;exact o_ h hs rfl
 ·intro k0 m e a s hs _ h;exact wE (oz h) hs rfl
theorem Ww(hfl:∀f∈m.bO,f.2.1<m.S.length)(o:Op):(m.step o).1.S.map (·.addr)=m.S.map (·.addr)∧(m.step o).1.now<=m.now+60000:=by
 have h:=zG (QZ (m.S.map (·.addr)) m.now o) (e:=[]) hfl (n:=m.S.length+1) (aD _) ⟨rfl,by rw[iK,aM (by omega)];show m.now<=m.now+0;omega⟩;refine⟨h.1,?_⟩;have:=h.2;split at this
 ·exact this
 ·dsimp only at this;omega
def kY(n:Nat):List Int:=(List.range n).map λ(i:Nat)=>10 * (i:Int)+10
theorem mU(n:Nat):(kY n).length=n:=by simp[kY]
theorem kE(h:k<n):(kY n)[k]?=some (10 * (k:Int)+10):=by
 unfold kY;rw[kr,List.getElem?_range h];rfl
theorem N9(n:Nat):kY (n+1)=kY n++ [10 * (n:Int)+10]:=by
 unfold kY;rw[List.range_succ,List.map_append];rfl
theorem lN(hn:n<=6):∀a∈kY n,bB a∧a≠0:=by
 intro a ha;obtain⟨k,hk⟩:=List.getElem?_of_mem ha;have hl:=(eB.1 hk).1;rw[mU]at hl;rw[kE hl]at hk;cases hk;unfold bB;omega
theorem JH(n:Nat):(kY n).Nodup:=by
 unfold kY;refine List.Pairwise.map _ (λa b (h:a<b)=> ?_) (List.pairwise_lt_range);omega
structure SQ(w:World)(n i:Nat)(y:MG)(m:aS)(W:World):Prop where
 mm:MM y m W
 low:∀k,oZ y m k->w.heap.size<=k
 bl:Below w.heap.size w W
 ok:iT (1+1000000 * (i:Int)) i m
 fk:FK m
 nw:m.now<=60000 * (i:Int)
 Jp:m.S.map (·.addr)=kY n
theorem SQ.len(h:SQ w n i y m W):m.S.length=n:=by
 have:=congrArg List.length h.Jp;rw[iK,mU]at this;exact this
theorem SQ.addr(h:SQ w n i y m W){k:Nat}{s:bJ}(hs:m.S[k]?=some s):k<n∧s.addr=10 * (k:Int)+10:=by
 have hk:=(eB.1 hs).1;rw[h.len]at hk;have h1:(m.S.map (·.addr))[k]?=some s.addr:=by rw[kr,hs];rfl
 rw[h.Jp,kE hk]at h1;exact⟨hk,(Option.some.inj h1).symm⟩
theorem SQ.later(h:SQ w n i y m W)(hb:Below W.heap.size W W'):SQ w n i y m W':=
 ⟨h.mm.later hb,h.low,h.bl.trans (hb.mono h.bl.size),h.ok,h.fk,h.nw,h.Jp⟩
theorem SQ.stepped{m':aS}(h:SQ w n i y m W){y':MG}(h1:MM y' m' W')(u:MU y m y' m' W W')(ok:iT (1+1000000 * ((i+1:Nat):Int)) (i+1) m')(fk:FK m')(nw:m'.now<=60000 * ((i+1:Nat):Int))(Jp:m'.S.map (·.addr)=kY n):SQ w n (i+1) y' m' W':=by
 have hz:=h.bl.size;refine⟨h1,λk hk=> ?_,h.bl.trans (u.fx.DJ hz λj hj hf=>by have:=h.low j hf;omega),ok,fk,nw,Jp⟩;rcases u.sub k hk with e|e
 ·exact h.low k e
 ·omega
theorem af3(h:SQ w n i y m W)(hi:i<=4096)(o:Op)(ht:o.dX=8->o.txt.size<=65536)(hfw:∀(i:Nat) s,m.S[i]?=some s->s.nd=none->Y3 (jl s.bn)):
  Calls Tryz.prog 11 #[.pointer (some ⟨y.G,0,none⟩),Vz o] W λe W'=>∃v L y',e=.returned v∧L.map (·.1)=(m.step o).2∧gY W.heap.size v L W'∧y'.G=y.G∧MU y m y' (m.step o).1 W W'∧SQ w n (i+1) y' (m.step o).1 W':=by
 have hnw:=h.nw;refine(af5 h.mm h.ok (by omega) (by omega) (by omega) h.fk.1 o ht λk hk hkl hz=>UO h.ok (by omega) hkl (by have hs:=cZ hkl;rw[eX hs]at hz ⊢;exact hfw k _ hs hz)).mono ?_;rintro e W' ⟨⟨v,L,rfl,hL,hev,hmp⟩,hok⟩;obtain⟨s1,s2⟩:=Ww (λf hf=>(h.fk.1 f hf).2.1) o;obtain⟨y',h1,u⟩:=hmp;exact⟨v,L,y',rfl,hL,hev,u.G,u,h.stepped h1 u (hok.up (by omega) (aD _)) (h.fk.step o) (by omega) (s1.trans h.Jp)⟩
theorem WS{W:World}{base e size:Nat}{v:Value}{n:Nat}{xs:List Value}(h:W.ownsRow base e size v n xs)(hn:0<n):∃g cap,v=.slice (some ⟨g,0,none⟩) n cap∧n<=cap:=by
 rcases h.2 with⟨_,h0⟩|⟨g,cap,cur,rfl,hb,_,hl,_⟩
 ·omega
 ·exact⟨g,cap,rfl,hl⟩
theorem Rf{k:Nat}(h:k<6):IntKind.u32.wrap (wrap64 (wrap64 (10 * (k:Int))+10))=10 * (k:Int)+10:=by
 simp only[IntKind.wrap,IntKind.signed,IntKind.bits];unfold wrap64;simp;omega
theorem PN(W:World)(t:Int):∀(j:Nat) (u:Value),[Value.int .u32 t][j]?=some u->(W.alloc (.cells #[.int .u32 t] 34)).cell? ((⟨W.heap.size,0,none⟩:Addr).add j)=some u:=by
 intro j u hj
 match j,hj with
 |0,hj=>
  rw[Addr.add_lit,Nat.zero_add];exact(j6 W _ _ _).trans hj
 |j+1,hj=>simp at hj
theorem WT(n:Nat)(hn:0<n∧n<=6)(w:World):
  Calls Tryz.prog 10 #[.int .i64 n] w λe w'=>∃y:MG,e=.returned (.pointer (some ⟨y.G,0,none⟩))∧SQ w n 0 y (aS.new (kY n)) w':=by
 obtain⟨i2,ki,kz0,kz1,kz2⟩:=info_parts qW;go_enter Tryz.func10,Tryz.ntmps10;go_wp2_with fail;go_loopw [3,4] (λlv i wr=>∃k:Nat,k<=n∧i=.int .i64 k∧wr.ownsRow w.heap.size 34 1 lv k ((kY k).map (Value.int .u32))∧Below w.heap.size w wr) (λ_ i _=>n - (intOf i).toNat)
 case atStart=>exact⟨0,dh _,rfl,⟨rfl,.inl ⟨rfl,rfl⟩⟩,aV _ _⟩
 case round=>
  obtain⟨k,hk,rfl,hr,hb⟩:=hrel;by_cases hlt:k<n
  ·have hki:(k:Int)<(n:Int):=by omega
   have hw:=Rf (k:=k) (by omega);have hwk:wrap64 ((k:Int)+1)=(k:Int)+1:=by unfold wrap64;omega
   have hbU:Below wr.heap.size wr (wr.alloc (.cells #[.int .u32 (10 * (k:Int)+10)] 34)):=bq;have hk1:k+1<=maxLen:=by unfold maxLen;omega
   have hk2:(k+1)* 4<=140737488355328:=by omega
   have hz:=hb.size;have hr0:=hr.alloc (.cells #[.int .u32 (10 * (k:Int)+10)] 34);go_wp2_with(at_builtin;refine wpList_append_own_at _ rfl _ _ 36 rfl w.heap.size 34 i2 (.int .u32 0) 1 4 Tryz.underlying36 ki kz0 kz1 kz2 rfl (by decide) u3 k ((kY k).map (Value.int .u32)) rfl hr0 ⟨wr.heap.size,0,none⟩ 1 1 [.int .u32 (10 * (k:Int)+10)] rfl rfl (PN wr _) (by simp[Value.oneCell']) hk1 hk2 ?c3 ?_)
   case c3=>simp;omega
   intro v7 w7 iy gP _ hv7;have Ig:=(hb.trans (hbU.mono hz)).grown gP (by simp;omega) (λk e=>(hr0.lt k e).1);have FM:w7.ownsRow w.heap.size 34 1 v7 (k+1) ((kY (k+1)).map (Value.int .u32)):=by rw[N9,List.map_append];exact iy
   clear hr hb hr0 gP hv7 hbU iy hw;go_wp2;go_roundw
   case rel=>exact⟨k+1,by omega,by go_num,FM,Ig⟩
   case measure=>simp[intOf];omega
  ·obtain rfl:k=n:=by omega
   obtain⟨g,cap,rfl,hcap⟩:=WS hr hn.1;have hHN:=hide (aer g k cap (kY k) wr (mU k) hn hcap (λj hj=>by rw[List.getD_eq_getElem?_getD,kE hj];exact(lN hn.2 _ (gG (kE hj))).1) (hr.lt g rfl).2 (λj hj=>(hr.cellAt j (by omega)).trans (by rw[kr,kE hj,List.getD_eq_getElem?_getD,kE hj];rfl)) (λj hj=>by rw[List.getD_eq_getElem?_getD,kE hj];exact(lN hn.2 _ (gG (kE hj))).2) (λi j hij hj=>by rw[List.getD_eq_getElem?_getD,List.getD_eq_getElem?_getD,kE hj,kE (by omega)];show 10 * (i:Int)+10≠10 * (j:Int)+10;omega));have hnew:=Mq (L:=kY k) (by rw[mU];exact hn.2) (λa ha=>(lN hn.2 a ha).1) (λa ha=>(lN hn.2 a ha).2);have O8:=Un (L:=kY k) (by rw[mU];exact hn.2) (λa ha=>(lN hn.2 a ha).1) (λa ha=>(lN hn.2 a ha).2);have hz:=hb.size;have hfin:Hid (∀(y:MG) w',MM y (aS.new (kY k)) w'->Fx (λ_=>False) wr w'->(∀q,oZ y (aS.new (kY k)) q->wr.heap.size<=q)->SQ w k 0 y (aS.new (kY k)) w'):=hide λy w' h1 h2 h3=>by
    refine⟨h1,λq hq=>dH hz (h3 q hq),hb.trans (h2.DJ hz λ_ _ h=>absurd h id),hnew.1.up (by omega) (aD _),O8,?_,?_⟩
    ·show(0:Int)<=_;omega
    ·show((kY k).map F4).map (·.addr)=kY k;rw[List.map_map];exact List.map_id _
   clear hnew O8 hr hb hcap;go_wp2_with(go_at_call 27;refine hHN.out.mono ?_;rintro e w5 ⟨y,rfl,hm,hf,hge⟩;have hq:=hide (hfin.out y w5 hm hf hge);clear hm hf hge);go_ret;exact⟨y,rfl,hq.out⟩
variable{W:World}
def OpC(L:List Op):List Value:=L.flatMap λo=> [.int .i64 o.dX,.int .i64 o.a,.int .i64 o.b,.int .i64 o.n,.bool o.on,.string o.txt]
theorem ab4{ao:Option Addr}{L:List Op}(h:gM W ao (OpC L)){k:Nat}{o:Op}(hk:L[k]?=some o):∃g f,ao=some ⟨g,f,none⟩∧g<W.heap.size∧W.cell? ⟨g,f+k * 6,none⟩=some (.int .i64 o.dX)∧W.cell? ⟨g,f+k * 6+1,none⟩=some (.int .i64 o.a)∧W.cell? ⟨g,f+k * 6+2,none⟩=some (.int .i64 o.b)∧W.cell? ⟨g,f+k * 6+3,none⟩=some (.int .i64 o.n)∧W.cell? ⟨g,f+k * 6+4,none⟩=some (.bool o.on)∧W.cell? ⟨g,f+k * 6+5,none⟩=some (.string o.txt):=by
 have hat:∀i u,i<6->([.int .i64 o.dX,.int .i64 o.a,.int .i64 o.b,.int .i64 o.n,.bool o.on,.string o.txt]:List Value)[i]?=some u->(OpC L)[k * 6+i]?=some u:=λi u hi hu=>(kM (λo:Op=>([.int .i64 o.dX,.int .i64 o.a,.int .i64 o.b,.int .i64 o.n,.bool o.on,.string o.txt]:List Value)) 6 (by decide) (λ_=>rfl) L k i hi hk).trans hu;obtain⟨g,f,e,hl,_⟩:=h (k * 6+0) _ (hat 0 _ (by decide) rfl);refine⟨g,f,e,hl,h.one e (hat 0 _ (by decide) rfl),?_,?_,?_,?_,?_⟩
 ·have:=h.one e (hat 1 _ (by decide) rfl);rw[<-Nat.add_assoc]at this;exact this
 ·have:=h.one e (hat 2 _ (by decide) rfl);rw[<-Nat.add_assoc]at this;exact this
 ·have:=h.one e (hat 3 _ (by decide) rfl);rw[<-Nat.add_assoc]at this;exact this
 ·have:=h.one e (hat 4 _ (by decide) rfl);rw[<-Nat.add_assoc]at this;exact this
 ·have:=h.one e (hat 5 _ (by decide) rfl);rw[<-Nat.add_assoc]at this;exact this
theorem SQ.tab{w:World}{n i:Nat}{y:MG}{m:aS}(h:SQ w n i y m W){k:Nat}(hk:k<n):
  (∀x∈m.tab k,x.bH.length<=4∧(x.valid=false->x.bH=[])∧x.dest≠10 * (k:Int)+10)∧Asc (m.tab k)∧(m.tab k).length<=8∧(∀z,(m.at' k).nd=some z->z.lk=0)∧(m.at' k).bn.length<=2000∧(m.runs k=true->∃c:Nat,(m.at' k).bn.length=13 * c∧0<c∧c<=24):=by
 obtain⟨x,s,b,c,e1,e2,e3,_⟩:=h.mm.get (i:=k) (by rw[h.len];exact hk);have hs:=h.ok.at e2;have hst:=h.mm.st k x s e1 e2;have ha:=(h.addr e2).2;rw[e3];have acY:m.runs k=s.nd.isSome:=by
  unfold aS.runs aS.has;rw[iU,e3,h.len];simp[hk]
 cases hz:s.nd with
 |none=>
  have ht:m.tab k=[]:=by unfold aS.tab;rw[e3,hz]
  rw[ht,acY,hz];exact⟨λx hx=>(by cases hx),List.Pairwise.nil,dh _,λz hz=>(by cases hz),hs.jl,λh=>(by cases h)⟩
 |some z=>
  have ht:m.tab k=z.A:=by unfold aS.tab;rw[e3,hz]
  obtain⟨n0,_⟩:=hst.nd z hz;have hn:=hs.nd z hz;have hk':=h.fk.2 k s z e2 hz;rw[ht];refine⟨λx hx=>⟨(hn.ok x hx).PZ,(hk'.tb x hx).2,?_⟩,n0.cr.tb.xC,hn.len,λu hu=>by cases hu;exact hn.inv.lk,hs.jl,λ_=> ?_⟩
  ·rw[<-ha,<-hn.me];exact(hk'.tb x hx).1
  ·obtain⟨j1,j2⟩:=hs.jn z hz;have:=hn.inv.cnt;exact⟨z.cnt.toNat,by omega,by omega,by omega⟩
theorem acK{c:Int}:∃n:Nat,2<=n∧n<=6∧2+sJ c 5=(n:Int)∧wrap64 (2+sJ c 5)=(n:Int):=by
 have:=Xe c 5 (by decide);refine⟨(2+sJ c 5).toNat,by omega,by omega,by omega,?_⟩;unfold wrap64;omega
open Go.ChangeShapes Go.WideShapes Go.ChangeAt Go.Deep
variable{H:Type}{W:World}
theorem aeA:Tryz.prog.cellsOf 28=6:=by kernel_rfl
theorem LX:Tryz.prog.cellsOf 3=1:=by kernel_rfl
theorem acI:Tryz.prog.cellsOf 9=1:=by kernel_rfl
theorem aam:Tryz.prog.cellsOf 4=1:=by kernel_rfl
structure ael(o:Op):Prop where
 dX:-9223372036854775808<=o.dX∧o.dX<=9223372036854775807
 a:-9223372036854775808<=o.a∧o.a<=9223372036854775807
 b:-9223372036854775808<=o.b∧o.b<=9223372036854775807
 n:-9223372036854775808<=o.n∧o.n<=9223372036854775807
theorem Xi{enc:TypeId×Value->H}(n:Nat)(cs:List Value)(y:DataW H×List MemPlace)(h:DataW.trod enc Tryz.prog W 0 (λ_=>true) true n 28 cs=some y)(hl:cs.length=6):
  ∃o:Op,cs=[.int .i64 o.dX,.int .i64 o.a,.int .i64 o.b,.int .i64 o.n,.bool o.on,.string o.txt]∧ael o:=by
 obtain⟨c0,c1,c2,c3,c4,c5,rfl⟩:∃c0 c1 c2 c3 c4 c5,cs=[c0,c1,c2,c3,c4,c5]:=by
  match cs,hl with
  | [c0,c1,c2,c3,c4,c5],_=>exact⟨c0,c1,c2,c3,c4,c5,rfl⟩
 obtain⟨xs,n,_,_,_,hlen,hget⟩:=DataW.trod_struct Tryz.underlying28 h
 match xs,hlen with
 | [x0,x1,x2,x3,x4,x5],_=>
  have g0:DataW.trod enc Tryz.prog W 0 (λ_=>true) true n 3 (([c0,c1,c2,c3,c4,c5].drop 0).take (Tryz.prog.cellsOf 3))=some x0:=hget 0 _ rfl;rw[LX]at g0;have g1:DataW.trod enc Tryz.prog W 0 (λ_=>true) true n 3 (([c0,c1,c2,c3,c4,c5].drop 1).take (Tryz.prog.cellsOf 3))=some x1:=hget 1 _ rfl;rw[LX]at g1;have g2:DataW.trod enc Tryz.prog W 0 (λ_=>true) true n 3 (([c0,c1,c2,c3,c4,c5].drop 2).take (Tryz.prog.cellsOf 3))=some x2:=hget 2 _ rfl;rw[LX]at g2;have g3:DataW.trod enc Tryz.prog W 0 (λ_=>true) true n 3 (([c0,c1,c2,c3,c4,c5].drop 3).take (Tryz.prog.cellsOf 3))=some x3:=hget 3 _ rfl;rw[LX]at g3;have g4:DataW.trod enc Tryz.prog W 0 (λ_=>true) true n 4 (([c0,c1,c2,c3,c4,c5].drop 4).take (Tryz.prog.cellsOf 4))=some x4:=hget 4 _ rfl;rw[aam]at g4;have g5:DataW.trod enc Tryz.prog W 0 (λ_=>true) true n 9 (([c0,c1,c2,c3,c4,c5].drop 5).take (Tryz.prog.cellsOf 9))=some x5:=hget 5 _ rfl;rw[acI]at g5;clear hget;obtain⟨a0,e0,_,w0⟩:=DataW.trod_int Tryz.underlying3 g0;obtain⟨a1,e1,_,w1⟩:=DataW.trod_int Tryz.underlying3 g1;obtain⟨a2,e2,_,w2⟩:=DataW.trod_int Tryz.underlying3 g2;obtain⟨a3,e3,_,w3⟩:=DataW.trod_int Tryz.underlying3 g3;obtain⟨a4,e4,_⟩:=DataW.trod_bool Tryz.underlying4 g4;obtain⟨a5,e5,_,_⟩:=DataW.trod_string Tryz.underlying9 g5;simp at e0 e1 e2 e3 e4 e5;subst e0 e1 e2 e3 e4 e5;exact⟨⟨a0,a1,a2,a3,a4,a5⟩,rfl,⟨bounds_i64 w0,bounds_i64 w1,bounds_i64 w2,bounds_i64 w3⟩⟩
theorem RQ{enc:TypeId×Value->H}{fuel:Nat}{c:Value}{x:DataW H×List MemPlace}(h:DataW.trod enc Tryz.prog W 0 (λ_=>true) true fuel 22 [c]=some x):
  ∃ao n cap L,c=.slice ao n cap∧L.length=n∧n<=maxLen∧gM W ao (OpC L)∧∀o∈L,ael o:=
 Ox Tryz.underlying22 aeA (by decide) (λo:Op=> [.int .i64 o.dX,.int .i64 o.a,.int .i64 o.b,.int .i64 o.n,.bool o.on,.string o.txt]) _ (λ_=>rfl) Xi h
end Go.Proofs.YtakaadcpaeiccabGreat
