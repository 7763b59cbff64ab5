import Derived.Test.YtakaadcpaeiccabGreatC31
import Derived.ChangeMaps5
import Derived.Lib.SmallJoins
set_option maxHeartbeats 8000000
set_option maxRecDepth 100000
namespace Go.Proofs.YtakaadcpaeiccabGreat
open Go.RowKit Go.Maps
variable{L:List Int}{k:Nat}
theorem Tc:(Tryz.prog.info? 94).map (λi=>(i.zero,i.size,i.bytes))=some (some (.pointer none),1,8):=by kernel_rfl
def NwI(M:Nat)(w:World)(L:List Int)(k:Nat)(wr:World):Prop:=∃y:MG,y.G=M∧MM y (aS.new (L.take k)) wr∧Fx (λ_=>False) w wr∧∀q,o5 y (aS.new (L.take k)) q->w.heap.size<=q
theorem GL(hk:k<L.length):aS.new (L.take (k+1))={aS.new (L.take k)with S:=(aS.new (L.take k)).S++ [F5 (L.getD k 0)]}:=by
 unfold aS.new;rw[List.take_add_one,List.map_append]
 congr 1
 rw[List.getD_eq_getElem?_getD,bZ hk];rfl
theorem Ep(L:List Int):(aS.new L).S.length=L.length:=by
 unfold aS.new;rw[iL]
theorem Xn{M:Nat}{w wr:World}(hk:k<L.length){y:MG}(hG:y.G=M)(hm:MM y (aS.new (L.take k)) wr)(hf:Fx (λ_=>False) w wr)(hge:∀q,o5 y (aS.new (L.take k)) q->w.heap.size<=q)(W4:World)(x2:SG)(hB:x2.B=wr.heap.size)(hx:m_ x2 (F5 (L.getD k 0)) W4)(h4:Fx (λq=>q=wr.heap.size) (wr.alloc (mU (L.getD k 0))) W4)(hxg:∀q,lG x2 (F5 (L.getD k 0)) q->wr.heap.size<=q):
  MM y (aS.new (L.take k)) W4∧∀(v7:Value) (w7:World),w7.ownsRow 0 94 1 v7 ((aS.new (L.take k)).S.length+1) (KV y.L++ [.pointer (some ⟨wr.heap.size,0,none⟩)])->(W4.alloc (.cells #[.pointer (some ⟨wr.heap.size,0,none⟩)] 94)).grownBy w7 y.sv.ownBlock->(v7.ownBlock=y.sv.ownBlock∨v7.ownBlock=some (W4.alloc (.cells #[.pointer (some ⟨wr.heap.size,0,none⟩)] 94)).heap.size)->(w7.cell? ⟨M,1,none⟩=some y.sv∧w7.frozen? ⟨M,1,none⟩=false)∧Hid (NwI M w L (k+1) (w7.setCell ⟨M,1,none⟩ v7)):=by
 subst hG;have hsz:(wr.alloc (mU (L.getD k 0))).heap.size=wr.heap.size+1:=by simp
 have hz4:=h4.size;have hm2:=hm.later ((aV wr.heap.size wr).alloc (aD _) (mU (L.getD k 0)));have Cc:MM y (aS.new (L.take k)) W4:=hm2.kept λq hq=>h4.block q (hm2.lt hq) λe=>by
  have:=hm.lt hq;omega
 refine⟨Cc,λv7 w7 ho hg hv=> ?_⟩;have hb5:Below W4.heap.size W4 (W4.alloc (.cells #[.pointer (some ⟨wr.heap.size,0,none⟩)] 94)):=bq;have hm5:=Cc.later hb5;rw[<-hB]at ho;obtain⟨c1,VH,hin⟩:=hm5.add (hx.later hb5) (λq hq hq'=>by
  have h1:=hxg q hq;have h2:=hm.lt hq';omega) ho hg hv
 refine⟨c1,hide ⟨{y with L:=y.L++ [x2],sv:=v7},rfl,?_,?_,λq hq=> ?_⟩⟩
 ·rw[GL hk];exact VH
 ·have f1:Fx (λ_=>False) w (wr.alloc (mU (L.getD k 0))):=hf.trans (S':=λ_=>False) (Fx.below ((aV wr.heap.size wr).alloc (aD _) _)) λ_ _ h=>h;have hzf:=hf.size;have f2:Fx (λ_=>False) w W4:=f1.trans h4 λi hi e=>by omega
  have f3:Fx (λ_=>False) w (W4.alloc (.cells #[.pointer (some ⟨wr.heap.size,0,none⟩)] 94)):=f2.trans (S':=λ_=>False) (Fx.below hb5) λ_ _ h=>h;have f4:Fx (λ_=>False) w w7:=aW f3 hg λi hi e=>by
   have:=hge i (.inr (.inl e));omega
  exact aW f4 (ah (aC w7 (some y.G)) 1 v7) λi hi e=>by
   cases e;have:=hge y.G (.inl rfl);omega
 ·rw[GL hk]at hq;have hzf:=hf.size;have agC:=hb5.size;rcases hin q hq with h|h|⟨h,_⟩
  ·exact hge q h
  ·have:=hxg q h;omega
  ·omega
theorem aeu(g n c:Nat)(L:List Int)(w:World)(hL:L.length=n)(hn:0<n∧n<=6)(hcap:n<=c)(hU:∀k,k<n->bB (L.getD k 0))(hgl:g<w.heap.size)(hc:∀k,k<n->w.cell? ⟨g,k,none⟩=some (.int .u32 (L.getD k 0)))(h0:∀k,k<n->L.getD k 0≠0)(hd:∀j k,j<k->k<n->L.getD j 0≠L.getD k 0):
  Calls Tryz.prog 27 #[.slice (some ⟨g,0,none⟩) n c] w λe w'=>∃y:MG,e=.returned (.tuple #[.pointer (some ⟨y.G,0,none⟩),.int .i64 0])∧MM y (aS.new L) w'∧Fx (λ_=>False) w w'∧∀q,o5 y (aS.new L) q->w.heap.size<=q:=by
 have HFt:=hide (Yr g n c L w hn hcap hc h0 hd);have hst:Hid (NwI w.heap.size w L 0 (w.alloc (.cells #[.int .u64 0,.slice none 0 0,.slice none 0 0] 97))):=by
  refine hide ⟨⟨w.heap.size,.slice none 0 0,.slice none 0 0,[]⟩,rfl,⟨bS _ _,⟨rfl,.inl ⟨rfl,rfl⟩⟩,⟨rfl,.inl ⟨rfl,rfl⟩⟩,rfl,λi x s h=>(by cases h),λi j x s x' s' _ h=>(by cases h)⟩,Fx.below (bq),λq hq=> ?_⟩;rcases hq with h|h|h|⟨i,x,s,h,_⟩
  ·exact Nat.le_of_eq h.symm
  ·cases h
  ·cases h
  ·cases h
 replace hc:=hide hc;replace h0:=hide h0;replace hU:=hide hU;obtain⟨i0,hi,hz0,hz1,hz2⟩:=info_parts Tc;go_enter Tryz.func27,Tryz.ntmps27;go_upto_region 4 with(go_at_call 61;refine HFt.out.mono ?_;rintro e w2 ⟨rfl,hw⟩;have hw2:=hw.symm;subst hw2);generalize World.alloc _ _=W1 at hst ⊢;generalize w.heap.size=M at hst ⊢;go_wp2_with fail;go_loopw [15] (λi wr=>∃(j:Nat),j<=n∧i=.int .i64 j∧Hid (NwI M w L j wr)) (λi _=>n - (intOf i).toNat)
 case atStart=>exact⟨0,dh _,rfl,hst⟩
 case round=>
  obtain⟨j,hj,rfl,hr⟩:=hrel;by_cases hlt:j<n
  ·have hlL:j<L.length:=by omega
   have hix:(j:Int)<(n:Int):=by omega
   obtain⟨y,hG,hm,hf,hge⟩:=hr.out;have k0:=(World.cell?_of_block (a:=⟨g,j,none⟩) (hf.block g hgl (λh=>h))).trans (hc.out j hlt);have HX:=aac wr _ (hU.out j hlt) (h0.out j hlt);have HS:=Xn hlL hG hm hf hge;have hlen:(aS.new (L.take j)).S.length=j:=by
    rw[Ep,List.length_take];omega
   have q0:wr.cell? ⟨M,0,none⟩=some (.int .u64 0):=by
    rw[<-hG];exact hm.cell.1
   obtain⟨a,ha⟩:∃a,L.getD j 0=a:=⟨_,rfl⟩;rw[ha]at k0 HX HS;have q2:=(((aV wr.heap.size wr).alloc (aD _) (mU a)).cell (World.block_lt_of_cell? _ _ q0)).trans q0;obtain⟨W2,hW2⟩:∃W2,wr.alloc (mU a)=W2:=⟨_,rfl⟩;rw[hW2]at HX HS q2;unfold mU at hW2;obtain⟨D,hD⟩:∃D,wr.heap.size=D:=⟨_,rfl⟩;obtain⟨mk,hmk⟩:∃mk,aS.new (L.take j)=mk:=⟨_,rfl⟩;rw[hmk]at HS hlen;rw[hlen]at HS;rw[hD]at HX HS;replace HX:=hide HX;have HS2:Hid (∀(W4:World) (x2:SG),x2.B=D->m_ x2 (F5 a) W4->Fx (λq=>q=D) W2 W4->(∀q,lG x2 (F5 a) q->D<=q)->∃ao cc,y.sv=.slice ao j cc∧W4.cell? ⟨M,1,none⟩=some (.slice ao j cc)∧(W4.alloc (.cells #[.pointer (some ⟨D,0,none⟩)] 94)).ownsRow 0 94 1 (.slice ao j cc) j (KV y.L)∧∀(v7:Value) (w7:World),w7.ownsRow 0 94 1 v7 (j+1) (KV y.L++ [.pointer (some ⟨D,0,none⟩)])->(W4.alloc (.cells #[.pointer (some ⟨D,0,none⟩)] 94)).grownBy w7 (Value.slice ao j cc).ownBlock->(v7.ownBlock=(Value.slice ao j cc).ownBlock∨v7.ownBlock=some (W4.alloc (.cells #[.pointer (some ⟨D,0,none⟩)] 94)).heap.size)->(w7.cell? ⟨M,1,none⟩=some (.slice ao j cc)∧w7.frozen? ⟨M,1,none⟩=false)∧Hid (NwI M w L (j+1) (w7.setCell ⟨M,1,none⟩ v7))):=by
    refine hide λW4 x2 p1 p2 p3 p4=> ?_;obtain⟨Cc,hnx⟩:=HS W4 x2 p1 p2 p3 p4;obtain⟨ao,cc,hsv,_⟩:=ak Cc.zG;rw[hlen]at hsv;have hs5:=(Cc.later ((aV W4.heap.size W4).alloc (aD _) (.cells #[.pointer (some ⟨D,0,none⟩)] 94))).zG;have c1:=Cc.cell.2.1;rw[hsv,hlen]at hs5;rw[hG,hsv]at c1;rw[hsv]at hnx;exact⟨ao,cc,hsv,c1,hs5,hnx⟩
   have hsrc:Hid (∀W4:World,Src Tryz.prog 1 95 (.slice (some ⟨W4.heap.size,0,none⟩) 1 1) 1 [.pointer (some ⟨D,0,none⟩)] (W4.alloc (.cells #[.pointer (some ⟨D,0,none⟩)] 94))):=hide λW4=>Src.ofRow (base:=0) (e':=94) (e:=94) Tryz.underlying95 ⟨rfl,.inr ⟨W4.heap.size,1,_,rfl,dh _,bS _ _,aD _,by decide,rfl,rfl⟩⟩ (λu hu=>by
    rw[fe]at hu;subst hu;rfl)
   have hmx:Hid (j+1<=maxLen∧(j+1)* 8<=140737488355328):=by unfold maxLen;exact hide (by omega)
   clear HS hm hf hge hlen hmk ha q0 hG hr;go_upto_region 8 with(fail);clear hW2 hD k0;go_wp2_with(first
    |(go_at_call 37;refine HX.out.mono ?_;rintro e W3 ⟨aK,bP,bQ,rfl,HW⟩)
    |(go_at_call 62;refine HW.out.mono ?_;rintro e W4 ⟨rfl,x2,hB2,hm2,hf2,adv⟩;obtain⟨ao,cc,hsv,c1,hs5,hnx⟩:=HS2.out W4 x2 hB2 hm2 hf2 adv;have hsr:=hsrc.out W4;replace hnx:=hide hnx;clear hB2 hm2 hf2 adv HW hsv)
    |(at_builtin;refine uN rfl _ _ _ _ rfl 0 94 i0 (.pointer none) 1 8 Tryz.underlying95 hi hz0 hz1 hz2 rfl (.slice ao j cc) j (KV y.L) rfl hs5 _ 1 [.pointer (some ⟨D,0,none⟩)] rfl hsr hmx.out.1 hmx.out.2 (dh _)?_;intro v7 w7 ho hg hv;obtain⟨⟨g1,g2⟩,hnw⟩:=hnx.out v7 w7 ho hg hv;obtain⟨QA,UN,rfl,_⟩:=ak ho;clear ho hg hv hnx hs5 hsr))
   go_roundw
   case rel=>exact⟨j+1,by omega,by go_num,hnw⟩
   case measure=>simp[intOf];omega
  ·obtain rfl:j=n:=by omega
   obtain⟨y,hG,hm,hf,hge⟩:=hr.out;rw[kr (Nat.le_of_eq hL)]at hm hge;have hfin:Hid (∃y:MG,y.G=M∧MM y (aS.new L) wr∧Fx (λ_=>False) w wr∧∀q,o5 y (aS.new L) q->w.heap.size<=q):=⟨y,hG,hm,hf,hge⟩;clear hm hf hge hG hr hc h0 hU;go_wp2;go_returns;obtain⟨y,hG,hm,hf,hge⟩:=hfin.out;exact⟨y,by rw[hG];rfl,hm,hf,hge⟩
variable{m:aS}
theorem aad{a:Int}(hU:bB a)(h0:a≠0):Ck 1 0 0 (F5 a):=by
 have hs:Ck 1 0 0 ⟨a,[],none,List.replicate 6 false,false,0⟩:=⟨hU,h0,λx h=>(by cases h),dh _,eZ _,λz hz=>(by cases hz),λz hz=>(by cases hz)⟩;have hp:=Eo hs (eZ _) ⟨eZ _,by decide⟩;dsimp only at hp;have hne:(St.new a [] 0).ot.bA≠ []∨(St.new a [] 0).ot.bC=true:=by
  refine .inl λe=> ?_;have h1:=hp.no;have h2:=hp.yes;have h3:=hp.pos;have e':(St.new a [] 0).bA=[]:=e;dsimp only at h1 h2 h3;rw[e']at h1 h2;cases hr:(St.new a [] 0).bC with
  |false=>
   have h4:=h1 hr;simp only[List.length_nil]at h4;omega
  |true=>
   have h4:=h2 hr;simp only[List.length_nil]at h4;omega
 have hwe:=bJ.jZ (s:=⟨a,[],some (St.new a [] 0),List.replicate 6 false,false,0⟩) hne rfl;have hs2:(bJ.write ⟨a,[],some (St.new a [] 0),List.replicate 6 false,false,0⟩ (St.new a [] 0).ot).1=F5 a:=by
  rw[hwe];unfold F5;dsimp only;split<;>rfl
 have:=hp.write;rw[hs2]at this;exact this
theorem Mv{L:List Int}(hn:L.length<=6)(hU:∀a∈L,bB a)(h0:∀a∈L,a≠0):iU 1 0 (aS.new L)∧qF (aS.new L):=by
 refine⟨⟨by rw[Ep];exact hn,dh _,⟨eZ _,by show(0:Int)<=4611686018427387904;decide⟩,λs hs=> ?_⟩,λf hf=>by cases hf⟩;obtain⟨a,ha,rfl⟩:=di.1 hs;exact aad (hU a ha) (h0 a ha)
def Ql(L:List (Int×ByteArray)):Prop:=∀f∈L,f.2.size<=65536
theorem qF.launch(h:qF m){i j:Nat}{b:ByteArray}(hi:i<m.S.length)(hj:j<m.S.length)(hb:b.size<=65536):qF (m.launch (i,j,b)):=by
 intro f hf;have h1:∀f∈m.bO++ [(i,j,b)],f.1<m.S.length∧f.2.1<m.S.length∧f.2.2.size<=65536:=by
  intro f hf;rcases d_.1 hf with hf|hf
  ·exact h f hf
  ·rw[fe]at hf;subst hf;exact⟨hi,hj,hb⟩
 unfold aS.launch at hf;dsimp only at hf;split at hf
 ·exact h1 f (List.mem_of_mem_tail hf)
 ·exact h1 f hf
theorem qF.put(h:qF m)(i:Nat)(s:bJ):qF (m.put i s):=by
 intro f hf;rw[(ig _ _ _).1,List.length_set];exact h f hf
theorem qF.foldl{i:Nat}{b:ByteArray}(hb:b.size<=65536):∀(l:List Nat) (m:aS),qF m->i<m.S.length->(∀j∈l,j<m.S.length)->qF (l.foldl (λm j=>m.launch (i,j,b)) m)
 | [],_,h,_,_=>h
 |a::l,m,h,hi,hl=>by
  rw[gI];exact qF.foldl hb l _ (h.launch hi (hl a (iK ..)) hb) hi λj hj=>hl j (jS _ hj)
theorem qF.bU(h:qF m){i:Nat}{f:Int×ByteArray}(hi:i<m.S.length)(hb:f.2.size<=65536):qF (m.bU i f):=by
 refine qF.foldl hb _ _ h hi λj hj=> ?_;unfold aS.heard at hj;exact List.mem_range.1 (List.mem_filter.1 hj).1
variable{c:sG}{n:Nat}{s s':St}
theorem Py{p:aF}{L:List (Int×Int)}(h:L=[]∨L.length=p.ln):(strOfNums (nJ p L)).size<=65536:=by
 have hs:∀xs:List Int,(strOfNums xs).size=xs.length:=λxs=>by simp[strOfNums,ByteArray.size]
 rw[hs];unfold nJ;split
 ·rename_i hg;obtain⟨hl,_,_,_,_,hp,hk⟩:=eU hg;have hln:p.ln<=8:=by
   have h1:=(pU hl).1;rcases hk with hk|hk|hk|hk
   ·rw[h1];simp[aF.dz,hk]
   ·rw[h1];simp[aF.dz,hk]
   ·rw[h1];simp[aF.dz,hk]
   ·exact hk.2.2
  have hL:L.length<=8:=by
   rcases h with h|h
   ·rw[h];exact dh _
   ·omega
  have h1:=vw p p.nums.length;have h2:(iw L L.length).length<=64:=by
   unfold iw;rw[List.take_length,w_];omega
  simp only[yQ,dw,aF.head,dU,List.length_nil,dA];omega
 ·exact dh _
theorem abJ(h:Pr c s s')(hs:∀f∈s.aL,f.2.size<=65536):∀f∈s'.aL,f.2.size<=65536:=by
 cases h with
 |yJ h=>rw[h.aL];exact hs
 |tab _=>exact hs
 |aK t p L _ hz=>
  intro f hf;rcases d_.1 (show f∈s.aL++ [(t,strOfNums (nJ p L))]from hf)with hf|hf
  ·exact hs f hf
  ·rw[fe]at hf;subst hf;exact Py hz
 |grw=>exact hs
 |mx _ _ _ _=>exact hs
 |wr=>exact hs
theorem Yj(h:fU c n s s')(hs:∀f∈s.aL,f.2.size<=65536):∀f∈s'.aL,f.2.size<=65536:=by
 induction h with
 |nil=>exact hs
 |snoc _ k ih=>exact abJ k (ih hs)
theorem vL{now:Int}(h:fU c n (s.locked.begin now) s'):∀f∈s'.finish.freed.aL,f.2.size<=65536:=by
 have h1:=Yj h (λf hf=>by cases hf);rw[show s'.finish.freed.aL=s'.aL from(aP s').aL];exact h1
variable{b:ByteArray}{m:aS}{φ:aS->Int×ByteArray->aS×List Ev}{i j:Nat}{o:Op}
abbrev ng:=List (Int×ByteArray)
abbrev BR:=aS×List Ev
structure P8(J:BR->ng->Prop)(i:Nat)(z:BR)(P:ng)(s:bJ)(o:Ot):Prop where
 idle:o.idle=true->J (z.1.put i s,z.2) P
 whole:o.idle=false->(s.write o).2=true->J (z.1.put i (s.write o).1,z.2++ [⟨i,0,o⟩]) (o.aL++P)
 aez:o.idle=false->(s.write o).2=false->J (z.1.put i (s.write o).1,z.2++ [⟨i,0,Ot.none⟩]) P
structure Y5(J:BR->ng->Prop)(i:Nat):Prop where
 send:∀m e f P,J (m,e) (f::P)->J (m.bU i f,e) P
 brk:∀m e P f s z,J (m,e) (f::P)->f.1≠0->m.heard i f.1=[]->(m.bU i f).S[i]?=some s->s.nd=some z->P8 J i (m.bU i f,e) P {s with nd:=some (z.brk m.now f.1)} (z.brk m.now f.1).ot
theorem IE(φ:aS->Int×ByteArray->aS×List Ev)(a:List Ev):∀(L:ng) (m:aS) (b:List Ev),L.foldl (uz φ) (m,a++b)=((L.foldl (uz φ) (m,b)).1,a++(L.foldl (uz φ) (m,b)).2)
 | [],_,_=>rfl
 |f::L,m,b=>by
  rw[gI,gI];unfold uz;dsimp only;rw[List.append_assoc];exact IE φ a L _ _
theorem ZC{J:BR->ng->Prop}(hφ:∀m e f P,J (m,e) (f::P)->J ((φ m f).1,e++(φ m f).2) P):∀(L:ng) (z:BR) (P:ng),J z (L++P)->J (L.foldl (uz φ) z) P
 | [],_,_,h=>h
 |f::L,z,P,h=>by
  rw[gI];exact ZC hφ L _ P (hφ z.1 z.2 f (L++P) h)
theorem WZ(m:aS)(i:Nat)(s s':bJ):(m.put i s).put i s'=m.put i s':=by
 unfold aS.put;dsimp only;rw[List.set_set]
theorem ab2(hi:i<m.S.length)(s:bJ):(m.put i s).at' i=s:=eY (by rw[(ig _ _ _).1,List.getElem?_set_self hi])
theorem IC{J:BR->ng->Prop}(hφ:∀m e f P,J (m,e) (f::P)->J ((φ m f).1,e++(φ m f).2) P){m:aS}{e:List Ev}{P:ng}{s:bJ}{o:Ot}(hi:i<m.S.length)(h:P8 J i (m,e) P s o):J (((m.put i s).jI φ i o).1,e++((m.put i s).jI φ i o).2) P:=by
 unfold aS.jI;rw[ab2 hi,WZ];split
 ·rename_i hd;rw[iE];exact h.idle hd
 ·rename_i hd;have hd':o.idle=false:=by simpa using hd
  split
  ·rename_i hw;have h1:=ZC hφ o.aL _ P (h.whole hd' hw);rw[IE]at h1;exact h1
  ·rename_i hw;exact h.aez hd' (by simpa using hw)
theorem YA{J:BR->ng->Prop}(hJ:Y5 J i){m:aS}{e:List Ev}{P:ng}{s:bJ}{o:Ot}(hi:i<m.S.length)(h:P8 J i (m,e) P s o):J (((m.put i s).did i o).1,e++((m.put i s).did i o).2) P:=by
 refine IC (φ:=aS.jq i) (λm e f P hj=> ?_) hi h;have h1:=hJ.send m e f P hj;unfold aS.jq;split
 ·rw[iE];exact h1
 ·rename_i hne;simp only[not_or,Classical.not_not]at hne;split
  ·rw[iE];exact h1
  ·rename_i z hz;have hi2:i<(m.bU i f).S.length:=by
    refine Nat.lt_of_not_le λhle=> ?_;unfold aS.at' at hz;rw[List.getD_eq_getElem?_getD,List.getElem?_eq_none hle]at hz;cases hz
   have hs:=bZ hi2;have hz':((m.bU i f).S[i]).nd=some z:=by rw[eY hs]at hz;exact hz
   have h2:=hJ.brk m e P f _ z hj hne.2 hne.1 hs hz';rw[eY hs];refine IC (φ:=aS.nY i) (λm e f P hj=> ?_) hi2 h2;rw[show(aS.nY i m f).2=[]from rfl,iE];exact hJ.send m e f P hj
structure Dy(I:Nat->BR->Prop)(J:Nat->Nat->BR->ng->Prop)(o:Op):Prop where
 mono:∀k z,I (k+1) z->I k z
 out:∀k i z,J k i z []->I k z
 did:∀k i,Y5 (J k i) i
 evn:∀k0 m e a r,I k0 (m,e)->I k0 (m,e++ [⟨a,r,Ot.none⟩])
 link:∀k0 m e (a b:Nat),a<m.S.length->b<m.S.length->o.dY=1->I k0 (m,e)->I k0 (m.link a b o.on,e)
 snd:∀m e (a b:Nat) s z,m.S[a]?=some s->s.nd=some z->b<m.S.length->o.dY=2->o.a=a->o.b=b->o.txt.size<=16->(m.at' b).addr≠z.me->(m.at' b).addr≠0->I 1 (m,e)->P8 (J 0 a) a (m,e) [] {s with nd:=some (z.snd m.now (m.at' b).addr o.txt)} (z.snd m.now (m.at' b).addr o.txt).ot
 tim:∀m e,1<=o.n->o.n<=60000->o.dY=3->I (m.S.length+1) (m,e)->I m.S.length ({m with now:=m.now+o.n},e)
 kV:∀k0 m e (i:Nat) s z,m.S[i]?=some s->s.nd=some z->o.dY=3->I (k0+1) (m,e)->P8 (J k0 i) i (m,e) [] {s with nd:=some (z.kV m.now)} (z.kV m.now).ot
 land:∀k0 m e (k:Nat) f,m.bO[k]?=some f->o.dY=4∨o.dY=5->I k0 (m,e)->I k0 ({m with bO:=m.bO.eraseIdx k},e)
 rcv:∀k0 m e (k:Nat) f s z,m.bO[k]?=some f->m.S[f.2.1]?=some s->s.nd=some z->o.dY=4->I (k0+1) (m,e)->P8 (J k0 f.2.1) f.2.1 ({m with bO:=m.bO.eraseIdx k},e) [] {s with nd:=some (z.rcv m.now (m.at' f.1).addr (aI f.2.2))} (z.rcv m.now (m.at' f.1).addr (aI f.2.2)).ot
 twice:∀k0 m e (k:Nat) f,m.bO[k]?=some f->o.dY=6->I k0 (m,e)->I k0 (m.launch f,e)
 cut:∀k0 m e (k:Nat) f n,m.bO[k]?=some f->o.dY≠1->n<=f.2.2.size->I k0 (m,e)->I k0 ({m with bO:=m.bO.set k (f.1,f.2.1,f.2.2.extract 0 n)},e)
 inj:∀k0 m e (a b:Nat) s z,m.S[a]?=some s->s.nd=some z->b<m.S.length->o.dY=8->I (k0+1) (m,e)->P8 (J k0 a) a (m,e) [] {s with nd:=some (z.rcv m.now (m.at' b).addr (aI o.txt))} (z.rcv m.now (m.at' b).addr (aI o.txt)).ot
 stop:∀k0 m e (a:Nat) s,m.S[a]?=some s->I k0 (m,e)->I k0 (m.put a s.stop,e)
 aeA:∀k0 m e (a:Nat) s n,m.S[a]?=some s->I k0 (m,e)->I k0 (m.put a {s with tears:=true,whole:=max 0 n},e)
 KF:∀k0 m e (a:Nat) s,m.S[a]?=some s->s.nd=none->I (k0+1) (m,e)->P8 (J k0 a) a (m,e) [] {s with nd:=some (St.new s.addr s.bn m.now)} (St.new s.addr s.bn m.now).ot
theorem vV{I:Nat->BR->Prop}{J:Nat->Nat->BR->ng->Prop}(h:Dy I J o){k0:Nat}{m:aS}{e:List Ev}{i:Nat}{s:bJ}{z:St}(hs:m.S[i]?=some s)(hw:P8 (J k0 i) i (m,e) [] {s with nd:=some z} z.ot):I k0 ((m.act i z).1,e++(m.act i z).2):=by
 rw[Bf hs];exact h.out k0 i _ (YA (h.did k0 i) (eD.1 hs).1 hw)
theorem FZ{I:Nat->BR->Prop}{J:Nat->Nat->BR->ng->Prop}(h:Dy I J o)(ho:o.dY=3)(e:List Ev):∀(l:List Nat) (z:BR),I l.length (z.1,e++z.2)->I 0 ((l.foldl aS.sI z).1,e++(l.foldl aS.sI z).2)
 | [],_,hz=>hz
 |i::l,z,hz=>by
  rw[gI];refine FZ h ho e l _ ?_;rw[dU]at hz;unfold aS.sI;split
  ·exact h.mono _ _ hz
  ·rename_i s hs;have hi2:i<z.1.S.length:=by
    refine Nat.lt_of_not_le λhle=> ?_;unfold aS.at' at hs;rw[List.getD_eq_getElem?_getD,List.getElem?_eq_none hle]at hs;cases hs
   have hu:=bZ hi2;have hs':(z.1.S[i]).nd=some s:=by rw[eY hu]at hs;exact hs
   have h1:=vV h hu (h.kV _ z.1 (e++z.2) i _ s hu hs' ho hz);dsimp only;rw[<-List.append_assoc];exact h1
theorem Di(h:(m.at' i).nd=none):m.hear i j b=(m,[]):=by
 unfold aS.hear;rw[h]
theorem Dh{s:St}(h:(m.at' i).nd=some s):m.hear i j b=m.act i (s.rcv m.now (m.at' j).addr (aI b)):=by
 unfold aS.hear;rw[h]
theorem zH{I:Nat->BR->Prop}{J:Nat->Nat->BR->ng->Prop}(h:Dy I J o){m:aS}{e:List Ev}(hfl:∀f∈m.bO,f.2.1<m.S.length){n:Nat}(hn:m.S.length+1<=n)(hIn:I n (m,e)):I 0 ((m.step o).1,e++(m.step o).2):=by
 have TU:∀(k j:Nat) (z:BR),I (k+j) z->I k z:=by
  intro k j
  induction j with
  |zero=>exact λz h=>h
  |succ j ih=>exact λz hz=>ih z (h.mono _ _ hz)
 have hI:I 0 (m,e):=TU 0 n _ (by rw[Nat.zero_add];exact hIn);have hI1:I (0+1) (m,e):=TU 1 (n - 1) _ (by rw[show 1+(n - 1)=n by omega];exact hIn);have hIS:I (m.S.length+1) (m,e):=TU _ (n - (m.S.length+1)) _ (by rw[show m.S.length+1+(n - (m.S.length+1))=n by omega];exact hIn);unfold aS.step;split
 ·exact h.evn _ _ _ _ _ hI
 rename_i hmay;have kK:m.may o=true:=by simpa using hmay
 unfold aS.may at kK;split
 ·rename_i h1;rw[aQ h1,fG]at kK;obtain⟨i,hi,hil⟩:=kL kK.1;obtain⟨j,hj,hjl⟩:=kL kK.2;rw[hi,hj,iV,iV,iE];exact h.link _ m e i j hil hjl h1 hI
 rename_i h1;rw[aM h1]at kK;split
 ·rename_i h2;rw[aQ (.inl h2),fG]at kK;obtain⟨i,hi,hil⟩:=lN kK.1;obtain⟨j,hj,hjl⟩:=kL kK.2;rw[hi,hj,iV,iV];have hs:=bZ hil;unfold aS.send;rw[eY hs];split
  ·rw[iE];exact hI
  ·rename_i z hz;split
   ·exact h.evn _ _ _ _ _ hI
   ·rename_i hsz;split
    ·exact h.evn _ _ _ _ _ hI
    ·rename_i hd;simp only[not_or]at hd;exact vV h hs (h.snd m e i j _ z hs hz hjl h2 hi hj (by omega) hd.1 hd.2 hI1)
 rename_i h2;split
 ·rename_i h3;unfold aS.tick;split
  ·rw[iE];exact hI
  ·rename_i hn;simp only[not_or]at hn;refine FZ h h3 e _ _ ?_;rw[iE,List.length_range];exact h.tim m e (by omega) (by omega) h3 hIS
 rename_i h3;split
 ·rename_i h4;unfold aS.flight;split
  ·rw[iE];exact hI
  ·rename_i hn;simp only[not_or]at hn;dsimp only;have hk:o.a.toNat%m.bO.length<m.bO.length:=Nat.mod_lt _ (by omega);generalize o.a.toNat%m.bO.length=k at hk;obtain⟨f,hf⟩:∃f,m.bO[k]?=some f:=⟨_,bZ hk⟩;have hgd:m.bO.getD k (0,0,⟨#[]⟩)=f:=by rw[List.getD_eq_getElem?_getD,hf];rfl
   rw[hgd];have afo:=hfl f (gH hf);split
   ·rename_i h5;have hs:=bZ afo;have ha:({m with bO:=m.bO.eraseIdx k}:aS).at' f.2.1=m.S[f.2.1]:=eY (m:={m with bO:=m.bO.eraseIdx k}) hs;cases hz:(m.S[f.2.1]).nd with
    |none=>
     rw[Di (by rw[ha];exact hz),iE];exact h.land _ m e k f hf (.inl h5) hI
    |some z=>
     rw[Dh (by rw[ha];exact hz)];exact vV (m:={m with bO:=m.bO.eraseIdx k}) h hs (h.rcv _ m e k f _ z hf hs hz h5 hI1)
   ·split
    ·rename_i h5 h6;rw[iE];exact h.land _ m e k f hf (.inr h6) hI
    ·split
     ·rename_i h6;rw[iE];exact h.twice _ m e k f hf h6 hI
     ·rw[iE];exact h.cut _ m e k f _ hf h1 (Nat.sub_le _ _) hI
 rename_i h4;split
 ·rename_i h8;rw[aQ (.inr h8),fG]at kK;obtain⟨i,hi,hil⟩:=lN kK.1;obtain⟨j,hj,hjl⟩:=kL kK.2;rw[hi,hj,iV,iV];have hs:=bZ hil;cases hz:(m.S[i]).nd with
  |none=>
   rw[Di (by rw[eY hs];exact hz),iE];exact hI
  |some z=>
   rw[Dh (by rw[eY hs];exact hz)];exact vV h hs (h.inj _ m e i j _ z hs hz hjl h8 hI1)
 rename_i h8;rw[aM (by simp[h2,h8])]at kK;split
 ·rename_i h9;rw[aQ (.inl h9)]at kK;obtain⟨i,hi,hil⟩:=lN kK;rw[hi,iV,iE,eY (bZ hil)];exact h.stop _ m e i _ (bZ hil) hI
 rename_i h9;split
 ·rename_i h10;rw[aQ (.inr h10)]at kK;obtain⟨i,hi,hil⟩:=lN kK;rw[hi,iV,iE,eY (bZ hil)];exact h.aeA _ m e i _ _ (bZ hil) hI
 rename_i h10;split
 ·rename_i h11;rw[aM (by simp[h9,h10]),aQ h11,fG]at kK;obtain⟨i,hi,hil⟩:=kL kK.1;rw[hi,iV];have hs:=bZ hil;unfold aS.KF;rw[eY hs];have hz:(m.S[i]).nd=none:=by
   have h2:=kK.2;unfold aS.runs at h2;rw[hi,iV,eY hs]at h2;have h3:m.has (i:Int)=true:=by
    unfold aS.has;simp;omega
   rw[h3]at h2;simpa using h2
  exact vV h hs (h.KF _ m e i _ hs hz hI1)
 ·rw[iE];exact hI
variable{c:sG}{A:List Rt}{m:aS}{n:Nat}{f:Rt->Rt}{s s':St}
def Fp(me:Int)(A:List Rt):Prop:=∀y∈A,y.dest≠me∧(y.valid=false->y.bH=[])
theorem DN{me:Int}(h:Fp me A)(hf:∀y,(f y).dest=y.dest∧((y.valid=false->y.bH=[])->(f y).valid=false->(f y).bH=[])):Fp me (A.map f):=by
 intro y hy;obtain⟨z,hz,rfl⟩:=di.1 hy;obtain⟨h1,h2⟩:=h z hz;obtain⟨e1,e2⟩:=hf z;exact⟨by rw[e1];exact h1,e2 h2⟩
theorem uO{me:Int}{d:Int}(h:Fp me A)(hf:∀y,(f y).dest=y.dest∧((y.valid=false->y.bH=[])->(f y).valid=false->(f y).bH=[])):Fp me (h_ A d f):=by
 refine DN h λy=> ?_;split
 ·exact hf y
 ·exact⟨rfl,λh=>h⟩
theorem LA{me:Int}(h:Fp me A)(d q hp n e:Int):Fp me (iX me A d q hp n e).1:=by
 unfold iX;split
 ·exact h
 ·rename_i hd;simp only[not_or]at hd;split
  ·split
   ·exact uO h λy=>⟨rfl,λ_ h=>by cases h⟩
   ·exact h
  ·split
   ·exact h
   ·intro y hy;unfold um at hy;rcases d_.1 hy with hy|hy
    ·exact h y (List.mem_of_mem_take hy)
    ·rcases fo.1 hy with rfl|hy
     ·exact⟨hd.1,λh=>by cases h⟩
     ·exact h y (List.mem_of_mem_drop hy)
theorem Cv(fr q:Int)(y:Rt):(bY fr q y).dest=y.dest∧((y.valid=false->y.bH=[])->(bY fr q y).valid=false->(bY fr q y).bH=[]):=by
 refine⟨eH _ _ y,?_⟩;unfold bY;split
 ·exact λ_ _=>rfl
 ·exact λh=>h
theorem Wm{me:Int}(h:Fp me A)(now:Int):Fp me (ja A now):=by
 refine DN h λy=>⟨gY now y,?_⟩;unfold oQ;split
 ·exact λ_ _=>rfl
 ·exact λh=>h
theorem Wj{me now:Int}{A':List Rt}(t:U3 me now c A A')(h:Fp me A):Fp me A':=by
 cases t with
 |VY=>exact LA h _ _ _ _ _
 |VX=>exact LA h _ _ _ _ _
 |use d e=>
  refine uO h λy=>⟨mF e y,?_⟩;unfold tK;split
  ·rename_i hv;exact λ_ h=>by
    dsimp only at h;rw[hv]at h;cases h
  ·exact λh=>h
 |bH d n=>
  refine uO h λy=>⟨lC n y,?_⟩;unfold rM;split
  ·rename_i hv;exact λ_ h=>by
    dsimp only at h;rw[hv.1]at h;cases h
  ·exact λh=>h
 |lose fr p L hc x hx=>exact uO h λy=>Cv fr x.2 y
 |brk eB=>exact DN h λy=>Cv eB 0 y
 |grow d _=>exact uO h λy=>⟨rfl,λh=>h⟩
theorem Z6(k:Pr c s s')(h:Fp s.me s.A):Fp s'.me s'.A:=by
 cases k with
 |yJ e=>rw[e.me,e.A];exact h
 |tab t=>exact Wj t h
 |aK _ _ _ _ _=>exact h
 |grw=>exact h
 |mx _ _ _ _=>exact h
 |wr=>exact h
theorem Wl(k:fU c n s s')(h:Fp s.me s.A):Fp s'.me s'.A:=by
 induction k with
 |nil=>exact h
 |snoc _ k ih=>exact Z6 k (ih h)
theorem uP{now:Int}(k:fU c n (s.locked.begin now) s')(h:Fp s.me s.A):Fp s'.finish.freed.me s'.finish.freed.A:=by
 have h1:Fp (s.locked.begin now).me (s.locked.begin now).A:=Wm h now;have h2:=Wl k h1;have e:=aP s';show Fp s'.finish.me s'.finish.A;rw[e.me,e.A];exact h2
structure NK(z:St):Prop where
 NV:mh z
 tb:Fp z.me z.A
theorem EY(h:mh s):mh s.finish.freed:=by
 intro q hq;have e:=(aP s).Q;have hq':q∈s.finish.Q:=hq;rw[e]at hq';exact h q hq'
theorem NK.rcv{z:St}(h:NK z)(now fr:Int)(xs:List Int)(hb:∀x∈xs,0<=x∧x<=255):NK (z.rcv now fr xs)∧Ql (z.rcv now fr xs).aL:=by
 have h4:∀q∈z.Q,q.txt.length<=4:=λq hq=>(h.NV q hq).1;obtain⟨n,s',h1,h2⟩:=LX z now fr xs h4;refine⟨⟨EY (s:=(z.locked.begin now).hear fr xs) λq hq=>h.NV q ((AX (z.locked.begin now) fr xs hb h4).qs q hq),?_⟩,?_⟩
 ·rw[h2];exact uP h1 h.tb
 ·rw[h2];exact vL h1
theorem NK.brk{z:St}(h:NK z)(now eB:Int):NK (z.brk now eB)∧Ql (z.brk now eB).aL:=by
 obtain⟨s',h1,h2⟩:=Fg z now eB;refine⟨⟨λq hq=> ?_,?_⟩,?_⟩
 ·rw[(Bb z now eB).2.2]at hq;exact h.NV q hq
 ·rw[h2];exact uP h1 h.tb
 ·rw[h2];exact vL h1
theorem CF:∀(D:List Sr) (s:St),(∀q∈D,q.txt.length<=4∧1<=q.ttl∧q.ttl<=8)->mh s->mh (D.foldl St.step s)
 | [],_,_,h=>h
 |q::D,s,hD,h=>by
  rw[gI];exact CF D _ (λz hz=>hD z (jS _ hz)) (Gl h (hD q iK))
theorem NK.kV{z:St}(h:NK z)(now:Int):NK (z.kV now)∧Ql (z.kV now).aL:=by
 obtain⟨s',h1,h2⟩:=DL z now h.NV;refine⟨⟨EY (s:=(St.kT z.Q now).foldl St.step (z.locked.begin now)) (CF _ _ (λq hq=>h.NV q (Iz hq)) h.NV),?_⟩,?_⟩
 ·rw[h2];exact uP h1 h.tb
 ·rw[h2];exact vL h1
theorem NU(h:mh s)(d:Int)(t:ByteArray):mh (s.await d t):=by
 unfold St.await;split
 ·rename_i q hq;have hq4:=h q (jk hq).1;intro z hz;have hz':z∈St.dm s.Q (s.hold q t).2:=hz;rcases fJ hz' with rfl|⟨k,_⟩
  ·unfold St.hold;split
   ·rename_i e;dsimp only;rw[dw,List.length_tail,List.length_singleton];exact⟨by omega,hq4.2⟩
   ·dsimp only;rw[dw,List.length_singleton];exact⟨by omega,hq4.2⟩
  ·exact h z k
 ·refine uY (λz hz=> ?_) ⟨by simp[St.iR],by show(1:Int)<=1∧(1:Int)<=8;omega⟩;rcases d_.1 hz with hz|hz
  ·exact h z hz
  ·rw[fe]at hz;subst hz;exact⟨by simp[St.iR],by show(1:Int)<=1∧(1:Int)<=8;omega⟩
theorem NK.snd{z:St}(h:NK z)(now d:Int)(t:ByteArray):NK (z.snd now d t)∧Ql (z.snd now d t).aL:=by
 obtain⟨n,s',h1,h2⟩:=LK z now d t;refine⟨⟨EY (s:=if (bN (z.locked.begin now).A d (z.locked.begin now).now).2 then(z.locked.begin now).bg d t else(z.locked.begin now).await d t)?_,?_⟩,?_⟩
 ·split
  ·intro q hq;rw[(gL _ _ _).1]at hq;exact h.NV q hq
  ·exact NU (s:=z.locked.begin now) h.NV d t
 ·rw[h2];exact uP h1 h.tb
 ·rw[h2];exact vL h1
theorem JX(me:Int)(xs:List Int)(now:Int):NK (St.new me xs now)∧(St.new me xs now).aL=[]:=by
 have e:=aP (St.raw me xs now);rw[St.uj];refine⟨⟨λq hq=> ?_,?_⟩,e.aL⟩
 ·rw[e.Q]at hq;cases hq
 ·rw[e.me,e.A];have e2:(St.raw me xs now).A=uI me ((cmpL (jl xs)).take (cmpL (jl xs)).length):=by rw[List.take_length];rfl
  rw[e2];intro y hy;obtain⟨j,x,_,hj,hp,rfl⟩:=Em _ _ _ y hy;unfold BL at hp;simp only[fG,bne_iff_ne]at hp;exact⟨hp.2,λ_=>rfl⟩
def Vk(m:aS):Prop:=∀(i:Nat) s z,m.S[i]?=some s->s.nd=some z->NK z
theorem Vk.put(h:Vk m)(i:Nat){s:bJ}(hs:∀z,s.nd=some z->NK z):Vk (m.put i s):=by
 intro j u z hj hz;rw[(ig _ _ _).1]at hj;rcases cK hj with⟨_,rfl⟩|⟨_,hj⟩
 ·exact hs z hz
 ·exact h j u z hj hz
theorem Vk.S{m':aS}(h:Vk m)(e:m'.S=m.S):Vk m':=λi s z hs hz=>h i s z (by rw[<-e];exact hs) hz
theorem FV(s:bJ)(o:Ot):(∀z,(s.write o).1.nd=some z->s.nd=some z)∧((s.write o).2=true->(s.write o).1.nd=s.nd)∧(s.write o).1.addr=s.addr∧(s.write o).1.hrs=s.hrs:=by
 unfold bJ.write;split
 ·exact⟨λ_ h=>h,λ_=>rfl,rfl,rfl⟩
 ·split
  ·exact⟨λ_ h=>(by cases h),λh=>(by cases h),rfl,rfl⟩
  ·exact⟨λ_ h=>h,λ_=>rfl,rfl,rfl⟩
def FK(m:aS):Prop:=qF m∧Vk m
def FKJ(i:Nat)(z:BR)(P:ng):Prop:=FK z.1∧i<z.1.S.length∧Ql P
theorem Dn{i:Nat}{e:List Ev}{P:ng}{s:bJ}{z:St}(h:FKJ i (m,e) P)(hz:NK z)(hf:Ql z.aL):P8 (FKJ i) i (m,e) P {s with nd:=some z} z.ot:=by
 have hl:∀s:bJ,i<(m.put i s).S.length:=λs=>by rw[(ig _ _ _).1,List.length_set];exact h.2.1
 have hnk:Vk (m.put i (bJ.write {s with nd:=some z} z.ot).1):=h.1.2.put i λu hu=>by
  have h1:=(FV {s with nd:=some z} z.ot).1 u hu;cases h1;exact hz
 refine⟨λ_=>⟨⟨h.1.1.put i _,h.1.2.put i λu hu=> ?_⟩,hl _,h.2.2⟩,λ_ _=>⟨⟨h.1.1.put i _,hnk⟩,hl _,λf hf'=> ?_⟩,λ_ _=>⟨⟨h.1.1.put i _,hnk⟩,hl _,h.2.2⟩⟩
 ·cases hu;exact hz
 ·rcases d_.1 hf' with h1|h1
  ·exact hf f h1
  ·exact h.2.2 f h1
theorem abM(i:Nat):Y5 (FKJ i) i:=by
 have hse:∀m e f P,FKJ i (m,e) (f::P)->FKJ i (m.bU i f,e) P:=λm e f P h=>by
  have e1:=(jm m i f).1;exact⟨⟨h.1.1.bU h.2.1 (h.2.2 f iK),h.1.2.S e1⟩,by show i<(m.bU i f).S.length;rw[e1];exact h.2.1,λg hg=>h.2.2 g (jS _ hg)⟩
 refine⟨hse,λm e P f s z h _ _ hs hz=> ?_⟩;have h':=hse m e f P h;obtain⟨h1,h2⟩:=(h'.1.2 i s z hs hz).brk m.now f.1;exact Dn h' h1 h2
theorem Wv(b:ByteArray)(n:Nat)(hn:n<=b.size):(b.extract 0 n).size<=b.size:=by
 rw[ByteArray.size_extract];omega
theorem Yq(o:Op):Dy (λ_ z=>FK z.1) (λ_=>FKJ) o:=by
 have hin:∀i m e,i<m.S.length->FK m->FKJ i (m,e) []:=λi m e hi h=>⟨h,hi,λf hf=>(by cases hf)⟩;have hlt:∀ {m:aS}{i:Nat}{s:bJ},m.S[i]?=some s->i<m.S.length:=λh=>(eD.1 h).1;refine⟨λ_ _ h=>h,λ_ i z h=>h.1,λ_=>abM,λ_ m e a r h=>h,?_,?_,λm e _ _ _ h=>h,?_,?_,?_,?_,?_,?_,?_,?_,?_⟩
 ·intro _ m e a b ha hb _ h;show FK (m.link a b o.on);unfold aS.link;split
  ·exact h
  ·have hk:∀(m:aS) (c:Nat) (L:List Bool),Vk m->Vk (m.put c {m.at' c with hrs:=L}):=λm c L hm=>hm.put c λz hz=>by
    by_cases hc:c<m.S.length
    ·have hs:=bZ hc;rw[eY hs]at hz;exact hm c _ z hs hz
    ·unfold aS.at' at hz;rw[List.getD_eq_getElem?_getD,List.getElem?_eq_none (by omega)]at hz;cases hz
   exact⟨(h.1.put a _).put b _,hk _ b _ (hk m a _ h.2)⟩
 ·intro m e a b s z hs hz hb _ _ _ _ _ _ h;obtain⟨h1,h2⟩:=(h.2 a s z hs hz).snd m.now (m.at' b).addr o.txt;exact Dn (hin a m e (hlt hs) h) h1 h2
 ·intro _ m e i s z hs hz _ h;obtain⟨h1,h2⟩:=(h.2 i s z hs hz).kV m.now;exact Dn (hin i m e (hlt hs) h) h1 h2
 ·intro _ m e k f hf _ h;exact⟨λg hg=>h.1 g (List.mem_of_mem_eraseIdx hg),h.2⟩
 ·intro _ m e k f s z hf hs hz _ h;obtain⟨h1,h2⟩:=(h.2 f.2.1 s z hs hz).rcv m.now (m.at' f.1).addr (aI f.2.2) (oz _);exact Dn (hin f.2.1 {m with bO:=m.bO.eraseIdx k} e (hlt hs) ⟨λg hg=>h.1 g (List.mem_of_mem_eraseIdx hg),h.2⟩) h1 h2
 ·intro _ m e k f hf _ h;obtain⟨h1,h2,h3⟩:=h.1 f (gH hf);exact⟨h.1.launch (i:=f.1) (j:=f.2.1) (b:=f.2.2) h1 h2 h3,h.2⟩
 ·intro _ m e k f n hf _ hn h;obtain⟨h1,h2,h3⟩:=h.1 f (gH hf);refine⟨λg hg=> ?_,h.2⟩;rcases List.mem_or_eq_of_mem_set hg with hg|rfl
  ·exact h.1 g hg
  ·exact⟨h1,h2,dH (Wv _ _ hn) h3⟩
 ·intro _ m e a b s z hs hz hb _ h;obtain⟨h1,h2⟩:=(h.2 a s z hs hz).rcv m.now (m.at' b).addr (aI o.txt) (oz _);exact Dn (hin a m e (hlt hs) h) h1 h2
 ·intro _ m e a s hs h;exact⟨h.1.put a _,h.2.put a λz hz=>by cases hz⟩
 ·intro _ m e a s n hs h;exact⟨h.1.put a _,h.2.put a λz hz=>h.2 a s z hs hz⟩
 ·intro _ m e a s hs _ h;obtain⟨h1,h2⟩:=JX s.addr s.bn m.now;exact Dn (hin a m e (hlt hs) h) h1 (by rw[h2];exact λf hf=>by cases hf)
theorem FK.step(h:FK m)(o:Op):FK (m.step o).1:=zH (Yq o) (e:=[]) (λf hf=>(h.1 f hf).2.1) (n:=m.S.length+1) (aD _) h
theorem Uo{L:List Int}(hn:L.length<=6)(hU:∀a∈L,bB a)(h0:∀a∈L,a≠0):FK (aS.new L):=by
 refine⟨(Mv hn hU h0).2,λi s z hs hz=> ?_⟩;obtain⟨a,_,rfl⟩:=di.1 (gH (show(L.map λa=>(⟨a,bE (St.new a [] 0).bA,some (St.new a [] 0),List.replicate 6 false,false,0⟩:bJ))[i]?=some s from hs));cases hz;exact(JX a [] 0).1
variable{N:Int}{e:List Ev}{A:List Int}{y:MG}{m:aS}{i k n:Nat}{s s':bJ}{W W' w:World}
def ZL(A:List Int)(N:Int)(k:Nat)(z:BR):Prop:=z.1.S.map (·.addr)=A∧z.1.now<=N+(if k<=A.length then 60000 else 0)
theorem Ey{S:List bJ}(hs:S[i]?=some s)(e:s'.addr=s.addr):(S.set i s').map (·.addr)=S.map (·.addr):=by
 rw[List.map_set];refine List.ext_getElem? λj=> ?_;by_cases hj:j=i
 ·subst hj;have hl:=(eD.1 hs).1;rw[List.getElem?_set_self (by rw[iL];exact hl),ku,hs,e];rfl
 ·rw[List.getElem?_set_ne (λh=>hj h.symm)]
theorem pq{e':List Ev}(h:ZL A N k (m,e)){i:Nat}{s s':bJ}(hs:m.S[i]?=some s)(ha:s'.addr=s.addr):ZL A N k (m.put i s',e'):=⟨(Ey hs ha).trans h.1,h.2⟩
theorem wG{P:ng}{o:Ot}(h:ZL A N k (m,e))(hs:m.S[i]?=some s)(ha:s'.addr=s.addr):P8 (λz _=>ZL A N k z) i (m,e) P s' o:=by
 have hw:=(FV s' o).2.2.1;exact⟨λ_=>pq h hs ha,λ_ _=>pq h hs (hw.trans ha),λ_ _=>pq h hs (hw.trans ha)⟩
theorem oC{z:BR}(h:ZL A N (k+1) z):ZL A N k z:=by
 refine⟨h.1,Int.le_trans h.2 ?_⟩;split<;>split<;>omega
theorem Q0(A:List Int)(N:Int)(o:Op):Dy (ZL A N) (λk _ z _=>ZL A N k z) o:=by
 refine⟨λk z h=>oC h,λk i z h=>h,λk i=>⟨λm e f P h=> ?_,λm e P f s z h _ _ hs hz=> ?_⟩,λ_ m e a r h=>h,?_,?_,?_,?_,?_,?_,?_,?_,?_,?_,?_,?_⟩
 ·have e:=jm m i f;exact⟨by rw[e.1];exact h.1,by show(m.bU i f).now<=_;rw[e.2];exact h.2⟩
 ·have e1:=jm m i f;refine wG ⟨?_,?_⟩ hs rfl
  ·rw[e1.1];exact h.1
  ·show(m.bU i f).now<=_;rw[e1.2];exact h.2
 ·intro k0 m e a b ha hb _ h;unfold aS.link;split
  ·exact h
  ·have hsa:=bZ ha;have hb':b<(m.put a {m.at' a with hrs:=(m.at' a).hrs.set b o.on}).S.length:=by rw[(ig _ _ _).1,List.length_set];exact hb
   have hsb:=bZ hb';exact pq (pq (e':=e) h hsa (by rw[eY hsa])) hsb (by rw[eY hsb])
 ·intro m e a b s z hs _ _ _ _ _ _ _ _ h;exact wG (oC h) hs rfl
 ·intro m e h1 h2 _ h;have hl:m.S.length=A.length:=by rw[<-h.1,iL]
  refine⟨h.1,?_⟩;have h3:=h.2;rw[aM (by omega)]at h3;rw[aQ (by omega)];show m.now+o.n<=_;dsimp only at h3;omega
 ·intro k0 m e i s z hs _ _ h;exact wG (oC h) hs rfl
 ·intro k0 m e k f _ _ h;exact h
 ·intro k0 m e k f s z _ hs _ _ h;have h':=oC h;exact wG (m:={m with bO:=m.bO.eraseIdx k}) ⟨h'.1,h'.2⟩ hs rfl
 ·intro k0 m e k f _ _ h;exact h
 ·intro k0 m e k f n _ _ _ h;exact h
 ·intro k0 m e a b s z hs _ _ _ h;exact wG (oC h) hs rfl
 ·intro k0 m e a s hs h;exact pq h hs rfl
 ·intro k0 m e a s n hs h;exact pq h hs rfl
 ·intro k0 m e a s hs _ h;exact wG (oC h) hs rfl
theorem Wx(hfl:∀f∈m.bO,f.2.1<m.S.length)(o:Op):(m.step o).1.S.map (·.addr)=m.S.map (·.addr)∧(m.step o).1.now<=m.now+60000:=by
 have h:=zH (Q0 (m.S.map (·.addr)) m.now o) (e:=[]) hfl (n:=m.S.length+1) (aD _) ⟨rfl,by rw[iL,aM (by omega)];show m.now<=m.now+0;omega⟩;refine⟨h.1,?_⟩;have:=h.2;split at this
 ·exact this
 ·dsimp only at this;omega
def kZ(n:Nat):List Int:=(List.range n).map λ(i:Nat)=>10 * (i:Int)+10
theorem mV(n:Nat):(kZ n).length=n:=by simp[kZ]
theorem kF(h:k<n):(kZ n)[k]?=some (10 * (k:Int)+10):=by
 unfold kZ;rw[ku,List.getElem?_range h];rfl
theorem N_(n:Nat):kZ (n+1)=kZ n++ [10 * (n:Int)+10]:=by
 unfold kZ;rw[List.range_succ,List.map_append];rfl
theorem lQ(hn:n<=6):∀a∈kZ n,bB a∧a≠0:=by
 intro a ha;obtain⟨k,hk⟩:=List.getElem?_of_mem ha;have hl:=(eD.1 hk).1;rw[mV]at hl;rw[kF hl]at hk;cases hk;unfold bB;omega
theorem JJ(n:Nat):(kZ n).Nodup:=by
 unfold kZ;refine List.Pairwise.map _ (λa b (h:a<b)=> ?_) (List.pairwise_lt_range);omega
structure SQ(w:World)(n i:Nat)(y:MG)(m:aS)(W:World):Prop where
 mm:MM y m W
 low:∀k,o5 y m k->w.heap.size<=k
 bl:Below w.heap.size w W
 ok:iU (1+1000000 * (i:Int)) i m
 fk:FK m
 nw:m.now<=60000 * (i:Int)
 Jq:m.S.map (·.addr)=kZ n
theorem SQ.len(h:SQ w n i y m W):m.S.length=n:=by
 have:=congrArg List.length h.Jq;rw[iL,mV]at this;exact this
theorem SQ.addr(h:SQ w n i y m W){k:Nat}{s:bJ}(hs:m.S[k]?=some s):k<n∧s.addr=10 * (k:Int)+10:=by
 have hk:=(eD.1 hs).1;rw[h.len]at hk;have h1:(m.S.map (·.addr))[k]?=some s.addr:=by rw[ku,hs];rfl
 rw[h.Jq,kF hk]at h1;exact⟨hk,(Option.some.inj h1).symm⟩
theorem SQ.later(h:SQ w n i y m W)(hb:Below W.heap.size W W'):SQ w n i y m W':=
 ⟨h.mm.later hb,h.low,h.bl.trans (hb.mono h.bl.size),h.ok,h.fk,h.nw,h.Jq⟩
theorem SQ.stepped{m':aS}(h:SQ w n i y m W){y':MG}(h1:MM y' m' W')(u:MU y m y' m' W W')(ok:iU (1+1000000 * ((i+1:Nat):Int)) (i+1) m')(fk:FK m')(nw:m'.now<=60000 * ((i+1:Nat):Int))(Jq:m'.S.map (·.addr)=kZ n):SQ w n (i+1) y' m' W':=by
 have hz:=h.bl.size;refine⟨h1,λk hk=> ?_,h.bl.trans (u.fx.DK hz λj hj hf=>by have:=h.low j hf;omega),ok,fk,nw,Jq⟩;rcases u.sub k hk with e|e
 ·exact h.low k e
 ·omega
theorem af5(h:SQ w n i y m W)(hi:i<=4096)(o:Op)(ht:o.dY=8->o.txt.size<=65536)(hfw:∀(i:Nat) s,m.S[i]?=some s->s.nd=none->Y4 (jl s.bn)):
  Calls Tryz.prog 11 #[.pointer (some ⟨y.G,0,none⟩),VA o] W λe W'=>∃v L y',e=.returned v∧L.map (·.1)=(m.step o).2∧gZ W.heap.size v L W'∧y'.G=y.G∧MU y m y' (m.step o).1 W W'∧SQ w n (i+1) y' (m.step o).1 W':=by
 have hnw:=h.nw;refine(af7 h.mm h.ok (by omega) (by omega) (by omega) h.fk.1 o ht λk hk hkl hz=>UQ h.ok (by omega) hkl (by have hs:=bZ hkl;rw[eY hs]at hz ⊢;exact hfw k _ hs hz)).mono ?_;rintro e W' ⟨⟨v,L,rfl,hL,hev,hmp⟩,hok⟩;obtain⟨s1,s2⟩:=Wx (λf hf=>(h.fk.1 f hf).2.1) o;obtain⟨y',h1,u⟩:=hmp;exact⟨v,L,y',rfl,hL,hev,u.G,u,h.stepped h1 u (hok.up (by omega) (aD _)) (h.fk.step o) (by omega) (s1.trans h.Jq)⟩
theorem WT{W:World}{base e size:Nat}{v:Value}{n:Nat}{xs:List Value}(h:W.ownsRow base e size v n xs)(hn:0<n):∃g cap,v=.slice (some ⟨g,0,none⟩) n cap∧n<=cap:=by
 rcases h.2 with⟨_,h0⟩|⟨g,cap,cur,rfl,hb,_,hl,_⟩
 ·omega
 ·exact⟨g,cap,rfl,hl⟩
theorem Rh{k:Nat}(h:k<6):IntKind.u32.wrap (wrap64 (wrap64 (10 * (k:Int))+10))=10 * (k:Int)+10:=by
 simp only[IntKind.wrap,IntKind.signed,IntKind.bits];unfold wrap64;simp;omega
theorem PO(W:World)(t:Int):∀(j:Nat) (u:Value),[Value.int .u32 t][j]?=some u->(W.alloc (.cells #[.int .u32 t] 34)).cell? ((⟨W.heap.size,0,none⟩:Addr).add j)=some u:=by
 intro j u hj
 match j,hj with
 |0,hj=>
  rw[Addr.add_lit,Nat.zero_add];exact(j_ W _ _ _).trans hj
 |j+1,hj=>simp at hj
theorem WU(n:Nat)(hn:0<n∧n<=6)(w:World):
  Calls Tryz.prog 10 #[.int .i64 n] w λe w'=>∃y:MG,e=.returned (.pointer (some ⟨y.G,0,none⟩))∧SQ w n 0 y (aS.new (kZ n)) w':=by
 obtain⟨i2,ki,kz0,kz1,kz2⟩:=info_parts qX;go_enter Tryz.func10,Tryz.ntmps10;go_wp2_with fail;go_loopw [3,4] (λlv i wr=>∃k:Nat,k<=n∧i=.int .i64 k∧wr.ownsRow w.heap.size 34 1 lv k ((kZ k).map (Value.int .u32))∧Below w.heap.size w wr) (λ_ i _=>n - (intOf i).toNat)
 case atStart=>exact⟨0,dh _,rfl,⟨rfl,.inl ⟨rfl,rfl⟩⟩,aV _ _⟩
 case round=>
  obtain⟨k,hk,rfl,hr,hb⟩:=hrel;by_cases hlt:k<n
  ·have hki:(k:Int)<(n:Int):=by omega
   have hw:=Rh (k:=k) (by omega);have hwk:wrap64 ((k:Int)+1)=(k:Int)+1:=by unfold wrap64;omega
   have hbU:Below wr.heap.size wr (wr.alloc (.cells #[.int .u32 (10 * (k:Int)+10)] 34)):=bq;have hk1:k+1<=maxLen:=by unfold maxLen;omega
   have hk2:(k+1)* 4<=140737488355328:=by omega
   have hz:=hb.size;have hr0:=hr.alloc (.cells #[.int .u32 (10 * (k:Int)+10)] 34);go_wp2_with(at_builtin;refine wpList_append_own_at _ rfl _ _ 36 rfl w.heap.size 34 i2 (.int .u32 0) 1 4 Tryz.underlying36 ki kz0 kz1 kz2 rfl (by decide) u3 k ((kZ k).map (Value.int .u32)) rfl hr0 ⟨wr.heap.size,0,none⟩ 1 1 [.int .u32 (10 * (k:Int)+10)] rfl rfl (PO wr _) (by simp[Value.oneCell']) hk1 hk2 ?c3 ?_)
   case c3=>simp;omega
   intro v7 w7 iA gQ _ hv7;have Ih:=(hb.trans (hbU.mono hz)).grown gQ (by simp;omega) (λk e=>(hr0.lt k e).1);have FN:w7.ownsRow w.heap.size 34 1 v7 (k+1) ((kZ (k+1)).map (Value.int .u32)):=by rw[N_,List.map_append];exact iA
   clear hr hb hr0 gQ hv7 hbU iA hw;go_wp2;go_roundw
   case rel=>exact⟨k+1,by omega,by go_num,FN,Ih⟩
   case measure=>simp[intOf];omega
  ·obtain rfl:k=n:=by omega
   obtain⟨g,cap,rfl,hcap⟩:=WT hr hn.1;have hHN:=hide (aeu g k cap (kZ k) wr (mV k) hn hcap (λj hj=>by rw[List.getD_eq_getElem?_getD,kF hj];exact(lQ hn.2 _ (gH (kF hj))).1) (hr.lt g rfl).2 (λj hj=>(hr.cellAt j (by omega)).trans (by rw[ku,kF hj,List.getD_eq_getElem?_getD,kF hj];rfl)) (λj hj=>by rw[List.getD_eq_getElem?_getD,kF hj];exact(lQ hn.2 _ (gH (kF hj))).2) (λi j hij hj=>by rw[List.getD_eq_getElem?_getD,List.getD_eq_getElem?_getD,kF hj,kF (by omega)];show 10 * (i:Int)+10≠10 * (j:Int)+10;omega));have hnew:=Mv (L:=kZ k) (by rw[mV];exact hn.2) (λa ha=>(lQ hn.2 a ha).1) (λa ha=>(lQ hn.2 a ha).2);have O9:=Uo (L:=kZ k) (by rw[mV];exact hn.2) (λa ha=>(lQ hn.2 a ha).1) (λa ha=>(lQ hn.2 a ha).2);have hz:=hb.size;have hfin:Hid (∀(y:MG) w',MM y (aS.new (kZ k)) w'->Fx (λ_=>False) wr w'->(∀q,o5 y (aS.new (kZ k)) q->wr.heap.size<=q)->SQ w k 0 y (aS.new (kZ k)) w'):=hide λy w' h1 h2 h3=>by
    refine⟨h1,λq hq=>dH hz (h3 q hq),hb.trans (h2.DK hz λ_ _ h=>absurd h id),hnew.1.up (by omega) (aD _),O9,?_,?_⟩
    ·show(0:Int)<=_;omega
    ·show((kZ k).map F5).map (·.addr)=kZ k;rw[List.map_map];exact List.map_id _
   clear hnew O9 hr hb hcap;go_wp2_with(go_at_call 27;refine hHN.out.mono ?_;rintro e w5 ⟨y,rfl,hm,hf,hge⟩;have hq:=hide (hfin.out y w5 hm hf hge);clear hm hf hge);go_ret;exact⟨y,rfl,hq.out⟩
variable{W:World}
def OpC(L:List Op):List Value:=L.flatMap λo=> [.int .i64 o.dY,.int .i64 o.a,.int .i64 o.b,.int .i64 o.n,.bool o.on,.string o.txt]
theorem ab5{ao:Option Addr}{L:List Op}(h:gN W ao (OpC L)){k:Nat}{o:Op}(hk:L[k]?=some o):∃g f,ao=some ⟨g,f,none⟩∧g<W.heap.size∧W.cell? ⟨g,f+k * 6,none⟩=some (.int .i64 o.dY)∧W.cell? ⟨g,f+k * 6+1,none⟩=some (.int .i64 o.a)∧W.cell? ⟨g,f+k * 6+2,none⟩=some (.int .i64 o.b)∧W.cell? ⟨g,f+k * 6+3,none⟩=some (.int .i64 o.n)∧W.cell? ⟨g,f+k * 6+4,none⟩=some (.bool o.on)∧W.cell? ⟨g,f+k * 6+5,none⟩=some (.string o.txt):=by
 have hat:∀i u,i<6->([.int .i64 o.dY,.int .i64 o.a,.int .i64 o.b,.int .i64 o.n,.bool o.on,.string o.txt]:List Value)[i]?=some u->(OpC L)[k * 6+i]?=some u:=λi u hi hu=>(kN (λo:Op=>([.int .i64 o.dY,.int .i64 o.a,.int .i64 o.b,.int .i64 o.n,.bool o.on,.string o.txt]:List Value)) 6 (by decide) (λ_=>rfl) L k i hi hk).trans hu;obtain⟨g,f,e,hl,_⟩:=h (k * 6+0) _ (hat 0 _ (by decide) rfl);refine⟨g,f,e,hl,h.one e (hat 0 _ (by decide) rfl),?_,?_,?_,?_,?_⟩
 ·have:=h.one e (hat 1 _ (by decide) rfl);rw[<-Nat.add_assoc]at this;exact this
 ·have:=h.one e (hat 2 _ (by decide) rfl);rw[<-Nat.add_assoc]at this;exact this
 ·have:=h.one e (hat 3 _ (by decide) rfl);rw[<-Nat.add_assoc]at this;exact this
 ·have:=h.one e (hat 4 _ (by decide) rfl);rw[<-Nat.add_assoc]at this;exact this
 ·have:=h.one e (hat 5 _ (by decide) rfl);rw[<-Nat.add_assoc]at this;exact this
theorem SQ.tab{w:World}{n i:Nat}{y:MG}{m:aS}(h:SQ w n i y m W){k:Nat}(hk:k<n):
  (∀x∈m.tab k,x.bH.length<=4∧(x.valid=false->x.bH=[])∧x.dest≠10 * (k:Int)+10)∧Asc (m.tab k)∧(m.tab k).length<=8∧(∀z,(m.at' k).nd=some z->z.lk=0)∧(m.at' k).bn.length<=2000∧(m.runs k=true->∃c:Nat,(m.at' k).bn.length=13 * c∧0<c∧c<=24):=by
 obtain⟨x,s,b,c,e1,e2,e3,_⟩:=h.mm.get (i:=k) (by rw[h.len];exact hk);have hs:=h.ok.at e2;have hst:=h.mm.st k x s e1 e2;have ha:=(h.addr e2).2;rw[e3];have ac0:m.runs k=s.nd.isSome:=by
  unfold aS.runs aS.has;rw[iV,e3,h.len];simp[hk]
 cases hz:s.nd with
 |none=>
  have ht:m.tab k=[]:=by unfold aS.tab;rw[e3,hz]
  rw[ht,ac0,hz];exact⟨λx hx=>(by cases hx),List.Pairwise.nil,dh _,λz hz=>(by cases hz),hs.jl,λh=>(by cases h)⟩
 |some z=>
  have ht:m.tab k=z.A:=by unfold aS.tab;rw[e3,hz]
  obtain⟨n0,_⟩:=hst.nd z hz;have hn:=hs.nd z hz;have hk':=h.fk.2 k s z e2 hz;rw[ht];refine⟨λx hx=>⟨(hn.ok x hx).P7,(hk'.tb x hx).2,?_⟩,n0.cr.tb.xD,hn.len,λu hu=>by cases hu;exact hn.inv.lk,hs.jl,λ_=> ?_⟩
  ·rw[<-ha,<-hn.me];exact(hk'.tb x hx).1
  ·obtain⟨j1,j2⟩:=hs.jn z hz;have:=hn.inv.cnt;exact⟨z.cnt.toNat,by omega,by omega,by omega⟩
theorem acL{c:Int}:∃n:Nat,2<=n∧n<=6∧2+sK c 5=(n:Int)∧wrap64 (2+sK c 5)=(n:Int):=by
 have:=Xf c 5 (by decide);refine⟨(2+sK c 5).toNat,by omega,by omega,by omega,?_⟩;unfold wrap64;omega
open Go.ChangeShapes Go.WideShapes Go.ChangeAt Go.Deep
variable{H:Type}{W:World}
theorem aeC:Tryz.prog.cellsOf 28=6:=by kernel_rfl
theorem LY:Tryz.prog.cellsOf 3=1:=by kernel_rfl
theorem acJ:Tryz.prog.cellsOf 9=1:=by kernel_rfl
theorem aan:Tryz.prog.cellsOf 4=1:=by kernel_rfl
structure aen(o:Op):Prop where
 dY:-9223372036854775808<=o.dY∧o.dY<=9223372036854775807
 a:-9223372036854775808<=o.a∧o.a<=9223372036854775807
 b:-9223372036854775808<=o.b∧o.b<=9223372036854775807
 n:-9223372036854775808<=o.n∧o.n<=9223372036854775807
theorem Xj{enc:TypeId×Value->H}(n:Nat)(cs:List Value)(y:DataW H×List MemPlace)(h:DataW.trod enc Tryz.prog W 0 (λ_=>true) true n 28 cs=some y)(hl:cs.length=6):
  ∃o:Op,cs=[.int .i64 o.dY,.int .i64 o.a,.int .i64 o.b,.int .i64 o.n,.bool o.on,.string o.txt]∧aen o:=by
 obtain⟨c0,c1,c2,c3,c4,c5,rfl⟩:∃c0 c1 c2 c3 c4 c5,cs=[c0,c1,c2,c3,c4,c5]:=by
  match cs,hl with
  | [c0,c1,c2,c3,c4,c5],_=>exact⟨c0,c1,c2,c3,c4,c5,rfl⟩
 obtain⟨xs,n,_,_,_,hlen,hget⟩:=DataW.trod_struct Tryz.underlying28 h
 match xs,hlen with
 | [x0,x1,x2,x3,x4,x5],_=>
  have g0:DataW.trod enc Tryz.prog W 0 (λ_=>true) true n 3 (([c0,c1,c2,c3,c4,c5].drop 0).take (Tryz.prog.cellsOf 3))=some x0:=hget 0 _ rfl;rw[LY]at g0;have g1:DataW.trod enc Tryz.prog W 0 (λ_=>true) true n 3 (([c0,c1,c2,c3,c4,c5].drop 1).take (Tryz.prog.cellsOf 3))=some x1:=hget 1 _ rfl;rw[LY]at g1;have g2:DataW.trod enc Tryz.prog W 0 (λ_=>true) true n 3 (([c0,c1,c2,c3,c4,c5].drop 2).take (Tryz.prog.cellsOf 3))=some x2:=hget 2 _ rfl;rw[LY]at g2;have g3:DataW.trod enc Tryz.prog W 0 (λ_=>true) true n 3 (([c0,c1,c2,c3,c4,c5].drop 3).take (Tryz.prog.cellsOf 3))=some x3:=hget 3 _ rfl;rw[LY]at g3;have g4:DataW.trod enc Tryz.prog W 0 (λ_=>true) true n 4 (([c0,c1,c2,c3,c4,c5].drop 4).take (Tryz.prog.cellsOf 4))=some x4:=hget 4 _ rfl;rw[aan]at g4;have g5:DataW.trod enc Tryz.prog W 0 (λ_=>true) true n 9 (([c0,c1,c2,c3,c4,c5].drop 5).take (Tryz.prog.cellsOf 9))=some x5:=hget 5 _ rfl;rw[acJ]at g5;clear hget;obtain⟨a0,e0,_,w0⟩:=DataW.trod_int Tryz.underlying3 g0;obtain⟨a1,e1,_,w1⟩:=DataW.trod_int Tryz.underlying3 g1;obtain⟨a2,e2,_,w2⟩:=DataW.trod_int Tryz.underlying3 g2;obtain⟨a3,e3,_,w3⟩:=DataW.trod_int Tryz.underlying3 g3;obtain⟨a4,e4,_⟩:=DataW.trod_bool Tryz.underlying4 g4;obtain⟨a5,e5,_,_⟩:=DataW.trod_string Tryz.underlying9 g5;simp at e0 e1 e2 e3 e4 e5;subst e0 e1 e2 e3 e4 e5;exact⟨⟨a0,a1,a2,a3,a4,a5⟩,rfl,⟨bounds_i64 w0,bounds_i64 w1,bounds_i64 w2,bounds_i64 w3⟩⟩
theorem RS{enc:TypeId×Value->H}{fuel:Nat}{c:Value}{x:DataW H×List MemPlace}(h:DataW.trod enc Tryz.prog W 0 (λ_=>true) true fuel 22 [c]=some x):
  ∃ao n cap L,c=.slice ao n cap∧L.length=n∧n<=maxLen∧gN W ao (OpC L)∧∀o∈L,aen o:=
 Oy Tryz.underlying22 aeC (by decide) (λo:Op=> [.int .i64 o.dY,.int .i64 o.a,.int .i64 o.b,.int .i64 o.n,.bool o.on,.string o.txt]) _ (λ_=>rfl) Xj h
end Go.Proofs.YtakaadcpaeiccabGreat
