import Derived.Test.YtakaadcpaeiccabGreatV01
import Derived.Test.YtakaadcpaeiccabGreatV02
import Derived.ProofKit
import Derived.OpenShut
import Derived.Deep.Slices
import Derived.Deep.Strs
import Derived.Maps.OwnSet
import Derived.BigRegion
import Derived.ChangeAlike
import Derived.Deep.RegionHeld3
import Derived.Deep.QuietTactic
import Derived.BigQuiet
import Derived.Recover
import Derived.Defers
import Derived.Lib.EndianBits
import Derived.Laws.IdiomStrings
set_option maxHeartbeats 1000000
set_option maxRecDepth 100000
namespace Go.Proofs.YtakaadcpaeiccabGreat
open Go.ChangeShapes Go.WideShapes Go.RowKit Go.Deep
def gG(W:World)(ao:Option Addr)(cs:List Value):Prop:=
 ∀(j:Nat) (u:Value),cs[j]?=some u->∃b o,ao=some ⟨b,o,none⟩∧b<W.heap.size∧W.cell? ⟨b,o+j,none⟩=some u
theorem gG.below{W W':World}{ao:Option Addr}{cs:List Value}(h:gG W ao cs)(hb:Below W.heap.size W W'):gG W' ao cs:=by
 intro j u hj;obtain⟨b,o,h1,h2,h3⟩:=h j u hj;exact⟨b,o,h1,fZ h2 hb.size,(hb.cell (p:=⟨b,o+j,none⟩) h2).trans h3⟩
theorem gG.one{W:World}{ao:Option Addr}{cs:List Value}(h:gG W ao cs){b o:Nat}(hb:ao=some ⟨b,o,none⟩){j:Nat}{u:Value}(hj:cs[j]?=some u):W.cell? ⟨b,o+j,none⟩=some u:=by
 obtain⟨b',o',h1,h2,h3⟩:=h j u hj;rw[hb]at h1;simp only[Option.some.injEq,Addr.mk.injEq,and_true]at h1;obtain⟨rfl,rfl⟩:=h1;exact h3
theorem gG.src{P:Program}{t e:TypeId}(ht:P.underlying t=some (.slice e)){W:World}{ao:Option Addr}{cs:List Value}(h:gG W ao cs){size n:Nat}(c:Nat)(hl:cs.length=n * size)(hs:0<size)(h1:∀u∈cs,u.oneCell'=true):
  Src P size t (.slice ao n c) n cs W:=by
 by_cases h0:cs=[]
 ·subst h0;obtain rfl:n=0:=by
   rcases Nat.mul_eq_zero.1 hl.symm with h|h
   ·exact h
   ·omega
  cases ao with
  |none=>exact Src.ofNil W ht c
  |some a=>exact Src.ofSlice W ht a 0 c [] (by simp) (λj u hj=>by simp at hj) (λu hu=>by cases hu)
 ·obtain⟨u,hu⟩:∃u,cs[0]?=some u:=by
   cases cs with
   |nil=>exact absurd rfl h0
   |cons u r=>exact⟨u,rfl⟩
  obtain⟨b,o,rfl,_⟩:=h 0 u hu;refine Src.ofSlice W ht _ n c cs hl (λj u hj=> ?_) h1;have hadd:(⟨b,o,none⟩:Addr).add j=⟨b,o+j,none⟩:=by unfold Addr.add;split<;>simp_all
  rw[hadd];exact h.one rfl hj
theorem gG.ofRow{W:World}{base e size n cap g:Nat}{cs:List Value}(h:W.ownsRow base e size (.slice (some ⟨g,0,none⟩) n cap) n cs):gG W (some ⟨g,0,none⟩) cs:=by
 intro j u hj;have hlt:g<W.heap.size:=(h.lt g rfl).2;have hjl:j<cs.length:=by
  rcases Nat.lt_or_ge j cs.length with h|h
  ·exact h
  ·rw[List.getElem?_eq_none h]at hj;cases hj
 exact⟨g,0,rfl,hlt,by rw[Nat.zero_add,h.cellAt j (by rw[<-h.1];exact hjl),hj]⟩
def p_(c n:Int):Int:=(if c<0 then -(c+1)else c)%n
theorem oz(c n:Int)(c0:-9223372036854775808<=c)(c1:c<=9223372036854775807)(n0:0<n)(n1:n<=9223372036854775807)(w:World):
  Calls Tryz.prog 9 #[.int .i64 c,.int .i64 n] w λe w'=>e=.returned (.int .i64 (p_ c n))∧w'=w:=by
 by_cases h:c<0
 ·have e:p_ c n=-((c+1).tmod n):=by
   unfold p_;rw[aI h,<-Int.neg_tmod,Int.tmod_eq_emod_of_nonneg (by omega)]
  go_enter Tryz.func9,Tryz.ntmps9;go_wp2;go_ret;exact⟨uY e.symm,rfl⟩
 ·have e:p_ c n=c%n:=by
   unfold p_;rw[ay h]
  go_enter Tryz.func9,Tryz.ntmps9;go_wp2;go_ret;exact⟨rfl,rfl⟩
theorem Lm(c n:Int)(n0:0<n):0<=p_ c n∧p_ c n<n:=⟨Int.emod_nonneg _ (by omega),Int.emod_lt_of_pos _ n0⟩
theorem ax{W:World}{base e size:Nat}{v:Value}{n:Nat}{xs:List Value}(h:W.ownsRow base e size v n xs):∃ao c,v=.slice ao n c∧gG W ao xs:=by
 rcases id h.2 with⟨rfl,h0⟩|⟨g,cap,cur,rfl,_⟩
 ·subst h0;refine⟨none,0,rfl,λj u hj=> ?_⟩;have hl:=h.1;rw[Nat.zero_mul]at hl;obtain rfl:=nU hl;simp at hj
 ·exact⟨_,cap,rfl,gG.ofRow h⟩
theorem aN{W W':World}{base e size:Nat}{v:Value}{n:Nat}{xs:List Value}(h:W.ownsRow base e size v n xs)(hb:Below W.heap.size W W'):W'.ownsRow base e size v n xs:=
 h.kept (row:=none) ⟨hb.os,hb.tape,hb.output,hb.size,λk hk _=>hb.block k hk⟩ (by cases v.ownBlock<;>simp)
theorem bZ{W:World}{base e size:Nat}{v:Value}{n:Nat}{xs:List Value}(h:W.ownsRow base e size v n xs)(hn:0<n):
  ∃g cap,v=.slice (some ⟨g,0,none⟩) n cap∧base<=g:=by
 rcases h.2 with⟨_,h0⟩|⟨g,cap,cur,rfl,hb,_⟩
 ·omega
 ·exact⟨g,cap,rfl,hb⟩
theorem flat_get{α β:Type}(f:α->List β)(size:Nat)(hs:0<size)(hf:∀x,(f x).length=size):∀(L:List α) (j:Nat),(L.flatMap f)[j]?=(L[j / size]?).bind λx=>(f x)[j%size]?
 | [],j=>by simp
 |a::L,j=>by
  rw[List.flatMap_cons];by_cases h:j<size
  ·rw[List.getElem?_append_left (by rw[hf];exact h),Nat.div_eq_of_lt h,Nat.mod_eq_of_lt h];rfl
  ·rw[List.getElem?_append_right (by rw[hf];omega),hf,flat_get f size hs hf L (j - size)];have e1:j / size=(j - size)/ size+1:=by
    conv=>lhs;rw[show j=(j - size)+size by omega]
    rw[Nat.add_div_right _ hs]
   have e2:j%size=(j - size)%size:=by
    conv=>lhs;rw[show j=(j - size)+size by omega]
    rw[Nat.add_mod_right]
   rw[e1,e2,List.getElem?_cons_succ]
theorem rz{α β:Type}(f:α->List β)(size:Nat)(hf:∀x,(f x).length=size):∀(L:List α),(L.flatMap f).length=L.length * size
 | []=>by simp
 |a::L=>by
  rw[List.flatMap_cons,bU,hf,rz f size hf L,dZ,Nat.succ_mul,Nat.add_comm]
theorem jR{α β:Type}(f:α->List β)(size:Nat)(hs:0<size)(hf:∀x,(f x).length=size)(L:List α)(k i:Nat)(hi:i<size){x:α}(hx:L[k]?=some x):(L.flatMap f)[k * size+i]?=(f x)[i]?:=by
 rw[flat_get f size hs hf];have e1:(k * size+i)/ size=k:=by
  rw[Nat.add_comm,Nat.add_mul_div_right _ _ hs,Nat.div_eq_of_lt hi,Nat.zero_add]
 have e2:(k * size+i)%size=i:=by
  rw[Nat.add_comm,Nat.add_mul_mod_self_right,Nat.mod_eq_of_lt hi]
 rw[e1,e2,hx];rfl
section
variable {H:Type} {enc:TypeId×Value->H} {P:Program}
theorem N9{W:World}{t e:TypeId}{fuel:Nat}{c:Value}{x:DataW H×List MemPlace}(ht:P.underlying t=some (.slice e)){size:Nat}(hc:P.cellsOf e=size)(hs:0<size){α:Type}(f:α->List Value)(Q:α->Prop)(hf:∀x,(f x).length=size)
  (hd:∀n cs y,DataW.trod enc P W 0 (λ_=>true) true n e cs=some y->cs.length=size->∃x:α,cs=f x∧Q x)
  (h:DataW.trod enc P W 0 (λ_=>true) true fuel t [c]=some x):
  ∃(ao:Option Addr) (n cap:Nat) (L:List α),c=.slice ao n cap∧L.length=n∧n<=maxLen∧gG W ao (L.flatMap f)∧∀x∈L,Q x:=by
 rcases open_slice ht h with⟨hcs,_⟩|⟨a,len,cap,m,n,D,Pl,hcs,_,hl,hmx,hm,_,hx⟩
 ·simp only[List.cons.injEq,and_true]at hcs;exact⟨none,0,0,[],hcs,rfl,dm _,λj u hj=>by simp at hj,λx hx=>by simp at hx⟩
 ·simp only[List.cons.injEq,and_true]at hcs;simp only[if_true]at hm;rw[hc]at hx;have Z6:0<len->a.spot=none:=by
   intro h0;obtain⟨cs',h1,_⟩:=hx 0 (by omega);obtain⟨_,hlen,hget⟩:=World.cells?_some h1;have q0:=hget 0 (by omega);have hsome:cs'[0]?=some cs'[0]:=bS (by omega);rw[hsome]at q0;have h:=World.cell?_spot q0;simpa[Addr.add]using h
  have key:∀i,i<len->∃y:α,Q y∧∃b off,a=⟨b,off,none⟩∧b<W.heap.size∧∀j u,(f y)[j]?=some u->W.cell? ⟨b,off+(i * size+j),none⟩=some u:=by
   intro i hi;obtain⟨cs',h1,h2⟩:=hx i (by omega);obtain⟨_,hlen,hget⟩:=World.cells?_some h1;obtain⟨y,rfl,hq⟩:=hd _ _ _ h2 hlen;obtain⟨b,off,spot⟩:=a;obtain rfl:spot=none:=Z6 (by omega);have hcell:∀j u,(f y)[j]?=some u->W.cell? ⟨b,off+(i * size+j),none⟩=some u:=by
    intro j u hj;have hjl:j<size:=by
     rcases Nat.lt_or_ge j (f y).length with h|h
     ·rw[hlen]at h;exact h
     ·rw[List.getElem?_eq_none h]at hj;cases hj
    have q:=hget j hjl;rw[add_plain,add_plain,hj]at q;rw[<-Nat.add_assoc];exact q
   obtain⟨u,hu⟩:∃u,(f y)[0]?=some u:=⟨_,bS (by omega)⟩;exact⟨y,hq,b,off,rfl,World.block_lt_of_cell? W _ (hcell 0 u hu),hcell⟩
  obtain⟨L,hL,hLx⟩:=LY len key;refine⟨some a,len,cap,L,hcs,hL,by omega,λj u hj=> ?_,λx hx=> ?_⟩
  ·rw[flat_get f size hs hf]at hj;have hjl:j / size<len:=by
    rcases Nat.lt_or_ge (j / size) len with h|h
    ·exact h
    ·rw[List.getElem?_eq_none (by omega)]at hj;cases hj
   obtain⟨y,hy,_,b,off,rfl,hb,hcell⟩:=hLx _ hjl;rw[hy]at hj;have:=hcell _ _ hj;rw[Nat.div_add_mod' j size]at this;exact⟨b,off,rfl,hb,this⟩
  ·obtain⟨j,hj,rfl⟩:=List.mem_iff_getElem.1 hx;obtain⟨y,hy,hq,_⟩:=hLx j (by omega);rw[bS hj]at hy;cases hy;exact hq
end
end Go.Proofs.YtakaadcpaeiccabGreat
namespace Go.Proofs.YtakaadcpaeiccabGreat.Hp
variable{i j k:Nat}
abbrev Tm:=Int×Int×Int
def z:Tm:=(0,0,0)
def IC(a b:Tm):Bool:=if a.1=b.1 then decide (a.2.1<b.2.1)else decide (a.1<b.1)
def Le(a b:Tm):Prop:=IC b a=false
theorem Le.iff{a b:Tm}:Le a b ↔ a.1<b.1∨(a.1=b.1∧a.2.1<=b.2.1):=by
 unfold Le IC;split<;>simp<;>omega
theorem MW{a b:Tm}:IC a b=true ↔ a.1<b.1∨(a.1=b.1∧a.2.1<b.2.1):=by
 unfold IC;split<;>simp<;>omega
theorem Le.refl(a:Tm):Le a a:=Le.iff.2 (by omega)
theorem Le.trans{a b c:Tm}(h1:Le a b)(h2:Le b c):Le a c:=by
 rw[Le.iff]at *;omega
theorem Le.of{a b:Tm}(h:IC a b=true):Le a b:=by
 rw[MW]at h;rw[Le.iff];omega
def at'(h:List Tm)(i:Nat):Tm:=h.getD i z
theorem r_{h:List Tm}{x:Tm}(hx:h[i]?=some x):at' h i=x:=by simp[at',List.getD,hx]
theorem jI{h:List Tm}(hi:i<h.length):h[i]?=some (at' h i):=by simp[at',List.getD,List.getElem?_eq_getElem hi]
def sw(h:List Tm)(i j:Nat):List Tm:=(h.set i (at' h j)).set j (at' h i)
theorem dL(h:List Tm)(i j:Nat):(sw h i j).length=h.length:=by simp[sw]
theorem yD{h:List Tm}(hi:i<h.length)(hj:j<h.length)(k:Nat):at' (sw h i j) k=if k=j then at' h i else if k=i then at' h j else at' h k:=by
 unfold at' sw;simp only[List.getD,List.getElem?_set,List.length_set];by_cases h1:k=j
 ·subst h1;simp[hj];rfl
 ·rw[ay h1,ay (Ne.symm h1)];by_cases h2:k=i
  ·subst h2;simp[hi];rfl
  ·rw[ay h2,ay (Ne.symm h2)]
theorem uS{h:List Tm}(hi:i<h.length)(hj:j<h.length):(sw h i j).Perm h:=by
 have e1:at' h i=h[i]:=by simp[at',List.getD,List.getElem?_eq_getElem hi]
 have e2:at' h j=h[j]:=by simp[at',List.getD,List.getElem?_eq_getElem hj]
 unfold sw;rw[e1,e2];exact List.set_set_perm hi hj
def par(j:Nat):Nat:=(j - 1)/ 2
def Ok(h:List Tm)(j:Nat):Prop:=Le (at' h (par j)) (at' h j)
def Heap(h:List Tm):Prop:=∀j,0<j->j<h.length->Ok h j
def Over(h:List Tm)(i:Nat):Prop:=0<i->∀c,0<c->c<h.length->par c=i->Le (at' h (par i)) (at' h c)
def Both(h:List Tm)(i:Nat):Prop:=(∀j,0<j->j<h.length->j≠i->par j≠i->Ok h j)∧Over h i
def Up(h:List Tm)(i:Nat):Prop:=(∀j,0<j->j<h.length->j≠i->Ok h j)∧Over h i
def Down(h:List Tm)(i:Nat):Prop:=(∀j,0<j->j<h.length->par j≠i->Ok h j)∧Over h i
theorem jD(h:0<j):par j<j:=by unfold par;omega
theorem Up.both{h:List Tm}(u:Up h i):Both h i:=⟨λj h1 h2 h3 _=>u.1 j h1 h2 h3,u.2⟩
theorem Heap.down{h:List Tm}(u:Heap h)(i:Nat):Down h i:=by
 refine⟨λj h1 h2 _=>u j h1 h2,λhi c h1 h2 h3=> ?_⟩;have hc:=u c h1 h2;unfold Ok at hc;rw[h3]at hc;have hl:=jD h1;exact(u i hi (by omega)).trans hc
theorem Vl{h:List Tm}(u:Both h k)(h0:0<k)(hk:k<h.length)(ha:IC (at' h k) (at' h (par k))=true):Up (sw h k (par k)) (par k):=by
 have hp:=jD h0;have hs:=yD hk (show par k<h.length by omega);have hle:=Le.of ha;refine⟨λj h1 h2 h3=> ?_,λh1 c h2 h3 h4=> ?_⟩
 ·rw[dL]at h2;unfold Ok;rw[hs,hs];rw[ay h3];by_cases hjk:j=k
  ·subst hjk;rw[aI rfl,aI rfl];exact hle
  ·rw[ay hjk];by_cases hpp:par j=par k
   ·rw[aI hpp];have:=u.1 j h1 h2 hjk (by omega);unfold Ok at this;rw[hpp]at this;exact hle.trans this
   ·rw[ay hpp];by_cases hpk:par j=k
    ·rw[aI hpk];exact u.2 h0 j h1 h2 hpk
    ·rw[ay hpk];exact u.1 j h1 h2 hjk hpk
 ·rw[dL]at h3;have hpp:=jD h1;rw[hs,hs,ay (by omega),ay (by omega)];have hup:Le (at' h (par (par k))) (at' h (par k)):=u.1 (par k) h1 (by omega) (by omega) (by omega);rw[ay (by have:=jD h2;omega)];by_cases hck:c=k
  ·rw[aI hck];exact hup
  ·rw[ay hck];have:=u.1 c h2 h3 hck (by omega);unfold Ok at this;rw[h4]at this;exact hup.trans this
theorem Up.top{h:List Tm}(u:Up h 0):Heap h:=λj h1 h2=>u.1 j h1 h2 (by omega)
theorem Up.done{h:List Tm}(u:Up h k)(ho:Ok h k):Heap h:=λj h1 h2=>by
 by_cases hj:j=k
 ·subst hj;exact ho
 ·exact u.1 j h1 h2 hj
theorem Both.down{h:List Tm}(u:Both h i)(ho:i=0∨Ok h i):Down h i:=by
 refine⟨λj h1 h2 h3=> ?_,u.2⟩;by_cases hj:j=i
 ·subst hj;rcases ho with rfl|ho
  ·omega
  ·exact ho
 ·exact u.1 j h1 h2 hj h3
theorem Pd{h:List Tm}{c:Nat}(u:Down h k)(hc0:0<c)(hc:c<h.length)(hp:par c=k)(ha:IC (at' h c) (at' h k)=true)
  (hm:∀d,0<d->d<h.length->par d=k->Le (at' h c) (at' h d)):Down (sw h k c) c:=by
 have hkc:=jD hc0;have hk:k<h.length:=by omega
 have hs:=yD hk hc;have hle:=Le.of ha;refine⟨λj h1 h2 h3=> ?_,λ_ d h2 h3 h4=> ?_⟩
 ·rw[dL]at h2;unfold Ok;rw[hs,hs,ay h3];by_cases hpk:par j=k
  ·rw[aI hpk];by_cases hjc:j=c
   ·rw[aI hjc];exact hle
   ·rw[ay hjc,ay (by have:=jD h1;omega)];exact hm j h1 h2 hpk
  ·rw[ay hpk,ay (by rintro rfl;exact hpk hp)];by_cases hjk:j=k
   ·subst hjk;rw[aI rfl];have:=u.2 h1 c hc0 hc hp;exact this
   ·rw[ay hjk];exact u.1 j h1 h2 hpk
 ·rw[dL]at h3;have hpd:=jD h2;rw[hs,hs,hp,ay (by omega),aI rfl,ay (by omega),ay (by omega)];have:=u.1 d h2 h3 (by omega);unfold Ok at this;rw[h4]at this;exact this
theorem Down.done{h:List Tm}(u:Down h k)(hm:∀d,0<d->d<h.length->par d=k->Le (at' h k) (at' h d)):Heap h:=λj h1 h2=>by
 by_cases hp:par j=k
 ·unfold Ok;rw[hp];exact hm j h1 h2 hp
 ·exact u.1 j h1 h2 hp
theorem Heap.least{h:List Tm}(u:Heap h):∀j,j<h.length->Le (at' h 0) (at' h j):=by
 intro j
 induction j using Nat.strongRecOn with
 |ind j ih=>
  intro hj;by_cases h0:j=0
  ·subst h0;exact Le.refl _
  ·have hp:=jD (show 0<j by omega);exact(ih _ hp (by omega)).trans (u j (by omega) hj)
def out(h:List Tm)(i:Nat):List Tm:=(sw h i (h.length - 1)).take (h.length - 1)
theorem pu(h:List Tm)(i:Nat):(out h i).length=h.length - 1:=by simp[out,dL]
theorem Uh{h:List Tm}(hi:i<h.length){k:Nat}(hk:k<h.length - 1):at' (out h i) k=if k=i then at' h (h.length - 1)else at' h k:=by
 have hs:=yD hi (show h.length - 1<h.length by omega) k;rw[ay (by omega)]at hs;rw[<-hs];unfold out at';simp only[List.getD,List.getElem?_take,aI hk]
theorem Q5{h:List Tm}(u:Heap h)(hi:i<h.length - 1):Both (out h i) i:=by
 have ha:=λ{k} (hk:k<h.length - 1)=>Uh (show i<h.length by omega) hk;refine⟨λj h1 h2 h3 h4=> ?_,λh1 c h2 h3 h4=> ?_⟩
 ·rw[pu]at h2;have hp:=jD h1;unfold Ok;rw[ha h2,ha (by omega),ay h3,ay h4];exact u j h1 (by omega)
 ·rw[pu]at h3;have hp:=jD h1;have hq:=jD h2;rw[ha h3,ha (by omega),ay (by omega),ay (by omega)];have a:=u i h1 (by omega);have b:=u c h2 (by omega);unfold Ok at a b;rw[h4]at b;exact a.trans b
theorem QZ{h:List Tm}(u:Heap h)(h0:0<h.length):Heap (out h (h.length - 1)):=by
 have ha:=λ{k} (hk:k<h.length - 1)=>Uh (show h.length - 1<h.length by omega) hk;intro j h1 h2;rw[pu]at h2;have hp:=jD h1;unfold Ok;rw[ha h2,ha (by omega),ay (by omega),ay (by omega)];exact u j h1 (by omega)
theorem QY{h:List Tm}(hi:i<h.length):(at' h i::out h i).Perm h:=by
 have hp:=uS hi (show h.length - 1<h.length by omega);have hl:(sw h i (h.length - 1))[h.length - 1]?=some (at' h i):=by
  rw[jI (by rw[dL];omega),yD hi (by omega),aI rfl]
 have e:sw h i (h.length - 1)=out h i++ [at' h i]:=by
  conv=>lhs;rw[<-List.take_append_drop (h.length - 1) (sw h i (h.length - 1))]
  unfold out
  congr 1
  have hd:(sw h i (h.length - 1)).length=h.length:=dL _ _ _;rw[List.drop_eq_getElem_cons (by omega),List.drop_of_length_le (by omega)];rw[bS (by omega)]at hl;rw[Option.some.inj hl]
 rw[e]at hp;exact(List.perm_append_comm (l₁:=[at' h i]) (l₂:=out h i)).trans hp
theorem Un{h:List Tm}(u:Heap h)(x:Tm):Both (h++ [x]) h.length:=by
 have ha:∀k,k<h.length->at' (h++ [x]) k=at' h k:=by
  intro k hk;simp[at',List.getD,List.getElem?_append_left hk]
 refine⟨λj h1 h2 h3 _=> ?_,λh1 c h2 h3 h4=> ?_⟩
 ·rw[bU,List.length_singleton]at h2;have hp:=jD h1;unfold Ok;rw[ha j (by omega),ha _ (by omega)];exact u j h1 (by omega)
 ·rw[bU,List.length_singleton]at h3;have:=jD h2;omega
theorem Down.leaf{h:List Tm}(u:Down h i)(hi:h.length<=2 * i+1):Heap h:=u.done λd h1 h2 h3=>by
 unfold par at h3;omega
end Go.Proofs.YtakaadcpaeiccabGreat.Hp
namespace Go.Proofs.YtakaadcpaeiccabGreat
open Go.RowKit Go.Maps
open Hp
variable{k:Int}{f:Int->Option Nat}{M s:Nat}{W:World}
theorem zG:Keyed Tryz.prog 3:=int_keyed Tryz.underlying3
theorem Vw(w:World):(zeroValue 3).run Tryz.prog w=.ok (.int .i64 0) w:=by kernel_rfl
theorem WV:(Tryz.prog.info? 254).map (λi=>(i.zero,i.size,i.bytes))=some (some (.agg #[.int .u64 0,.int .i64 0,.int .i64 0]),3,24):=by kernel_rfl
def oV(k:Int):Prop:=-9223372036854775808<=k∧k<=9223372036854775807
theorem oV.wf(h:oV k):(Lit.int .i64 k).wf=true:=WalkArith.wf_i64 h
theorem oV.key(h:oV k):keyOf Tryz.prog 3 (.int .i64 k)=some (.int .i64 k):=keyOf_int_mk Tryz.underlying3 h.wf
def kQ(W:World)(M:Nat)(f:Int->Option Nat)(s:Nat):Prop:=
 ∃D:DataW Unit,W.ownsMap Tryz.prog 3 (plainElem Tryz.prog 3) M s D∧Maps.size D=s∧
  ∀k,oV k->Maps.has D (.int .i64 k)=(f k).isSome∧∀v,f k=some v->∀zd,D.atKey (.int .i64 k) zd=.lit (.int .i64 (v:Int))
def upd(f:Int->Option Nat)(k:Int)(v:Option Nat):Int->Option Nat:=λx=>if x=k then v else f x
theorem fU{P:Program}{k:TypeId}{R:Value->Option (DataW Unit×List MemPlace)}{w:World}{b n:Nat}{D:DataW Unit}(h:w.ownsMap P k R b n D):w.ownsMap P k R b (Maps.size D) D:=by
 obtain⟨es,clock,hb,F,hs,rfl⟩:=h;refine⟨es,clock,hb,F,?_,rfl⟩;simp[Maps.size,length_sorted]
theorem kQ.made(w:World):kQ (w.alloc (.map #[] 0)) w.heap.size (λ_=>none) 0:=by
 refine⟨.map [],World.ownsMap_made w _ _ _,rfl,λk _=>⟨?_,λv hv=>by cases hv⟩⟩;rfl
theorem kQ.kept{W':World}{row:Option Nat}(h:kQ W M f s)(hg:W.grownBy W' row)(hne:some M≠row):kQ W' M f s:=by
 obtain⟨D,h1,h2,h3⟩:=h;exact⟨D,h1.kept hg hne,h2,h3⟩
theorem kQ.lt(h:kQ W M f s):M<W.heap.size:=by
 obtain⟨D,h1,_⟩:=h;exact h1.lt
theorem kQ.put(h:kQ W M f s)(hs:s<maxLen){k:Int}(hk:oV k){v:Nat}(hv:oV (v:Int)):
  ∃W',(Instr.mapUpdate 162 (.map (some M)) (.int .i64 k) (.int .i64 (v:Int))).run Tryz.prog W=.ok () W'∧kQ W' M (upd f k (some v)) (if (f k).isSome then s else s+1)∧W.grownBy W' (some M):=by
 obtain⟨D,h1,h2,h3⟩:=h;obtain⟨W',hr,ho,ht⟩:=h1.store zG Tryz.underlying162 hs hk.key (plainElem_int Tryz.underlying3 hv.wf);have hm:=h1.isMap;have htd:=h1.tidy zG;have hkl:WideAt.IsKeyLit (.int .i64 k):=by trivial
 have hsz:Maps.size (D.put (.int .i64 k) (.lit (.int .i64 (v:Int))))=if (f k).isSome then s else s+1:=by
  rw[size_put htd,(h3 k hk).1,h2]
 refine⟨W',hr,⟨_,?_,hsz,λx hx=> ?_⟩,ht.grown⟩
 ·have:=fU ho;rw[hsz]at this;exact this
 ·by_cases e:x=k
  ·subst e;refine⟨by rw[has_put_same hm hkl];simp[upd],λu hu zd=> ?_⟩;simp only[upd,if_true,Option.some.injEq]at hu;subst hu;exact atKey_put_same hm hkl _ zd
  ·have hne:(Lit.int .i64 x)≠ .int .i64 k:=λh=>e (by cases h;rfl);refine⟨by rw[has_put_other hne];simp[upd,e,(h3 x hx).1],λu hu zd=> ?_⟩;simp only[upd,ay e]at hu;rw[atKey_put_other hne];exact(h3 x hx).2 u hu zd
theorem kQ.del(h:kQ W M f s){k:Int}(hk:oV k)(ty:TypeId)(hf:(f k).isSome=true):
  ∃W',(Builtin.delete_ #[162,3] ty #[.map (some M),.int .i64 k]).run Tryz.prog W=.ok (.tuple #[]) W'∧kQ W' M (upd f k none) (s - 1)∧W.grownBy W' (some M):=by
 obtain⟨D,h1,h2,h3⟩:=h;obtain⟨W',hr,ho,ht⟩:=h1.drop zG Tryz.underlying162 hk.key ty;have htd:=h1.tidy zG;have hsz:Maps.size (D.del (.int .i64 k))=s - 1:=by
  have:=size_del (k:=.int .i64 k) htd;rw[(h3 k hk).1,hf,h2]at this;simp at this;omega
 refine⟨W',hr,⟨_,?_,hsz,λx hx=> ?_⟩,ht.grown⟩
 ·have:=fU ho;rw[hsz]at this;exact this
 ·by_cases e:x=k
  ·subst e;refine⟨by rw[has_del_same];simp[upd],λu hu zd=> ?_⟩;simp[upd]at hu
  ·have hne:(Lit.int .i64 x)≠ .int .i64 k:=λh=>e (by cases h;rfl);refine⟨by rw[has_del_other hne];simp[upd,e,(h3 x hx).1],λu hu zd=> ?_⟩;simp only[upd,ay e]at hu;rw[atKey_del_other hne];exact(h3 x hx).2 u hu zd
theorem kQ.look(h:kQ W M f s){k:Int}(hk:oV k):
  ∃v:Int,(Instr.lookup 162 (.map (some M)) (.int .i64 k) true).run Tryz.prog W=.ok (.tuple #[.int .i64 v,.bool (f k).isSome]) W∧∀u,f k=some u->v=(u:Int):=by
 obtain⟨D,h1,h2,h3⟩:=h;obtain⟨v,ps,hr,hv⟩:=h1.look_ok zG Tryz.underlying162 (Vw W) (plainElem_int Tryz.underlying3 (by decide)) hk.key;obtain⟨c,rfl,he,_⟩:=plainElem_int_inv Tryz.underlying3 hv;rw[(h3 k hk).1]at hr;refine⟨c,hr,λu hu=> ?_⟩;have:=(h3 k hk).2 u hu (.lit (.int .i64 0));rw[this]at he;simp at he;exact he.1.symm
variable{k:Int}{f:Int->Option Int}{M s:Nat}{W:World}
theorem gu:Keyed Tryz.prog 34:=int_keyed Tryz.underlying34
theorem KX(w:World):(zeroValue 34).run Tryz.prog w=.ok (.int .u32 0) w:=by kernel_rfl
def a_(k:Int):Prop:=0<=k∧k<=4294967295
theorem a_.wf(h:a_ k):(Lit.int .u32 k).wf=true:=WalkArith.wf_u32 h
theorem a_.key(h:a_ k):keyOf Tryz.prog 34 (.int .u32 k)=some (.int .u32 k):=keyOf_int_mk Tryz.underlying34 h.wf
def lX(f:Int->Option Int)(k:Int)(v:Option Int):Int->Option Int:=λx=>if x=k then v else f x
def MapU(W:World)(M:Nat)(f:Int->Option Int)(s:Nat):Prop:=
 ∃D:DataW Unit,W.ownsMap Tryz.prog 34 (plainElem Tryz.prog 34) M s D∧Maps.size D=s∧
  ∀k,a_ k->Maps.has D (.int .u32 k)=(f k).isSome∧D.atKey (.int .u32 k) (.lit (.int .u32 0))=.lit (.int .u32 ((f k).getD 0))
theorem MapU.kept{W':World}{row:Option Nat}(h:MapU W M f s)(hg:W.grownBy W' row)(hne:some M≠row):MapU W' M f s:=by
 obtain⟨D,h1,h2,h3⟩:=h;exact⟨D,h1.kept hg hne,h2,h3⟩
theorem MapU.lt(h:MapU W M f s):M<W.heap.size:=by
 obtain⟨D,h1,_⟩:=h;exact h1.lt
theorem MapU.made(w:World):MapU (w.alloc (.map #[] 0)) w.heap.size (λ_=>none) 0:=
 ⟨.map [],World.ownsMap_made w _ _ _,rfl,λ_ _=>⟨rfl,rfl⟩⟩
theorem MapU.put(h:MapU W M f s)(hs:s<maxLen){k:Int}(hk:a_ k){v:Int}(hv:a_ v):
  ∃W',(Instr.mapUpdate 115 (.map (some M)) (.int .u32 k) (.int .u32 v)).run Tryz.prog W=.ok () W'∧MapU W' M (lX f k (some v)) (if (f k).isSome then s else s+1)∧W.grownBy W' (some M):=by
 obtain⟨D,h1,h2,h3⟩:=h;obtain⟨W',hr,ho,ht⟩:=h1.store gu Tryz.underlying115 hs hk.key (plainElem_int Tryz.underlying34 hv.wf);have hm:=h1.isMap;have htd:=h1.tidy gu;have hkl:WideAt.IsKeyLit (.int .u32 k):=by trivial
 have hsz:Maps.size (D.put (.int .u32 k) (.lit (.int .u32 v)))=if (f k).isSome then s else s+1:=by
  rw[size_put htd,(h3 k hk).1,h2]
 refine⟨W',hr,⟨_,?_,hsz,λx hx=> ?_⟩,ht.grown⟩
 ·have:=fU ho;rw[hsz]at this;exact this
 ·by_cases e:x=k
  ·subst e;refine⟨by rw[has_put_same hm hkl];simp[lX],?_⟩;rw[atKey_put_same hm hkl];simp[lX]
  ·have hne:(Lit.int .u32 x)≠ .int .u32 k:=λh=>e (by cases h;rfl);refine⟨by rw[has_put_other hne];simp[lX,e,(h3 x hx).1],?_⟩;rw[atKey_put_other hne,(h3 x hx).2];simp[lX,e]
theorem MapU.look(h:MapU W M f s){k:Int}(hk:a_ k):
  (Instr.lookup 115 (.map (some M)) (.int .u32 k) false).run Tryz.prog W=.ok (.int .u32 ((f k).getD 0)) W:=by
 obtain⟨D,h1,h2,h3⟩:=h;obtain⟨v,ps,hr,hv⟩:=h1.lookup gu Tryz.underlying115 (KX W) (plainElem_int Tryz.underlying34 (by decide)) hk.key;obtain⟨c,rfl,he,_⟩:=plainElem_int_inv Tryz.underlying34 hv;rw[(h3 k hk).2]at he;simp at he;rw[hr,he.1]
theorem wV(B:Nat)(w:World)(hc:w.cell? ⟨B,1,none⟩=some (.int .i64 1)):
  Calls Tryz.prog 86 #[.pointer (some ⟨B,0,none⟩)] w λe w'=>e=.returned (.slice (some ⟨w.heap.size,0,none⟩) 5 5)∧
   w'=(w.alloc (.cells #[.pointer (some ⟨B,4,none⟩),.pointer (some ⟨B,5,none⟩),.pointer (some ⟨B,6,none⟩),.pointer (some ⟨B,7,none⟩),.pointer (some ⟨B,8,none⟩)] 189)).drew:=by
 go_enter Tryz.func86,Tryz.ntmps86;go_wp2;go_region_held3 (λ_=>True) (trivial) (fail)
 go_wp2;all_goals (go_ret;exact⟨rfl,rfl⟩)
theorem wU(B:Nat)(w:World)(hc:w.cell? ⟨B,1,none⟩=some (.int .i64 2)):
  Calls Tryz.prog 86 #[.pointer (some ⟨B,0,none⟩)] w λe w'=>e=.returned (.slice (some ⟨w.heap.size,0,none⟩) 4 4)∧
   w'=(w.alloc (.cells #[.pointer (some ⟨B,5,none⟩),.pointer (some ⟨B,6,none⟩),.pointer (some ⟨B,7,none⟩),.pointer (some ⟨B,9,none⟩)] 189)).drew:=by
 go_enter Tryz.func86,Tryz.ntmps86;go_wp2;go_region_held3 (λ_=>True) (trivial) (fail)
 go_wp2;all_goals (go_ret;exact⟨rfl,rfl⟩)
theorem wT(B:Nat)(w:World)(hc:w.cell? ⟨B,1,none⟩=some (.int .i64 9)):
  Calls Tryz.prog 86 #[.pointer (some ⟨B,0,none⟩)] w λe w'=>e=.returned (.slice (some ⟨w.heap.size,0,none⟩) 3 3)∧
   w'=(w.alloc (.cells #[.pointer (some ⟨B,4,none⟩),.pointer (some ⟨B,5,none⟩),.pointer (some ⟨B,7,none⟩)] 189)).drew:=by
 go_enter Tryz.func86,Tryz.ntmps86;go_wp2;go_region_held3 (λ_=>True) (trivial) (fail)
 go_wp2;all_goals (go_ret;exact⟨rfl,rfl⟩)
theorem oD(B:Nat)(k:Int)(h1:(k==1)=false)(h2:(k==2)=false)(h9:(k==9)=false)(w:World)(hc:w.cell? ⟨B,1,none⟩=some (.int .i64 k)):
  Calls Tryz.prog 86 #[.pointer (some ⟨B,0,none⟩)] w λe w'=>e=.returned (.slice none 0 0)∧w'=w:=by
 go_enter Tryz.func86,Tryz.ntmps86;go_wp2;all_goals (go_ret;exact⟨rfl,rfl⟩)
def aD.l5(p:aD):aD:=
 if p.kind=1 then {p with hops:=0,unk:=false,id:=0,dest:=0,bA:=0,aH:=0,dQ:=0}
 else if p.kind=2 then {p with hops:=0,dest:=0,bA:=0,aH:=0,life:=0}
 else if p.kind=3 then {p with la:=none,ln:=0,lc:=0}
 else if p.kind=9 then {p with id:=0,dest:=0,aH:=0,pay:=⟨#[]⟩}
 else p
theorem O3(p:aD)(hk:p.kind=1)(w:World):
  Calls Tryz.prog 128 #[p.val] w λe w'=>e=.returned p.l5.val∧Below w.heap.size w w':=by
 obtain⟨ttl,kind,hops,unk,id,dest,bA,aH,dQ,life,la,ln,lc,pay⟩:=p;simp only at hk;subst hk;go_enter Tryz.func128,Tryz.ntmps128;go_wp2_with(go_at_call 86;refine(wV _ _ ?_).mono ?_;(simp[go_sem]);rintro e w' ⟨rfl,rfl⟩)
 go_rounds 6
 all_goals (go_returns;refine⟨rfl,?_⟩;go_grown)
theorem O1(p:aD)(hk:p.kind=2)(w:World):
  Calls Tryz.prog 128 #[p.val] w λe w'=>e=.returned p.l5.val∧Below w.heap.size w w':=by
 obtain⟨ttl,kind,hops,unk,id,dest,bA,aH,dQ,life,la,ln,lc,pay⟩:=p;simp only at hk;subst hk;go_enter Tryz.func128,Tryz.ntmps128;go_wp2_with(go_at_call 86;refine(wU _ _ ?_).mono ?_;(simp[go_sem]);rintro e w' ⟨rfl,rfl⟩)
 go_rounds 5
 all_goals (go_returns;refine⟨rfl,?_⟩;go_grown)
theorem O0(p:aD)(hk:p.kind=3)(w:World):
  Calls Tryz.prog 128 #[p.val] w λe w'=>e=.returned p.l5.val∧Below w.heap.size w w':=by
 obtain⟨ttl,kind,hops,unk,id,dest,bA,aH,dQ,life,la,ln,lc,pay⟩:=p;simp only at hk;subst hk;go_enter Tryz.func128,Tryz.ntmps128;go_wp2_with(go_at_call 86;refine(oD _ 3 rfl rfl rfl _ ?_).mono ?_;(simp[go_sem]);rintro e w' ⟨rfl,rfl⟩)
 go_rounds 1
 all_goals (go_returns;refine⟨rfl,?_⟩;go_grown)
theorem OZ(p:aD)(hk:p.kind=9)(w:World):
  Calls Tryz.prog 128 #[p.val] w λe w'=>e=.returned p.l5.val∧Below w.heap.size w w':=by
 obtain⟨ttl,kind,hops,unk,id,dest,bA,aH,dQ,life,la,ln,lc,pay⟩:=p;simp only at hk;subst hk;go_enter Tryz.func128,Tryz.ntmps128;go_wp2_with(go_at_call 86;refine(wT _ _ ?_).mono ?_;(simp[go_sem]);rintro e w' ⟨rfl,rfl⟩)
 go_rounds 4
 all_goals (go_returns;refine⟨rfl,?_⟩;go_grown)
theorem O4(p:aD)(h1:(p.kind==1)=false)(h2:(p.kind==2)=false)(h3:(p.kind==3)=false)(h9:(p.kind==9)=false)(w:World):
  Calls Tryz.prog 128 #[p.val] w λe w'=>e=.returned p.l5.val∧Below w.heap.size w w':=by
 have hf:p.l5=p:=by
  unfold aD.l5;simp only[beq_eq_false_iff_ne,ne_eq]at h1 h2 h3 h9;simp[h1,h2,h3,h9]
 rw[hf];clear hf;go_enter Tryz.func128,Tryz.ntmps128;go_wp2_with(go_at_call 86;refine(oD _ p.kind h1 h2 h9 _ ?_).mono ?_;(simp[go_sem]);rintro e w' ⟨rfl,rfl⟩)
 go_rounds 1
 all_goals (go_returns;refine⟨rfl,?_⟩;go_grown)
theorem yx(p:aD)(w:World):
  Calls Tryz.prog 128 #[p.val] w λe w'=>e=.returned p.l5.val∧Below w.heap.size w w':=by
 by_cases h1:p.kind=1
 ·exact O3 p h1 w
 by_cases h2:p.kind=2
 ·exact O1 p h2 w
 by_cases h3:p.kind=3
 ·exact O0 p h3 w
 by_cases h9:p.kind=9
 ·exact OZ p h9 w
 exact O4 p (by simpa using h1) (by simpa using h2) (by simpa using h3) (by simpa using h9) w
variable{p:aD}{w:World}
@[reducible] def zx(p : aD)(w W : World): Prop :=
 W.cell? ⟨w.heap.size,0,none⟩=some (.int .i64 p.ttl)∧W.cell? ⟨w.heap.size,1,none⟩=some (.int .i64 p.kind)∧W.cell? ⟨w.heap.size,2,none⟩=some (.int .i64 p.hops)∧
 W.cell? ⟨w.heap.size,3,none⟩=some (.bool p.unk)∧W.cell? ⟨w.heap.size,4,none⟩=some (.int .u32 p.id)∧W.cell? ⟨w.heap.size,5,none⟩=some (.int .u32 p.dest)∧
 W.cell? ⟨w.heap.size,6,none⟩=some (.int .u32 p.bA)∧W.cell? ⟨w.heap.size,7,none⟩=some (.int .u32 p.aH)∧W.cell? ⟨w.heap.size,8,none⟩=some (.int .u32 p.dQ)∧
 W.cell? ⟨w.heap.size,9,none⟩=some (.int .u32 p.life)∧W.cell? ⟨w.heap.size,10,none⟩=some (.slice p.la p.ln p.lc)∧W.cell? ⟨w.heap.size,11,none⟩=some (.string p.pay)∧
 w.heap.size<W.heap.size∧Below w.heap.size w W
theorem zx.start(p:aD)(w:World):zx p w (w.alloc p.box).drew:=
 ⟨ko w _ _ _,ko w _ _ _,ko w _ _ _,ko w _ _ _,ko w _ _ _,ko w _ _ _,
 ko w _ _ _,ko w _ _ _,ko w _ _ _,ko w _ _ _,ko w _ _ _,ko w _ _ _,
 by simp,(bC).drew⟩
theorem zx.below{W W1:World}(h:zx p w W)(hb:Below W.heap.size W W1):zx p w W1:=by
 obtain⟨c0,c1,c2,c3,c4,c5,c6,c7,c8,c9,c10,c11,hs,hB⟩:=h;have k:∀i,W1.cell? ⟨w.heap.size,i,none⟩=W.cell? ⟨w.heap.size,i,none⟩:=λi=>hb.cell (p:=⟨w.heap.size,i,none⟩) hs;exact⟨(k _).trans c0,(k _).trans c1,(k _).trans c2,(k _).trans c3,(k _).trans c4,(k _).trans c5,(k _).trans c6,(k _).trans c7,(k _).trans c8,(k _).trans c9,(k _).trans c10,(k _).trans c11,
  fZ hs hb.size,hB.trans (hb.mono (Nat.le_of_lt hs))⟩
theorem yC{B:Nat}{w1 w2 w3:World}(h:Below B w w1)(hs:B<w1.heap.size)(h2:Below w1.heap.size w1 w2)(h3:Below w2.heap.size w2 w3):Below B w w3:=
 (h.trans (h2.mono (Nat.le_of_lt hs))).trans (h3.mono (dN (Nat.le_of_lt hs) h2.size))
def aD.eG(p:aD):Bool:=
 decide (1<=p.ttl∧p.ttl<=255)&&oL p.kind p.cnt&&!(p.unk&&p.bA !=0)&&p.l5.kY
theorem aD.Wf.l5(h:p.Wf):p.l5.Wf:=by
 obtain⟨h1,h2,h3,h4,h5,h6,h7,h8,h9,h10,h11,h12,U_,h14,h15,h16,h17,h18,h19,h20⟩:=h;unfold aD.l5;split
 ·constructor<;>(dsimp only;omega)
 split
 ·constructor<;>(dsimp only;omega)
 split
 ·constructor<;>(dsimp only;omega)
 split
 ·constructor<;>(first|(dsimp only;omega)|(simp[ByteArray.size]))
 ·constructor<;>assumption
theorem G_(p:aD)(w:World)(ht:p.ttl<1):
  Calls Tryz.prog 90 #[p.val] w λe w'=>e=.returned (.bool false)∧Below w.heap.size w w':=by
 have d1:decide (p.ttl<1)=true:=by simpa using ht
 go_enter Tryz.func90,Tryz.ntmps90;go_wp2;go_quiet (fail);all_goals go_wp2
 all_goals (go_ret;go_light;refine⟨rfl,below_drewN ?_ _⟩;go_grown)
theorem He(p:aD)(w:World)(ht:¬p.ttl<1)(ht2:255<p.ttl):
  Calls Tryz.prog 90 #[p.val] w λe w'=>e=.returned (.bool false)∧Below w.heap.size w w':=by
 have d1:decide (p.ttl<1)=false:=by simpa using ht
 have d2:decide (255<p.ttl)=true:=by simpa using ht2
 go_enter Tryz.func90,Tryz.ntmps90;go_wp2;go_quiet (fail);all_goals go_wp2
 all_goals (go_ret;go_light;refine⟨rfl,below_drewN ?_ _⟩;go_grown)
theorem Ew(p:aD)(hp:p.Wf)(w:World)(ht:¬p.ttl<1)(ht2:¬255<p.ttl):
  Calls Tryz.prog 90 #[p.val] w λe w'=>e=.returned (.bool (oL p.kind p.cnt&&!(p.unk&&p.bA !=0)&&p.l5.kY))∧Below w.heap.size w w':=by
 have d1:decide (p.ttl<1)=false:=by simpa using ht
 have d2:decide (255<p.ttl)=false:=by simpa using ht2
 go_enter Tryz.func90,Tryz.ntmps90;go_wp2;go_region_held3 (zx p w) (first|exact zx.start p w|assumption|exact zx.below (by assumption) (by assumption)) (first
  |(go_at_call 126;refine(Dq p _).mono ?_;rintro e w1 ⟨rfl,hb1⟩)
  |(go_at_call 125;refine(Tz _ _ _).mono ?_;rintro e w1 ⟨rfl,rfl⟩))
 obtain⟨c0,c1,c2,c3,c4,c5,c6,c7,c8,c9,c10,c11,hs,hB⟩:zx p w _:=by assumption
 clear hb1;have hf:=hp.l5;have hz:p.l5.Wf:=hf;obtain⟨ttl,kind,hops,unk,id,dest,bA,aH,dQ,life,la,ln,lc,pay⟩:=p;cases unk;all_goals (try dsimp only at c0 c1 c2 c3 c4 c5 c6 c7 c8 c9 c10 c11)
 ·go_wp2_with(first
   |(go_at_call 128;refine(yx ⟨ttl,kind,hops,false,id,dest,bA,aH,dQ,life,la,ln,lc,pay⟩ _).mono ?_;rintro e w2 ⟨rfl,hb2⟩)
   |(go_at_call 127;refine(xZ _ hz _).mono ?_;rintro e w3 ⟨rfl,hb3⟩))
  all_goals (go_ret;go_light;refine⟨lI ?_,?_⟩)
  all_goals first|(simp_all;done)|exact hB|exact yC hB hs hb2 hb3
 ·go_wp2_with(first
   |(go_at_call 128;refine(yx ⟨ttl,kind,hops,true,id,dest,bA,aH,dQ,life,la,ln,lc,pay⟩ _).mono ?_;rintro e w2 ⟨rfl,hb2⟩)
   |(go_at_call 127;refine(xZ _ hz _).mono ?_;rintro e w3 ⟨rfl,hb3⟩))
  all_goals (go_ret;go_light;refine⟨lI ?_,?_⟩)
  all_goals first|(simp_all;done)|exact hB|exact yC hB hs hb2 hb3
theorem dP(p:aD)(hp:p.Wf)(w:World):
  Calls Tryz.prog 90 #[p.val] w λe w'=>e=.returned (.bool p.eG)∧Below w.heap.size w w':=by
 by_cases h1:p.ttl<1
 ·have:p.eG=false:=by
   unfold aD.eG;rw[eU (by omega)];simp
  rw[this];exact G_ p w h1
 by_cases h2:255<p.ttl
 ·have:p.eG=false:=by
   unfold aD.eG;rw[eU (by omega)];simp
  rw[this];exact He p w h1 h2
 ·have:p.eG=(oL p.kind p.cnt&&!(p.unk&&p.bA !=0)&&p.l5.kY):=by
   unfold aD.eG;rw[f_ (by omega)];simp
  rw[this];exact Ew p hp w h1 h2
theorem vL:(Tryz.prog.info? 5).map (λi=>(i.zero,i.size,i.bytes))=some (some (.int .u8 0),1,1):=by kernel_rfl
theorem Zh(w:World)(n:Int):
  Src Tryz.prog 1 58 (.slice (some ⟨w.heap.size,0,none⟩) 4 4) 4 (U (b4 n)) (w.alloc (.cells #[.int .u8 (n / 16777216),.int .u8 (n / 65536%256),.int .u8 (n / 256%256),.int .u8 (n%256)] 5)):=by
 refine Src.ofSlice _ Tryz.underlying58 _ 4 4 _ rfl ?_ ?_
 ·intro j u hj;have hadd:(⟨w.heap.size,0,none⟩:Addr).add j=⟨w.heap.size,j,none⟩:=by unfold Addr.add;split<;>simp_all
  rw[hadd,ko w];rw[<-hj];simp[U,b4]
 ·intro u hu;simp only[U,b4,List.map_cons,List.map_nil,fE,List.not_mem_nil,or_false]at hu;rcases hu with rfl|rfl|rfl|rfl<;>rfl
theorem dH(base:Nat)(v:Value)(n:Int)(xs:List Int)(w:World)(h0:0<=n)(h1:n<4294967296)
  (hown:w.ownsRow base 5 1 v xs.length (U xs)) (hv:v≠ .slice none 0 0) (hb:base<=w.heap.size) (hlen:xs.length<=1000000):
  Calls Tryz.prog 57 #[v,.int .u32 n] w λe w'=>∃v',e=.returned v'∧w'.ownsRow base 5 1 v' (xs++b4 n).length (U (xs++b4 n))∧w.grownBy w' v.ownBlock∧v'≠ .slice none 0 0:=by
 obtain⟨i0,hi,hz0,hz1,hz2⟩:=info_parts vL;have hsrc:=Zh w n;go_enter Tryz.func57,Tryz.ntmps57;go_wp2_with(at_builtin;refine iN _ rfl _ _ 58 58 rfl base 5 i0 (.int .u8 0) 1 1 Tryz.underlying58 hi hz0 hz1 hz2 rfl v xs.length (U xs) rfl (hown.alloc _) hv _ 4 (U (b4 n)) rfl hsrc ?c1 ?c2 ?c3 ?_)
 case c1=>unfold maxLen;omega
 case c2=>omega
 case c3=>simp;omega
 intro v' w' hown' hgrow hv';go_wp2;go_ret;refine⟨v',rfl,?_,?_,hv'⟩
 ·rw[bU,kZ,<-Bd];exact hown'
 ·have hg:=ku w (.cells #[.int .u8 (n / 16777216),.int .u8 (n / 65536%256),.int .u8 (n / 256%256),.int .u8 (n%256)] 5) v.ownBlock;exact⟨hgrow.os.trans hg.os,hgrow.tape.trans hg.tape,hgrow.output.trans hg.output,dN hg.size hgrow.size,λk hk hne=>(hgrow.block k (fZ hk hg.size) hne).trans (hg.block k hk hne)⟩
end Go.Proofs.YtakaadcpaeiccabGreat
namespace Go.Proofs.YtakaadcpaeiccabGreat.FR
variable{a b c:Nat}
def g(c:Nat):Nat:=if c%2=1 then(c / 2)^^^ 3988292384 else c / 2
def gs:Nat->Nat->Nat
 |0,c=>c
 |k+1,c=>g (gs k c)
def tab(i:Nat):Nat:=gs 8 i
def step(s x:Nat):Nat:=tab ((s%256)^^^ x)^^^ (s / 256)
def run:List Nat->Nat->Nat
 | [],s=>s
 |x::r,s=>run r (step s x)
theorem Qg(ha:a<4294967296)(hb:b<4294967296):a ^^^ b<4294967296:=Nat.xor_lt_two_pow (n:=32) ha hb
theorem aeO(h:c<4294967296):g c<4294967296:=by
 unfold g;split
 ·exact Qg (by omega) (by omega)
 ·omega
theorem Tx(h:c<4294967296):∀k,gs k c<4294967296
 |0=>h
 |k+1=>aeO (Tx h k)
theorem Qm{i:Nat}(h:i<4294967296):tab i<4294967296:=Tx h 8
theorem zC(ha:a<256)(hb:b<256):a ^^^ b<256:=Nat.xor_lt_two_pow (n:=8) ha hb
theorem VP{s x:Nat}(hs:s<4294967296)(hx:x<256):step s x<4294967296:=by
 unfold step;have:=zC (Nat.mod_lt s (by decide:0<256)) hx;exact Qg (Qm (by omega)) (by omega)
theorem Qz:∀(l:List Nat) {s:Nat},s<4294967296->(∀x∈l,x<256)->run l s<4294967296
 | [],_,h,_=>h
 |x::r,_,h,hx=>Qz r (VP h (hx x (by simp))) (λy hy=>hx y (by simp[hy]))
theorem zT:∀(a b:List Nat) (s:Nat),run (a++b) s=run b (run a s)
 | [],_,_=>rfl
 |x::a,b,s=>zT a b (step s x)
end Go.Proofs.YtakaadcpaeiccabGreat.FR
namespace Go.Proofs.YtakaadcpaeiccabGreat
open Go.RowKit
variable{d s:Int}{xs:List Int}{k n:Nat}{ao:Option Addr}{p:aD}{b:Value}{W W1 w wr:World}
def aD.nums(p:aD):List (Nat×Int):=
 if p.kind=1 then [(4,p.id),(5,p.dest),(6,p.bA),(7,p.aH),(8,p.dQ)]
 else if p.kind=2 then [(5,p.dest),(6,p.bA),(7,p.aH),(9,p.life)]
 else if p.kind=9 then [(4,p.id),(5,p.dest),(7,p.aH)]
 else []
def ptrs(B:Nat)(l:List (Nat×Int)):Array Value:=(l.map λx=>Value.pointer (some ⟨B,x.1,none⟩)).toArray
def adk(B:Nat)(l:List (Nat×Int))(ao:Option Addr)(base:Nat)(W:World):Prop:=
 ∀j,j<l.length->∃N,ao=some ⟨N,0,none⟩∧base<=N∧W.heap[N]?=some (.cells (ptrs B l) 189 (0,0))
theorem Gy(p:aD)(B:Nat)(w:World)(hc:w.cell? ⟨B,1,none⟩=some (.int .i64 p.kind)):
  Calls Tryz.prog 86 #[.pointer (some ⟨B,0,none⟩)] w λe w'=>∃ao,e=.returned (.slice ao p.nums.length p.nums.length)∧Below w.heap.size w w'∧adk B p.nums ao w.heap.size w':=by
 have hnew:∀o,(w.alloc o).drew.heap[w.heap.size]?=some o:=λo=>bV w o;by_cases h1:p.kind=1
 ·rw[h1]at hc;refine(wV B w hc).mono ?_;rintro e w' ⟨rfl,rfl⟩;simp only[aD.nums,h1,if_true];exact⟨_,rfl,(bC).drew,λj _=>⟨_,rfl,aB _,hnew _⟩⟩
 by_cases h2:p.kind=2
 ·rw[h2]at hc;refine(wU B w hc).mono ?_;rintro e w' ⟨rfl,rfl⟩;have:p.nums=[(5,p.dest),(6,p.bA),(7,p.aH),(9,p.life)]:=by simp[aD.nums,h2]
  rw[this];exact⟨_,rfl,(bC).drew,λj _=>⟨_,rfl,aB _,hnew _⟩⟩
 by_cases h9:p.kind=9
 ·rw[h9]at hc;refine(wT B w hc).mono ?_;rintro e w' ⟨rfl,rfl⟩;have:p.nums=[(4,p.id),(5,p.dest),(7,p.aH)]:=by simp[aD.nums,h9]
  rw[this];exact⟨_,rfl,(bC).drew,λj _=>⟨_,rfl,aB _,hnew _⟩⟩
 ·refine(oD B p.kind (by simpa using h1) (by simpa using h2) (by simpa using h9) w hc).mono ?_;rintro e w' ⟨rfl,rfl⟩;have:p.nums=[]:=by simp[aD.nums,h1,h2,h9]
  rw[this];exact⟨none,rfl,aV _ _,λj hj=>absurd hj (by simp)⟩
theorem zx.below'(h:zx p w W)(hb:Below (w.heap.size+1) W W1):zx p w W1:=by
 obtain⟨c0,c1,c2,c3,c4,c5,c6,c7,c8,c9,c10,c11,hs,hB⟩:=h;have k:∀i,W1.cell? ⟨w.heap.size,i,none⟩=W.cell? ⟨w.heap.size,i,none⟩:=λi=>hb.cell (p:=⟨w.heap.size,i,none⟩) (Nat.lt_succ_self _);exact⟨(k _).trans c0,(k _).trans c1,(k _).trans c2,(k _).trans c3,(k _).trans c4,(k _).trans c5,(k _).trans c6,(k _).trans c7,(k _).trans c8,(k _).trans c9,(k _).trans c10,(k _).trans c11,
  fZ hs hb.size,hB.trans (hb.mono (Nat.le_succ _))⟩
theorem Gx(p:aD):p.nums.length<=5:=by
 unfold aD.nums;split
 ·simp
 split
 ·simp
 split<;>simp
def aD.lJ(p:aD)(k:Nat):List Int:=(p.nums.take k).flatMap λx=>b4 x.2
theorem Oe{o:Nat}{x:Int}(h:p.nums[k]?=some (o,x)):p.lJ (k+1)=p.lJ k++b4 x:=by
 unfold aD.lJ;rw[List.take_add_one,h];simp
theorem O6(l:List (Nat×Int)):(l.flatMap λx=>b4 x.2).length=4 * l.length:=by
 induction l with
 |nil=>rfl
 |cons a l ih=>simp only[List.flatMap_cons,bU,ih,kZ,dZ];omega
theorem vB(p:aD)(k:Nat):(p.lJ k).length<=20:=by
 unfold aD.lJ;rw[O6];have:=Gx p;have:=List.length_take_le k p.nums;have:=List.length_take_le' k p.nums;omega
theorem zx.Ze(p:aD)(w:World):zx p w (w.alloc p.box):=
 ⟨ko w _ _ _,ko w _ _ _,ko w _ _ _,ko w _ _ _,ko w _ _ _,ko w _ _ _,
 ko w _ _ _,ko w _ _ _,ko w _ _ _,ko w _ _ _,ko w _ _ _,ko w _ _ _,
 by simp,bC⟩
theorem zx.drew'(h:zx p w W):zx p w W.drew:=by
 obtain⟨c0,c1,c2,c3,c4,c5,c6,c7,c8,c9,c10,c11,hs,hB⟩:=h;exact⟨c0,c1,c2,c3,c4,c5,c6,c7,c8,c9,c10,c11,hs,hB.drew⟩
theorem Oc(hp:p.Wf)(h:zx p w W)(k:Nat)(hk:k<p.nums.length):
  ∃o x,p.nums[k]?=some (o,x)∧W.cell? ⟨w.heap.size,o,none⟩=some (.int .u32 x)∧0<=x∧x<4294967296:=by
 obtain⟨c0,c1,c2,c3,c4,c5,c6,c7,c8,c9,c10,c11,hs,hB⟩:=h;obtain⟨h1,h2,h3,h4,h5,h6,i0,i1,d0,d1,s0,s1,f0,f1,g0,g1,l0,l1,h19,h20⟩:=hp;have hall:∀ox∈p.nums,W.cell? ⟨w.heap.size,ox.1,none⟩=some (.int .u32 ox.2)∧0<=ox.2∧ox.2<4294967296:=by
  unfold aD.nums;split
  ·simp[*]
  split
  ·simp[*]
  split
  ·simp[*]
  ·simp
 have hm:=hall _ (List.getElem_mem hk);exact⟨_,_,bS hk,hm.1,hm.2⟩
structure jo(p:aD)(w:World)(ao:Option Addr)(wr:World)(b:Value)(xs:List Int):Prop where
 ZV:zx p w wr
 own:wr.ownsRow (w.heap.size+1) 5 1 b xs.length (U xs)
 nn:b≠ .slice none 0 0
 ptr:adk w.heap.size p.nums ao (w.heap.size+1) wr
theorem jo.base(h:jo p w ao wr b xs):w.heap.size+1<=wr.heap.size:=by
 obtain⟨_,_,_,_,_,_,_,_,_,_,_,_,hs,_⟩:=h.ZV;omega
theorem N7{base:Nat}{xs:List Value}(h:W.ownsRow base 5 1 b n xs){N:Nat}{c:Array Value}{f:Nat×Nat}
  (hN:W.heap[N]?=some (.cells c 189 f)):some N≠b.ownBlock:=by
 intro he;rcases h.2 with⟨rfl,_⟩|⟨g,cap,cur,rfl,_,hg,_⟩
 ·simp[Value.ownBlock]at he
 ·simp[Value.ownBlock]at he;subst he;rw[hN]at hg;simp at hg
theorem QX(base:Nat)(w:World)(x0 x1 x2 x3 x4:Int)(hb:base<=w.heap.size):
  (w.alloc (.cells #[.int .u8 x0,.int .u8 x1,.int .u8 x2,.int .u8 x3,.int .u8 x4] 5)).ownsRow base 5 1 (.slice (some ⟨w.heap.size,0,none⟩) 5 5) [x0,x1,x2,x3,x4].length (U [x0,x1,x2,x3,x4]):=
 ⟨rfl,.inr ⟨w.heap.size,5,_,rfl,hb,bV w _,aB _,by decide,rfl,rfl⟩⟩
theorem jo.step{w1:World}{v':Value}{ys:List Int}(h:jo p w ao wr b xs)
  (hg:wr.grownBy w1 b.ownBlock) (ho:w1.ownsRow (w.heap.size+1) 5 1 v' ys.length (U ys)) (hv:v'≠ .slice none 0 0):jo p w ao w1 v' ys:=by
 have hlt:=h.own.lt;have hb:Below (w.heap.size+1) wr w1:=(aV _ _).grown hg h.base λk hk=>(hlt k hk).1;refine⟨h.ZV.below' hb,ho,hv,λj hj=> ?_⟩;obtain⟨N,h1,h2,h3⟩:=h.ptr j hj;refine⟨N,h1,h2,?_⟩;rw[hg.block N (iA.1 h3).1 (N7 h.own h3)];exact h3
theorem jo.alloc(h:jo p w ao wr b xs)(o:Obj):jo p w ao (wr.alloc o) b xs:=by
 refine⟨h.ZV.below' ((aV _ _).alloc h.base _),h.own.alloc o,h.nn,λj hj=> ?_⟩;obtain⟨N,h1,h2,h3⟩:=h.ptr j hj;refine⟨N,h1,h2,?_⟩;rw[Below.heap_alloc wr o N (iA.1 h3).1];exact h3
theorem jo.drew(h:jo p w ao wr b xs):jo p w ao wr.drew b xs:=by
 obtain⟨h1,h2,h3,h4⟩:=h;obtain⟨c0,c1,c2,c3,c4,c5,c6,c7,c8,c9,c10,c11,hs,hB⟩:=h1;exact⟨⟨c0,c1,c2,c3,c4,c5,c6,c7,c8,c9,c10,c11,hs,hB.drew⟩,h2.drew,h3,h4⟩
theorem jo.Wj(h:jo p w ao wr b xs)(k:Nat)(hk:k<p.nums.length){o:Nat}{x:Int}(hox:p.nums[k]?=some (o,x)):
  ∃N,ao=some ⟨N,0,none⟩∧wr.cell? ⟨N,k,none⟩=some (.pointer (some ⟨w.heap.size,o,none⟩)):=by
 obtain⟨N,h1,h2,h3⟩:=h.ptr k hk;refine⟨N,h1,?_⟩;rw[aJ wr N k _ _ _ h3];simp[ptrs,hox]
def aA(s:ByteArray):List Int:=s.data.toList.map λb=>(b.toNat:Int)
theorem yB(s:ByteArray):byteCells s=U (aA s):=by simp[byteCells,U,aA]
theorem dz(s:ByteArray):(aA s).length=s.size:=by simp[aA]
@[reducible] def FC(n : Nat)(d s : Int)(W : World): Prop :=
 W.heap[n]?=some (.cells #[.int .u32 d,.int .u32 s] 237 (0,0))∧W.cell? ⟨n,0,none⟩=some (.int .u32 d)∧W.cell? ⟨n,1,none⟩=some (.int .u32 s)
theorem FC.start(w:World)(d s:Int):FC w.heap.size d s (w.alloc (.cells #[.int .u32 d,.int .u32 s] 237)).drew:=
 ⟨bV w _,ko w _ _ _,ko w _ _ _⟩
theorem FC.grown{base:Nat}{m:Nat}{xs:List Value}(h:FC n d s W)(ho:W.ownsRow base 5 1 b m xs)(hg:W.grownBy W1 b.ownBlock):FC n d s W1:=by
 obtain⟨h1,h2,h3⟩:=h;have hne:some n≠b.ownBlock:=by
  intro he;rcases ho.2 with⟨rfl,_⟩|⟨g,cap,cur,rfl,_,hg,_⟩
  ·simp[Value.ownBlock]at he
  ·simp[Value.ownBlock]at he;subst he;rw[h1]at hg;simp at hg
 exact⟨(hg.block n (iA.1 h1).1 hne).trans h1,hg.cell h2 hne,hg.cell h3 hne⟩
def ic(L:List (Int×Int))(k:Nat):List Int:=(L.take k).flatMap λx=>b4 x.1++b4 x.2
theorem JR{L:List (Int×Int)}(h:L[k]?=some (d,s)):ic L (k+1)=ic L k++b4 d++b4 s:=by
 unfold ic;rw[List.take_add_one,h];simp
theorem xC(l:List (Int×Int)):(l.flatMap λx=>b4 x.1++b4 x.2).length=8 * l.length:=by
 induction l with
 |nil=>rfl
 |cons a l ih=>simp only[List.flatMap_cons,bU,ih,kZ,dZ];omega
theorem C_(L:List (Int×Int))(k:Nat):(ic L k).length<=8 * L.length:=by
 unfold ic;rw[xC];have:=List.length_take_le' k L;omega
theorem CR{base e size:Nat}{v:Value}{xs:List Value}(h:W.ownsRow base e size v n xs)(hv:v≠ .slice none 0 0):
  ∃g cap,v=.slice (some ⟨g,0,none⟩) n cap∧base<=g:=by
 rcases h.2 with⟨rfl,_⟩|⟨g,cap,cur,rfl,hb,_⟩
 ·exact absurd rfl hv
 ·exact⟨g,cap,rfl,hb⟩
variable{xs:List Int}{v:Value}{W:World}
@[reducible] def broken: List PanicEntry := [{ v := .iface 47 (.int .i64 1), recovered := false }]
theorem require_ok(w:World):Calls Tryz.prog 85 #[.bool true] w λe w'=>e=.returned (.tuple #[])∧w'=w:=by
 go_enter Tryz.func85,Tryz.ntmps85;go_wp2;go_returns;exact⟨rfl,rfl⟩
theorem eH(w:World):Calls Tryz.prog 85 #[.bool false] w λe w'=>e=.panicked broken∧w'=w:=by
 go_enter Tryz.func85,Tryz.ntmps85;go_wp2;exact⟨rfl,rfl,rfl⟩
def fo(W:World)(v:Value)(xs:List Int):Prop:=
 (∀x∈xs,0<=x∧x<=255)∧((v=.slice none 0 0∧xs=[])∨
  ∃b o c,v=.slice (some ⟨b,o,none⟩) xs.length c∧xs.length<=c∧c<=9223372036854775807∧∀(j:Nat) (x:Int),xs[j]?=some x->W.cell? ⟨b,o+j,none⟩=some (.int .u8 x))
def Rd(R:Nat)(xs:List Int)(W:World):Prop:=∃v,W.cell? ⟨R,0,none⟩=some v∧W.frozen? ⟨R,0,none⟩=false∧fo W v xs
theorem fo.set{u u':Value}{R:Nat}(h:fo W v xs)(hR:W.cell? ⟨R,0,none⟩=some u)(hu:∀k n,u≠ .int k n):fo (W.setCell ⟨R,0,none⟩ u') v xs:=by
 refine⟨h.1,?_⟩;rcases h.2 with h|⟨b,o,c,rfl,h1,h2,h3⟩
 ·exact .inl h
 ·refine .inr ⟨b,o,c,rfl,h1,h2,λj x hx=> ?_⟩;have hc:=h3 j x hx;rw[World.cell?_setCell_other _ _ _ _ (λe=>by rw[<-e,hR]at hc;exact hu _ _ (Option.some.inj hc))];exact hc
theorem fo.part{b o c:Nat}(hb:∀x∈xs,0<=x∧x<=255)(h1:xs.length<=c)(h2:c<=9223372036854775807)(h3:∀(j:Nat) (x:Int),xs[j]?=some x->W.cell? ⟨b,o+j,none⟩=some (.int .u8 x))(n:Nat)(hn:n<=xs.length):
  fo W (.slice (some ⟨b,o,none⟩) n c) (xs.take n)∧fo W (.slice (some ⟨b,o+n,none⟩) (xs.length - n) (c - n)) (xs.drop n):=by
 refine⟨⟨λx hx=>hb x (List.mem_of_mem_take hx),.inr ⟨b,o,c,?_,?_,h2,λj x hx=> ?_⟩⟩,⟨λx hx=>hb x (List.mem_of_mem_drop hx),.inr ⟨b,o+n,c - n,?_,?_,by omega,λj x hx=> ?_⟩⟩⟩
 ·rw[List.length_take,Nat.min_eq_left hn]
 ·rw[List.length_take];omega
 ·rw[List.getElem?_take]at hx;split at hx
  ·exact h3 j x hx
  ·cases hx
 ·rw[List.length_drop]
 ·rw[List.length_drop];omega
 ·rw[List.getElem?_drop]at hx;have:=h3 (n+j) x hx;rw[Nat.add_assoc];exact this
theorem Nj(R:Nat)(b o l c:Nat)(n:Nat)(w:World)(hn:n<=l)(hlc:l<=c)(hr:w.cell? ⟨R,0,none⟩=some (.slice (some ⟨b,o,none⟩) l c))(hf:w.frozen? ⟨R,0,none⟩=false):
  Calls Tryz.prog 89 #[.pointer (some ⟨R,0,none⟩),.int .i64 n] w λe w'=>e=.returned (.slice (some ⟨b,o,none⟩) n c)∧
   ((c=n∧w'=w.setCell ⟨R,0,none⟩ (.slice (some ⟨b,o,none⟩) (l - n) 0))∨w'=w.setCell ⟨R,0,none⟩ (.slice (some ⟨b,o+n,none⟩) (l - n) (c - n))):=by
 go_enter Tryz.func89,Tryz.ntmps89;go_wp2_with(go_at_call 85;refine(require_ok _).mono ?_;rintro e w1 ⟨rfl,rfl⟩)
 case inl=>go_ret;exact⟨rfl,.inl rfl⟩
 case inr=>go_ret;exact⟨rfl,rfl⟩
theorem Jp(R:Nat)(a:Option Addr)(l c:Nat)(n:Nat)(w:World)(hn:l<n)(hr:w.cell? ⟨R,0,none⟩=some (.slice a l c)):
  Calls Tryz.prog 89 #[.pointer (some ⟨R,0,none⟩),.int .i64 n] w λe w'=>e=.panicked broken∧w'=w:=by
 have hd:decide (n<=l)=false:=eU (by omega);go_enter Tryz.func89,Tryz.ntmps89;go_wp2_with(go_at_call 85;refine(eH _).mono ?_;rintro e w1 ⟨rfl,rfl⟩);exact⟨rfl,rfl,rfl⟩
theorem take_nil(R:Nat)(w:World)(hr:w.cell? ⟨R,0,none⟩=some (.slice none 0 0))(hf:w.frozen? ⟨R,0,none⟩=false):
  Calls Tryz.prog 89 #[.pointer (some ⟨R,0,none⟩),.int .i64 0] w λe w'=>e=.returned (.slice none 0 0)∧w'=w.setCell ⟨R,0,none⟩ (.slice none 0 0):=by
 go_enter Tryz.func89,Tryz.ntmps89;go_wp2_with(go_at_call 85;refine(require_ok _).mono ?_;rintro e w1 ⟨rfl,rfl⟩);all_goals (go_ret;exact⟨rfl,rfl⟩)
def adh(R:Nat)(n:Nat)(xs:List Int)(W:World)(e:Ending)(w':World):Prop:=
 (n<=xs.length∧(∃v,e=.returned v∧fo w' v (xs.take n))∧Rd R (xs.drop n) w'∧W.grownBy w' (some R)∧Below R W w')∨(xs.length<n∧e=.panicked broken∧w'=W)
theorem xA(W:World)(R:Nat)(u:Value):W.grownBy (W.setCell ⟨R,0,none⟩ u) (some R):=⟨rfl,rfl,rfl,by simp,λk _ hk=>lV W ⟨R,0,none⟩ u k (λe=>hk (by simp[e]))⟩
theorem xI(W:World)(R:Nat)(u:Value):Below R W (W.setCell ⟨R,0,none⟩ u):=(aV _ _).setCell (p:=⟨R,0,none⟩) (aB _) _
theorem zH(R n:Nat)(xs:List Int)(W:World)(h:Rd R xs W):
  Calls Tryz.prog 89 #[.pointer (some ⟨R,0,none⟩),.int .i64 n] W λe w'=>adh R n xs W e w':=by
 obtain⟨v,hr,hf,hb,hv⟩:=h;by_cases hn:n<=xs.length
 ·rcases hv with⟨rfl,rfl⟩|⟨b,o,c,rfl,h1,h2,h3⟩
  ·obtain rfl:n=0:=by simpa using hn
   refine(take_nil R W hr hf).mono ?_;rintro e w' ⟨rfl,rfl⟩;have hr0:∀W':World,fo W' (.slice none 0 0) []:=λW'=>⟨by simp,.inl ⟨rfl,rfl⟩⟩;exact .inl ⟨hn,⟨_,rfl,hr0 _⟩,⟨_,World.cell?_setCell_same _ _ _ hr,(World.frozen?_setCell _ _ _ _).trans hf,hr0 _⟩,xA _ _ _,xI _ _ _⟩
  ·have hpart:=fo.part hb h1 h2 h3 n hn;refine(Nj R b o xs.length c n W hn h1 hr hf).mono ?_;rintro e w' ⟨rfl,⟨hcn,rfl⟩|rfl⟩
   ·refine .inl ⟨hn,⟨_,rfl,hpart.1.set hr (by simp)⟩,⟨_,World.cell?_setCell_same _ _ _ hr,(World.frozen?_setCell _ _ _ _).trans hf,?_⟩,xA _ _ _,xI _ _ _⟩;have hx:xs.drop n=[]:=List.drop_eq_nil_of_le (by omega);rw[hx];refine⟨by simp,.inr ⟨b,o,0,?_,by simp,by omega,by simp⟩⟩;rw[show xs.length - n=([]:List Int).length by simp;omega]
   ·exact .inl ⟨hn,⟨_,rfl,hpart.1.set hr (by simp)⟩,⟨_,World.cell?_setCell_same _ _ _ hr,(World.frozen?_setCell _ _ _ _).trans hf,hpart.2.set hr (by simp)⟩,xA _ _ _,xI _ _ _⟩
 ·have hs:∃a c,v=.slice a xs.length c:=by
   rcases hv with⟨rfl,rfl⟩|⟨b,o,c,rfl,_⟩
   ·exact⟨_,_,rfl⟩
   ·exact⟨_,_,rfl⟩
  obtain⟨a,c,rfl⟩:=hs;refine(Jp R a xs.length c n W (by omega) hr).mono ?_;rintro e w' ⟨rfl,rfl⟩;exact .inr ⟨by omega,rfl,rfl⟩
theorem mr(h:fo W v xs){j:Nat}{x:Int}(hx:xs[j]?=some x):
  0<=x∧x<=255∧∃b o c,v=.slice (some ⟨b,o,none⟩) xs.length c∧W.cell? ⟨b,o+j,none⟩=some (.int .u8 x):=by
 have hb:=h.1 x (iV hx);rcases h.2 with⟨_,rfl⟩|⟨b,o,c,rfl,_,_,h3⟩
 ·simp at hx
 ·exact⟨hb.1,hb.2,b,o,c,rfl,h3 j x hx⟩
theorem Ef(R:Nat)(xs:List Int)(W:World)(h:Rd R xs W):
  Calls Tryz.prog 84 #[.pointer (some ⟨R,0,none⟩)] W λe w'=>(∃x ys,xs=x::ys∧0<=x∧x<=255∧e=.returned (.int .i64 x)∧Rd R ys w'∧W.grownBy w' (some R)∧Below R W w')∨(xs=[]∧e=.panicked broken∧w'=W):=by
 go_enter Tryz.func84,Tryz.ntmps84;go_wp2_with fail;refine(zH R 1 xs W h).mono ?_;rintro e w1 (⟨hn,⟨v,rfl,hv⟩,hrd,hg,hbl⟩|⟨hn,rfl,rfl⟩)
 ·obtain⟨x,ys,rfl⟩:∃x ys,xs=x::ys:=by
   cases xs with
   |nil=>simp at hn
   |cons x ys=>exact⟨x,ys,rfl⟩
  obtain⟨hx0,hx1,b,o,c,hv',hcell⟩:=mr hv (j:=0) (x:=x) rfl;simp only[List.take_succ_cons,List.take_zero,dZ,List.length_nil,Nat.zero_add,Nat.add_zero]at hv' hcell;subst hv';clear hv;go_wp2;go_ret;exact .inl ⟨x,ys,rfl,hx0,hx1,rfl,hrd,hg,hbl⟩
 ·obtain rfl:xs=[]:=nU (by omega);exact⟨rfl,.inr ⟨rfl,rfl,rfl⟩⟩
variable{xs:List Int}{c:Nat}
theorem acY(hc:c<4294967296)(h:(bits .and .u32 (c:Int) 1==1)=true):bits .xor .u32 ((c:Int)/ 2) 3988292384=((FR.g c:Nat):Int):=by
 rw[show(1:Int)=((1:Nat):Int)from rfl,u32_and_nat c 1 hc (by omega),Nat.and_one_is_mod]at h;have h1:c%2=1:=by
  have:=beq_iff_eq.1 h;omega
 rw[show(c:Int)/ 2=((c / 2:Nat):Int)by omega,show(3988292384:Int)=((3988292384:Nat):Int)from rfl,u32_xor_nat (c / 2) 3988292384 (by omega) (by omega)];unfold FR.g;rw[aI h1]
theorem aaQ(hc:c<4294967296)(h:(bits .and .u32 (c:Int) 1==1)=false):(c:Int)/ 2=((FR.g c:Nat):Int):=by
 rw[show(1:Int)=((1:Nat):Int)from rfl,u32_and_nat c 1 hc (by omega),Nat.and_one_is_mod]at h;have h1:¬c%2=1:=by
  have:=beq_eq_false_iff_ne.1 h;omega
 unfold FR.g;rw[ay h1];omega
theorem BN(n:Int)(h0:0<=n)(h1:n<=255)(w:World):
  Calls Tryz.prog 91 #[.int .u8 n] w λe w'=>e=.returned (.int .u32 (FR.tab n.toNat:Nat))∧w'=w:=by
 obtain⟨m,rfl⟩:=Int.eq_ofNat_of_zero_le h0;go_enter Tryz.func91,Tryz.ntmps91;go_wp2;go_loop [3,7] (λs i=>∃k:Nat,k<=8∧i=.int .i64 k∧s=.int .u32 (FR.gs k m:Nat)) (λ_ i=>8 - (intOf i).toNat)
 case atStart=>exact⟨0,by omega,rfl,rfl⟩
 case round=>
  obtain⟨k,hk,rfl,rfl⟩:=hrel;have hc:FR.gs k m<4294967296:=FR.Tx (by omega) k;by_cases hlt:k<8
  ·go_wp2
   ·rename_i h;have he:=acY hc h;go_round
    case rel=>exact⟨k+1,by omega,by go_num,by rw[he];rfl⟩
    case measure=>simp[intOf];omega
   ·rename_i h;have he:=aaQ hc h;go_round
    case rel=>exact⟨k+1,by omega,by go_num,by rw[he];rfl⟩
    case measure=>simp[intOf];omega
  ·go_wp2;go_ret;obtain rfl:k=8:=by omega
   exact⟨rfl,rfl⟩
def WG(xs:List Int):List Nat:=xs.map Int.toNat
theorem ZI(h:∀x∈xs,0<=x∧x<=255):∀x∈WG xs,x<256:=by
 intro x hx;simp only[WG,dW]at hx;obtain⟨y,hy,rfl⟩:=hx;have:=h y hy;omega
def AZ(xs:List Int):Nat:=FR.run (WG xs) 4294967295
def crc(xs:List Int):Int:=4294967295 - (AZ xs:Int)
theorem Fb(h:∀x∈xs,0<=x∧x<=255):AZ xs<4294967296:=FR.Qz _ (by omega) (ZI h)
theorem TS(h:∀x∈xs,0<=x∧x<=255):0<=crc xs∧crc xs<4294967296:=by
 have:=Fb h;unfold crc;omega
theorem Pe(xs:List Int)(x:Int):AZ (xs++ [x])=FR.step (AZ xs) x.toNat:=by
 unfold AZ WG;rw[List.map_append,FR.zT];rfl
theorem Qn{s:Nat}{x:Int}(hs:s<4294967296)(h0:0<=x)(h1:x<=255):
  bits .xor .u32 ((FR.tab (bits .xor .u8 ((s:Int)%256) x).toNat:Nat):Int) ((s:Int)/ 256)=((FR.step s x.toNat:Nat):Int):=by
 obtain⟨m,rfl⟩:=Int.eq_ofNat_of_zero_le h0;rw[show(s:Int)%256=((s%256:Nat):Int)by omega,u8_xor_nat (s%256) m (by omega) (by omega),iU,
  show(s:Int)/ 256=((s / 256:Nat):Int)by omega,u32_xor_nat _ _ (FR.Qm (by have:=FR.zC (Nat.mod_lt s (by decide:0<256)) (show m<256 by omega);omega)) (by omega)]
 rfl
theorem Nk(xs:List Int)(k:Nat){x:Int}(h:xs[k]?=some x):xs.take (k+1)=xs.take k++ [x]:=by
 rw[List.take_add_one,h];rfl
theorem Zb(h:∀x∈xs,0<=x∧x<=255)(k:Nat):∀x∈xs.take k,0<=x∧x<=255:=λx hx=>h x (List.mem_of_mem_take hx)
theorem XV(hc:c<4294967296):bits .xor .u32 IntKind.u32.max (c:Int)=4294967295 - (c:Int):=by
 rw[show IntKind.u32.max=((4294967295:Nat):Int)from rfl,u32_xor_nat 4294967295 c (by omega) hc];have h:=congrArg BitVec.toNat (BitVec.allOnes_xor (w:=32) (x:=BitVec.ofNat 32 c));rw[BitVec.toNat_xor,BitVec.toNat_not,BitVec.toNat_ofNat,BitVec.toNat_allOnes,Nat.mod_eq_of_lt hc]at h;simp only[Nat.reducePow,Nat.add_one_sub_one]at h;omega
theorem K8(v:Value)(xs:List Int)(w:World)(hv:fo w v xs):
  Calls Tryz.prog 58 #[v] w λe w'=>e=.returned (.int .u32 (crc xs))∧w'=w:=by
 obtain⟨a,c,rfl⟩:∃a c,v=.slice a xs.length c:=by
  rcases hv.2 with⟨rfl,rfl⟩|⟨b,o,c,rfl,_⟩
  ·exact⟨_,_,rfl⟩
  ·exact⟨_,_,rfl⟩
 have hlen:xs.length<=9223372036854775807:=by
  rcases hv.2 with⟨_,rfl⟩|⟨b,o,c,_,h1,h2,_⟩
  ·simp
  ·omega
 have hb:=hv.1;go_enter Tryz.func58,Tryz.ntmps58;go_wp2;go_loop [3,8] (λs i=>∃k:Nat,k<=xs.length∧i=.int .i64 k∧s=.int .u32 (AZ (xs.take k):Nat)) (λ_ i=>xs.length - (intOf i).toNat)
 case atStart=>exact⟨0,by omega,rfl,rfl⟩
 case round=>
  obtain⟨k,hk,rfl,rfl⟩:=hrel;have hc:=Fb (Zb hb k);by_cases hlt:k<xs.length
  ·obtain⟨x,hx⟩:∃x,xs[k]?=some x:=⟨_,bS hlt⟩;obtain⟨hx0,hx1,b,o,c',he,hcell⟩:=mr hv hx;simp only[Value.slice.injEq]at he;obtain⟨rfl,he1,rfl⟩:=he;clear he1;have hst:Hid _:=Qn hc hx0 hx1;have hsn:Hid _:=Pe (xs.take k) x;have hts:Hid _:=Nk xs k hx;have hq:0<=bits .xor .u8 ((AZ (xs.take k):Int)%256) x∧bits .xor .u8 ((AZ (xs.take k):Int)%256) x<=255:=by
    obtain⟨m,rfl⟩:=Int.eq_ofNat_of_zero_le hx0;rw[show(AZ (xs.take k):Int)%256=((AZ (xs.take k)%256:Nat):Int)by omega,u8_xor_nat _ m (by omega) (by omega)];have:=FR.zC (Nat.mod_lt (AZ (xs.take k)) (by decide:0<256)) (show m<256 by omega);omega
   clear hx hv hb;go_wp2_with(go_at_call 91;refine(BN _ hq.1 hq.2 _).mono ?_;rintro e w1 ⟨rfl,rfl⟩);go_round
   case rel=>exact⟨k+1,by omega,by go_num,by rw[hst.out,hts.out,hsn.out]⟩
   case measure=>simp[intOf];omega
  ·go_wp2;go_ret;obtain rfl:k=xs.length:=by omega
   simp only[List.take_length];exact⟨uY (XV (Fb hb)),trivial⟩
variable{xs:List Int}{v:Value}{W W':World}
theorem rZ(h:fo W v xs):(convert 58 9 v).run Tryz.prog W=.ok (.string (strOfNums xs)) W:=by
 rcases h.2 with⟨rfl,rfl⟩|⟨b,o,c,rfl,_,_,h3⟩
 ·exact run_convert_bytes_nil (P:=Tryz.prog) W 58 5 Tryz.underlying58 Tryz.underlying5 0 0 9 Tryz.underlying9
 ·refine run_convert_bytes_arg (P:=Tryz.prog) W 58 5 Tryz.underlying58 Tryz.underlying5 b o xs.length c xs rfl ?_ 9 Tryz.underlying9;intro i hi;rw[h3 i xs[i] (bS hi)];simp[hi]
theorem X5{n:Int}(h0:0<=n)(h1:n<4294967296):∀x∈b4 n,0<=x∧x<=255:=by
 intro x hx;simp only[b4,fE,List.not_mem_nil,or_false]at hx;rcases hx with rfl|rfl|rfl|rfl<;>omega
theorem rQ(s:ByteArray):∀x∈aA s,0<=x∧x<=255:=by
 intro x hx;simp only[aA,dW]at hx;obtain⟨b,_,rfl⟩:=hx;have:=b.toNat_lt;omega
theorem qI{base:Nat}(h:W.ownsRow base 5 1 v xs.length (U xs))(hb:∀x∈xs,0<=x∧x<=255):fo W v xs:=by
 refine⟨hb,?_⟩;rcases id h.2 with⟨rfl,h0⟩|⟨g,cap,cur,rfl,_,_,h1,h2,_⟩
 ·exact .inl ⟨rfl,nU h0⟩
 ·refine .inr ⟨g,0,cap,rfl,h1,by unfold maxLen at h2;omega,λj x hx=> ?_⟩;have hj:j<xs.length:=by
   rcases Nat.lt_or_ge j xs.length with h|h
   ·exact h
   ·rw[List.getElem?_eq_none h]at hx;cases hx
  rw[Nat.zero_add,h.cellAt j (by omega)];simp[U,hx]
theorem QC(s:ByteArray)(hs:s.size<=65536)(w:World)(fz:Nat×Nat):fo (w.drew.alloc (.cells (bytesRow s (grownCap w s.size 0 5)) 5 fz)) (.slice (some ⟨w.heap.size,0,none⟩) s.size (grownCap w s.size 0 5)) (aA s):=by
 refine⟨rQ s,.inr ⟨w.heap.size,0,_,by rw[dz],by rw[dz];exact grownCap_ge _ _ _ _,?_,λj x hx=> ?_⟩⟩
 ·exact grownCap_le_maxLen w s.size 0 _ (by unfold maxLen;omega)
 ·have hj:j<s.size:=by
   rcases Nat.lt_or_ge j s.size with h|h
   ·exact h
   ·rw[List.getElem?_eq_none (by rw[dz];exact h)]at hx;cases hx
  have hh:=bV w.drew (.cells (bytesRow s (grownCap w s.size 0 5)) 5 fz);rw[Nat.zero_add];refine(aJ _ _ j _ _ _ hh).trans ?_;unfold bytesRow;rw[Array.getElem?_append_left (by simpa using hj)];simp only[aA,l9]at hx;simp only[Array.getElem?_map];cases hq:s.data[j]? with
  |none=>simp[hq]at hx
  |some b=>
   simp[hq]at hx;subst hx;rfl
theorem aC(A:World)(r:Option Nat):A.grownBy A r:=⟨rfl,rfl,rfl,aB _,λ_ _ _=>rfl⟩
theorem ah{A B:World}{g:Nat}(h:A.grownBy B (some g))(j:Nat)(v:Value):A.grownBy (B.setCell ⟨g,j,none⟩ v) (some g):=
 ⟨h.os,h.tape,h.output,by simpa using h.size,λi hi hne=>(lV B ⟨g,j,none⟩ v i (λe=>hne (by rw[e]))).trans (h.block i hi hne)⟩
theorem fo.kept(h:fo W v xs)(hb:Below W.heap.size W W'):fo W' v xs:=by
 refine⟨h.1,?_⟩;rcases h.2 with h|⟨b,o',c,rfl,k1,k2,k3⟩
 ·exact .inl h
 ·exact .inr ⟨b,o',c,rfl,k1,k2,λj x hx=>(hb.cell (World.block_lt_of_cell? W _ (k3 j x hx))).trans (k3 j x hx)⟩
theorem Rd.kept{R:Nat}(h:Rd R xs W)(hb:Below W.heap.size W W'):Rd R xs W':=by
 obtain⟨v,h1,h2,hx,h3⟩:=h;have hlt:=World.block_lt_of_cell? W _ h1;refine⟨v,(hb.cell hlt).trans h1,(hb.frozen hlt).trans h2,hx,?_⟩;rcases h3 with h|⟨b,o',c,rfl,k1,k2,k3⟩
 ·exact .inl h
 ·exact .inr ⟨b,o',c,rfl,k1,k2,λj x hx=>(hb.cell (World.block_lt_of_cell? W _ (k3 j x hx))).trans (k3 j x hx)⟩
variable{o:Bool}{a s:Int}{W w:World}
@[reducible] def Gj(o : Bool)(a s : Int): Value := .agg #[.bool o, .int .u32 a, .int .u32 s]
@[reducible] def aY(o : Bool)(a s : Int): Obj := .cells #[.bool o, .int .u32 a, .int .u32 s] 82
def tZ(o:Bool)(a s:Int):List Int:=(if o then 1 else 2)::(b4 (if o then 0 else a)++b4 s)
def zV(o:Bool)(a s:Int):List Int:=tZ o a s++b4 (crc (tZ o a s))
theorem xV(o:Bool)(a s:Int):(tZ o a s).length=9:=rfl
theorem JD(a0:0<=a)(a1:a<4294967296)(s0:0<=s)(s1:s<4294967296):∀x∈tZ o a s,0<=x∧x<=255:=by
 intro x hx;simp only[tZ,fE,fu]at hx;rcases hx with rfl|hx|hx
 ·cases o<;>simp
 ·cases o
  ·exact X5 a0 a1 x hx
  ·exact X5 (by simp) (by simp) x hx
 ·exact X5 s0 s1 x hx
theorem QD(a0:0<=a)(a1:a<4294967296)(s0:0<=s)(s1:s<4294967296):∀x∈zV o a s,0<=x∧x<=255:=by
 have hh:=JD (o:=o) a0 a1 s0 s1;intro x hx;rcases fu.1 hx with hx|hx
 ·exact hh x hx
 ·have:=TS hh;exact X5 this.1 this.2 x hx
@[reducible] def Bl(a s : Int)(w W : World): Prop :=
 W.cell? ⟨w.heap.size,1,none⟩=some (.int .u32 a)∧W.cell? ⟨w.heap.size,2,none⟩=some (.int .u32 s)∧w.heap.size<W.heap.size∧Below w.heap.size w W
theorem Bl.start(o:Bool)(a s:Int)(w:World):Bl a s w (w.alloc (aY o a s)):=
 ⟨ko w _ _ _,ko w _ _ _,by simp,bC⟩
theorem Bl.drew(h:Bl a s w W):Bl a s w W.drew:=⟨h.1,h.2.1,h.2.2.1,h.2.2.2.drew⟩
theorem Bl.alloc(h:Bl a s w W)(o:Obj):Bl a s w (W.alloc o):=by
 have hb:Below W.heap.size W (W.alloc o):=bC;exact⟨(hb.cell (p:=⟨w.heap.size,1,none⟩) h.2.2.1).trans h.1,(hb.cell (p:=⟨w.heap.size,2,none⟩) h.2.2.1).trans h.2.1,by simp;have:=h.2.2.1;omega,h.2.2.2.alloc (Nat.le_of_lt h.2.2.1) _⟩
theorem Bl.grown{W1:World}{v:Value}{n:Nat}{xs:List Value}(h:Bl a s w W)(ho:W.ownsRow (w.heap.size+1) 5 1 v n xs)(hg:W.grownBy W1 v.ownBlock):Bl a s w W1:=by
 have hne:some w.heap.size≠v.ownBlock:=λe=>by have:=(ho.lt _ e.symm).1;omega
 have hb:Below (w.heap.size+1) W W1:=(aV _ _).grown hg h.2.2.1 λk hk=>(ho.lt k hk).1;exact⟨hg.cell h.1 hne,hg.cell h.2.1 hne,fZ h.2.2.1 hg.size,h.2.2.2.trans (hb.mono (Nat.le_succ _))⟩
theorem Lp(base:Nat)(w:World)(x0:Int)(hb:base<=w.heap.size):
  (w.alloc (.cells #[.int .u8 x0] 5)).ownsRow base 5 1 (.slice (some ⟨w.heap.size,0,none⟩) 1 1) [x0].length (U [x0]):=
 ⟨rfl,.inr ⟨w.heap.size,1,_,rfl,hb,bV w _,aB _,by decide,rfl,rfl⟩⟩
theorem qf(o:Bool)(a s:Int)(a0:0<=a)(a1:a<4294967296)(s0:0<=s)(s1:s<4294967296)(w:World):
  Calls Tryz.prog 23 #[Gj o a s] w λe w'=>∃v,e=.returned v∧Below w.heap.size w w'∧v≠ .slice none 0 0∧w'.ownsRow (w.heap.size+1) 5 1 v 13 (U (zV o a s)):=by
 cases o
 ·have hS:=Bl.start false a s w;dsimp only[aY]at hS;have hl1:w.heap.size<(w.alloc (aY false a s)).heap.size:=by simp
  dsimp only[aY]at hl1;go_enter Tryz.func23,Tryz.ntmps23;go_wp2_with fail;generalize World.alloc _ _=W0 at hS hl1 ⊢;have yL:=(Lp (w.heap.size+1) W0 2 hl1).drew;go_region_held3 (Bl a s w) (first|exact Bl.drew (by assumption)|assumption|exact Bl.alloc (by assumption) _|exact Bl.grown (by assumption) yL lY|exact Bl.grown (by assumption) hown5 pI) (first
   |(go_at_call_of 57 (Value.int IntKind.u32 a);refine(dH (w.heap.size+1) _ a [2] _ a0 a1 yL (by simp) (by simp;omega) (by simp)).mono ?_;rintro e w5 ⟨v5,rfl,hown5,lY,Ca⟩)
   |(go_at_call_of 57 (Value.int IntKind.u32 s);refine(dH (w.heap.size+1) _ s ([2]++b4 a) _ s0 s1 hown5 Ca (dN (Nat.le_of_lt (by simp;omega)) lY.size) (by simp[kZ])).mono ?_;rintro e w6 ⟨v6,rfl,hown6,pI,Ht⟩))
  rename_i Xj;have hb:∀x∈tZ false a s,0<=x∧x<=255:=JD a0 a1 s0 s1;have Ap:w6.ownsRow (w.heap.size+1) 5 1 v6 (tZ false a s).length (U (tZ false a s)):=hown6;have hr:=qI Ap hb;have hc:=TS hb;clear hown6 pI hown5 lY yL hS hl1 Ca;go_wp2_with fail;refine(K8 _ (tZ false a s) _ hr).mono ?_;rintro e w7 ⟨rfl,rfl⟩;go_wp2_with fail;refine(dH (w.heap.size+1) _ _ (tZ false a s) _ hc.1 hc.2 Ap Ht Xj.2.2.1 (by rw[xV];omega)).mono ?_;rintro e w8 ⟨v8,rfl,SC,JY,aag⟩;go_wp2_with fail;go_ret;exact⟨v8,rfl,Xj.2.2.2.grown JY (Nat.le_of_lt Xj.2.2.1) (λk hk=>Nat.le_of_succ_le (Ap.lt k hk).1),aag,SC⟩
 ·have hS:=Bl.start true 0 s w;dsimp only[aY]at hS;have hl1:w.heap.size<(w.alloc (aY true 0 s)).heap.size:=by simp
  dsimp only[aY]at hl1;go_enter Tryz.func23,Tryz.ntmps23;go_wp2_with fail;generalize World.alloc _ _=W0 at hS hl1 ⊢;have yL:=(Lp (w.heap.size+1) W0 1 hl1).drew;go_region_held3 (Bl 0 s w) (first|exact Bl.drew (by assumption)|assumption|exact Bl.alloc (by assumption) _|exact Bl.grown (by assumption) yL lY|exact Bl.grown (by assumption) hown5 pI) (first
   |(go_at_call_of 57 (Value.int IntKind.u32 0);refine(dH (w.heap.size+1) _ 0 [1] _ (by decide) (by decide) yL (by simp) (by simp;omega) (by simp)).mono ?_;rintro e w5 ⟨v5,rfl,hown5,lY,Ca⟩)
   |(go_at_call_of 57 (Value.int IntKind.u32 s);refine(dH (w.heap.size+1) _ s ([1]++b4 0) _ s0 s1 hown5 Ca (dN (Nat.le_of_lt (by simp;omega)) lY.size) (by simp[kZ])).mono ?_;rintro e w6 ⟨v6,rfl,hown6,pI,Ht⟩))
  rename_i Xj;have hb:∀x∈tZ true 0 s,0<=x∧x<=255:=JD (by decide) (by decide) s0 s1;have Ap:w6.ownsRow (w.heap.size+1) 5 1 v6 (tZ true 0 s).length (U (tZ true 0 s)):=hown6;have hr:=qI Ap hb;have hc:=TS hb;clear hown6 pI hown5 lY yL hS hl1 Ca;go_wp2_with fail;refine(K8 _ (tZ true 0 s) _ hr).mono ?_;rintro e w7 ⟨rfl,rfl⟩;go_wp2_with fail;refine(dH (w.heap.size+1) _ _ (tZ true 0 s) _ hc.1 hc.2 Ap Ht Xj.2.2.1 (by rw[xV];omega)).mono ?_;rintro e w8 ⟨v8,rfl,SC,JY,aag⟩;go_wp2_with fail;go_ret;exact⟨v8,rfl,Xj.2.2.2.grown JY (Nat.le_of_lt Xj.2.2.1) (λk hk=>Nat.le_of_succ_le (Ap.lt k hk).1),aag,SC⟩
end Go.Proofs.YtakaadcpaeiccabGreat
