import Derived.Test.YtakaadcpaeiccabGreatC01
import Derived.Test.YtakaadcpaeiccabGreatC02
import Derived.ProofKit
import Derived.OpenShut
import Derived.Deep.Slices
import Derived.Deep.Strs
import Derived.Maps.OwnSet
import Derived.BigRegion
import Derived.ChangeAlike
import Derived.Deep.RegionHeld3
import Derived.Deep.QuietTactic
import Derived.BigQuiet
set_option maxHeartbeats 1000000
namespace Go.Proofs.YtakaadcpaeiccabGreat
open Go.ChangeShapes Go.WideShapes Go.RowKit Go.Deep
def gN(W:World)(ao:Option Addr)(cs:List Value):Prop:=
 ∀(j:Nat) (u:Value),cs[j]?=some u->∃b o,ao=some ⟨b,o,none⟩∧b<W.heap.size∧W.cell? ⟨b,o+j,none⟩=some u
theorem gN.below{W W':World}{ao:Option Addr}{cs:List Value}(h:gN W ao cs)(hb:Below W.heap.size W W'):gN W' ao cs:=by
 intro j u hj;obtain⟨b,o,h1,h2,h3⟩:=h j u hj;exact⟨b,o,h1,fO h2 hb.size,(hb.cell (p:=⟨b,o+j,none⟩) h2).trans h3⟩
theorem gN.one{W:World}{ao:Option Addr}{cs:List Value}(h:gN W ao cs){b o:Nat}(hb:ao=some ⟨b,o,none⟩){j:Nat}{u:Value}(hj:cs[j]?=some u):W.cell? ⟨b,o+j,none⟩=some u:=by
 obtain⟨b',o',h1,h2,h3⟩:=h j u hj;rw[hb]at h1;simp only[Option.some.injEq,Addr.mk.injEq,and_true]at h1;obtain⟨rfl,rfl⟩:=h1;exact h3
theorem gN.src{P:Program}{t e:TypeId}(ht:P.underlying t=some (.slice e)){W:World}{ao:Option Addr}{cs:List Value}(h:gN W ao cs){size n:Nat}(c:Nat)(hl:cs.length=n * size)(hs:0<size)(h1:∀u∈cs,u.oneCell'=true):
  Src P size t (.slice ao n c) n cs W:=by
 by_cases h0:cs=[]
 ·subst h0;obtain rfl:n=0:=by
   rcases Nat.mul_eq_zero.1 hl.symm with h|h
   ·exact h
   ·omega
  cases ao with
  |none=>exact Src.ofNil W ht c
  |some a=>exact Src.ofSlice W ht a 0 c [] (by simp) (λj u hj=>by simp at hj) (λu hu=>by cases hu)
 ·obtain⟨u,hu⟩:∃u,cs[0]?=some u:=by
   cases cs with
   |nil=>exact absurd rfl h0
   |cons u r=>exact⟨u,rfl⟩
  obtain⟨b,o,rfl,_⟩:=h 0 u hu;refine Src.ofSlice W ht _ n c cs hl (λj u hj=> ?_) h1;have hadd:(⟨b,o,none⟩:Addr).add j=⟨b,o+j,none⟩:=by unfold Addr.add;split<;>simp_all
  rw[hadd];exact h.one rfl hj
theorem gN.ofRow{W:World}{base e size n cap g:Nat}{cs:List Value}(h:W.ownsRow base e size (.slice (some ⟨g,0,none⟩) n cap) n cs):gN W (some ⟨g,0,none⟩) cs:=by
 intro j u hj;have hlt:g<W.heap.size:=(h.lt g rfl).2;have hjl:j<cs.length:=by
  rcases Nat.lt_or_ge j cs.length with h|h
  ·exact h
  ·rw[List.getElem?_eq_none h]at hj;cases hj
 exact⟨g,0,rfl,hlt,by rw[Nat.zero_add,h.cellAt j (by rw[<-h.1];exact hjl),hj]⟩
def sS(c n:Int):Int:=(if c<0 then -(c+1)else c)%n
theorem Sc(c n:Int)(c0:-9223372036854775808<=c)(c1:c<=9223372036854775807)(n0:0<n)(n1:n<=9223372036854775807)(w:World):
  Calls Tryz.prog 9 #[.int .i64 c,.int .i64 n] w λe w'=>e=.returned (.int .i64 (sS c n))∧w'=w:=by
 by_cases h:c<0
 ·have e:sS c n=-((c+1).tmod n):=by
   unfold sS;rw[aM h,<-Int.neg_tmod,Int.tmod_eq_emod_of_nonneg (by omega)]
  go_enter Tryz.func9,Tryz.ntmps9;go_wp2;go_ret;exact⟨vz e.symm,rfl⟩
 ·have e:sS c n=c%n:=by
   unfold sS;rw[aH h]
  go_enter Tryz.func9,Tryz.ntmps9;go_wp2;go_ret;exact⟨rfl,rfl⟩
theorem Xy(c n:Int)(n0:0<n):0<=sS c n∧sS c n<n:=⟨Int.emod_nonneg _ (by omega),Int.emod_lt_of_pos _ n0⟩
theorem ay{W:World}{base e size:Nat}{v:Value}{n:Nat}{xs:List Value}(h:W.ownsRow base e size v n xs):∃ao c,v=.slice ao n c∧gN W ao xs:=by
 rcases id h.2 with⟨rfl,h0⟩|⟨g,cap,cur,rfl,_⟩
 ·subst h0;refine⟨none,0,rfl,λj u hj=> ?_⟩;have hl:=h.1;rw[Nat.zero_mul]at hl;obtain rfl:=qz hl;simp at hj
 ·exact⟨_,cap,rfl,gN.ofRow h⟩
theorem aL{W W':World}{base e size:Nat}{v:Value}{n:Nat}{xs:List Value}(h:W.ownsRow base e size v n xs)(hb:Below W.heap.size W W'):W'.ownsRow base e size v n xs:=
 h.kept (row:=none) ⟨hb.os,hb.tape,hb.output,hb.size,λk hk _=>hb.block k hk⟩ (by cases v.ownBlock<;>simp)
theorem bY{W:World}{base e size:Nat}{v:Value}{n:Nat}{xs:List Value}(h:W.ownsRow base e size v n xs)(hn:0<n):
  ∃g cap,v=.slice (some ⟨g,0,none⟩) n cap∧base<=g:=by
 rcases h.2 with⟨_,h0⟩|⟨g,cap,cur,rfl,hb,_⟩
 ·omega
 ·exact⟨g,cap,rfl,hb⟩
theorem flat_get{α β:Type}(f:α->List β)(size:Nat)(hs:0<size)(hf:∀x,(f x).length=size):∀(L:List α) (j:Nat),(L.flatMap f)[j]?=(L[j / size]?).bind λx=>(f x)[j%size]?
 | [],j=>by simp
 |a::L,j=>by
  rw[List.flatMap_cons];by_cases h:j<size
  ·rw[List.getElem?_append_left (by rw[hf];exact h),Nat.div_eq_of_lt h,Nat.mod_eq_of_lt h];rfl
  ·rw[List.getElem?_append_right (by rw[hf];omega),hf,flat_get f size hs hf L (j - size)];have e1:j / size=(j - size)/ size+1:=by
    conv=>lhs;rw[show j=(j - size)+size by omega]
    rw[Nat.add_div_right _ hs]
   have e2:j%size=(j - size)%size:=by
    conv=>lhs;rw[show j=(j - size)+size by omega]
    rw[Nat.add_mod_right]
   rw[e1,e2,List.getElem?_cons_succ]
theorem rJ{α β:Type}(f:α->List β)(size:Nat)(hf:∀x,(f x).length=size):∀(L:List α),(L.flatMap f).length=L.length * size
 | []=>by simp
 |a::L=>by
  rw[List.flatMap_cons,dx,hf,rJ f size hf L,dY,Nat.succ_mul,Nat.add_comm]
theorem jh{α β:Type}(f:α->List β)(size:Nat)(hs:0<size)(hf:∀x,(f x).length=size)(L:List α)(k i:Nat)(hi:i<size){x:α}(hx:L[k]?=some x):(L.flatMap f)[k * size+i]?=(f x)[i]?:=by
 rw[flat_get f size hs hf];have e1:(k * size+i)/ size=k:=by
  rw[Nat.add_comm,Nat.add_mul_div_right _ _ hs,Nat.div_eq_of_lt hi,Nat.zero_add]
 have e2:(k * size+i)%size=i:=by
  rw[Nat.add_comm,Nat.add_mul_mod_self_right,Nat.mod_eq_of_lt hi]
 rw[e1,e2,hx];rfl
section
variable {H:Type} {enc:TypeId×Value->H} {P:Program}
theorem O9{W:World}{t e:TypeId}{fuel:Nat}{c:Value}{x:DataW H×List MemPlace}(ht:P.underlying t=some (.slice e)){size:Nat}(hc:P.cellsOf e=size)(hs:0<size){α:Type}(f:α->List Value)(Q:α->Prop)(hf:∀x,(f x).length=size)
  (hd:∀n cs y,DataW.trod enc P W 0 (λ_=>true) true n e cs=some y->cs.length=size->∃x:α,cs=f x∧Q x)
  (h:DataW.trod enc P W 0 (λ_=>true) true fuel t [c]=some x):
  ∃(ao:Option Addr) (n cap:Nat) (L:List α),c=.slice ao n cap∧L.length=n∧n<=maxLen∧gN W ao (L.flatMap f)∧∀x∈L,Q x:=by
 rcases open_slice ht h with⟨hcs,_⟩|⟨a,len,cap,m,n,D,Pl,hcs,_,hl,hmx,hm,_,hx⟩
 ·simp only[List.cons.injEq,and_true]at hcs;exact⟨none,0,0,[],hcs,rfl,b_ _,λj u hj=>by simp at hj,λx hx=>by simp at hx⟩
 ·simp only[List.cons.injEq,and_true]at hcs;simp only[if_true]at hm;rw[hc]at hx;have aa7:0<len->a.spot=none:=by
   intro h0;obtain⟨cs',h1,_⟩:=hx 0 (by omega);obtain⟨_,hlen,hget⟩:=World.cells?_some h1;have q0:=hget 0 (by omega);have hsome:cs'[0]?=some cs'[0]:=cK (by omega);rw[hsome]at q0;have h:=World.cell?_spot q0;simpa[Addr.add]using h
  have key:∀i,i<len->∃y:α,Q y∧∃b off,a=⟨b,off,none⟩∧b<W.heap.size∧∀j u,(f y)[j]?=some u->W.cell? ⟨b,off+(i * size+j),none⟩=some u:=by
   intro i hi;obtain⟨cs',h1,h2⟩:=hx i (by omega);obtain⟨_,hlen,hget⟩:=World.cells?_some h1;obtain⟨y,rfl,hq⟩:=hd _ _ _ h2 hlen;obtain⟨b,off,spot⟩:=a;obtain rfl:spot=none:=aa7 (by omega);have hcell:∀j u,(f y)[j]?=some u->W.cell? ⟨b,off+(i * size+j),none⟩=some u:=by
    intro j u hj;have hjl:j<size:=by
     rcases Nat.lt_or_ge j (f y).length with h|h
     ·rw[hlen]at h;exact h
     ·rw[List.getElem?_eq_none h]at hj;cases hj
    have q:=hget j hjl;rw[add_plain,add_plain,hj]at q;rw[<-Nat.add_assoc];exact q
   obtain⟨u,hu⟩:∃u,(f y)[0]?=some u:=⟨_,cK (by omega)⟩;exact⟨y,hq,b,off,rfl,World.block_lt_of_cell? W _ (hcell 0 u hu),hcell⟩
  obtain⟨L,hL,hLx⟩:=Ni len key;refine⟨some a,len,cap,L,hcs,hL,by omega,λj u hj=> ?_,λx hx=> ?_⟩
  ·rw[flat_get f size hs hf]at hj;have hjl:j / size<len:=by
    rcases Nat.lt_or_ge (j / size) len with h|h
    ·exact h
    ·rw[List.getElem?_eq_none (by omega)]at hj;cases hj
   obtain⟨y,hy,_,b,off,rfl,hb,hcell⟩:=hLx _ hjl;rw[hy]at hj;have:=hcell _ _ hj;rw[Nat.div_add_mod' j size]at this;exact⟨b,off,rfl,hb,this⟩
  ·obtain⟨j,hj,rfl⟩:=List.mem_iff_getElem.1 hx;obtain⟨y,hy,hq,_⟩:=hLx j (by omega);rw[cK hj]at hy;cases hy;exact hq
end
end Go.Proofs.YtakaadcpaeiccabGreat
namespace Go.Proofs.YtakaadcpaeiccabGreat.Hp
variable{i j k:Nat}
abbrev Tm:=Int×Int×Int
def z:Tm:=(0,0,0)
def Jz(a b:Tm):Bool:=if a.1=b.1 then decide (a.2.1<b.2.1)else decide (a.1<b.1)
def Le(a b:Tm):Prop:=Jz b a=false
theorem Le.iff{a b:Tm}:Le a b ↔ a.1<b.1∨(a.1=b.1∧a.2.1<=b.2.1):=by
 unfold Le Jz;split<;>simp<;>omega
theorem N7{a b:Tm}:Jz a b=true ↔ a.1<b.1∨(a.1=b.1∧a.2.1<b.2.1):=by
 unfold Jz;split<;>simp<;>omega
theorem Le.refl(a:Tm):Le a a:=Le.iff.2 (by omega)
theorem Le.trans{a b c:Tm}(h1:Le a b)(h2:Le b c):Le a c:=by
 rw[Le.iff]at *;omega
theorem Le.of{a b:Tm}(h:Jz a b=true):Le a b:=by
 rw[N7]at h;rw[Le.iff];omega
def at'(h:List Tm)(i:Nat):Tm:=h.getD i z
theorem sG{h:List Tm}{x:Tm}(hx:h[i]?=some x):at' h i=x:=by simp[at',List.getD,hx]
theorem jy{h:List Tm}(hi:i<h.length):h[i]?=some (at' h i):=by simp[at',List.getD,List.getElem?_eq_getElem hi]
def sw(h:List Tm)(i j:Nat):List Tm:=(h.set i (at' h j)).set j (at' h i)
theorem dM(h:List Tm)(i j:Nat):(sw h i j).length=h.length:=by simp[sw]
theorem yZ{h:List Tm}(hi:i<h.length)(hj:j<h.length)(k:Nat):at' (sw h i j) k=if k=j then at' h i else if k=i then at' h j else at' h k:=by
 unfold at' sw;simp only[List.getD,List.getElem?_set,List.length_set];by_cases h1:k=j
 ·subst h1;simp[hj];rfl
 ·rw[aH h1,aH (Ne.symm h1)];by_cases h2:k=i
  ·subst h2;simp[hi];rfl
  ·rw[aH h2,aH (Ne.symm h2)]
theorem uY{h:List Tm}(hi:i<h.length)(hj:j<h.length):(sw h i j).Perm h:=by
 have e1:at' h i=h[i]:=by simp[at',List.getD,List.getElem?_eq_getElem hi]
 have e2:at' h j=h[j]:=by simp[at',List.getD,List.getElem?_eq_getElem hj]
 unfold sw;rw[e1,e2];exact List.set_set_perm hi hj
def par(j:Nat):Nat:=(j - 1)/ 2
def Ok(h:List Tm)(j:Nat):Prop:=Le (at' h (par j)) (at' h j)
def Heap(h:List Tm):Prop:=∀j,0<j->j<h.length->Ok h j
def Over(h:List Tm)(i:Nat):Prop:=0<i->∀c,0<c->c<h.length->par c=i->Le (at' h (par i)) (at' h c)
def Both(h:List Tm)(i:Nat):Prop:=(∀j,0<j->j<h.length->j≠i->par j≠i->Ok h j)∧Over h i
def Up(h:List Tm)(i:Nat):Prop:=(∀j,0<j->j<h.length->j≠i->Ok h j)∧Over h i
def Down(h:List Tm)(i:Nat):Prop:=(∀j,0<j->j<h.length->par j≠i->Ok h j)∧Over h i
theorem jq(h:0<j):par j<j:=by unfold par;omega
theorem Up.both{h:List Tm}(u:Up h i):Both h i:=⟨λj h1 h2 h3 _=>u.1 j h1 h2 h3,u.2⟩
theorem Heap.down{h:List Tm}(u:Heap h)(i:Nat):Down h i:=by
 refine⟨λj h1 h2 _=>u j h1 h2,λhi c h1 h2 h3=> ?_⟩;have hc:=u c h1 h2;unfold Ok at hc;rw[h3]at hc;have hl:=jq h1;exact(u i hi (by omega)).trans hc
theorem Ws{h:List Tm}(u:Both h k)(h0:0<k)(hk:k<h.length)(ha:Jz (at' h k) (at' h (par k))=true):Up (sw h k (par k)) (par k):=by
 have hp:=jq h0;have hs:=yZ hk (show par k<h.length by omega);have hle:=Le.of ha;refine⟨λj h1 h2 h3=> ?_,λh1 c h2 h3 h4=> ?_⟩
 ·rw[dM]at h2;unfold Ok;rw[hs,hs];rw[aH h3];by_cases hjk:j=k
  ·subst hjk;rw[aM rfl,aM rfl];exact hle
  ·rw[aH hjk];by_cases hpp:par j=par k
   ·rw[aM hpp];have:=u.1 j h1 h2 hjk (by omega);unfold Ok at this;rw[hpp]at this;exact hle.trans this
   ·rw[aH hpp];by_cases hpk:par j=k
    ·rw[aM hpk];exact u.2 h0 j h1 h2 hpk
    ·rw[aH hpk];exact u.1 j h1 h2 hjk hpk
 ·rw[dM]at h3;have hpp:=jq h1;rw[hs,hs,aH (by omega),aH (by omega)];have hup:Le (at' h (par (par k))) (at' h (par k)):=u.1 (par k) h1 (by omega) (by omega) (by omega);rw[aH (by have:=jq h2;omega)];by_cases hck:c=k
  ·rw[aM hck];exact hup
  ·rw[aH hck];have:=u.1 c h2 h3 hck (by omega);unfold Ok at this;rw[h4]at this;exact hup.trans this
theorem Up.top{h:List Tm}(u:Up h 0):Heap h:=λj h1 h2=>u.1 j h1 h2 (by omega)
theorem Up.done{h:List Tm}(u:Up h k)(ho:Ok h k):Heap h:=λj h1 h2=>by
 by_cases hj:j=k
 ·subst hj;exact ho
 ·exact u.1 j h1 h2 hj
theorem Both.down{h:List Tm}(u:Both h i)(ho:i=0∨Ok h i):Down h i:=by
 refine⟨λj h1 h2 h3=> ?_,u.2⟩;by_cases hj:j=i
 ·subst hj;rcases ho with rfl|ho
  ·omega
  ·exact ho
 ·exact u.1 j h1 h2 hj h3
theorem Qq{h:List Tm}{c:Nat}(u:Down h k)(hc0:0<c)(hc:c<h.length)(hp:par c=k)(ha:Jz (at' h c) (at' h k)=true)
  (hm:∀d,0<d->d<h.length->par d=k->Le (at' h c) (at' h d)):Down (sw h k c) c:=by
 have hkc:=jq hc0;have hk:k<h.length:=by omega
 have hs:=yZ hk hc;have hle:=Le.of ha;refine⟨λj h1 h2 h3=> ?_,λ_ d h2 h3 h4=> ?_⟩
 ·rw[dM]at h2;unfold Ok;rw[hs,hs,aH h3];by_cases hpk:par j=k
  ·rw[aM hpk];by_cases hjc:j=c
   ·rw[aM hjc];exact hle
   ·rw[aH hjc,aH (by have:=jq h1;omega)];exact hm j h1 h2 hpk
  ·rw[aH hpk,aH (by rintro rfl;exact hpk hp)];by_cases hjk:j=k
   ·subst hjk;rw[aM rfl];have:=u.2 h1 c hc0 hc hp;exact this
   ·rw[aH hjk];exact u.1 j h1 h2 hpk
 ·rw[dM]at h3;have hpd:=jq h2;rw[hs,hs,hp,aH (by omega),aM rfl,aH (by omega),aH (by omega)];have:=u.1 d h2 h3 (by omega);unfold Ok at this;rw[h4]at this;exact this
theorem Down.done{h:List Tm}(u:Down h k)(hm:∀d,0<d->d<h.length->par d=k->Le (at' h k) (at' h d)):Heap h:=λj h1 h2=>by
 by_cases hp:par j=k
 ·unfold Ok;rw[hp];exact hm j h1 h2 hp
 ·exact u.1 j h1 h2 hp
theorem Heap.least{h:List Tm}(u:Heap h):∀j,j<h.length->Le (at' h 0) (at' h j):=by
 intro j
 induction j using Nat.strongRecOn with
 |ind j ih=>
  intro hj;by_cases h0:j=0
  ·subst h0;exact Le.refl _
  ·have hp:=jq (show 0<j by omega);exact(ih _ hp (by omega)).trans (u j (by omega) hj)
def out(h:List Tm)(i:Nat):List Tm:=(sw h i (h.length - 1)).take (h.length - 1)
theorem pK(h:List Tm)(i:Nat):(out h i).length=h.length - 1:=by simp[out,dM]
theorem Vf{h:List Tm}(hi:i<h.length){k:Nat}(hk:k<h.length - 1):at' (out h i) k=if k=i then at' h (h.length - 1)else at' h k:=by
 have hs:=yZ hi (show h.length - 1<h.length by omega) k;rw[aH (by omega)]at hs;rw[<-hs];unfold out at';simp only[List.getD,List.getElem?_take,aM hk]
theorem Sm{h:List Tm}(u:Heap h)(hi:i<h.length - 1):Both (out h i) i:=by
 have ha:=λ{k} (hk:k<h.length - 1)=>Vf (show i<h.length by omega) hk;refine⟨λj h1 h2 h3 h4=> ?_,λh1 c h2 h3 h4=> ?_⟩
 ·rw[pK]at h2;have hp:=jq h1;unfold Ok;rw[ha h2,ha (by omega),aH h3,aH h4];exact u j h1 (by omega)
 ·rw[pK]at h3;have hp:=jq h1;have hq:=jq h2;rw[ha h3,ha (by omega),aH (by omega),aH (by omega)];have a:=u i h1 (by omega);have b:=u c h2 (by omega);unfold Ok at a b;rw[h4]at b;exact a.trans b
theorem Sl{h:List Tm}(u:Heap h)(h0:0<h.length):Heap (out h (h.length - 1)):=by
 have ha:=λ{k} (hk:k<h.length - 1)=>Vf (show h.length - 1<h.length by omega) hk;intro j h1 h2;rw[pK]at h2;have hp:=jq h1;unfold Ok;rw[ha h2,ha (by omega),aH (by omega),aH (by omega)];exact u j h1 (by omega)
theorem Sk{h:List Tm}(hi:i<h.length):(at' h i::out h i).Perm h:=by
 have hp:=uY hi (show h.length - 1<h.length by omega);have hl:(sw h i (h.length - 1))[h.length - 1]?=some (at' h i):=by
  rw[jy (by rw[dM];omega),yZ hi (by omega),aM rfl]
 have e:sw h i (h.length - 1)=out h i++ [at' h i]:=by
  conv=>lhs;rw[<-List.take_append_drop (h.length - 1) (sw h i (h.length - 1))]
  unfold out
  congr 1
  have hd:(sw h i (h.length - 1)).length=h.length:=dM _ _ _;rw[List.drop_eq_getElem_cons (by omega),List.drop_of_length_le (by omega)];rw[cK (by omega)]at hl;rw[Option.some.inj hl]
 rw[e]at hp;exact(List.perm_append_comm (l₁:=[at' h i]) (l₂:=out h i)).trans hp
theorem Vl{h:List Tm}(u:Heap h)(x:Tm):Both (h++ [x]) h.length:=by
 have ha:∀k,k<h.length->at' (h++ [x]) k=at' h k:=by
  intro k hk;simp[at',List.getD,List.getElem?_append_left hk]
 refine⟨λj h1 h2 h3 _=> ?_,λh1 c h2 h3 h4=> ?_⟩
 ·rw[dx,List.length_singleton]at h2;have hp:=jq h1;unfold Ok;rw[ha j (by omega),ha _ (by omega)];exact u j h1 (by omega)
 ·rw[dx,List.length_singleton]at h3;have:=jq h2;omega
theorem Down.leaf{h:List Tm}(u:Down h i)(hi:h.length<=2 * i+1):Heap h:=u.done λd h1 h2 h3=>by
 unfold par at h3;omega
end Go.Proofs.YtakaadcpaeiccabGreat.Hp
namespace Go.Proofs.YtakaadcpaeiccabGreat
open Go.RowKit Go.Maps
open Hp
variable{k:Int}{f:Int->Option Nat}{M s:Nat}{W:World}
theorem Ae:Keyed Tryz.prog 3:=int_keyed Tryz.underlying3
theorem WH(w:World):(zeroValue 3).run Tryz.prog w=.ok (.int .i64 0) w:=by kernel_rfl
theorem X4:(Tryz.prog.info? 254).map (λi=>(i.zero,i.size,i.bytes))=some (some (.agg #[.int .u64 0,.int .i64 0,.int .i64 0]),3,24):=by kernel_rfl
def oW(k:Int):Prop:=-9223372036854775808<=k∧k<=9223372036854775807
theorem oW.wf(h:oW k):(Lit.int .i64 k).wf=true:=WalkArith.wf_i64 h
theorem oW.key(h:oW k):keyOf Tryz.prog 3 (.int .i64 k)=some (.int .i64 k):=keyOf_int_mk Tryz.underlying3 h.wf
def kR(W:World)(M:Nat)(f:Int->Option Nat)(s:Nat):Prop:=
 ∃D:DataW Unit,W.ownsMap Tryz.prog 3 (plainElem Tryz.prog 3) M s D∧Maps.size D=s∧
  ∀k,oW k->Maps.has D (.int .i64 k)=(f k).isSome∧∀v,f k=some v->∀zd,D.atKey (.int .i64 k) zd=.lit (.int .i64 (v:Int))
def upd(f:Int->Option Nat)(k:Int)(v:Option Nat):Int->Option Nat:=λx=>if x=k then v else f x
theorem fV{P:Program}{k:TypeId}{R:Value->Option (DataW Unit×List MemPlace)}{w:World}{b n:Nat}{D:DataW Unit}(h:w.ownsMap P k R b n D):w.ownsMap P k R b (Maps.size D) D:=by
 obtain⟨es,clock,hb,F,hs,rfl⟩:=h;refine⟨es,clock,hb,F,?_,rfl⟩;simp[Maps.size,length_sorted]
theorem kR.made(w:World):kR (w.alloc (.map #[] 0)) w.heap.size (λ_=>none) 0:=by
 refine⟨.map [],World.ownsMap_made w _ _ _,rfl,λk _=>⟨?_,λv hv=>by cases hv⟩⟩;rfl
theorem kR.kept{W':World}{row:Option Nat}(h:kR W M f s)(hg:W.grownBy W' row)(hne:some M≠row):kR W' M f s:=by
 obtain⟨D,h1,h2,h3⟩:=h;exact⟨D,h1.kept hg hne,h2,h3⟩
theorem kR.lt(h:kR W M f s):M<W.heap.size:=by
 obtain⟨D,h1,_⟩:=h;exact h1.lt
theorem kR.put(h:kR W M f s)(hs:s<maxLen){k:Int}(hk:oW k){v:Nat}(hv:oW (v:Int)):
  ∃W',(Instr.mapUpdate 162 (.map (some M)) (.int .i64 k) (.int .i64 (v:Int))).run Tryz.prog W=.ok () W'∧kR W' M (upd f k (some v)) (if (f k).isSome then s else s+1)∧W.grownBy W' (some M):=by
 obtain⟨D,h1,h2,h3⟩:=h;obtain⟨W',hr,ho,ht⟩:=h1.store Ae Tryz.underlying162 hs hk.key (plainElem_int Tryz.underlying3 hv.wf);have hm:=h1.isMap;have htd:=h1.tidy Ae;have hkl:WideAt.IsKeyLit (.int .i64 k):=by trivial
 have hsz:Maps.size (D.put (.int .i64 k) (.lit (.int .i64 (v:Int))))=if (f k).isSome then s else s+1:=by
  rw[size_put htd,(h3 k hk).1,h2]
 refine⟨W',hr,⟨_,?_,hsz,λx hx=> ?_⟩,ht.grown⟩
 ·have:=fV ho;rw[hsz]at this;exact this
 ·by_cases e:x=k
  ·subst e;refine⟨by rw[has_put_same hm hkl];simp[upd],λu hu zd=> ?_⟩;simp only[upd,if_true,Option.some.injEq]at hu;subst hu;exact atKey_put_same hm hkl _ zd
  ·have hne:(Lit.int .i64 x)≠ .int .i64 k:=λh=>e (by cases h;rfl);refine⟨by rw[has_put_other hne];simp[upd,e,(h3 x hx).1],λu hu zd=> ?_⟩;simp only[upd,aH e]at hu;rw[atKey_put_other hne];exact(h3 x hx).2 u hu zd
theorem kR.del(h:kR W M f s){k:Int}(hk:oW k)(ty:TypeId)(hf:(f k).isSome=true):
  ∃W',(Builtin.delete_ #[162,3] ty #[.map (some M),.int .i64 k]).run Tryz.prog W=.ok (.tuple #[]) W'∧kR W' M (upd f k none) (s - 1)∧W.grownBy W' (some M):=by
 obtain⟨D,h1,h2,h3⟩:=h;obtain⟨W',hr,ho,ht⟩:=h1.drop Ae Tryz.underlying162 hk.key ty;have htd:=h1.tidy Ae;have hsz:Maps.size (D.del (.int .i64 k))=s - 1:=by
  have:=size_del (k:=.int .i64 k) htd;rw[(h3 k hk).1,hf,h2]at this;simp at this;omega
 refine⟨W',hr,⟨_,?_,hsz,λx hx=> ?_⟩,ht.grown⟩
 ·have:=fV ho;rw[hsz]at this;exact this
 ·by_cases e:x=k
  ·subst e;refine⟨by rw[has_del_same];simp[upd],λu hu zd=> ?_⟩;simp[upd]at hu
  ·have hne:(Lit.int .i64 x)≠ .int .i64 k:=λh=>e (by cases h;rfl);refine⟨by rw[has_del_other hne];simp[upd,e,(h3 x hx).1],λu hu zd=> ?_⟩;simp only[upd,aH e]at hu;rw[atKey_del_other hne];exact(h3 x hx).2 u hu zd
theorem kR.look(h:kR W M f s){k:Int}(hk:oW k):
  ∃v:Int,(Instr.lookup 162 (.map (some M)) (.int .i64 k) true).run Tryz.prog W=.ok (.tuple #[.int .i64 v,.bool (f k).isSome]) W∧∀u,f k=some u->v=(u:Int):=by
 obtain⟨D,h1,h2,h3⟩:=h;obtain⟨v,ps,hr,hv⟩:=h1.look_ok Ae Tryz.underlying162 (WH W) (plainElem_int Tryz.underlying3 (by decide)) hk.key;obtain⟨c,rfl,he,_⟩:=plainElem_int_inv Tryz.underlying3 hv;rw[(h3 k hk).1]at hr;refine⟨c,hr,λu hu=> ?_⟩;have:=(h3 k hk).2 u hu (.lit (.int .i64 0));rw[this]at he;simp at he;exact he.1.symm
variable{k:Int}{f:Int->Option Int}{M s:Nat}{W:World}
theorem gy:Keyed Tryz.prog 34:=int_keyed Tryz.underlying34
theorem Md(w:World):(zeroValue 34).run Tryz.prog w=.ok (.int .u32 0) w:=by kernel_rfl
def a_(k:Int):Prop:=0<=k∧k<=4294967295
theorem a_.wf(h:a_ k):(Lit.int .u32 k).wf=true:=WalkArith.wf_u32 h
theorem a_.key(h:a_ k):keyOf Tryz.prog 34 (.int .u32 k)=some (.int .u32 k):=keyOf_int_mk Tryz.underlying34 h.wf
def ku(f:Int->Option Int)(k:Int)(v:Option Int):Int->Option Int:=λx=>if x=k then v else f x
def MapU(W:World)(M:Nat)(f:Int->Option Int)(s:Nat):Prop:=
 ∃D:DataW Unit,W.ownsMap Tryz.prog 34 (plainElem Tryz.prog 34) M s D∧Maps.size D=s∧
  ∀k,a_ k->Maps.has D (.int .u32 k)=(f k).isSome∧D.atKey (.int .u32 k) (.lit (.int .u32 0))=.lit (.int .u32 ((f k).getD 0))
theorem MapU.kept{W':World}{row:Option Nat}(h:MapU W M f s)(hg:W.grownBy W' row)(hne:some M≠row):MapU W' M f s:=by
 obtain⟨D,h1,h2,h3⟩:=h;exact⟨D,h1.kept hg hne,h2,h3⟩
theorem MapU.lt(h:MapU W M f s):M<W.heap.size:=by
 obtain⟨D,h1,_⟩:=h;exact h1.lt
theorem MapU.made(w:World):MapU (w.alloc (.map #[] 0)) w.heap.size (λ_=>none) 0:=
 ⟨.map [],World.ownsMap_made w _ _ _,rfl,λ_ _=>⟨rfl,rfl⟩⟩
theorem MapU.put(h:MapU W M f s)(hs:s<maxLen){k:Int}(hk:a_ k){v:Int}(hv:a_ v):
  ∃W',(Instr.mapUpdate 115 (.map (some M)) (.int .u32 k) (.int .u32 v)).run Tryz.prog W=.ok () W'∧MapU W' M (ku f k (some v)) (if (f k).isSome then s else s+1)∧W.grownBy W' (some M):=by
 obtain⟨D,h1,h2,h3⟩:=h;obtain⟨W',hr,ho,ht⟩:=h1.store gy Tryz.underlying115 hs hk.key (plainElem_int Tryz.underlying34 hv.wf);have hm:=h1.isMap;have htd:=h1.tidy gy;have hkl:WideAt.IsKeyLit (.int .u32 k):=by trivial
 have hsz:Maps.size (D.put (.int .u32 k) (.lit (.int .u32 v)))=if (f k).isSome then s else s+1:=by
  rw[size_put htd,(h3 k hk).1,h2]
 refine⟨W',hr,⟨_,?_,hsz,λx hx=> ?_⟩,ht.grown⟩
 ·have:=fV ho;rw[hsz]at this;exact this
 ·by_cases e:x=k
  ·subst e;refine⟨by rw[has_put_same hm hkl];simp[ku],?_⟩;rw[atKey_put_same hm hkl];simp[ku]
  ·have hne:(Lit.int .u32 x)≠ .int .u32 k:=λh=>e (by cases h;rfl);refine⟨by rw[has_put_other hne];simp[ku,e,(h3 x hx).1],?_⟩;rw[atKey_put_other hne,(h3 x hx).2];simp[ku,e]
theorem MapU.look(h:MapU W M f s){k:Int}(hk:a_ k):
  (Instr.lookup 115 (.map (some M)) (.int .u32 k) false).run Tryz.prog W=.ok (.int .u32 ((f k).getD 0)) W:=by
 obtain⟨D,h1,h2,h3⟩:=h;obtain⟨v,ps,hr,hv⟩:=h1.lookup gy Tryz.underlying115 (Md W) (plainElem_int Tryz.underlying34 (by decide)) hk.key;obtain⟨c,rfl,he,_⟩:=plainElem_int_inv Tryz.underlying34 hv;rw[(h3 k hk).2]at he;simp at he;rw[hr,he.1]
theorem xE(B:Nat)(w:World)(hc:w.cell? ⟨B,1,none⟩=some (.int .i64 1)):
  Calls Tryz.prog 86 #[.pointer (some ⟨B,0,none⟩)] w λe w'=>e=.returned (.slice (some ⟨w.heap.size,0,none⟩) 5 5)∧
   w'=(w.alloc (.cells #[.pointer (some ⟨B,4,none⟩),.pointer (some ⟨B,5,none⟩),.pointer (some ⟨B,6,none⟩),.pointer (some ⟨B,7,none⟩),.pointer (some ⟨B,8,none⟩)] 189)).drew:=by
 go_enter Tryz.func86,Tryz.ntmps86;go_wp2;go_region_held3 (λ_=>True) (trivial) (fail)
 go_wp2;all_goals (go_ret;exact⟨rfl,rfl⟩)
theorem xD(B:Nat)(w:World)(hc:w.cell? ⟨B,1,none⟩=some (.int .i64 2)):
  Calls Tryz.prog 86 #[.pointer (some ⟨B,0,none⟩)] w λe w'=>e=.returned (.slice (some ⟨w.heap.size,0,none⟩) 4 4)∧
   w'=(w.alloc (.cells #[.pointer (some ⟨B,5,none⟩),.pointer (some ⟨B,6,none⟩),.pointer (some ⟨B,7,none⟩),.pointer (some ⟨B,9,none⟩)] 189)).drew:=by
 go_enter Tryz.func86,Tryz.ntmps86;go_wp2;go_region_held3 (λ_=>True) (trivial) (fail)
 go_wp2;all_goals (go_ret;exact⟨rfl,rfl⟩)
theorem xC(B:Nat)(w:World)(hc:w.cell? ⟨B,1,none⟩=some (.int .i64 9)):
  Calls Tryz.prog 86 #[.pointer (some ⟨B,0,none⟩)] w λe w'=>e=.returned (.slice (some ⟨w.heap.size,0,none⟩) 3 3)∧
   w'=(w.alloc (.cells #[.pointer (some ⟨B,4,none⟩),.pointer (some ⟨B,5,none⟩),.pointer (some ⟨B,7,none⟩)] 189)).drew:=by
 go_enter Tryz.func86,Tryz.ntmps86;go_wp2;go_region_held3 (λ_=>True) (trivial) (fail)
 go_wp2;all_goals (go_ret;exact⟨rfl,rfl⟩)
theorem oD(B:Nat)(k:Int)(h1:(k==1)=false)(h2:(k==2)=false)(h9:(k==9)=false)(w:World)(hc:w.cell? ⟨B,1,none⟩=some (.int .i64 k)):
  Calls Tryz.prog 86 #[.pointer (some ⟨B,0,none⟩)] w λe w'=>e=.returned (.slice none 0 0)∧w'=w:=by
 go_enter Tryz.func86,Tryz.ntmps86;go_wp2;all_goals (go_ret;exact⟨rfl,rfl⟩)
def aD.lS(p:aD):aD:=
 if p.kind=1 then {p with hops:=0,unk:=false,id:=0,dest:=0,aX:=0,aJ:=0,dw:=0}
 else if p.kind=2 then {p with hops:=0,dest:=0,aX:=0,aJ:=0,life:=0}
 else if p.kind=3 then {p with la:=none,ln:=0,lc:=0}
 else if p.kind=9 then {p with id:=0,dest:=0,aJ:=0,pay:=⟨#[]⟩}
 else p
theorem Qj(p:aD)(hk:p.kind=1)(w:World):
  Calls Tryz.prog 128 #[p.val] w λe w'=>e=.returned p.lS.val∧Below w.heap.size w w':=by
 obtain⟨ttl,kind,hops,unk,id,dest,aX,aJ,dw,life,la,ln,lc,pay⟩:=p;simp only at hk;subst hk;go_enter Tryz.func128,Tryz.ntmps128;go_wp2_with(go_at_call 86;refine(xE _ _ ?_).mono ?_;(simp[go_sem]);rintro e w' ⟨rfl,rfl⟩)
 go_rounds 6
 all_goals (go_returns;refine⟨rfl,?_⟩;go_grown)
theorem Qi(p:aD)(hk:p.kind=2)(w:World):
  Calls Tryz.prog 128 #[p.val] w λe w'=>e=.returned p.lS.val∧Below w.heap.size w w':=by
 obtain⟨ttl,kind,hops,unk,id,dest,aX,aJ,dw,life,la,ln,lc,pay⟩:=p;simp only at hk;subst hk;go_enter Tryz.func128,Tryz.ntmps128;go_wp2_with(go_at_call 86;refine(xD _ _ ?_).mono ?_;(simp[go_sem]);rintro e w' ⟨rfl,rfl⟩)
 go_rounds 5
 all_goals (go_returns;refine⟨rfl,?_⟩;go_grown)
theorem Qh(p:aD)(hk:p.kind=3)(w:World):
  Calls Tryz.prog 128 #[p.val] w λe w'=>e=.returned p.lS.val∧Below w.heap.size w w':=by
 obtain⟨ttl,kind,hops,unk,id,dest,aX,aJ,dw,life,la,ln,lc,pay⟩:=p;simp only at hk;subst hk;go_enter Tryz.func128,Tryz.ntmps128;go_wp2_with(go_at_call 86;refine(oD _ 3 rfl rfl rfl _ ?_).mono ?_;(simp[go_sem]);rintro e w' ⟨rfl,rfl⟩)
 go_rounds 1
 all_goals (go_returns;refine⟨rfl,?_⟩;go_grown)
theorem Qg(p:aD)(hk:p.kind=9)(w:World):
  Calls Tryz.prog 128 #[p.val] w λe w'=>e=.returned p.lS.val∧Below w.heap.size w w':=by
 obtain⟨ttl,kind,hops,unk,id,dest,aX,aJ,dw,life,la,ln,lc,pay⟩:=p;simp only at hk;subst hk;go_enter Tryz.func128,Tryz.ntmps128;go_wp2_with(go_at_call 86;refine(xC _ _ ?_).mono ?_;(simp[go_sem]);rintro e w' ⟨rfl,rfl⟩)
 go_rounds 4
 all_goals (go_returns;refine⟨rfl,?_⟩;go_grown)
theorem Qk(p:aD)(h1:(p.kind==1)=false)(h2:(p.kind==2)=false)(h3:(p.kind==3)=false)(h9:(p.kind==9)=false)(w:World):
  Calls Tryz.prog 128 #[p.val] w λe w'=>e=.returned p.lS.val∧Below w.heap.size w w':=by
 have hf:p.lS=p:=by
  unfold aD.lS;simp only[beq_eq_false_iff_ne,ne_eq]at h1 h2 h3 h9;simp[h1,h2,h3,h9]
 rw[hf];clear hf;go_enter Tryz.func128,Tryz.ntmps128;go_wp2_with(go_at_call 86;refine(oD _ p.kind h1 h2 h9 _ ?_).mono ?_;(simp[go_sem]);rintro e w' ⟨rfl,rfl⟩)
 go_rounds 1
 all_goals (go_returns;refine⟨rfl,?_⟩;go_grown)
theorem yT(p:aD)(w:World):
  Calls Tryz.prog 128 #[p.val] w λe w'=>e=.returned p.lS.val∧Below w.heap.size w w':=by
 by_cases h1:p.kind=1
 ·exact Qj p h1 w
 by_cases h2:p.kind=2
 ·exact Qi p h2 w
 by_cases h3:p.kind=3
 ·exact Qh p h3 w
 by_cases h9:p.kind=9
 ·exact Qg p h9 w
 exact Qk p (by simpa using h1) (by simpa using h2) (by simpa using h3) (by simpa using h9) w
variable{p:aD}{w:World}
@[reducible] def z8(p : aD)(w W : World): Prop :=
 W.cell? ⟨w.heap.size,0,none⟩=some (.int .i64 p.ttl)∧W.cell? ⟨w.heap.size,1,none⟩=some (.int .i64 p.kind)∧W.cell? ⟨w.heap.size,2,none⟩=some (.int .i64 p.hops)∧
 W.cell? ⟨w.heap.size,3,none⟩=some (.bool p.unk)∧W.cell? ⟨w.heap.size,4,none⟩=some (.int .u32 p.id)∧W.cell? ⟨w.heap.size,5,none⟩=some (.int .u32 p.dest)∧
 W.cell? ⟨w.heap.size,6,none⟩=some (.int .u32 p.aX)∧W.cell? ⟨w.heap.size,7,none⟩=some (.int .u32 p.aJ)∧W.cell? ⟨w.heap.size,8,none⟩=some (.int .u32 p.dw)∧
 W.cell? ⟨w.heap.size,9,none⟩=some (.int .u32 p.life)∧W.cell? ⟨w.heap.size,10,none⟩=some (.slice p.la p.ln p.lc)∧W.cell? ⟨w.heap.size,11,none⟩=some (.string p.pay)∧
 w.heap.size<W.heap.size∧Below w.heap.size w W
theorem z8.start(p:aD)(w:World):z8 p w (w.alloc p.box).drew:=
 ⟨jP w _ _ _,jP w _ _ _,jP w _ _ _,jP w _ _ _,jP w _ _ _,jP w _ _ _,
 jP w _ _ _,jP w _ _ _,jP w _ _ _,jP w _ _ _,jP w _ _ _,jP w _ _ _,
 by simp,(bC).drew⟩
theorem z8.below{W W1:World}(h:z8 p w W)(hb:Below W.heap.size W W1):z8 p w W1:=by
 obtain⟨c0,c1,c2,c3,c4,c5,c6,c7,c8,c9,c10,c11,hs,hB⟩:=h;have k:∀i,W1.cell? ⟨w.heap.size,i,none⟩=W.cell? ⟨w.heap.size,i,none⟩:=λi=>hb.cell (p:=⟨w.heap.size,i,none⟩) hs;exact⟨(k _).trans c0,(k _).trans c1,(k _).trans c2,(k _).trans c3,(k _).trans c4,(k _).trans c5,(k _).trans c6,(k _).trans c7,(k _).trans c8,(k _).trans c9,(k _).trans c10,(k _).trans c11,
  fO hs hb.size,hB.trans (hb.mono (Nat.le_of_lt hs))⟩
theorem yY{B:Nat}{w1 w2 w3:World}(h:Below B w w1)(hs:B<w1.heap.size)(h2:Below w1.heap.size w1 w2)(h3:Below w2.heap.size w2 w3):Below B w w3:=
 (h.trans (h2.mono (Nat.le_of_lt hs))).trans (h3.mono (dH (Nat.le_of_lt hs) h2.size))
def aD.eZ(p:aD):Bool:=
 decide (1<=p.ttl∧p.ttl<=255)&&tF p.kind p.cnt&&!(p.unk&&p.aX !=0)&&p.lS.kM
theorem aD.Wf.lS(h:p.Wf):p.lS.Wf:=by
 obtain⟨h1,h2,h3,h4,h5,h6,h7,h8,h9,h10,h11,h12,Wi,h14,h15,h16,h17,h18,h19,h20⟩:=h;unfold aD.lS;split
 ·constructor<;>(dsimp only;omega)
 split
 ·constructor<;>(dsimp only;omega)
 split
 ·constructor<;>(dsimp only;omega)
 split
 ·constructor<;>(first|(dsimp only;omega)|(simp[ByteArray.size]))
 ·constructor<;>assumption
theorem II(p:aD)(w:World)(ht:p.ttl<1):
  Calls Tryz.prog 90 #[p.val] w λe w'=>e=.returned (.bool false)∧Below w.heap.size w w':=by
 have d1:decide (p.ttl<1)=true:=by simpa using ht
 go_enter Tryz.func90,Tryz.ntmps90;go_wp2;go_quiet (fail);all_goals go_wp2
 all_goals (go_ret;go_light;refine⟨rfl,below_drewN ?_ _⟩;go_grown)
theorem IJ(p:aD)(w:World)(ht:¬p.ttl<1)(ht2:255<p.ttl):
  Calls Tryz.prog 90 #[p.val] w λe w'=>e=.returned (.bool false)∧Below w.heap.size w w':=by
 have d1:decide (p.ttl<1)=false:=by simpa using ht
 have d2:decide (255<p.ttl)=true:=by simpa using ht2
 go_enter Tryz.func90,Tryz.ntmps90;go_wp2;go_quiet (fail);all_goals go_wp2
 all_goals (go_ret;go_light;refine⟨rfl,below_drewN ?_ _⟩;go_grown)
theorem Fh(p:aD)(hp:p.Wf)(w:World)(ht:¬p.ttl<1)(ht2:¬255<p.ttl):
  Calls Tryz.prog 90 #[p.val] w λe w'=>e=.returned (.bool (tF p.kind p.cnt&&!(p.unk&&p.aX !=0)&&p.lS.kM))∧Below w.heap.size w w':=by
 have d1:decide (p.ttl<1)=false:=by simpa using ht
 have d2:decide (255<p.ttl)=false:=by simpa using ht2
 go_enter Tryz.func90,Tryz.ntmps90;go_wp2;go_region_held3 (z8 p w) (first|exact z8.start p w|assumption|exact z8.below (by assumption) (by assumption)) (first
  |(go_at_call 126;refine(Ee p _).mono ?_;rintro e w1 ⟨rfl,hb1⟩)
  |(go_at_call 125;refine(UJ _ _ _).mono ?_;rintro e w1 ⟨rfl,rfl⟩))
 obtain⟨c0,c1,c2,c3,c4,c5,c6,c7,c8,c9,c10,c11,hs,hB⟩:z8 p w _:=by assumption
 clear hb1;have hf:=hp.lS;have hz:p.lS.Wf:=hf;obtain⟨ttl,kind,hops,unk,id,dest,aX,aJ,dw,life,la,ln,lc,pay⟩:=p;cases unk;all_goals (try dsimp only at c0 c1 c2 c3 c4 c5 c6 c7 c8 c9 c10 c11)
 ·go_wp2_with(first
   |(go_at_call 128;refine(yT ⟨ttl,kind,hops,false,id,dest,aX,aJ,dw,life,la,ln,lc,pay⟩ _).mono ?_;rintro e w2 ⟨rfl,hb2⟩)
   |(go_at_call 127;refine(yI _ hz _).mono ?_;rintro e w3 ⟨rfl,hb3⟩))
  all_goals (go_ret;go_light;refine⟨lM ?_,?_⟩)
  all_goals first|(simp_all;done)|exact hB|exact yY hB hs hb2 hb3
 ·go_wp2_with(first
   |(go_at_call 128;refine(yT ⟨ttl,kind,hops,true,id,dest,aX,aJ,dw,life,la,ln,lc,pay⟩ _).mono ?_;rintro e w2 ⟨rfl,hb2⟩)
   |(go_at_call 127;refine(yI _ hz _).mono ?_;rintro e w3 ⟨rfl,hb3⟩))
  all_goals (go_ret;go_light;refine⟨lM ?_,?_⟩)
  all_goals first|(simp_all;done)|exact hB|exact yY hB hs hb2 hb3
theorem dQ(p:aD)(hp:p.Wf)(w:World):
  Calls Tryz.prog 90 #[p.val] w λe w'=>e=.returned (.bool p.eZ)∧Below w.heap.size w w':=by
 by_cases h1:p.ttl<1
 ·have:p.eZ=false:=by
   unfold aD.eZ;rw[fD (by omega)];simp
  rw[this];exact II p w h1
 by_cases h2:255<p.ttl
 ·have:p.eZ=false:=by
   unfold aD.eZ;rw[fD (by omega)];simp
  rw[this];exact IJ p w h1 h2
 ·have:p.eZ=(tF p.kind p.cnt&&!(p.unk&&p.aX !=0)&&p.lS.kM):=by
   unfold aD.eZ;rw[gu (by omega)];simp
  rw[this];exact Fh p hp w h1 h2
theorem vQ:(Tryz.prog.info? 5).map (λi=>(i.zero,i.size,i.bytes))=some (some (.int .u8 0),1,1):=by kernel_rfl
theorem aas(w:World)(n:Int):
  Src Tryz.prog 1 58 (.slice (some ⟨w.heap.size,0,none⟩) 4 4) 4 (U (b4 n)) (w.alloc (.cells #[.int .u8 (n / 16777216),.int .u8 (n / 65536%256),.int .u8 (n / 256%256),.int .u8 (n%256)] 5)):=by
 refine Src.ofSlice _ Tryz.underlying58 _ 4 4 _ rfl ?_ ?_
 ·intro j u hj;have hadd:(⟨w.heap.size,0,none⟩:Addr).add j=⟨w.heap.size,j,none⟩:=by unfold Addr.add;split<;>simp_all
  rw[hadd,jP w];rw[<-hj];simp[U,b4]
 ·intro u hu;simp only[U,b4,List.map_cons,List.map_nil,eD,List.not_mem_nil,or_false]at hu;rcases hu with rfl|rfl|rfl|rfl<;>rfl
theorem dF(base:Nat)(v:Value)(n:Int)(xs:List Int)(w:World)(h0:0<=n)(h1:n<4294967296)
  (hown:w.ownsRow base 5 1 v xs.length (U xs)) (hv:v≠ .slice none 0 0) (hb:base<=w.heap.size) (hlen:xs.length<=1000000):
  Calls Tryz.prog 57 #[v,.int .u32 n] w λe w'=>∃v',e=.returned v'∧w'.ownsRow base 5 1 v' (xs++b4 n).length (U (xs++b4 n))∧w.grownBy w' v.ownBlock∧v'≠ .slice none 0 0:=by
 obtain⟨i0,hi,hz0,hz1,hz2⟩:=info_parts vQ;have hsrc:=aas w n;go_enter Tryz.func57,Tryz.ntmps57;go_wp2_with(at_builtin;refine iN _ rfl _ _ 58 58 rfl base 5 i0 (.int .u8 0) 1 1 Tryz.underlying58 hi hz0 hz1 hz2 rfl v xs.length (U xs) rfl (hown.alloc _) hv _ 4 (U (b4 n)) rfl hsrc ?c1 ?c2 ?c3 ?_)
 case c1=>unfold maxLen;omega
 case c2=>omega
 case c3=>simp;omega
 intro v' w' hown' hgrow hv';go_wp2;go_ret;refine⟨v',rfl,?_,?_,hv'⟩
 ·rw[dx,lm,<-BX];exact hown'
 ·have hg:=ko w (.cells #[.int .u8 (n / 16777216),.int .u8 (n / 65536%256),.int .u8 (n / 256%256),.int .u8 (n%256)] 5) v.ownBlock;exact⟨hgrow.os.trans hg.os,hgrow.tape.trans hg.tape,hgrow.output.trans hg.output,dH hg.size hgrow.size,λk hk hne=>(hgrow.block k (fO hk hg.size) hne).trans (hg.block k hk hne)⟩
end Go.Proofs.YtakaadcpaeiccabGreat
namespace Go.Proofs.YtakaadcpaeiccabGreat.Gw
variable{a b c:Nat}
def g(c:Nat):Nat:=if c%2=1 then(c / 2)^^^ 3988292384 else c / 2
def gs:Nat->Nat->Nat
 |0,c=>c
 |k+1,c=>g (gs k c)
def tab(i:Nat):Nat:=gs 8 i
def step(s x:Nat):Nat:=tab ((s%256)^^^ x)^^^ (s / 256)
def run:List Nat->Nat->Nat
 | [],s=>s
 |x::r,s=>run r (step s x)
theorem Rm(ha:a<4294967296)(hb:b<4294967296):a ^^^ b<4294967296:=Nat.xor_lt_two_pow (n:=32) ha hb
theorem afZ(h:c<4294967296):g c<4294967296:=by
 unfold g;split
 ·exact Rm (by omega) (by omega)
 ·omega
theorem UF(h:c<4294967296):∀k,gs k c<4294967296
 |0=>h
 |k+1=>afZ (UF h k)
theorem Rv{i:Nat}(h:i<4294967296):tab i<4294967296:=UF h 8
theorem Aa(ha:a<256)(hb:b<256):a ^^^ b<256:=Nat.xor_lt_two_pow (n:=8) ha hb
theorem WY{s x:Nat}(hs:s<4294967296)(hx:x<256):step s x<4294967296:=by
 unfold step;have:=Aa (Nat.mod_lt s (by decide:0<256)) hx;exact Rm (Rv (by omega)) (by omega)
theorem RO:∀(l:List Nat) {s:Nat},s<4294967296->(∀x∈l,x<256)->run l s<4294967296
 | [],_,h,_=>h
 |x::r,_,h,hx=>RO r (WY h (hx x (by simp))) (λy hy=>hx y (by simp[hy]))
theorem Av:∀(a b:List Nat) (s:Nat),run (a++b) s=run b (run a s)
 | [],_,_=>rfl
 |x::a,b,s=>Av a b (step s x)
end Go.Proofs.YtakaadcpaeiccabGreat.Gw
namespace Go.Proofs.YtakaadcpaeiccabGreat
open Go.RowKit
variable{d s:Int}{xs:List Int}{k n:Nat}{ao:Option Addr}{p:aD}{b:Value}{W W1 w wr:World}
def aD.nums(p:aD):List (Nat×Int):=
 if p.kind=1 then [(4,p.id),(5,p.dest),(6,p.aX),(7,p.aJ),(8,p.dw)]
 else if p.kind=2 then [(5,p.dest),(6,p.aX),(7,p.aJ),(9,p.life)]
 else if p.kind=9 then [(4,p.id),(5,p.dest),(7,p.aJ)]
 else []
def ptrs(B:Nat)(l:List (Nat×Int)):Array Value:=(l.map λx=>Value.pointer (some ⟨B,x.1,none⟩)).toArray
def aem(B:Nat)(l:List (Nat×Int))(ao:Option Addr)(base:Nat)(W:World):Prop:=
 ∀j,j<l.length->∃N,ao=some ⟨N,0,none⟩∧base<=N∧W.heap[N]?=some (.cells (ptrs B l) 189 (0,0))
theorem Ic(p:aD)(B:Nat)(w:World)(hc:w.cell? ⟨B,1,none⟩=some (.int .i64 p.kind)):
  Calls Tryz.prog 86 #[.pointer (some ⟨B,0,none⟩)] w λe w'=>∃ao,e=.returned (.slice ao p.nums.length p.nums.length)∧Below w.heap.size w w'∧aem B p.nums ao w.heap.size w':=by
 have hnew:∀o,(w.alloc o).drew.heap[w.heap.size]?=some o:=λo=>bS w o;by_cases h1:p.kind=1
 ·rw[h1]at hc;refine(xE B w hc).mono ?_;rintro e w' ⟨rfl,rfl⟩;simp only[aD.nums,h1,if_true];exact⟨_,rfl,(bC).drew,λj _=>⟨_,rfl,aB _,hnew _⟩⟩
 by_cases h2:p.kind=2
 ·rw[h2]at hc;refine(xD B w hc).mono ?_;rintro e w' ⟨rfl,rfl⟩;have:p.nums=[(5,p.dest),(6,p.aX),(7,p.aJ),(9,p.life)]:=by simp[aD.nums,h2]
  rw[this];exact⟨_,rfl,(bC).drew,λj _=>⟨_,rfl,aB _,hnew _⟩⟩
 by_cases h9:p.kind=9
 ·rw[h9]at hc;refine(xC B w hc).mono ?_;rintro e w' ⟨rfl,rfl⟩;have:p.nums=[(4,p.id),(5,p.dest),(7,p.aJ)]:=by simp[aD.nums,h9]
  rw[this];exact⟨_,rfl,(bC).drew,λj _=>⟨_,rfl,aB _,hnew _⟩⟩
 ·refine(oD B p.kind (by simpa using h1) (by simpa using h2) (by simpa using h9) w hc).mono ?_;rintro e w' ⟨rfl,rfl⟩;have:p.nums=[]:=by simp[aD.nums,h1,h2,h9]
  rw[this];exact⟨none,rfl,aU _ _,λj hj=>absurd hj (by simp)⟩
theorem z8.below'(h:z8 p w W)(hb:Below (w.heap.size+1) W W1):z8 p w W1:=by
 obtain⟨c0,c1,c2,c3,c4,c5,c6,c7,c8,c9,c10,c11,hs,hB⟩:=h;have k:∀i,W1.cell? ⟨w.heap.size,i,none⟩=W.cell? ⟨w.heap.size,i,none⟩:=λi=>hb.cell (p:=⟨w.heap.size,i,none⟩) (Nat.lt_succ_self _);exact⟨(k _).trans c0,(k _).trans c1,(k _).trans c2,(k _).trans c3,(k _).trans c4,(k _).trans c5,(k _).trans c6,(k _).trans c7,(k _).trans c8,(k _).trans c9,(k _).trans c10,(k _).trans c11,
  fO hs hb.size,hB.trans (hb.mono (Nat.le_succ _))⟩
theorem Ib(p:aD):p.nums.length<=5:=by
 unfold aD.nums;split
 ·simp
 split
 ·simp
 split<;>simp
def aD.kN(p:aD)(k:Nat):List Int:=(p.nums.take k).flatMap λx=>b4 x.2
theorem Pg{o:Nat}{x:Int}(h:p.nums[k]?=some (o,x)):p.kN (k+1)=p.kN k++b4 x:=by
 unfold aD.kN;rw[List.take_add_one,h];simp
theorem Ql(l:List (Nat×Int)):(l.flatMap λx=>b4 x.2).length=4 * l.length:=by
 induction l with
 |nil=>rfl
 |cons a l ih=>simp only[List.flatMap_cons,dx,ih,lm,dY];omega
theorem vI(p:aD)(k:Nat):(p.kN k).length<=20:=by
 unfold aD.kN;rw[Ql];have:=Ib p;have:=List.length_take_le k p.nums;have:=List.length_take_le' k p.nums;omega
theorem z8.aap(p:aD)(w:World):z8 p w (w.alloc p.box):=
 ⟨jP w _ _ _,jP w _ _ _,jP w _ _ _,jP w _ _ _,jP w _ _ _,jP w _ _ _,
 jP w _ _ _,jP w _ _ _,jP w _ _ _,jP w _ _ _,jP w _ _ _,jP w _ _ _,
 by simp,bC⟩
theorem z8.drew'(h:z8 p w W):z8 p w W.drew:=by
 obtain⟨c0,c1,c2,c3,c4,c5,c6,c7,c8,c9,c10,c11,hs,hB⟩:=h;exact⟨c0,c1,c2,c3,c4,c5,c6,c7,c8,c9,c10,c11,hs,hB.drew⟩
theorem Pe(hp:p.Wf)(h:z8 p w W)(k:Nat)(hk:k<p.nums.length):
  ∃o x,p.nums[k]?=some (o,x)∧W.cell? ⟨w.heap.size,o,none⟩=some (.int .u32 x)∧0<=x∧x<4294967296:=by
 obtain⟨c0,c1,c2,c3,c4,c5,c6,c7,c8,c9,c10,c11,hs,hB⟩:=h;obtain⟨h1,h2,h3,h4,h5,h6,i0,i1,d0,d1,s0,s1,f0,f1,g0,g1,l0,l1,h19,h20⟩:=hp;have hall:∀ox∈p.nums,W.cell? ⟨w.heap.size,ox.1,none⟩=some (.int .u32 ox.2)∧0<=ox.2∧ox.2<4294967296:=by
  unfold aD.nums;split
  ·simp[*]
  split
  ·simp[*]
  split
  ·simp[*]
  ·simp
 have hm:=hall _ (List.getElem_mem hk);exact⟨_,_,cK hk,hm.1,hm.2⟩
structure ja(p:aD)(w:World)(ao:Option Addr)(wr:World)(b:Value)(xs:List Int):Prop where
 inb:z8 p w wr
 own:wr.ownsRow (w.heap.size+1) 5 1 b xs.length (U xs)
 nn:b≠ .slice none 0 0
 ptr:aem w.heap.size p.nums ao (w.heap.size+1) wr
theorem ja.base(h:ja p w ao wr b xs):w.heap.size+1<=wr.heap.size:=by
 obtain⟨_,_,_,_,_,_,_,_,_,_,_,_,hs,_⟩:=h.inb;omega
theorem O8{base:Nat}{xs:List Value}(h:W.ownsRow base 5 1 b n xs){N:Nat}{c:Array Value}{f:Nat×Nat}
  (hN:W.heap[N]?=some (.cells c 189 f)):some N≠b.ownBlock:=by
 intro he;rcases h.2 with⟨rfl,_⟩|⟨g,cap,cur,rfl,_,hg,_⟩
 ·simp[Value.ownBlock]at he
 ·simp[Value.ownBlock]at he;subst he;rw[hN]at hg;simp at hg
theorem Si(base:Nat)(w:World)(x0 x1 x2 x3 x4:Int)(hb:base<=w.heap.size):
  (w.alloc (.cells #[.int .u8 x0,.int .u8 x1,.int .u8 x2,.int .u8 x3,.int .u8 x4] 5)).ownsRow base 5 1 (.slice (some ⟨w.heap.size,0,none⟩) 5 5) [x0,x1,x2,x3,x4].length (U [x0,x1,x2,x3,x4]):=
 ⟨rfl,.inr ⟨w.heap.size,5,_,rfl,hb,bS w _,aB _,by decide,rfl,rfl⟩⟩
theorem ja.step{w1:World}{v':Value}{ys:List Int}(h:ja p w ao wr b xs)
  (hg:wr.grownBy w1 b.ownBlock) (ho:w1.ownsRow (w.heap.size+1) 5 1 v' ys.length (U ys)) (hv:v'≠ .slice none 0 0):ja p w ao w1 v' ys:=by
 have hlt:=h.own.lt;have hb:Below (w.heap.size+1) wr w1:=(aU _ _).grown hg h.base λk hk=>(hlt k hk).1;refine⟨h.inb.below' hb,ho,hv,λj hj=> ?_⟩;obtain⟨N,h1,h2,h3⟩:=h.ptr j hj;refine⟨N,h1,h2,?_⟩;rw[hg.block N (iC.1 h3).1 (O8 h.own h3)];exact h3
theorem ja.alloc(h:ja p w ao wr b xs)(o:Obj):ja p w ao (wr.alloc o) b xs:=by
 refine⟨h.inb.below' ((aU _ _).alloc h.base _),h.own.alloc o,h.nn,λj hj=> ?_⟩;obtain⟨N,h1,h2,h3⟩:=h.ptr j hj;refine⟨N,h1,h2,?_⟩;rw[Below.heap_alloc wr o N (iC.1 h3).1];exact h3
theorem ja.drew(h:ja p w ao wr b xs):ja p w ao wr.drew b xs:=by
 obtain⟨h1,h2,h3,h4⟩:=h;obtain⟨c0,c1,c2,c3,c4,c5,c6,c7,c8,c9,c10,c11,hs,hB⟩:=h1;exact⟨⟨c0,c1,c2,c3,c4,c5,c6,c7,c8,c9,c10,c11,hs,hB.drew⟩,h2.drew,h3,h4⟩
theorem ja.Xt(h:ja p w ao wr b xs)(k:Nat)(hk:k<p.nums.length){o:Nat}{x:Int}(hox:p.nums[k]?=some (o,x)):
  ∃N,ao=some ⟨N,0,none⟩∧wr.cell? ⟨N,k,none⟩=some (.pointer (some ⟨w.heap.size,o,none⟩)):=by
 obtain⟨N,h1,h2,h3⟩:=h.ptr k hk;refine⟨N,h1,?_⟩;rw[aG wr N k _ _ _ h3];simp[ptrs,hox]
def ak(s:ByteArray):List Int:=s.data.toList.map λb=>(b.toNat:Int)
theorem yX(s:ByteArray):byteCells s=U (ak s):=by simp[byteCells,U,ak]
theorem bW(s:ByteArray):(ak s).length=s.size:=by simp[ak]
@[reducible] def Gi(n : Nat)(d s : Int)(W : World): Prop :=
 W.heap[n]?=some (.cells #[.int .u32 d,.int .u32 s] 237 (0,0))∧W.cell? ⟨n,0,none⟩=some (.int .u32 d)∧W.cell? ⟨n,1,none⟩=some (.int .u32 s)
theorem Gi.start(w:World)(d s:Int):Gi w.heap.size d s (w.alloc (.cells #[.int .u32 d,.int .u32 s] 237)).drew:=
 ⟨bS w _,jP w _ _ _,jP w _ _ _⟩
theorem Gi.grown{base:Nat}{m:Nat}{xs:List Value}(h:Gi n d s W)(ho:W.ownsRow base 5 1 b m xs)(hg:W.grownBy W1 b.ownBlock):Gi n d s W1:=by
 obtain⟨h1,h2,h3⟩:=h;have hne:some n≠b.ownBlock:=by
  intro he;rcases ho.2 with⟨rfl,_⟩|⟨g,cap,cur,rfl,_,hg,_⟩
  ·simp[Value.ownBlock]at he
  ·simp[Value.ownBlock]at he;subst he;rw[h1]at hg;simp at hg
 exact⟨(hg.block n (iC.1 h1).1 hne).trans h1,hg.cell h2 hne,hg.cell h3 hne⟩
def iw(L:List (Int×Int))(k:Nat):List Int:=(L.take k).flatMap λx=>b4 x.1++b4 x.2
theorem KJ{L:List (Int×Int)}(h:L[k]?=some (d,s)):iw L (k+1)=iw L k++b4 d++b4 s:=by
 unfold iw;rw[List.take_add_one,h];simp
theorem xS(l:List (Int×Int)):(l.flatMap λx=>b4 x.1++b4 x.2).length=8 * l.length:=by
 induction l with
 |nil=>rfl
 |cons a l ih=>simp only[List.flatMap_cons,dx,ih,lm,dY];omega
theorem DV(L:List (Int×Int))(k:Nat):(iw L k).length<=8 * L.length:=by
 unfold iw;rw[xS];have:=List.length_take_le' k L;omega
theorem Dz{base e size:Nat}{v:Value}{xs:List Value}(h:W.ownsRow base e size v n xs)(hv:v≠ .slice none 0 0):
  ∃g cap,v=.slice (some ⟨g,0,none⟩) n cap∧base<=g:=by
 rcases h.2 with⟨rfl,_⟩|⟨g,cap,cur,rfl,hb,_⟩
 ·exact absurd rfl hv
 ·exact⟨g,cap,rfl,hb⟩
end Go.Proofs.YtakaadcpaeiccabGreat
