import Derived.Test.YtakaadcpaeiccabGreatProg
import Derived.Laws.Rows
import Derived.Laws.AppendOwn
import Derived.Below
namespace Go.Proofs.YtakaadcpaeiccabGreat
open Go Go.RowKit
theorem aB(n:Nat):n<=n:=Nat.le_refl n
theorem aV(B:Nat)(w:World):Below B w w:=Below.refl B w
theorem aJ(w:World)(g j:Nat)(cs:Array Value)(t:TypeId)(fr:Nat×Nat)(hg:w.heap[g]?=some (.cells cs t fr)):w.cell? ⟨g,j,none⟩=cs[j]?:=cell_of_row w g j cs t fr hg
theorem bV(w:World)(o:Obj):(w.alloc o).heap[w.heap.size]?=some o:=heap_alloc_new w o
theorem ng(w:World)(g j:Nat)(cs:Array Value)(t:TypeId)(hg:w.heap[g]?=some (.cells cs t (0,0))):w.frozen? ⟨g,j,none⟩=false:=frozen_of_row w g j cs t hg
theorem bS{α:Type _}{l:List α}{i:Nat}(h:i<l.length):l[i]?=some l[i]:=List.getElem?_eq_getElem h
theorem iA{α:Type _}{i:Nat}{b:α}{xs:Array α}:xs[i]?=some b↔∃h:i<xs.size,xs[i]=b:=Array.getElem?_eq_some_iff
theorem fO{α:Type _}{i:Nat}{b:α}{xs:List α}:xs[i]?=some b↔∃h:i<xs.length,xs[i]=b:=List.getElem?_eq_some_iff
theorem jT{α:Type _}{a:α}{l:List α}:a∈a::l:=List.mem_cons_self
theorem lU{α:Type _}(y:α){a:α}{l:List α}(h:a∈l):a∈y::l:=List.mem_cons_of_mem y h
theorem iV{α:Type _}{l:List α}{i:Nat}{a:α}(h:l[i]?=some a):a∈l:=List.mem_of_getElem? h
theorem fZ{n m k:Nat}(h:n<m)(h2:m<=k):n<k:=Nat.lt_of_lt_of_le h h2
theorem dN{n m k:Nat}(h:n<=m)(h2:m<=k):n<=k:=Nat.le_trans h h2
theorem ku(w:World)(o:Obj)(row:Option Nat):w.grownBy (w.alloc o) row:=World.grownBy_alloc w o row
theorem eU{p:Prop}[Decidable p](h:¬p):decide p=false:=decide_eq_false h
theorem f_{p:Prop}[Decidable p](h:p):decide p=true:=decide_eq_true h
theorem l9{α:Type _}{β:Type _}{f:α->β}{l:List α}{i:Nat}:(List.map f l)[i]?=Option.map f l[i]?:=List.getElem?_map
theorem lV(w:World)(a:Addr)(u:Value)(k:Nat)(h:k≠a.block):(w.setCell a u).heap[k]?=w.heap[k]?:=Below.heap_setCell w a u k h
theorem ay{c:Prop}{h:Decidable c}(k:¬c){α:Sort _}{t e:α}:(ite c t e)=e:=if_neg k
theorem aI{c:Prop}{h:Decidable c}(k:c){α:Sort _}{t e:α}:(ite c t e)=t:=if_pos k
theorem aU{P:Program}{f:FuncId}{args:Array Value}{w:World}{R R2:Ending->World->Prop}(h:Calls P f args w R)(k:∀e w2,R e w2->R2 e w2):Calls P f args w R2:=Calls.mono h k
theorem bU{α:Type _}{a b:List α}:(a++b).length=a.length+b.length:=List.length_append
theorem d_{α:Type _}{xs:Array α}{i:Nat}{f:α->α}{j:Nat}:(xs.modify i f)[j]?=if i=j then Option.map f xs[j]? else xs[j]?:=Array.getElem?_modify
theorem fM{α:Type _}{a b:α}:a∈[b]↔a=b:=List.mem_singleton
theorem dZ{α:Type _}{a:α}{l:List α}:(a::l).length=l.length+1:=List.length_cons
theorem dW{α:Type _}{β:Type _}{b:β}{f:α->β}{l:List α}:b∈List.map f l↔∃a,a∈l∧f a=b:=List.mem_map
theorem fu{α:Type _}{a:α}{s t:List α}:a∈s++t↔a∈s∨a∈t:=List.mem_append
theorem jr(a b:Bool):((a&&b)=true)=(a=true∧b=true):=Bool.and_eq_true a b
theorem dm(n:Nat):0<=n:=Nat.zero_le n
theorem fE{α:Type _}{b:α}{l:List α}{a:α}:a∈b::l↔a=b∨a∈l:=List.mem_cons
theorem kN{α:Type _}{i:Nat}{l:List α}(h:l.length<=i):List.take i l=l:=List.take_of_length_le h
theorem gZ{α:Type _}{β:Type _}{a:α}{l:List α}{f:β->α->β}{b:β}:List.foldl f b (a::l)=List.foldl f (f b a) l:=List.foldl_cons
theorem ko(w:World)(c:Array Value)(t:TypeId)(i:Nat):(w.alloc (Obj.cells c t)).cell? ⟨w.heap.size,i,none⟩=c[i]?:=World.cell?_alloc_new w c t i
theorem iU(n:Nat):((n:Int)).toNat=n:=Int.toNat_natCast n
theorem qi{p:Prop}[Decidable p]:(decide p=true)=p:=decide_eq_true_eq
theorem gP(a:Int):a<=a:=Int.le_refl a
theorem gY{α:Type _}{β:Type _}{l:List α}(f:α->β):(List.map f l).length=l.length:=List.length_map f
theorem fw{α:Type _}(l:List α):l++[]=l:=List.append_nil l
theorem nU{α:Type _}{l:List α}(h:l.length=0):l=[]:=List.eq_nil_of_length_eq_zero h
theorem bC{w:World}{o:Obj}:Below w.heap.size w (w.alloc o):=(Below.refl _ _).alloc (Nat.le_refl _) _
end Go.Proofs.YtakaadcpaeiccabGreat
