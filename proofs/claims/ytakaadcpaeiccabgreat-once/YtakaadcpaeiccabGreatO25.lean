import Derived.Test.YtakaadcpaeiccabGreatO24
namespace Go.Proofs.YtakaadcpaeiccabGreat
variable{c:sO}{G G' d v:Int}{f:Int->Option Int}{D':Int->Prop}{i:Nat}{s s':St}{st:bG}
abbrev nG:=List (Bool×Int×Int)
def z8(f:Int->Option Int)(d v:Int):Prop:=∃v',f d=some v'∧v<=v'
theorem z8.le{u:Int}(h:z8 f d v)(hu:u<=v):z8 f d u:=by
 obtain⟨v',h1,h2⟩:=h;exact⟨v',h1,by omega⟩
theorem wU(f:Int->Option Int)(k:Int)(v:Option Int):ku f k v k=v:=aM rfl
theorem Me{x k:Int}(f:Int->Option Int)(v:Option Int)(h:x≠k):ku f k v x=f x:=aG h
theorem Te(h:z8 f d v)(r:Bool×Int×Int):z8 (stepM f r) d v:=by
 obtain⟨v',h1,h2⟩:=h;unfold stepM;split
 ·exact⟨v',h1,h2⟩
 ·by_cases e:d=r.2.1
  ·subst e;refine⟨max v' r.2.2,?_,by omega⟩;rw[wU,h1];rfl
  ·exact⟨v',by rw[Me _ _ e];exact h1,h2⟩
theorem Ba:∀(L:nG) {f:Int->Option Int} {d v:Int},z8 f d v->z8 (L.foldl stepM f) d v
 | [],_,_,_,h=>h
 |r::L,_,_,_,h=>by
  rw[fQ];exact Ba L (Te h r)
theorem Nh{L M:nG}(h:z8 (mH L) d v):z8 (mH (L++M)) d v:=by
 unfold mH;rw[List.foldl_append];exact Ba M h
theorem Ng{L:nG}(h:(false,d,v)∈L):z8 (mH L) d v:=by
 obtain⟨a,b,rfl⟩:=List.append_of_mem h;unfold mH;rw[List.foldl_append,fQ];refine Ba b ⟨max (((a.foldl stepM λ_=>none) d).getD 0) v,?_,by omega⟩;unfold stepM ku;simp
theorem KH{D:Int->Prop}:∀(L:nG) (f:Int->Option Int),(∀d v,f d=some v->D d∧0<=v∧v<=G)->(∀r∈L,(0<=r.2.2∧r.2.2<=G)∧(r.1=false->D r.2.1))->∀d v,L.foldl stepM f d=some v->D d∧0<=v∧v<=G
 | [],_,hf,_=>hf
 |r::L,f,hf,hr=>by
  rw[fQ];refine KH L _ (λd v h=> ?_) λx hx=>hr x (iI _ hx);obtain⟨h1,h2⟩:=hr r gm;unfold stepM at h;split at h
  ·exact hf d v h
  ·rename_i h3;unfold ku at h;split at h
   ·rename_i e;cases h;subst e;refine⟨h2 (by simpa using h3),?_⟩;cases xP:f r.2.1 with
    |none=>
     show 0<=max 0 r.2.2∧max 0 r.2.2<=G;omega
    |some u=>
     have:=(hf _ u xP).2;show 0<=max u r.2.2∧max u r.2.2<=G;omega
   ·exact hf d v h
theorem Sl(hG:0<=G):∀(L:nG) (c:Option Int),(0<=c.getD 0∧c.getD 0<=G)->(∀r∈L,0<=r.2.2∧r.2.2<=G)->0<=(L.foldl lI c).getD 0∧(L.foldl lI c).getD 0<=G
 | [],_,hc,_=>hc
 |r::L,c,hc,hr=>by
  rw[fQ];refine Sl hG L _ ?_ λx hx=>hr x (iI _ hx);have:=hr r gm;unfold lI;split
  ·show 0<=max (c.getD 0) r.2.2∧max (c.getD 0) r.2.2<=G;omega
  ·exact hc
abbrev NwT:=(Int->Option Int)×nG
theorem M4:∀(A:List Rt) (t:NwT) {d v:Int},z8 t.1 d v->z8 (A.foldl jG t).1 d v
 | [],_,_,_,h=>h
 |y::A,t,d,v,h=>by
  rw[fQ];refine M4 A _ ?_;obtain⟨v',h1,h2⟩:=h;unfold jG;split
  ·rename_i hn;dsimp only;by_cases e:d=y.dest
   ·refine⟨y.seq,by rw[e,wU],?_⟩;unfold sZ at hn;rw[<-e,h1]at hn;simp at hn;omega
   ·exact⟨v',by rw[Me _ _ e];exact h1,h2⟩
  ·exact⟨v',h1,h2⟩
theorem Ib:∀(A:List Rt) (t:NwT),∀y∈A,z8 (A.foldl jG t).1 y.dest y.seq
 | [],_,_,h=>by cases h
 |z::A,t,y,h=>by
  rw[fQ];rcases eF.1 h with rfl|h
  ·refine M4 A _ ?_;unfold jG;split
   ·exact⟨y.seq,wU _ _ _,fq _⟩
   ·rename_i hn;cases hf:t.1 y.dest with
    |none=>
     exfalso;apply hn;unfold sZ;rw[hf];rfl
    |some u=>
     refine⟨u,hf,?_⟩;unfold sZ at hn;rw[hf]at hn;simp at hn;omega
  ·exact Ib A _ y h
theorem MZ:∀(A:List Rt) (t:NwT),∀r∈t.2,r∈(A.foldl jG t).2
 | [],_,_,h=>h
 |y::A,t,r,h=>by
  rw[fQ];refine MZ A _ r ?_;unfold jG;split
  ·exact List.mem_append_left _ h
  ·exact h
theorem EX:∀(A:List Rt) (t:NwT) (d v:Int),(A.foldl jG t).1 d=some v->t.1 d=some v∨((false,d,v)∈(A.foldl jG t).2∧∃y∈A,y.dest=d∧y.seq=v)
 | [],_,_,_,h=> .inl h
 |y::A,t,d,v,h=>by
  rw[fQ]at h ⊢;rcases EX A _ d v h with h1|⟨h1,z,hz,e⟩
  ·unfold jG at h1;split at h1
   ·rename_i hn;dsimp only at h1;unfold ku at h1;split at h1
    ·rename_i e;cases h1;refine .inr ⟨MZ A _ _ ?_,y,gm,e.symm,rfl⟩;rw[Ic hn,e];exact List.mem_append_right _ (dO.2 rfl)
    ·exact .inl h1
   ·exact .inl h1
  ·exact .inr ⟨h1,z,iI _ hz,e⟩
theorem M0:∀(A:List Rt) (t:NwT),∀r∈(A.foldl jG t).2,r∈t.2∨∃y∈A,r=(false,y.dest,y.seq)
 | [],_,_,h=> .inl h
 |y::A,t,r,h=>by
  rw[fQ]at h;rcases M0 A _ r h with h1|⟨z,hz,e⟩
  ·unfold jG at h1;split at h1
   ·rcases dG.1 h1 with h1|h1
    ·exact .inl h1
    ·exact .inr ⟨y,gm,dO.1 h1⟩
   ·exact .inl h1
  ·exact .inr ⟨z,iI _ hz,e⟩
structure Jm(G:Int)(D:Int->Prop)(J:nG)(s:St):Prop where
 fw:∀d v,s.f d=some v->z8 (mH (J++s.bg)) d v
 rc:∀r∈s.bg,(0<=r.2.2∧r.2.2<=G)∧(r.1=false->D r.2.1)
 on:∀d v,s.f d=some v->(∃y∈s.A,y.dest=d)∧0<=v∧v<=G
 ow:0<=s.own∧s.own<=G
structure Lb(G:Int)(D:Int->Prop)(s:St):Prop where
 ln:∀y∈s.A,D y.dest∧0<=y.seq∧y.seq<=G
 sq:0<=s.seq∧s.seq<=G
theorem Jm.up{D:Int->Prop}{J:nG}(h:Jm G D J s)(hG:G<=G'):Jm G' D J s:=
 ⟨h.fw,λr hr=>⟨⟨(h.rc r hr).1.1,Int.le_trans (h.rc r hr).1.2 hG⟩,(h.rc r hr).2⟩,λd v e=>⟨(h.on d v e).1,(h.on d v e).2.1,Int.le_trans (h.on d v e).2.2 hG⟩,h.ow.1,Int.le_trans h.ow.2 hG⟩
theorem Jm.same{D:Int->Prop}{J:nG}(h:Jm G D J s)(hf:s'.f=s.f)(hn:s'.bg=s.bg)(ho:s'.own=s.own)(hA:∀y∈s.A,∃z∈s'.A,z.dest=y.dest):Jm G D J s':=by
 refine⟨by rw[hf,hn];exact h.fw,by rw[hn];exact h.rc,λd v e=> ?_,by rw[ho];exact h.ow⟩;rw[hf]at e;obtain⟨⟨y,hy,e1⟩,h2⟩:=h.on d v e;obtain⟨z,hz,e2⟩:=hA y hy;exact⟨⟨z,hz,e2.trans e1⟩,h2⟩
theorem Be{D:Int->Prop}{J:nG}(h:Jm G D J s)(l:Lb G D s):Jm G D J s.write∧∀y∈s.A,z8 s.write.f y.dest y.seq:=by
 have hn:s.write.bg=s.bg++(bJ s.seq s.own s.f s.A).2:=rfl;have hf:s.write.f=(bJ s.seq s.own s.f s.A).1:=rfl;refine⟨⟨λd v e=> ?_,λr hr=> ?_,λd v e=> ?_,?_⟩,λy hy=>Ib s.A _ y hy⟩
 ·rw[hf]at e;rw[hn,<-List.append_assoc];rcases EX s.A (s.f,pO s.seq s.own) d v e with h1|⟨h1,_⟩
  ·exact Nh (h.fw d v h1)
  ·exact Ng (List.mem_append_right _ h1)
 ·rw[hn]at hr;rcases dG.1 hr with hr|hr
  ·exact h.rc r hr
  ·rcases M0 s.A (s.f,pO s.seq s.own) r hr with hr|⟨y,hy,rfl⟩
   ·have hr':r∈pO s.seq s.own:=hr;unfold pO at hr';split at hr'
    ·rw[dO]at hr';subst hr';exact⟨l.sq,λh=>(by cases h)⟩
    ·cases hr'
   ·exact⟨(l.ln y hy).2,λ_=>(l.ln y hy).1⟩
 ·rw[hf]at e;rcases EX s.A (s.f,pO s.seq s.own) d v e with h1|⟨_,y,hy,e1,e2⟩
  ·exact h.on d v h1
  ·exact⟨⟨y,hy,e1⟩,by rw[<-e2];exact(l.ln y hy).2⟩
 ·have h1:=h.ow;have h2:=l.sq;show 0<=Fa s.seq s.own∧Fa s.seq s.own<=G;unfold Fa;split<;>omega
structure JF(G:Int)(D:Int->Prop)(J:nG)(z:St):Prop where
 fw:∀d v,z.f d=some v->z8 (mH ((if z.bn then []else J)++z.bg)) d v
 rc:∀r∈z.bg,(0<=r.2.2∧r.2.2<=G)∧(r.1=false->D r.2.1)
 on:∀d v,z.f d=some v->(∃y∈z.A,y.dest=d)∧0<=v∧v<=G
 ow:0<=z.own∧z.own<=G
 ln:∀y∈z.A,z8 z.f y.dest y.seq
theorem DY{D:Int->Prop}{J:nG}(h:Jm G D J s)(l:Lb G D s)(hr:s.bn=false∨J=[])(hG:0<=G):JF G D J s.finish:=by
 obtain⟨h1,h2⟩:=Be h l;unfold St.finish;split
 ·refine⟨λd v e=> ?_,λr hr=> ?_,h1.on,h1.ow,h2⟩
  ·obtain⟨⟨y,hy,rfl⟩,_⟩:=h1.on d v e;refine Ng ?_;show(false,y.dest,v)∈([]:nG)++s.write.cmp;rw[List.nil_append];refine List.mem_append_right _ (dh.2 ⟨y.dest,dh.2 ⟨y,hy,rfl⟩,?_⟩);rw[show s.write.f y.dest=some v from e];rfl
  ·have hr':r∈s.write.cmp:=hr;rcases dG.1 hr' with hr'|hr'
   ·have e:r=(true,0,s.write.own):=dO.1 hr';subst e;exact⟨h1.ow,λh=>(by cases h)⟩
   ·obtain⟨a,ha,rfl⟩:=dh.1 hr';obtain⟨y,hy,rfl⟩:=dh.1 ha;refine⟨?_,λ_=>(l.ln y hy).1⟩;dsimp only;cases e:s.write.f y.dest with
    |none=>exact⟨fq _,hG⟩
    |some v=>exact(h1.on _ v e).2
 ·refine⟨λd v e=> ?_,h1.rc,h1.on,h1.ow,h2⟩;have e2:(if s.write.bn then []else J)=J:=by
   rcases hr with hr|hr
   ·rw[show s.write.bn=s.bn from rfl,hr];rfl
   ·rw[hr];split<;>rfl
  rw[e2];exact h1.fw d v e
theorem TH{D:Int->Prop}{J:nG}(h:JF G D J s):JF G D J s.freed:=⟨h.fw,h.rc,h.on,h.ow,h.ln⟩
structure JI(G:Int)(D:Int->Prop)(st:bG):Prop where
 rc:∀r∈jl st.aZ,(0<=r.2.2∧r.2.2<=G)∧(r.1=false->D r.2.1)
 fl:∀z,st.nd=some z->∃L,st.aZ=bB L
 fw:∀z,st.nd=some z->∀d v,z.f d=some v->z8 (mH (jl st.aZ)) d v
 on:∀z,st.nd=some z->∀d v,z.f d=some v->(∃y∈z.A,y.dest=d)∧0<=v∧v<=G
 ow:∀z,st.nd=some z->0<=z.own∧z.own<=G
 ln:∀z,st.nd=some z->∀y∈z.A,z8 z.f y.dest y.seq
theorem JI.up{D:Int->Prop}(h:JI G D st)(hG:G<=G'):JI G' D st:=
 ⟨λr hr=>⟨⟨(h.rc r hr).1.1,Int.le_trans (h.rc r hr).1.2 hG⟩,(h.rc r hr).2⟩,h.fl,h.fw,λz hz d v e=>⟨(h.on z hz d v e).1,(h.on z hz d v e).2.1,Int.le_trans (h.on z hz d v e).2.2 hG⟩,λz hz=>⟨(h.ow z hz).1,Int.le_trans (h.ow z hz).2 hG⟩,h.ln⟩
theorem JI.D{D:Int->Prop}(h:JI G D st)(hd:∀d,D d->D' d):JI G D' st:=
 ⟨λr hr=>⟨(h.rc r hr).1,λe=>hd _ ((h.rc r hr).2 e)⟩,h.fl,h.fw,h.on,h.ow,h.ln⟩
theorem JI.mle{D:Int->Prop}(h:JI G D st){z:St}(hz:st.nd=some z){y:Rt}(hy:y∈z.A):z8 (mH (jl st.aZ)) y.dest y.seq:=by
 obtain⟨v,h1,h2⟩:=h.ln z hz y hy;exact(h.fw z hz _ v h1).le h2
theorem XZ(L M:nG)(n:Nat):∃M':nG,(∀r∈M',r∈M)∧jl (bB L++(bB M).take n)=(L++M').map norm:=by
 by_cases h:n<13 * M.length
 ·refine⟨M.take (n / 13),λr hr=>List.mem_of_mem_take hr,?_⟩;have h1:=aaY (L++M) (13 * L.length+n) (by rw[dx];omega);have h2:(13 * L.length+n)/ 13=L.length+n / 13:=by omega
  have e1:(bB (L++M)).take (13 * L.length+n)=bB L++(bB M).take n:=by
   rw[kL,<-iE L,List.take_length_add_append]
  have e2:(L++M).take (L.length+n / 13)=L++M.take (n / 13):=List.take_length_add_append _;rw[e1,h2,e2]at h1;exact h1
 ·refine⟨M,λr hr=>hr,?_⟩;rw[jE (by rw[iE];omega),<-kL];exact xM _
theorem M_{D:Int->Prop}{L:nG}(h:∀r∈L,(0<=r.2.2∧r.2.2<=G)∧(r.1=false->D r.2.1)):∀r∈L.map norm,(0<=r.2.2∧r.2.2<=G)∧(r.1=false->D r.2.1):=by
 intro r hr;obtain⟨x,hx,rfl⟩:=dh.1 hr;obtain⟨o,a,q⟩:=x;have:=h _ hx;cases o
 ·exact this
 ·exact⟨this.1,λh=>(by cases h)⟩
theorem IJ{D:Int->Prop}{z:St}(hrc:∀r∈jl st.aZ,(0<=r.2.2∧r.2.2<=G)∧(r.1=false->D r.2.1))(hfl:z.bn=false->∃L,st.aZ=bB L)(h:JF G D (jl st.aZ) z)(hw:(bG.write {st with nd:=some z} z.ot).2=true):JI G D (bG.write {st with nd:=some z} z.ot).1∧(bG.write {st with nd:=some z} z.ot).1.nd=some z∧(bG.write {st with nd:=some z} z.ot).1.addr=st.addr:=by
 by_cases h1:z.ot.bg≠ []∨z.ot.bn=true
 ·rcases Bool.eq_false_or_eq_true st.tears with ht|ht
  ·rw[bG.o6 (s:={st with nd:=some z}) h1 ht]at hw;cases hw
  ·rw[bG.jX (s:={st with nd:=some z}) h1 ht];refine⟨?_,rfl,rfl⟩;have hj:∃L,((if z.bn then []else st.aZ)++bB z.bg)=bB L∧jl (bB L)=(if z.bn then []else jl st.aZ)++z.bg.map norm:=by
    cases hr:z.bn
    ·obtain⟨L,hL⟩:=hfl hr;refine⟨L++z.bg,?_,?_⟩
     ·simp only[Bool.false_eq_true,if_false];rw[hL,kL]
     ·rw[xM,hL,xM,List.map_append];simp
    ·refine⟨z.bg,by simp,?_⟩;rw[xM];simp
   obtain⟨L,e1,e2⟩:=hj;have e3:jl ((if z.ot.bn then []else st.aZ)++bB z.ot.bg)=(if z.bn then []else jl st.aZ)++z.bg.map norm:=by
    show jl ((if z.bn then []else st.aZ)++bB z.bg)=_;rw[e1];exact e2
   refine⟨?_,λu _=>⟨L,e1⟩,λu hu d v e=> ?_,λu hu=> ?_,λu hu=> ?_,λu hu=> ?_⟩
   ·dsimp only;rw[e3];intro r hr;rcases dG.1 hr with hr|hr
    ·split at hr
     ·cases hr
     ·exact hrc r hr
    ·exact M_ h.rc r hr
   ·cases hu;dsimp only;rw[e3];have h2:=h.fw d v e;obtain⟨v',k1,k2⟩:=h2;refine⟨v',?_,k2⟩;rw[<-k1];unfold mH;rw[List.foldl_append,List.foldl_append,List.foldl_map];have e4:(λ(f:Int->Option Int) r=>stepM f (norm r))=stepM:=by
     funext f r
     obtain⟨o,a,q⟩:=r;cases o<;>rfl
    rw[e4]
   ·cases hu;exact h.on
   ·cases hu;exact h.ow
   ·cases hu;exact h.ln
 ·simp only[not_or,Classical.not_not]at h1;have h2:z.ot.bn=false:=by simpa using h1.2
  rw[bG.ol (s:={st with nd:=some z}) h1.1 h2];refine⟨⟨hrc,λu _=>hfl h2,λu hu d v e=> ?_,λu hu=> ?_,λu hu=> ?_,λu hu=> ?_⟩,rfl,rfl⟩
  ·cases hu;have h3:=h.fw d v e;rw[show z.bn=false from h2,show z.bg=[]from h1.1]at h3;simpa using h3
  ·cases hu;exact h.on
  ·cases hu;exact h.ow
  ·cases hu;exact h.ln
theorem X3{D:Int->Prop}{z:St}(hrc:∀r∈jl st.aZ,(0<=r.2.2∧r.2.2<=G)∧(r.1=false->D r.2.1))(hfl:z.bn=false->∃L,st.aZ=bB L)(h:JF G D (jl st.aZ) z)(hi:z.ot.idle=true):JI G D {st with nd:=some z}:=by
 rw[Fq]at hi;simp only[eG,iL,Bool.not_eq_true']at hi;have e:=bG.ol (s:={st with nd:=some z}) hi.1.1 hi.1.2;have h1:=(IJ hrc hfl h (by rw[e])).1;rw[e]at h1;exact h1
theorem X0{D:Int->Prop}{z:St}(hrc:∀r∈jl st.aZ,(0<=r.2.2∧r.2.2<=G)∧(r.1=false->D r.2.1))(hfl:z.bn=false->∃L,st.aZ=bB L)(hz:∀r∈z.bg,(0<=r.2.2∧r.2.2<=G)∧(r.1=false->D r.2.1))(hw:(bG.write {st with nd:=some z} z.ot).2=false):JI G D (bG.write {st with nd:=some z} z.ot).1∧(bG.write {st with nd:=some z} z.ot).1.nd=none∧(bG.write {st with nd:=some z} z.ot).1.addr=st.addr∧∀d v,z8 (mH (jl st.aZ)) d v->z8 (mH (jl (bG.write {st with nd:=some z} z.ot).1.aZ)) d v:=by
 by_cases h1:z.ot.bg≠ []∨z.ot.bn=true
 ·rcases(Bool.eq_false_or_eq_true st.tears).symm with ht|ht
  ·rw[bG.jX (s:={st with nd:=some z}) h1 ht]at hw;cases hw
  ·rw[bG.o6 (s:={st with nd:=some z}) h1 ht];have hj:∃M:nG,(∀r∈M,(0<=r.2.2∧r.2.2<=G)∧(r.1=false->D r.2.1))∧jl (if z.bn then st.aZ else st.aZ++(bB z.bg).take st.whole.toNat)=jl st.aZ++M:=by
    cases hr:z.bn
    ·obtain⟨L,hL⟩:=hfl hr;obtain⟨M,hM1,hM2⟩:=XZ L z.bg st.whole.toNat;refine⟨M.map norm,M_ λr hr=>hz r (hM1 r hr),?_⟩;simp only[Bool.false_eq_true,if_false];rw[hL,hM2,xM,List.map_append]
    ·exact⟨[],λr hr=>(by cases hr),by simp⟩
   obtain⟨M,hM,e⟩:=hj;have e':jl (bG.stop {st with nd:=some z,aZ:=if z.ot.bn then st.aZ else st.aZ++(bB z.ot.bg).take st.whole.toNat}).aZ=jl st.aZ++M:=e;refine⟨⟨?_,λu hu=>(by cases hu),λu hu=>(by cases hu),λu hu=>(by cases hu),λu hu=>(by cases hu),λu hu=>(by cases hu)⟩,rfl,rfl,λd v hd=> ?_⟩
   ·rw[e'];intro r hr;rcases dG.1 hr with hr|hr
    ·exact hrc r hr
    ·exact hM r hr
   ·rw[e'];exact Nh hd
 ·simp only[not_or,Classical.not_not]at h1;have h2:z.ot.bn=false:=by simpa using h1.2
  rw[bG.ol (s:={st with nd:=some z}) h1.1 h2]at hw;cases hw
theorem GN{D:Int->Prop}{S:List bG}{st':bG}(hJ:JI G D st)(hl:∀z,st.nd=some z->∀y∈z.A,zm G S i y)(hn:st'.nd=none)(ha:st'.addr=st.addr)(hm:∀d v,z8 (mH (jl st.aZ)) d v->z8 (mH (jl st'.aZ)) d v):l6 st st':=by
 refine⟨ha,λd q h _ e=> ?_⟩;have adg:vr st' d=(mH (jl st'.aZ) d).map λq=>(q,0):=by unfold vr;rw[hn]
 cases hz:st.nd with
 |none=>
  have hvr:vr st d=(mH (jl st.aZ) d).map λq=>(q,0):=by unfold vr;rw[hz]
  unfold wT at e ⊢;rw[hvr]at e;rw[adg];cases hd:mH (jl st.aZ) d with
  |none=>rw[hd]at e;cases e
  |some v=>
   rw[hd]at e;obtain⟨v',h1,h2⟩:=hm d v ⟨v,hd,fq _⟩;rw[h1];have e':qE (v,0) q h=true:=e;show qE (v',0) q h=true;unfold qE at *;simp only[Bool.or_eq_true,eG,iL]at *;omega
 |some z=>
  unfold wT at e ⊢;rw[wR hz]at e;rw[adg];cases hd:aK z.A d with
  |none=>rw[hd]at e;cases e
  |some y=>
   rw[hd]at e;obtain⟨hy,rfl⟩:=bU hd;obtain⟨v',h1,h2⟩:=hm _ _ (hJ.mle hz hy);have h3:=(hl z hz y hy).hp;rw[h1];have e':qE (rk y,y.hops) q h=true:=e;have e3:rk y<=y.seq:=by unfold rk;split<;>omega
   show qE (v',0) q h=true;unfold qE at *;simp only[Bool.or_eq_true,eG,iL]at *;omega
theorem Ow{me now:Int}{A A':List Rt}(t:Vq me now c A A'):∀y∈A,∃z∈A',z.dest=y.dest:=by
 have hmap:∀(f:Rt->Rt),(∀y,(f y).dest=y.dest)->∀y∈A,∃z∈A.map f,z.dest=y.dest:=λf hf y hy=>⟨f y,dh.2 ⟨y,hy,rfl⟩,hf y⟩;have hmod:∀(f:Rt->Rt) (d:Int),(∀y,(f y).dest=y.dest)->∀y∈A,∃z∈gU A d f,z.dest=y.dest:=λf d hf=>hmap _ λy=>by
  split
  ·exact hf y
  ·rfl
 have TV:∀(d q h n e:Int),∀y∈A,∃z∈(iO me A d q h n e).1,z.dest=y.dest:=by
  intro d q h n e;rcases Dl me A d q h n e with h1|⟨_,_,_,⟨x,_,_,h1⟩|⟨_,h1⟩⟩
  ·rw[h1];exact λy hy=>⟨y,hy,rfl⟩
  ·rw[h1];exact hmod _ d λy=>rfl
  ·rw[h1];exact λy hy=>⟨y,oJ.2 (.inr hy),rfl⟩
 cases t with
 |Wt=>exact TV _ _ _ _ _
 |Ws=>exact TV _ _ _ _ _
 |use d e=>exact hmod _ d λy=>mr e y
 |bN d n=>exact hmod _ d λy=>lg n y
 |lose fr p L hc x hx=>exact hmod _ x.1 λy=>eX _ _ y
 |brk eu=>exact hmap _ λy=>eX _ _ y
 |grow d _=>exact hmod _ d λy=>rfl
theorem adf{D:Int->Prop}{J:nG}(h:Jm G D J s)(l:Lb G D s)(k:Pr c s s'):Jm G D J s':=by
 cases k with
 |zy e=>exact h.same e.f e.bg e.own (by rw[e.A];exact λy hy=>⟨y,hy,rfl⟩)
 |tab t=>exact h.same rfl rfl rfl (Ow t)
 |aI _ _ _ _ _=>exact h.same rfl rfl rfl λy hy=>⟨y,hy,rfl⟩
 |grw=>exact h.same rfl rfl rfl λy hy=>⟨y,hy,rfl⟩
 |mx _ _ _ _=>exact h.same rfl rfl rfl λy hy=>⟨y,hy,rfl⟩
 |wr=>exact(Be h l).1
def Cu(S:List bG)(a d:Int):Prop:=d≠a∧∃t∈S,t.addr=d
theorem Z8{S:List bG}(h:CI G S){i:Nat}{st:bG}{s:St}(hS:S[i]?=some st)(hz:st.nd=some s):Lb G (Cu S st.addr) s:=by
 obtain⟨_,b,_,d⟩:=h.nd i st s hS hz;exact⟨λy hy=>⟨⟨(d y hy).2,(d y hy).1.dest⟩,(d y hy).1.sq⟩,b⟩
theorem nW{S:List bG}{s s':bG}(hs:S[i]?=some s)(e:s'.addr=s.addr){d:Int}(h:∃t∈S.set i s',t.addr=d):∃t∈S,t.addr=d:=by
 obtain⟨t,ht,hd⟩:=h;rcases List.mem_or_eq_of_mem_set ht with ht|rfl
 ·exact⟨t,ht,hd⟩
 ·exact⟨s,gH hs,e.symm.trans hd⟩
theorem Lb.D{D:Int->Prop}(h:Lb G D s)(hd:∀d,D d->D' d):Lb G D' s:=⟨λy hy=>⟨hd _ (h.ln y hy).1,(h.ln y hy).2⟩,h.sq⟩
variable{c:sO}{G:Int}{i n:Nat}{s s':St}{st:bG}
theorem Iz{S:List bG}{A:List Rt}(h:∀y∈A,zm G S i y)(hG0:0<=G)(d:Int):0<=eU A d∧eU A d<=G:=by
 unfold eU;cases hl:aK A d with
 |none=>exact⟨fq _,hG0⟩
 |some y=>exact(h y (bU hl).1).sq
theorem TF{S:List bG}{p:aC}{L:List (Int×Int)}(hS:S[i]?=some st)(hz:st.nd=some s)(h:CI G S)(hc:QX G S s.me c)(hG0:0<=G)(j:Just c s p L):FrQ G S i p L:=by
 obtain⟨hme,T9,hasc,hln⟩:=h.nd i st s hS hz;have PN:∀y∈s.A,zm G S i y:=λy hy=>(hln y hy).1;have hself:∃t∈S,t.addr=st.addr:=⟨st,gH hS,rfl⟩;have hlen:=h.len;have hn0:∀ {d:Int},(∃t∈S,t.addr=d)->d≠0:=λ⟨t,ht,e⟩=>e▸(h.zi t ht).2;rcases j with⟨k,e1,e2,e3,e4,e5,e6⟩|⟨fr,q,K,hcq,kq,k,e1,e2,e3,e4,e5,e6,e7,e8⟩|⟨k,e1,e2,e3,e4⟩|⟨k,e1,y,hy,e2,e3,e4⟩|⟨fr,q,K,hcq,kq,k,e1,e2,e3,e4,e5,e6,e7⟩|⟨k,e1⟩|k
 ·refine⟨λ_=> ?_,λh=>(by rw[k]at h;cases h),λh=>(by rw[k]at h;cases h)⟩;have hd:p.aI=st.addr:=e1.trans hme;rw[hd];have:=NW (S:=S) p.dw p.hops hself;exact⟨hself,by omega,by rw[e5];exact T9,by rw[e6];exact Iz PN hG0 _,by omega,st,hS,.inl rfl⟩
 ·refine⟨λ_=> ?_,λh=>(by rw[k]at h;cases h),λh=>(by rw[k]at h;cases h)⟩;obtain⟨_,t1,q1,_,j,t,hj,ht,hf⟩:=hc fr q K hcq;obtain⟨f1,f2,f3,f4,f5,_⟩:=hf.k1 kq;have hcl:=Ld S q.aI q.dw q.hops;have KT:St.far q.hops=q.hops+1:=by unfold St.far;omega
  have hup:=U3 S q.aI q.dw (show q.hops<=q.hops+1 by omega);rw[e1,e2]at e8;rw[e1,e2,e3,KT];rw[e3,KT]at e8;refine⟨f1,by omega,f3,?_,by omega,st,hS,.inr ((e8 (hn0 f1)).wT hz)⟩;rcases e7 with e7|e7
  ·rw[e7];exact f4
  ·rw[e7];exact Iz PN hG0 _
 ·refine⟨λh=>(by rw[k]at h;cases h),λ_=> ?_,λh=>(by rw[k]at h;cases h)⟩;have hd:p.dest=st.addr:=e1.trans hme;rw[hd];have:=NW (S:=S) p.aX p.hops hself;exact⟨hself,by omega,by rw[e4];exact T9,by omega,st,hS,.inl rfl⟩
 ·refine⟨λh=>(by rw[k]at h;cases h),λ_=> ?_,λh=>(by rw[k]at h;cases h)⟩;obtain⟨IW,kX⟩:=bU hy;have hl:=PN y IW;have hcnt:=hl.hc e2;rw[e3,e4,<-kX];refine⟨hl.dest,hl.hp,hl.sq,by omega,st,hS,.inr ?_⟩;refine sN.wT hz ⟨y,by rw[kX];exact hy,.inr ⟨?_,fq _⟩⟩;unfold rk;rw[e2];rfl
 ·refine⟨λh=>(by rw[k]at h;cases h),λ_=> ?_,λh=>(by rw[k]at h;cases h)⟩;obtain⟨_,t1,q1,_,j,t,hj,ht,hf⟩:=hc fr q K hcq;obtain⟨f1,f2,f3,f5,_⟩:=hf.k2 kq;have hcl:=Ld S q.dest q.aX q.hops;have KT:St.far q.hops=q.hops+1:=by unfold St.far;omega
  have hup:=U3 S q.dest q.aX (show q.hops<=q.hops+1 by omega);rw[e1,e2,e3,KT]at e7;rw[e1,e2,e3,KT];exact⟨f1,by omega,f3,by omega,st,hS,.inr ((e7 (hn0 f1)).wT hz)⟩
 ·refine⟨λh=>(by rw[k]at h;cases h),λh=>(by rw[k]at h;cases h),λ_ x hx=> ?_⟩;rcases e1 x hx with e|⟨y,hy,_,e2,e3⟩
  ·omega
  ·have:=(PN y hy).sq;omega
 ·exact⟨λh=>(by rw[k]at h;cases h),λh=>(by rw[k]at h;cases h),λh=>(by rw[k]at h;cases h)⟩
theorem XO(st:bG){s:St}(hz:st.nd=some s): {st with nd:=some s}=st:=by
 cases st;cases hz;rfl
theorem Xw{S:List bG}(hS:S[i]?=some st)(hz:st.nd=some s)(h:CI G S)(hc:QX G S s.me c)(hG0:0<=G)(hG:G+1<4294967295)(hf:∀f∈s.aH,zN G S i f.2)(k:Pr c s s'):
  l6 st {st with nd:=some s'}∧CI (G+1) (S.set i {st with nd:=some s'})∧∀f∈s'.aH,zN (G+1) (S.set i {st with nd:=some s'}) i f.2:=by
 obtain⟨hme,T9,hasc,hln⟩:=h.nd i st s hS hz;have hsame:∀s':St,s'.A=s.A->s'.me=s.me->(0<=s'.seq∧s'.seq<=G+1)->l6 st {st with nd:=some s'}∧CI (G+1) (S.set i {st with nd:=some s'}):=by
  intro s' hA hm hq;have l:l6 st {st with nd:=some s'}:=QJ.sle (s':=s') (by rw[hA];exact QJ.refl _) hz;refine⟨l,h.set (by omega) hS l λz hz'=> ?_⟩;cases hz';rw[hA];exact⟨hm.trans hme,hq,hasc,λy hy=>⟨(hln y hy).1.set (by omega) hS l,(hln y hy).2⟩⟩
 have hfs:∀(s':St),l6 st {st with nd:=some s'}->∀f∈s.aH,zN (G+1) (S.set i {st with nd:=some s'}) i f.2:=λs' l f hf'=>(hf f hf').set (by omega) hS l;cases k with
 |zy e=>
  obtain⟨l,hci⟩:=hsame s' e.A e.me (by rw[e.seq];omega);exact⟨l,hci,by rw[e.aH];exact hfs s' l⟩
 |tab t=>
  obtain⟨l,ha,hl⟩:=Rs hS hz h hc hG0 hG t;exact⟨l,h.set (by omega) hS l λz hz'=>by cases hz';exact⟨hme,by dsimp only;omega,ha,hl⟩,hfs _ l⟩
 |aI t p L hj hzz=>
  obtain⟨l,hci⟩:=hsame (s.send t p L) rfl rfl (by show 0<=s.seq∧s.seq<=G+1;omega);refine⟨l,hci,λf hf'=> ?_⟩;rcases dG.1 (show f∈s.aH++ [(t,strOfNums (jU p L))]from hf')with hf'|hf'
  ·exact hfs _ l f hf'
  ·rw[dO]at hf';subst hf';exact(YK (TF hS hz h hc hG0 hj) (λs hs=>(h.zi s hs).1) (by omega) hzz).set (by omega) hS l
 |grw=>
  obtain⟨l,hci⟩:=hsame {s with seq:=gr s.seq} rfl rfl (by show 0<=gr s.seq∧gr s.seq<=G+1;rw[mh T9.1 (by omega)];omega);exact⟨l,hci,hfs _ l⟩
 |mx fr p L hc1=>
  obtain⟨_,_,k3,_⟩:=hc fr p L hc1;obtain⟨l,hci⟩:=hsame {s with seq:=max s.seq p.aX} rfl rfl (by show 0<=max s.seq p.aX∧max s.seq p.aX<=G+1;omega);exact⟨l,hci,hfs _ l⟩
 |wr=>
  obtain⟨l,hci⟩:=hsame s.write rfl rfl (by show 0<=s.seq∧s.seq<=G+1;omega);exact⟨l,hci,hfs _ l⟩
theorem oq(S:List bG)(i:Nat)(a b:bG):(S.set i a).set i b=S.set i b:=List.set_set ..
theorem Ky{S:List bG}(k:fV c n s s'):∀ {G:Int} {J:nG},S[i]?=some st->st.nd=some s->CI G S->QX G S s.me c->0<=G->G+n<4294967295->(∀f∈s.aH,zN G S i f.2)->Jm G (Cu S st.addr) J s->
  Jm (G+n) (Cu S st.addr) J s'∧l6 st {st with nd:=some s'}∧CI (G+n) (S.set i {st with nd:=some s'})∧QX (G+n) (S.set i {st with nd:=some s'}) s'.me c∧∀f∈s'.aH,zN (G+n) (S.set i {st with nd:=some s'}) i f.2:=by
 induction k with
 |nil n s=>
  intro G J hS hz h hc hG0 hG hf hj;have e:=XO st hz;have l:l6 st {st with nd:=some s}:=by rw[e];exact l6.refl st
  have hs:=RG hS;refine⟨hj.up (by omega),l,h.set (by omega) hS l λz hz'=> ?_,hc.set (by omega) hS l,λf hf'=>(hf f hf').set (by omega) hS l⟩;cases hz';obtain⟨a,b,c,d⟩:=h.nd i st s hS hz;exact⟨a,by omega,c,λy hy=>⟨(d y hy).1.set (by omega) hS l,(d y hy).2⟩⟩
 | @snoc n s s1 s2 k1 k2 ih=>
  intro G J hS hz h hc hG0 hG hf hj;obtain⟨j1,l1,c1,h1,f1⟩:=ih hS hz h hc hG0 (by omega) hf hj;have hS1:(S.set i {st with nd:=some s1})[i]?=some {st with nd:=some s1}:=List.getElem?_set_self (fA.1 hS).1;obtain⟨l2,c2,f2⟩:=Xw hS1 rfl c1 h1 (by omega) (by omega) f1 k2;have hm:s2.me=s1.me:=(fV.one k2).me;have h2:=h1.set (G':=G+n+1) (by omega) hS1 l2;rw[oq]at c2 f2 h2;have j2:=adf j1 ((Z8 c1 hS1 rfl).D λd hd=>⟨hd.1,nW hS l1.addr hd.2⟩) k2;have e:G+(n:Int)+1=G+((n+1:Nat):Int):=by omega
  rw[e]at c2 f2 h2;exact⟨j2.up (by omega),l1.trans l2,c2,by rw[hm];exact h2,f2⟩
theorem Ll{S:List bG}(hS:S[i]?=some st)(hz:st.nd=some s)(h:CI G S)(hG:G+1<4294967295)(now:Int)(hji:JI G (Cu S st.addr) st):
  Jm (G+1) (Cu S st.addr) (jl st.aZ) (s.locked.begin now)∧l6 st {st with nd:=some (s.locked.begin now)}∧CI (G+1) (S.set i {st with nd:=some (s.locked.begin now)}):=by
 obtain⟨hme,T9,hasc,hln⟩:=h.nd i st s hS hz;have hA:(s.locked.begin now).A=s.A.map (og now):=rfl;have hl:∀y∈s.A,qE (rk (og now y),(og now y).hops) (rk y) y.hops=true∧zm (G+1) S i (og now y):=by
  intro y hy;have h2:=(hln y hy).1;have h3:=h2.sq;unfold og;split
  ·rename_i hv;have hv':y.valid=true:=by
    unfold K_ at hv;simp only[eG]at hv;exact hv.1
   refine⟨NR 0 h3.1 (by omega) hv',h2.ended rfl rfl rfl ?_⟩;show 0<=max (gr y.seq) 0∧max (gr y.seq) 0<=G+1;rw[mh h3.1 (by omega)];omega
  ·exact⟨mX _ _,h2.up (by omega)⟩
 have l:l6 st {st with nd:=some (s.locked.begin now)}:=QJ.sle (s':=s.locked.begin now) (by rw[hA];exact Ml (λy=>g_ now y) λy hy=>(hl y hy).1) hz;have hj0:Jm (G+1) (Cu S st.addr) (jl st.aZ) {s.locked with now:=now,A:=iW s.A now,bg:=[],aH:=[],aR:=[],aQ:=[],bn:=false}:=by
  refine⟨λd v e=> ?_,λr hr=>(by cases hr),λd v e=> ?_,?_⟩
  ·have h1:=hji.fw s hz d v e;simpa using h1
  ·obtain⟨⟨y,hy,e1⟩,h2⟩:=hji.on s hz d v e;exact⟨⟨og now y,dh.2 ⟨y,hy,rfl⟩,(g_ now y).trans e1⟩,h2.1,by omega⟩
  ·have:=hji.ow s hz;show 0<=s.own∧s.own<=G+1;omega
 have hlb:Lb (G+1) (Cu S st.addr) {s.locked with now:=now,A:=iW s.A now,bg:=[],aH:=[],aR:=[],aQ:=[],bn:=false}:=by
  refine⟨λy hy=> ?_,by show 0<=s.seq∧s.seq<=G+1;omega⟩;obtain⟨u,hu,rfl⟩:=dh.1 (show y∈s.A.map (og now)from hy);have h3:=(hl u hu).2;exact⟨⟨by rw[g_];exact(hln u hu).2,h3.dest⟩,h3.sq⟩
 refine⟨(Be hj0 hlb).1,l,h.set (by omega) hS l λz hz'=> ?_⟩;cases hz';rw[hA];refine⟨hme,by show 0<=s.seq∧s.seq<=G+1;omega,?_,λy hy=> ?_⟩
 ·unfold Asc;rw[List.pairwise_map];refine hasc.imp λ{a b} hab=> ?_;rw[g_,g_];exact hab
 ·obtain⟨u,hu,rfl⟩:=dh.1 hy;exact⟨(hl u hu).2.set (fq _) hS l,by rw[g_];exact(hln u hu).2⟩
theorem QD{S:List bG}{now:Int}(hS:S[i]?=some st)(hz:st.nd=some s)(h:CI G S)(hc:QX G S s.me c)(hG0:0<=G)(hG:G+n+1<4294967295)(hji:JI G (Cu S st.addr) st)(k:fV c n (s.locked.begin now) s'):
  JF (G+n+1) (Cu S st.addr) (jl st.aZ) s'.finish.freed∧l6 st {st with nd:=some s'.finish.freed}∧CI (G+n+1) (S.set i {st with nd:=some s'.finish.freed})∧∀f∈s'.finish.freed.aH,zN (G+n+1) (S.set i {st with nd:=some s'.finish.freed}) i f.2:=by
 obtain⟨j1,l1,c1⟩:=Ll hS hz h (by omega) now hji;have hS1:(S.set i {st with nd:=some (s.locked.begin now)})[i]?=some {st with nd:=some (s.locked.begin now)}:=List.getElem?_set_self (fA.1 hS).1;have h1:=hc.set (G':=G+1) (by omega) hS l1;have j1':Jm (G+1) (Cu (S.set i {st with nd:=some (s.locked.begin now)}) st.addr) (jl st.aZ) (s.locked.begin now):=⟨j1.fw,λr hr=>⟨(j1.rc r hr).1,λe=>⟨((j1.rc r hr).2 e).1,gI hS l1.addr ((j1.rc r hr).2 e).2⟩⟩,j1.on,j1.ow⟩;obtain⟨j2,l2,c2,_,f2⟩:=Ky k hS1 rfl c1 h1 (by omega) (by omega) (λf hf=>by cases hf) j1';dsimp only at l2 c2 f2 j2;rw[oq]at c2 f2;have hS2:(S.set i {st with nd:=some s'})[i]?=some {st with nd:=some s'}:=List.getElem?_set_self (fA.1 hS).1;have e:=aO s';have hA:s'.finish.freed.A=s'.A:=e.A;have l3:l6 {st with nd:=some s'} {st with nd:=some s'.finish.freed}:=QJ.sle (st:={st with nd:=some s'}) (s:=s') (s':=s'.finish.freed) (by rw[hA];exact QJ.refl _) rfl;have e2:G+1+(n:Int)=G+n+1:=by omega
 rw[e2]at c2 f2 j2;have Q_:JF (G+n+1) (Cu S st.addr) (jl st.aZ) s'.finish.freed:=by
  refine TH (DY (s:=s') ⟨j2.fw,λr hr=>⟨(j2.rc r hr).1,λe=>⟨((j2.rc r hr).2 e).1,nW hS l1.addr ((j2.rc r hr).2 e).2⟩⟩,j2.on,j2.ow⟩ ((Z8 c2 hS2 rfl).D λd hd=>⟨hd.1,nW hS (l1.trans l2).addr hd.2⟩) (.inl ((NV k).2.trans rfl)) (by omega))
 have c3:=c2.set (fq _) hS2 l3 λz hz'=>by
  cases hz';obtain⟨a,b,c,d⟩:=c2.nd i _ s' hS2 rfl;rw[hA];refine⟨(show s'.finish.freed.me=s'.me from e.me).trans a,by rw[show s'.finish.freed.seq=s'.seq from e.seq];exact b,c,λy hy=>⟨(d y hy).1.set (fq _) hS2 l3,(d y hy).2⟩⟩
 rw[oq]at c3;refine⟨Q_,(l1.trans l2).trans l3,c3,λf hf=> ?_⟩;rw[show s'.finish.freed.aH=s'.aH from e.aH]at hf;have:=(f2 f hf).set (fq _) hS2 l3;rw[oq]at this;exact this
theorem KN:∀(l T:List Int),l.Nodup->(∀a∈l,a∈T)->l.length<=T.length
 | [],_,_,_=>b_ _
 |a::l,T,hn,hs=>by
  obtain⟨h1,h2⟩:=List.nodup_cons.1 hn;have ha:=hs a gm;have:=KN l (T.erase a) h2 λb hb=>(List.mem_erase_of_ne λe=>h1 (by rw[<-e];exact hb)).2 (hs b (iI _ hb));rw[List.length_erase_of_mem ha]at this;have:=List.length_pos_of_mem ha;rw[dY];omega
theorem M7(me:Int)(f:Int->Option Int):∀(ss:List Int) (A:List Rt),A.length+ss.length<=8->(∀a∈ss,a≠me)->(gL f ss).foldl (V5 me) A=A++ss.map λa=>zC (false,a,(f a).getD 0)
 | [],A,_,_=>by simp[gL]
 |a::ss,A,hl,hm=>by
  rw[dY]at hl;have h1:V5 me A (false,a,(f a).getD 0)=A++ [zC (false,a,(f a).getD 0)]:=by
   unfold V5 Cy;have:a≠me:=hm a gm;rw[aM (by simp[this];omega)]
  show(gL f ss).foldl (V5 me) (V5 me A (false,a,(f a).getD 0))=_;rw[h1,M7 me f ss _ (by rw[dx,List.length_singleton];omega) λb hb=>hm b (iI _ hb),List.append_assoc];rfl
theorem XJ(me:Int)(f:Int->Option Int)(c:Option Int)(ss:List Int)(hl:ss.length<=8)(hm:∀a∈ss,a≠me):uq me (dz c++gL f ss)=ss.map λa=>zC (false,a,(f a).getD 0):=by
 unfold uq;rw[List.foldl_append];have h1:(dz c).foldl (V5 me) []=[]:=by
  cases c with
  |none=>rfl
  |some v=>rfl
 rw[h1,M7 me f ss [] (by simpa using hl) hm,List.nil_append]
theorem U5{J:nG}(h:∀r∈J,0<=r.2.2):∀(f:Int->Option Int) (c:Option Int) (o:nG),iR f c o->iR (J.foldl stepM f) (J.foldl lI c) (J.foldl (λo r=>AO o (norm r)) o):=by
 induction J with
 |nil=>intro f c o h;exact h
 |cons y J ih=>
  intro f c o hc;simp only[fQ];exact ih (λz hz=>h z (iI _ hz)) _ _ _ (hc.put y (h y gm))
theorem QF{G:Int}{S:List bG}{i:Nat}{st:bG}(hS:S[i]?=some st)(hz:st.nd=none)(h:CI G S)(hj:JI G (Cu S st.addr) st)(hG0:0<=G)(hG:G+1<4294967295)(now:Int):
  JF (G+1) (Cu S st.addr) (jl st.aZ) (St.new st.addr st.aZ now)∧((St.new st.addr st.aZ now).bn=false->∃L,st.aZ=bB L)∧l6 st {st with nd:=some (St.new st.addr st.aZ now)}∧CI (G+1) (S.set i {st with nd:=some (St.new st.addr st.aZ now)}):=by
 obtain⟨z0,hz0⟩:∃z0,St.raw st.addr st.aZ now=z0:=⟨_,rfl⟩;have e0:=aO z0;have hnew:St.new st.addr st.aZ now=z0.finish:=by rw[St.uy,hz0]
 have hbd:=KH (D:=Cu S st.addr) (G:=G) (jl st.aZ) (λ_=>none) (λd v h=>by cases h) hj.rc;obtain⟨ss,hss,hmem,hcmp⟩:iR (mH (jl st.aZ)) (qJ (jl st.aZ)) (cmpL (jl st.aZ)):=U5 (λr hr=>(hj.rc r hr).1.1) _ _ _ iR.nil;have hD:∀a∈ss,Cu S st.addr a∧∃v,mH (jl st.aZ) a=some v∧0<=v∧v<=G:=λa ha=>by
  obtain⟨v,hv⟩:=Option.isSome_iff_exists.1 ((hmem a).1 ha);have:=hbd a v hv;exact⟨this.1,v,hv,this.2⟩
 have hl8:ss.length<=8:=by
  have h1:=KN ss (S.map (·.addr)) (hss.imp λhab=>by omega) λa ha=>by
   obtain⟨t,ht,e⟩:=(hD a ha).1.2;exact dh.2 ⟨t,ht,e⟩
  rw[iK]at h1;have:=h.len;omega
 have hA:z0.A=ss.map λa=>zC (false,a,(mH (jl st.aZ) a).getD 0):=by
  rw[<-hz0];show uq st.addr (cmpL (jl st.aZ))=_;rw[hcmp];exact XJ _ _ _ _ hl8 λa ha=>(hD a ha).1.1
 have Uk:∀y∈z0.A,∃a v,a∈ss∧mH (jl st.aZ) a=some v∧(0<=v∧v<=G)∧y.dest=a∧y.seq=v+1∧y.hops=0∧y.valid=false:=by
  intro y hy;rw[hA]at hy;obtain⟨a,ha,rfl⟩:=dh.1 hy;obtain⟨_,v,hv,hb⟩:=hD a ha;refine⟨a,v,ha,hv,hb,rfl,?_,rfl,rfl⟩;show gr ((mH (jl st.aZ) a).getD 0)=v+1;rw[hv];exact mh (s:=v) hb.1 (by omega)
 have hasc:Asc z0.A:=by
  rw[hA];unfold Asc;rw[List.pairwise_map];exact hss.imp λhab=>hab
 have hseq:z0.seq=gr ((qJ (jl st.aZ)).getD 0):=by rw[<-hz0];rfl
 have ZL:=Sl hG0 (jl st.aZ) none ⟨fq _,hG0⟩ λr hr=>(hj.rc r hr).1;have T9:0<=z0.seq∧z0.seq<=G+1:=by
  rw[hseq];have:(qJ (jl st.aZ)).getD 0=((jl st.aZ).foldl lI none).getD 0:=rfl;rw[mh (by omega) (by omega)];omega
 have hme:z0.me=st.addr:=by rw[<-hz0];rfl
 have l:l6 st {st with nd:=some z0.finish}:=by
  refine⟨rfl,λd q h' _ e=> ?_⟩;unfold wT at e ⊢;have hvr:vr st d=(mH (jl st.aZ) d).map λq=>(q,0):=by unfold vr;rw[hz]
  rw[hvr]at e;rw[wR (st:={st with nd:=some z0.finish}) rfl,e0.A];cases hd:mH (jl st.aZ) d with
  |none=>rw[hd]at e;cases e
  |some v=>
   rw[hd]at e;have hin:d∈ss:=(hmem d).2 (by rw[hd];rfl);have hy:zC (false,d,(mH (jl st.aZ) d).getD 0)∈z0.A:=by
    rw[hA];exact dh.2 ⟨d,hin,rfl⟩
   have hl:=mV hasc hy;have hb:=(hbd d v hd).2;rw[show aK z0.A d=some (zC (false,d,(mH (jl st.aZ) d).getD 0))from hl,hd];have e':qE (v,0) q h'=true:=e;show qE (gr v - 1,0) q h'=true;rw[mh hb.1 (by omega),show v+1 - 1=v by omega];exact e'
 have hlb:Lb (G+1) (Cu S st.addr) z0:=by
  refine⟨λy hy=> ?_,T9⟩;obtain⟨a,v,ha,hv,hb,e1,e2,_⟩:=Uk y hy;rw[e1,e2];exact⟨(hD a ha).1,by omega,by omega⟩
 have hjm:Jm (G+1) (Cu S st.addr) [] z0:=by
  rw[<-hz0];exact⟨λd v e=>(by cases e),λr hr=>(by cases hr),λd v e=>(by cases e),by show(0:Int)<=0∧(0:Int)<=G+1;omega⟩
 have Q_:=DY hjm hlb (.inr rfl) (by omega);have hrep:st.aZ≠ []->z0.finish.bn=true:=by
  intro hne;have hr:z0.bn=true:=by
   rw[<-hz0];show decide (st.aZ≠ [])=true;simpa using hne
  unfold St.finish;split
  ·rfl
  ·exact hr
 rw[hnew];refine⟨?_,λhr=>⟨[],?_⟩,l,h.set (by omega) hS l λz hz'=> ?_⟩
 ·by_cases hne:st.aZ=[]
  ·rw[hne];exact Q_
  ·refine⟨λd v e=> ?_,Q_.rc,Q_.on,Q_.ow,Q_.ln⟩;have h1:=Q_.fw d v e;rw[hrep hne]at h1 ⊢;exact h1
 ·refine Classical.byContradiction λhne=> ?_;rw[hrep hne]at hr;cases hr
 ·cases hz';rw[e0.A,e0.me,e0.seq];refine⟨hme,T9,hasc,λy hy=> ?_⟩;obtain⟨a,v,ha,hv,hb,e1,e2,e3,e4⟩:=Uk y hy;refine⟨⟨?_,by omega,by omega,λh=>(by rw[e4]at h;cases h),λh=>(by rw[e4]at h;cases h)⟩,by rw[e1];exact(hD a ha).1.1⟩;rw[e1];exact gI (s':={st with nd:=some z0.finish}) hS rfl (hD a ha).1.2
structure QK(S:List bG)(z:St):Prop where
 nd:(z.Q.map (·.dest)).Nodup
 on:∀q∈z.Q,∃t∈S,t.addr=q.dest
theorem QK.len{S:List bG}{z:St}(h:QK S z):z.Q.length<=S.length:=by
 have:=KN (z.Q.map (·.dest)) (S.map (·.addr)) h.nd λa ha=>by
  obtain⟨q,hq,rfl⟩:=dh.1 ha;obtain⟨t,ht,e⟩:=h.on q hq;exact dh.2 ⟨t,ht,e⟩
 rw[iK,iK]at this;exact this
theorem QK.sub{S:List bG}{z z':St}(h:QK S z)(hs:(z'.Q.map (·.dest)).Sublist (z.Q.map (·.dest))):QK S z':=by
 refine⟨List.Pairwise.sublist hs h.nd,λq hq=> ?_⟩;have:=hs.subset (dh.2 ⟨q,hq,rfl⟩);obtain⟨u,hu,e⟩:=dh.1 this;rw[<-e];exact h.on u hu
theorem Ap(Q:List Sr)(q:Sr):(St.bR Q q).map (·.dest)=Q.map (·.dest):=by
 unfold St.bR;rw[List.map_map];refine List.map_congr_left λz _=> ?_;simp only[Function.comp_apply];split
 ·rename_i e;exact e.symm
 ·rfl
theorem yg(s:St)(q:Sr):(s.ask q).Q.map (·.dest)=s.Q.map (·.dest):=by
 obtain⟨o,h1,_⟩:=Eh s q;rw[h1,Ap]
theorem qV(s:St)(d:Int):((s.sendAll d).Q.map (·.dest)).Sublist (s.Q.map (·.dest)):=by
 unfold St.sendAll;split
 ·exact List.Sublist.refl _
 ·split
  ·exact List.filter_sublist.map _
  ·exact List.Sublist.refl _
theorem Ry(s:St)(q:Sr):((s.step q).Q.map (·.dest)).Sublist (s.Q.map (·.dest)):=by
 have ha:∀q:Sr,((s.ask q).Q.map (·.dest)).Sublist (s.Q.map (·.dest)):=λq=>by rw[yg];exact List.Sublist.refl _
 unfold St.step;split
 ·exact qV _ _
 ·split
  ·unfold St.widen;split
   ·exact ha _
   ·split
    ·exact ha _
    ·split
     ·exact ha _
     ·exact List.filter_sublist.map _
  ·exact ha _
theorem Dr:∀(D:List Sr) (s:St),((D.foldl St.step s).Q.map (·.dest)).Sublist (s.Q.map (·.dest))
 | [],_=>List.Sublist.refl _
 |q::D,s=>by
  rw[fQ];exact(Dr D _).trans (Ry s q)
theorem QK.jY{S:List bG}{z:St}(h:QK S z)(now:Int):QK S (z.jY now):=by
 refine h.sub ?_;show(((St.j_ z.Q now).foldl St.step (z.locked.begin now)).finish.Q.map (·.dest)).Sublist _;rw[(aO _).Q];exact Dr _ _
theorem Uo(s:St)(fr:Int)(xs:List Int):((s.hear fr xs).Q.map (·.dest)).Sublist (s.Q.map (·.dest)):=by
 unfold St.hear;split
 ·exact List.Sublist.refl _
 ·unfold St.gF;split
  ·unfold St.dA;split<;>exact List.Sublist.refl _
  ·split
   ·rw[nY];exact List.Sublist.refl _
   ·split
    ·unfold St.dN;split
     ·exact List.Sublist.refl _
     ·dsimp only;split
      ·exact List.Sublist.refl _
      ·split
       ·split
        ·exact qV _ _
        ·exact qV _ _
       ·split
        ·exact List.Sublist.refl _
        ·unfold St.iC;split<;>exact List.Sublist.refl _
    ·split
     ·unfold St.fD;dsimp only;rw[Tp];split<;>exact List.Sublist.refl _
     ·unfold St.dU;split
      ·exact List.Sublist.refl _
      ·split
       ·exact List.Sublist.refl _
       ·split<;>exact List.Sublist.refl _
theorem QK.rcv{S:List bG}{z:St}(h:QK S z)(now fr:Int)(xs:List Int):QK S (z.rcv now fr xs):=by
 refine h.sub ?_;show(((z.locked.begin now).hear fr xs).finish.Q.map (·.dest)).Sublist _;rw[(aO _).Q];exact Uo _ _ _
theorem QK.brk{S:List bG}{z:St}(h:QK S z)(now eu:Int):QK S (z.brk now eu):=h.sub (by rw[(wu z now eu).2.2];exact List.Sublist.refl _)
theorem QK.snd{S:List bG}{z:St}(h:QK S z)(now d:Int)(t:ByteArray)(hd:∃u∈S,u.addr=d):QK S (z.snd now d t):=by
 have e:(z.snd now d t).Q=(if (bH (z.locked.begin now).A d (z.locked.begin now).now).2 then(z.locked.begin now).aN d t else(z.locked.begin now).await d t).Q:=(aO _).Q;have hk:∀s:St,s.Q=z.Q->QK S (s.await d t):=by
  intro s hs;unfold St.await;split
  ·rename_i q hq;refine h.sub ?_;show((St.bR s.Q (s.hold q t).2).map (·.dest)).Sublist _;rw[Ap,hs];exact List.Sublist.refl _
  ·rename_i hn;have hq:∀q∈z.Q,q.dest≠d:=by rw[<-hs];exact xg.1 hn
   refine⟨?_,λq hq'=> ?_⟩
   ·rw[yg];show((s.Q++ [St.h_ d t]).map (·.dest)).Nodup;rw[hs,List.map_append];refine List.nodup_append.2 ⟨h.nd,by simp,λa ha b hb=> ?_⟩;obtain⟨q,hq',rfl⟩:=dh.1 ha;have e2:b=d:=by simpa[St.h_]using hb
    rw[e2];exact hq q hq'
   ·have h1:q.dest∈(({s with Q:=s.Q++ [St.h_ d t]}:St).ask (St.h_ d t)).Q.map (·.dest):=dh.2 ⟨q,hq',rfl⟩;rw[yg]at h1;obtain⟨u,hu,e2⟩:=dh.1 h1;rcases dG.1 (show u∈s.Q++ [St.h_ d t]from hu)with hu|hu
    ·rw[hs]at hu;rw[<-e2];exact h.on u hu
    ·rw[dO]at hu;subst hu;rw[<-e2];exact hd
 refine⟨?_,?_⟩
 ·rw[e];split
  ·rw[(fu _ _ _).1];exact h.nd
  ·exact(hk (z.locked.begin now) rfl).nd
 ·rw[e];split
  ·rw[(fu _ _ _).1];exact h.on
  ·exact(hk (z.locked.begin now) rfl).on
theorem Kv(S:List bG)(me:Int)(xs:List Int)(now:Int):QK S (St.new me xs now):=by
 have e:(St.new me xs now).Q=[]:=(aO (St.raw me xs now)).Q;exact⟨by rw[e];exact List.Pairwise.nil,λq hq=>(by rw[e]at hq;cases hq)⟩
variable{c:sO}{B G G':Int}{e:List Ev}{S0:List bG}{m:aP}{i k n:Nat}{P:kQ}{s s' st:bG}
structure CM(G:Int)(m:aP):Prop where
 ci:CI G m.S
 ji:∀(i:Nat) s,m.S[i]?=some s->JI G (Cu m.S s.addr) s
 fr:∀f∈m.bD,zN G m.S f.1 f.2.2
 nk:Rl m
 qk:∀(i:Nat) s z,m.S[i]?=some s->s.nd=some z->QK m.S z
def Rn(S S':List bG):Prop:=∀(i:Nat) s,S[i]?=some s->∃s',S'[i]?=some s'∧l6 s s'
theorem Rn.refl(S:List bG):Rn S S:=λ_ s h=>⟨s,h,l6.refl s⟩
theorem Rn.set{S:List bG}(h:Rn S0 S){i:Nat}{s s':bG}(hs:S[i]?=some s)(l:l6 s s'):Rn S0 (S.set i s'):=λj t ht=>by
 obtain⟨u,hu,l1⟩:=h j t ht;obtain⟨u',hu',l2⟩:=mW hs l hu;exact⟨u',hu',l1.trans l2⟩
theorem NT{S:List bG}(hs:S[i]?=some s)(e:s'.addr=s.addr){a d:Int}(h:Cu S a d):Cu (S.set i s') a d:=⟨h.1,gI hs e h.2⟩
theorem QK.S{S:List bG}{z:St}(h:QK S z){i:Nat}{s s':bG}(hs:S[i]?=some s)(e:s'.addr=s.addr):QK (S.set i s') z:=⟨h.nd,λq hq=>gI hs e (h.on q hq)⟩
theorem BS(h:CM G m)(hG:G<=G'){i:Nat}{s s':bG}(hS:m.S[i]?=some s)(l:l6 s s')(c:CI G' (m.S.set i s'))(j:JI G' (Cu m.S s'.addr) s')(hk:∀z,s'.nd=some z->NK z∧QK m.S z):CM G' (m.put i s'):=by
 refine⟨c,λk t ht=> ?_,λf hf=>(h.fr f hf).set hG hS l,h.nk.put i λz hz=>(hk z hz).1,λk t z ht hz=> ?_⟩
 ·rcases cO ht with⟨_,rfl⟩|⟨_,ht⟩
  ·exact j.D λd hd=>NT hS l.addr hd
  ·exact((h.ji k t ht).up hG).D λd hd=>NT hS l.addr hd
 ·rcases cO ht with⟨_,rfl⟩|⟨_,ht⟩
  ·exact(hk z hz).2.S hS l.addr
  ·exact(h.qk k t z ht hz).S hS l.addr
theorem RB(ha:s'.addr=s.addr)(hv:∀d,vr s' d=vr s d):l6 s s':=⟨ha,λd q h _ e=>by unfold wT at *;rw[hv];exact e⟩
theorem Xd{z:St}(ha:s'.addr=s.addr)(h:s.nd=some z)(h':s'.nd=some z):l6 s s':=RB ha λd=>by rw[wR h,wR h']
theorem Y6(h:CM G m){i:Nat}{s s':bG}(hS:m.S[i]?=some s)(ha:s'.addr=s.addr)(hn:s'.nd=s.nd)(hj:s'.aZ=s.aZ):CM G (m.put i s')∧l6 s s':=by
 have l:l6 s s':=RB ha λd=>by unfold vr;rw[hn,hj]
 have c:=h.ci.set (fq _) hS l λz hz=>by
  rw[hn]at hz;obtain⟨a,b,c,d⟩:=h.ci.nd i s z hS hz;rw[ha];exact⟨a,b,c,λy hy=>⟨(d y hy).1.set (fq _) hS l,(d y hy).2⟩⟩
 have j:=h.ji i s hS;refine⟨BS h (fq _) hS l c ?_ λz hz=> ?_,l⟩
 ·rw[ha];exact⟨by rw[hj];exact j.rc,by rw[hn,hj];exact j.fl,by rw[hn,hj];exact j.fw,by rw[hn];exact j.on,by rw[hn];exact j.ow,by rw[hn];exact j.ln⟩
 ·rw[hn]at hz;exact⟨h.nk i s z hS hz,h.qk i s z hS hz⟩
def wt(P:kQ):Nat:=P.countP λf=>decide (f.1≠0)
theorem aae(P Q:kQ):wt (P++Q)=wt P+wt Q:=List.countP_append ..
theorem Rp(P:kQ):wt P<=P.length:=List.countP_le_length
def CJ(S0:List bG)(B:Int)(k i:Nat)(z:z_)(P:kQ):Prop:=i<z.1.S.length∧∃G,0<=G∧CM G z.1∧Rn S0 z.1.S∧(∀f∈P,zN G z.1.S i f.2)∧G+3 * (wt P:Int)+400 * (k:Int)<=B
def CIn(S0:List bG)(B:Int)(k:Nat)(z:z_):Prop:=∃G,0<=G∧CM G z.1∧Rn S0 z.1.S∧G+400 * (k:Int)<=B
theorem Z7{z:St}(hS:m.S[i]?=some st)(h:CM G m)(hle:Rn S0 m.S)(hG0:0<=G)(hG:G<=G')(l:l6 st {st with nd:=some z})(c:CI G' (m.S.set i {st with nd:=some z}))(hf:∀f∈z.aH,zN G' (m.S.set i {st with nd:=some z}) i f.2)(Q_:JF G' (Cu m.S st.addr) (jl st.aZ) z)(hfl:z.bn=false->∃L,st.aZ=bB L)(nk:NK z)(qk:QK m.S z)(hP:∀f∈P,zN G m.S i f.2)(hB:G'+3 * ((wt z.aH:Int)+wt P)+400 * (k:Int)<=B):
  N_ (CJ S0 B k i) i (m,e) P {st with nd:=some z} z.ot:=by
 have hrc:=((h.ji i st hS).up hG).rc;have hil:=(fA.1 hS).1;have hi:∀s:bG,i<(m.put i s).S.length:=λs=>by rw[(gP _ _ _).1,List.length_set];exact hil
 have hw0:(0:Int)<=wt z.aH:=Int.natCast_nonneg _;have hP':∀ {s':bG},l6 st s'->∀f∈P,zN G' (m.S.set i s') i f.2:=λl f hf=>(hP f hf).set hG hS l;have hS1:(m.S.set i {st with nd:=some z})[i]?=some {st with nd:=some z}:=List.getElem?_set_self hil;refine⟨λhid=> ?_,λ_ hw=> ?_,λ_ hw=> ?_⟩
 ·exact⟨hi _,G',by omega,BS h hG hS l c (X3 hrc hfl Q_ hid) (λu hu=>by cases hu;exact⟨nk,qk⟩),hle.set hS l,hP' l,by omega⟩
 ·obtain⟨j,hn,ha⟩:=IJ hrc hfl Q_ hw;generalize (bG.write {st with nd:=some z} z.ot).1=s2 at j hn ha ⊢;have l12:l6 {st with nd:=some z} s2:=Xd ha rfl hn;have l2:=l.trans l12;have c2:=c.set (fq _) hS1 l12 λu hu=>by
   rw[hn]at hu;cases hu;obtain⟨a,b,c,d⟩:=c.nd i _ z hS1 rfl;rw[ha];exact⟨a,b,c,λy hy=>⟨(d y hy).1.set (fq _) hS1 l12,(d y hy).2⟩⟩
  rw[oq]at c2;refine⟨hi _,G',by omega,BS h hG hS l2 c2 (by rw[ha];exact j) (λu hu=>by rw[hn]at hu;cases hu;exact⟨nk,qk⟩),hle.set hS l2,λf hf'=> ?_,?_⟩
  ·rcases dG.1 hf' with hf'|hf'
   ·have h1:=(hf f hf').set (fq _) hS1 l12;rw[oq]at h1;exact h1
   ·exact hP' l2 f hf'
  ·rw[show z.ot.aH=z.aH from rfl,aae];omega
 ·obtain⟨j,hn,ha,hm⟩:=X0 hrc hfl Q_.rc hw;generalize (bG.write {st with nd:=some z} z.ot).1=s3 at j hn ha hm ⊢;have l3:l6 st s3:=GN (h.ji i st hS) (λu hu y hy=>((h.ci.nd i st u hS hu).2.2.2 y hy).1) hn ha hm;have c3:=h.ci.set hG hS l3 λu hu=>by rw[hn]at hu;cases hu
  exact⟨hi _,G',by omega,BS h hG hS l3 c3 (by rw[ha];exact j) (λu hu=>by rw[hn]at hu;cases hu),hle.set hS l3,hP' l3,by omega⟩
theorem FN{s s':St}(k:fV c n s s'):s'.aH.length<=s.aH.length+n:=by
 induction k with
 |nil=>exact Nat.le_add_right _ _
 |snoc _ k ih=>
  refine dH ?_ (Nat.add_le_add_right ih 1);cases k with
  |zy e=>rw[e.aH];exact Nat.le_succ _
  |tab _=>exact Nat.le_succ _
  |aI t p L _ _=>
   show(_++ [_]).length<=_;rw[dx];exact aA _
  |grw=>exact Nat.le_succ _
  |mx _ _ _ _=>exact Nat.le_succ _
  |wr=>exact Nat.le_succ _
theorem H8{D:Int->Prop}{z z':St}(h:JI G D st)(hz:st.nd=some z):z'.bn=false->∃L,st.aZ=bB L:=λ_=>h.fl z hz
theorem zX{z s':St}{w:Nat}{now:Int}(hB4:B<4294967295)(hS:m.S[i]?=some st)(hz:st.nd=some z)(h:CM G m)(hle:Rn S0 m.S)(hG0:0<=G)(hc:QX G m.S z.me c)(kk:fV c n (z.locked.begin now) s')(nk:NK s'.finish.freed)(qk:QK m.S s'.finish.freed)(hP:∀f∈P,zN G m.S i f.2)(hw:wt s'.finish.freed.aH<=w)(hB:G+n+1+3 * ((w:Int)+wt P)+400 * (k:Int)<=B):
  N_ (CJ S0 B k i) i (m,e) P {st with nd:=some s'.finish.freed} s'.finish.freed.ot:=by
 have hp0:(0:Int)<=wt P:=Int.natCast_nonneg _;have hw0:(0:Int)<=w:=Int.natCast_nonneg _;have hk0:(0:Int)<=k:=Int.natCast_nonneg _;obtain⟨a1,a2,a3,a4⟩:=QD hS hz h.ci hc hG0 (by omega) (h.ji i st hS) kk;exact Z7 hS h hle hG0 (by omega) a2 a3 a4 a1 (H8 (h.ji i st hS) hz) nk qk hP (by omega)
theorem vT{S:List bG}{me:Int}:QX G S me none:=λfr p L h=>by cases h
theorem DC(m:aP)(i:Nat)(f:Int×ByteArray):∀g∈(m.bK i f).bD,g∈m.bD∨∃j,g=(i,j,f.2):=by
 unfold aP.bK;generalize m.heard i f.1=l
 induction l generalizing m with
 |nil=>exact λg hg=> .inl hg
 |cons a l ih=>
  intro g hg;rw[fQ]at hg;rcases ih _ g hg with h|h
  ·have h1:∀g∈m.bD++ [(i,a,f.2)],g∈m.bD∨∃j,g=(i,j,f.2):=λg hg=>by
    rcases dG.1 hg with hg|hg
    ·exact .inl hg
    ·exact .inr ⟨a,dO.1 hg⟩
   unfold aP.launch at h;dsimp only at h;split at h
   ·exact h1 g (List.mem_of_mem_tail h)
   ·exact h1 g h
  ·exact .inr h
theorem x_{m':aP}(h:CM G m)(hS:m'.S=m.S)(ha:∀g∈m'.bD,zN G m.S g.1 g.2.2):CM G m':=by
 refine⟨by rw[hS];exact h.ci,?_,?_,h.nk.S hS,?_⟩
 ·rw[hS];exact h.ji
 ·rw[hS];exact ha
 ·rw[hS];exact h.qk
theorem aci(S0:List bG){B:Int}(hB4:B<4294967295)(k i:Nat):VW (CJ S0 B k i) i:=by
 have hse:∀m e f P,CJ S0 B k i (m,e) (f::P)->∃G,0<=G∧CM G (m.bK i f)∧Rn S0 (m.bK i f).S∧i<(m.bK i f).S.length∧(∀g∈P,zN G (m.bK i f).S i g.2)∧G+3 * (wt (f::P):Int)+400 * (k:Int)<=B:=by
  rintro m e f P ⟨hi,G,hG0,h,hle,hf,hb⟩;have hS:=(iP m i f).1;refine⟨G,hG0,x_ h hS λg hg=> ?_,by rw[hS];exact hle,by rw[hS];exact hi,λg hg=>by rw[hS];exact hf g (iI _ hg),hb⟩;rcases DC m i f g hg with hg|⟨j,rfl⟩
  ·exact h.fr g hg
  ·exact hf f gm
 refine⟨λm e f P hj=> ?_,λm e P f s z hj hf0 _ hs hz=> ?_⟩
 ·obtain⟨G,h0,h1,h2,h3,h4,h5⟩:=hse m e f P hj;have:wt P<=wt (f::P):=List.Sublist.countP_le (List.sublist_cons_self _ _);exact⟨h3,G,h0,h1,h2,h4,by omega⟩
 ·obtain⟨G,h0,h1,h2,h3,h4,h5⟩:=hse m e f P hj;have hw:wt (f::P)=wt P+1:=by
   unfold wt;rw[List.countP_cons,aM (by simpa using hf0)]
  obtain⟨s',k1,k2⟩:=F6 z m.now f.1;have nk:=((h1.nk i s z hs hz).brk m.now f.1).1;have qk:=(h1.qk i s z hs hz).brk m.now f.1;have hfr:=NZ z m.now f.1;rw[k2]at nk qk hfr ⊢;refine zX hB4 hs hz h1 h2 h0 vT k1 nk qk h4 (w:=0) ?_ (by omega);refine Nat.le_of_eq (List.countP_eq_zero.2 λg hg=> ?_);simpa using hfr g hg
theorem CM.zero(_:CM G m){j:Nat}(h0:(m.at' j).addr≠0):∃s,m.S[j]?=some s∧m.at' j=s:=by
 cases hs:m.S[j]? with
 |some s=>exact⟨s,rfl,dX hs⟩
 |none=>
  exfalso;apply h0;unfold aP.at';rw[List.getD_eq_getElem?_getD,hs];rfl
theorem XV{xs:List Int}(h:qC xs=true):(ZH xs).length<=8:=by
 match xs,h with
 |x0::x1::x2::x3::x4::r,h=>
  simp only[qC,eG]at h;show(ng x1 x4 r).length<=8;unfold ng;split
  ·rename_i e;have h3:=(eZ h.2).2.2.2.2.2.2;rw[EM]at h3;have hln:(iZ x0 x1 x2 x4 r).ln=x4.toNat:=by
    subst e;rfl
   rw[hln]at h3;unfold qB;rw[iK,List.length_range];omega
  ·exact b_ _
theorem abg(h:CM G m)(hG0:0<=G){me:Int}{j:Nat}{b:ByteArray}(hf:zN G m.S j b)(hF:qC (ak b)=true)(h0:(m.at' j).addr≠0)(hme:(m.at' j).addr≠me):QX G m.S me (Nv (m.at' j).addr (ak b)):=by
 intro fr p L hc;rw[abf]at hc;cases hc;obtain⟨s,hs,e⟩:=h.zero h0;have hw:=hf.whole hF;rw[e]at hme ⊢;have hgood:(pJ (ak b)).fe=true:=by
  match hx:ak b,hF with
  |x0::x1::x2::x3::x4::r,hF=>
   simp only[qC,eG]at hF;exact hF.2
 obtain⟨hl,t0,t1,_,_,_,hk⟩:=eZ hgood;refine⟨hme,t0,?_,?_,j,s,hs,rfl,hw⟩
 ·rcases hk with hk|hk|hk|hk
  ·exact(hw.k1 hk).2.2.2.1
  ·exact(hw.k2 hk).2.2.1
  ·have hd:(pJ (ak b)).aX=0:=by
    simp only[aC.yJ,yh,eG,iL]at hl;rw[hl.2.2.2.2.2.2.2.1];unfold aC.dz;rw[hk];rfl
   omega
  ·have hd:(pJ (ak b)).aX=0:=by
    simp only[aC.yJ,yh,eG,iL]at hl;rw[hl.2.2.2.2.2.2.2.1];unfold aC.dz;rw[hk.1];rfl
   omega
 ·intro x hx;by_cases hk3:(pJ (ak b)).kind=3
  ·exact(hw.k3 hk3 x hx).2
  ·exfalso;have hkk:(pJ (ak b)).kind=(ak b).getD 1 0:=EM _ _ _ _ _;rw[hkk]at hk3;unfold ZH ng at hx;rw[aG hk3]at hx;cases hx
theorem Y5(S0:List bG){B:Int}(hB4:B<4294967295)(o:Op)(ho:o.dK≠8):Ce (CIn S0 B) (CJ S0 B) o:=by
 have hlt:∀ {m:aP} {i:Nat} {s:bG},m.S[i]?=some s->i<m.S.length:=λh=>(fA.1 h).1;have hsame:∀(k0:Nat) (m:aP) (e:List Ev) (i:Nat) (s s':bG),m.S[i]?=some s->s'.addr=s.addr->s'.nd=s.nd->s'.aZ=s.aZ->CIn S0 B k0 (m,e)->CIn S0 B k0 (m.put i s',e):=by
  rintro k0 m e i s s' hS ha hn hj ⟨G,h0,h1,h2,h3⟩;obtain⟨c,l⟩:=Y6 h1 hS ha hn hj;exact⟨G,h0,c,h2.set hS l,h3⟩
 refine⟨?_,?_,λk i=>aci S0 hB4 k i,λ_ m e a r h=>h,?_,?_,?_,?_,?_,?_,?_,?_,?_,?_,?_,?_⟩
 ·rintro k z ⟨G,h0,h1,h2,h3⟩;exact⟨G,h0,h1,h2,by omega⟩
 ·rintro k i z ⟨_,G,h0,h1,h2,_,h3⟩;have:(0:Int)<=wt []:=Int.natCast_nonneg _;exact⟨G,h0,h1,h2,by omega⟩
 ·intro k0 m e a b ha hb _ h;unfold aP.link;split
  ·exact h
  ·have hsa:=cK ha;have h1:=hsame k0 m e a _ {m.at' a with hrs:=(m.at' a).hrs.set b o.on} hsa (by rw[dX hsa]) (by rw[dX hsa]) (by rw[dX hsa]) h;have hb':b<(m.put a {m.at' a with hrs:=(m.at' a).hrs.set b o.on}).S.length:=by rw[(gP _ _ _).1,List.length_set];exact hb
   have hsb:=cK hb';exact hsame k0 _ e b _ _ hsb (by rw[dX hsb]) (by rw[dX hsb]) (by rw[dX hsb]) h1
 ·rintro m e a b s z hs hz hb _ _ _ _ _ _ ⟨G,h0,h1,h2,h3⟩;have hbs:=cK hb;have hbd:∃u∈m.S,u.addr=(m.at' b).addr:=⟨_,gH hbs,by rw[dX hbs]⟩;have nk:=((h1.nk a s z hs hz).snd m.now (m.at' b).addr o.txt).1;have qk:=(h1.qk a s z hs hz).snd m.now (m.at' b).addr o.txt hbd;have hk:∃n s',n<=7∧fV none n (z.locked.begin m.now) s'∧z.snd m.now (m.at' b).addr o.txt=s'.finish.freed:=by
   unfold St.snd St.sends;dsimp only;split
   ·exact⟨3,_,by omega,pI none _ _ _,rfl⟩
   ·exact⟨7,_,by omega,DK none _ _ _,rfl⟩
  obtain⟨n,s',hn,k1,k2⟩:=hk;rw[k2]at nk qk ⊢;have hfl:=FN k1;have hfr:s'.finish.freed.aH=s'.aH:=(aO s').aH;refine zX hB4 hs hz h1 h2 h0 vT k1 nk qk (λf hf=>by cases hf) (w:=n) ?_ ?_
  ·refine dH (Rp _) ?_;rw[hfr];have:(z.locked.begin m.now).aH.length=0:=rfl;omega
  ·have:(wt []:Int)=0:=rfl;omega
 ·rintro m e _ _ _ ⟨G,h0,h1,h2,h3⟩;exact⟨G,h0,x_ h1 rfl h1.fr,h2,by omega⟩
 ·rintro k0 m e i s z hs hz _ ⟨G,h0,h1,h2,h3⟩;have nk0:=h1.nk i s z hs hz;have qk0:=h1.qk i s z hs hz;have nk:=(nk0.jY m.now).1;have qk:=qk0.jY m.now;obtain⟨s',k1,k2⟩:=zO z m.now nk0.Kh;have hd:=UW z.Q m.now;have hq:=qk0.len;have hl:=h1.ci.len;rw[k2]at nk qk ⊢;have hfl:=FN k1;have hfr:s'.finish.freed.aH=s'.aH:=(aO s').aH;refine zX hB4 hs hz h1 h2 h0 vT k1 nk qk (λf hf=>by cases hf) (w:=13 * (St.j_ z.Q m.now).length) ?_ ?_
  ·refine dH (Rp _) ?_;rw[hfr];have:(z.locked.begin m.now).aH.length=0:=rfl;omega
  ·have:(wt []:Int)=0:=rfl;omega
 ·rintro k0 m e k f _ _ ⟨G,h0,h1,h2,h3⟩;exact⟨G,h0,x_ h1 rfl λg hg=>h1.fr g (List.mem_of_mem_eraseIdx hg),h2,h3⟩
 ·rintro k0 m e k f s z hf hs hz _ ⟨G,h0,h1,h2,h3⟩;have hm:CM G {m with bD:=m.bD.eraseIdx k}:=x_ h1 rfl λg hg=>h1.fr g (List.mem_of_mem_eraseIdx hg);have nk0:=h1.nk f.2.1 s z hs hz;have qk0:=h1.qk f.2.1 s z hs hz;have nk:=(nk0.rcv m.now (m.at' f.1).addr (ak f.2.2) (mE _)).1;have qk:=qk0.rcv m.now (m.at' f.1).addr (ak f.2.2);have hk:∃n c s',n<=23∧QX G m.S z.me c∧fV c n (z.locked.begin m.now) s'∧z.rcv m.now (m.at' f.1).addr (ak f.2.2)=s'.finish.freed:=by
   by_cases hb:qC (ak f.2.2)=false∨(m.at' f.1).addr=0∨(m.at' f.1).addr=z.me
   ·refine⟨1,none,(z.locked.begin m.now).drop 0,by omega,vT,fK none _ 0,?_⟩;show((z.locked.begin m.now).hear _ _).finish.freed=_;have hb':qC (ak f.2.2)=false∨(m.at' f.1).addr=0∨(m.at' f.1).addr=(z.locked.begin m.now).me:=hb;unfold St.hear;rw[aM hb']
   ·have hb':=hb;simp only[not_or]at hb';have hF:qC (ak f.2.2)=true:=by simpa using hb'.1
    refine⟨_,_,_,?_,abg h1 h0 (h1.fr f (gH hf)) hF hb'.2.1 hb'.2.2,Hq (z.locked.begin m.now) (m.at' f.1).addr (ak f.2.2) (λq hq=>(nk0.Kh q hq).1) (Jk z.A m.now),rfl⟩;have:=XV hF;unfold ZH at this;omega
  obtain⟨n,c,s',hn,hc,k1,k2⟩:=hk;rw[k2]at nk qk ⊢;have hfl:=FN k1;have hfr:s'.finish.freed.aH=s'.aH:=(aO s').aH;refine zX (m:={m with bD:=m.bD.eraseIdx k}) hB4 hs hz hm h2 h0 hc k1 nk qk (λf hf=>by cases hf) (w:=n) ?_ ?_
  ·refine dH (Rp _) ?_;rw[hfr];have:(z.locked.begin m.now).aH.length=0:=rfl;omega
  ·have:(wt []:Int)=0:=rfl;omega
 ·rintro k0 m e k f hf _ ⟨G,h0,h1,h2,h3⟩;refine⟨G,h0,x_ h1 rfl λg hg=> ?_,h2,h3⟩;have ha:∀g∈m.bD++ [f],zN G m.S g.1 g.2.2:=λg hg=>by
   rcases dG.1 hg with hg|hg
   ·exact h1.fr g hg
   ·rw[dO]at hg;subst hg;exact h1.fr g (gH hf)
  have hg':g∈(m.launch f).bD:=hg;unfold aP.launch at hg';dsimp only at hg';split at hg'
  ·exact ha g (List.mem_of_mem_tail hg')
  ·exact ha g hg'
 ·rintro k0 m e k f n hf _ _ ⟨G,h0,h1,h2,h3⟩;refine⟨G,h0,x_ h1 rfl λg hg=> ?_,h2,h3⟩;rcases List.mem_or_eq_of_mem_set hg with hg|rfl
  ·exact h1.fr g hg
  ·exact(h1.fr f (gH hf)).cut n
 ·intro k0 m e a b s z _ _ _ h8 _;exact absurd h8 ho
 ·rintro k0 m e a s hs ⟨G,h0,h1,h2,h3⟩;have l:l6 s s.stop:=GN (h1.ji a s hs) (λu hu y hy=>((h1.ci.nd a s u hs hu).2.2.2 y hy).1) rfl rfl λd v h=>h;have j:=h1.ji a s hs;exact⟨G,h0,BS h1 (fq _) hs l (h1.ci.set (fq _) hs l λz hz=>by cases hz) ⟨j.rc,λz hz=>(by cases hz),λz hz=>(by cases hz),λz hz=>(by cases hz),λz hz=>(by cases hz),λz hz=>(by cases hz)⟩ (λz hz=>by cases hz),h2.set hs l,h3⟩
 ·intro k0 m e a s n hs h;exact hsame k0 m e a s _ hs rfl rfl rfl h
 ·rintro k0 m e a s hs hz ⟨G,h0,h1,h2,h3⟩;obtain⟨a1,a2,a3,a4⟩:=QF hs hz h1.ci (h1.ji a s hs) h0 (by omega) m.now;obtain⟨nk,hf0⟩:=E5 s.addr s.aZ m.now;refine Z7 hs h1 h2 h0 (by omega) a3 a4 (by rw[hf0];exact λf hf=>by cases hf) a1 a2 nk (Kv _ _ _ _) (λf hf=>by cases hf) ?_;rw[hf0];have:(wt []:Int)=0:=rfl;omega
theorem CM.step(h:CM G m)(hG0:0<=G)(hG:G+2800<4294967295)(hfl:∀f∈m.bD,f.2.1<m.S.length)(o:Op)(ho:o.dK≠8):∃G',0<=G'∧G'<=G+2800∧CM G' (m.step o).1∧Rn m.S (m.step o).1.S:=by
 obtain⟨G',h0,h1,h2,h3⟩:=vv (Y5 m.S (B:=G+2800) (by omega) o ho) (e:=[]) hfl (n:=7) (by have:=h.ci.len;omega) ⟨G,hG0,h,Rn.refl _,by omega⟩;exact⟨G',h0,by omega,h1,h2⟩
theorem xI:∀ {L:List Int},L.Nodup->∀(i j:Nat) (a:Int),L[i]?=some a->L[j]?=some a->i=j
 | [],_,_,_,_,h,_=>by cases h
 |x::L,hn,i,j,a,hi,hj=>by
  rw[List.nodup_cons]at hn;cases i with
  |zero=>
   cases j with
   |zero=>rfl
   |succ j=>
    cases hi;exact absurd (gH (show L[j]?=some x from hj)) hn.1
  |succ i=>
   cases j with
   |zero=>
    cases hj;exact absurd (gH (show L[i]?=some x from hi)) hn.1
   |succ j=>rw[xI hn.2 i j a hi hj]
theorem acg{L:List Int}(hn:L.length<=6)(hU:∀a∈L,a_ a)(h0:∀a∈L,a≠0)(hd:L.Nodup):CM 1 (aP.new L):=by
 have hst:∀(i:Nat) s,(aP.new L).S[i]?=some s->∃a,L[i]?=some a∧s=Dv a:=by
  intro i s hs;have h1:(L.map Dv)[i]?=some s:=hs;rw[jQ]at h1;cases ha:L[i]? with
  |none=>rw[ha]at h1;cases h1
  |some a=>rw[ha]at h1;exact⟨a,rfl,(Option.some.inj h1).symm⟩
 have hnd:∀a z,(Dv a).nd=some z->z.A=[]∧z.seq=1∧z.me=a∧(z.f=λ_=>none)∧z.own=1∧z=St.new a [] 0:=by
  intro a z hz;cases hz;exact⟨rfl,rfl,rfl,rfl,rfl,rfl⟩
 have hnw:∀a,(St.new a [] 0).bg=[(true,0,1)]:=λa=>rfl;refine⟨⟨by rw[E9];exact hn,λs hs=> ?_,λi j s t hs ht e=> ?_,λi s z hs hz=> ?_⟩,λi s hs=> ?_,λf hf=>(by cases hf),(UK hn hU h0).2,λi s z hs hz=> ?_⟩
 ·obtain⟨i,hi⟩:=List.getElem?_of_mem hs;obtain⟨a,ha,rfl⟩:=hst i s hi;exact⟨hU a (gH ha),h0 a (gH ha)⟩
 ·obtain⟨a,ha,rfl⟩:=hst i s hs;obtain⟨b,hb,rfl⟩:=hst j t ht;have e':a=b:=e;subst e';exact xI hd i j a ha hb
 ·obtain⟨a,ha,rfl⟩:=hst i s hs;obtain⟨e1,e2,e3,_⟩:=hnd a z hz;rw[e1,e2,e3];exact⟨rfl,by omega,List.Pairwise.nil,λy hy=>(by cases hy)⟩
 ·obtain⟨a,ha,rfl⟩:=hst i s hs;have hj:jl (Dv a).aZ=[(true,0,1)]:=by
   show jl (bB (St.new a [] 0).bg)=_;rw[hnw,xM];rfl
  refine⟨λr hr=> ?_,λz hz=>⟨_,rfl⟩,λz hz d v e=> ?_,λz hz d v e=> ?_,λz hz=> ?_,λz hz y hy=> ?_⟩
  ·rw[hj,dO]at hr;subst hr;exact⟨by dsimp only;omega,λh=>(by cases h)⟩
  ·obtain⟨_,_,_,e4,_⟩:=hnd a z hz;rw[e4]at e;cases e
  ·obtain⟨_,_,_,e4,_⟩:=hnd a z hz;rw[e4]at e;cases e
  ·obtain⟨_,_,_,_,e5,_⟩:=hnd a z hz;rw[e5];omega
  ·obtain⟨e1,_⟩:=hnd a z hz;rw[e1]at hy;cases hy
 ·obtain⟨a,ha,rfl⟩:=hst i s hs;obtain⟨_,_,_,_,_,e6⟩:=hnd a z hz;rw[e6];exact Kv _ _ _ _
end Go.Proofs.YtakaadcpaeiccabGreat
