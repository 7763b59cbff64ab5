import Derived.Test.YtakaadcpaeiccabGreatV17
set_option maxHeartbeats 4000000
set_option maxRecDepth 100000
namespace Go.Proofs.YtakaadcpaeiccabGreat
open Go.RowKit Go.Maps Go.MuLone
variable{J:List (Bool×Int×Int)}{A:List Rt}{B M T b:Nat}{v:Value}{W W':World}
theorem XY(h:qg J):∀(f:Int->Option Int) (c:Option Int) (o:List (Bool×Int×Int)),kg f c o->kg (J.foldl stepM f) (J.foldl pX c) (J.foldl (λo r=>BP o (norm r)) o):=by
 induction J with
 |nil=>intro f c o h;exact h
 |cons y J ih=>
  intro f c o hc;simp only[gZ];exact ih (λz hz=>h z (lU _ hz)) _ _ _ (hc.put y (Lh h (jT ..)).2.1)
theorem MQ(h:qg J):kg (BU J) (sD J) (cmpL J):=XY h _ _ _ kg.nil
theorem Gv(h:qg J):a_ ((sD J).getD 0):=by
 have:∀(J:List (Bool×Int×Int)) (c:Option Int),qg J->OB c->OB (J.foldl pX c):=by
  intro J
  induction J with
  |nil=>intro c _ h;exact h
  |cons y J ih=>
   intro c hJ hc;rw[gZ];exact ih _ (λz hz=>hJ z (lU _ hz)) (hc.step (Lh hJ (jT ..)).2)
 exact(this J none h Rj).getD
def St.raw(me:Int)(xs:List Int)(now:Int):St:=
 ⟨me,gr ((sD (jl xs)).getD 0),if xs=[]then 0 else now+2000,0,0,wS me (cmpL (jl xs)),[],0,λ_=>none,0,0,[],0,[],now,[],[],[],[],decide (xs≠ []),0⟩
theorem St.uf(me:Int)(xs:List Int)(now:Int):St.new me xs now=(St.raw me xs now).finish:=rfl
theorem Qj:a_ 0:=by unfold a_;omega
theorem Li{me:Int}{xs:List Int}{now:Int}(hU:a_ me)(hbd:qg (jl xs))(di:0<=now∧now<=4611686018427387904):(St.raw me xs now).Mid 0 0:=
 ⟨hU,uz (Gv hbd),di,λ_ h=>(by cases h),⟨λ_ _ h=>(by cases h),λ_ h=>(by cases h),Qj⟩,by dsimp only[St.raw];omega,aB _,λ_ h=>(by cases h),aB _,aB _,aB _,by dsimp only[St.raw];omega,by dsimp only[St.raw];omega,dm _,List.Pairwise.nil,λ_ h=>(by cases h),λ_ h=>(by cases h)⟩
theorem TR.lower{base:Nat}{last:Int}{h:List Hp.Tm}(r:TR base T M last h v W)(hb:b<=base):TR b T M last h v W:=
 ⟨r.blk,ownsRow_base_a r.row hb,r.map,r.ok,dN hb r.bT,dN hb r.bM⟩
theorem MT.later'{me:Int}{f:Int->Option Nat}{g:Int->Value}(h:MT me T M f g A W)(hb:Below W.heap.size W W'):MT me T M f g A W':=h.kept λk hk=>hb.block k (h.lt hk)
theorem TR.later'{last:Int}{h:List Hp.Tm}(r:TR b T M last h v W)(hb:Below W.heap.size W W'):TR b T M last h v W':=
 r.at (hb.block _ r.blk.lt) (by obtain⟨f,p1,_⟩:=r.map;exact hb.block _ p1.lt) λk hk=>hb.block _ (r.row.lt k hk).2
theorem GI(w:World):
  Calls Tryz.prog 45 #[] w λe w'=>∃Ms,e=.returned (.agg #[.map (some Ms),.int .i64 0])∧Below w.heap.size w w'∧xN Ms 0 [] w'∧w.heap.size<=Ms:=by
 have hmm:=@run_makeMap Tryz.prog;have jE:Below w.heap.size w (w.alloc (.cells #[.map (some (w.heap.size+1)),.int .i64 0] 113)):=bC;have hb:Below w.heap.size w ((w.alloc (.cells #[.map (some (w.heap.size+1)),.int .i64 0] 113)).alloc (.map #[] 0)):=jE.alloc jE.size _;have hC:((w.alloc (.cells #[.map (some (w.heap.size+1)),.int .i64 0] 113)).alloc (.map #[] 0)).heap[w.heap.size]?=some (.cells #[.map (some (w.heap.size+1)),.int .i64 0] 113):=(((aV _ (w.alloc (.cells #[.map (some (w.heap.size+1)),.int .i64 0] 113))).alloc (aB _) _).block w.heap.size (by simp)).trans (bV _ _);have hM:=xN.made (w.alloc (.cells #[.map (some (w.heap.size+1)),.int .i64 0] 113));rw[World.size_alloc]at hM;go_enter Tryz.func45,Tryz.ntmps45;go_wp2;generalize World.alloc (World.alloc _ _) _=W at hb hC hM ⊢;have p0:W.cell? ⟨w.heap.size,0,none⟩=some (.map (some (w.heap.size+1))):=aJ _ _ 0 _ _ _ hC;have p1:W.cell? ⟨w.heap.size,1,none⟩=some (.int .i64 0):=aJ _ _ 1 _ _ _ hC;exact bodyPost_ret (v:=.agg #[.map (some (w.heap.size+1)),.int .i64 0]) (by simp[results,Tryz.results45,go_sem,p0,p1]) rfl ⟨_,rfl,hb,hM,Nat.le_succ _⟩
theorem En(w:World):
  Calls Tryz.prog 46 #[] w λe w'=>∃Mo,e=.returned (.agg #[.int .u32 0,.map (some Mo),.int .i64 0])∧Below w.heap.size w w'∧MapU w' Mo (λ_=>none) 0∧w.heap.size<=Mo:=by
 have hmm:=@run_makeMap Tryz.prog;have jE:Below w.heap.size w (w.alloc (.cells #[.int .u32 0,.map (some (w.heap.size+1)),.int .i64 0] 117)):=bC;have hb:Below w.heap.size w ((w.alloc (.cells #[.int .u32 0,.map (some (w.heap.size+1)),.int .i64 0] 117)).alloc (.map #[] 0)):=jE.alloc jE.size _;have hC:((w.alloc (.cells #[.int .u32 0,.map (some (w.heap.size+1)),.int .i64 0] 117)).alloc (.map #[] 0)).heap[w.heap.size]?=some (.cells #[.int .u32 0,.map (some (w.heap.size+1)),.int .i64 0] 117):=(((aV _ (w.alloc (.cells #[.int .u32 0,.map (some (w.heap.size+1)),.int .i64 0] 117))).alloc (aB _) _).block w.heap.size (by simp)).trans (bV _ _);have hM:=MapU.made (w.alloc (.cells #[.int .u32 0,.map (some (w.heap.size+1)),.int .i64 0] 117));rw[World.size_alloc]at hM;go_enter Tryz.func46,Tryz.ntmps46;go_wp2;generalize World.alloc (World.alloc _ _) _=W at hb hC hM ⊢;have p0:W.cell? ⟨w.heap.size,0,none⟩=some (.int .u32 0):=aJ _ _ 0 _ _ _ hC;have p1:W.cell? ⟨w.heap.size,1,none⟩=some (.map (some (w.heap.size+1))):=aJ _ _ 1 _ _ _ hC;have p2:W.cell? ⟨w.heap.size,2,none⟩=some (.int .i64 0):=aJ _ _ 2 _ _ _ hC;exact bodyPost_ret (v:=.agg #[.int .u32 0,.map (some (w.heap.size+1)),.int .i64 0]) (by simp[results,Tryz.results46,go_sem,p0,p1,p2]) rfl ⟨_,rfl,hb,hM,Nat.le_succ _⟩
def ae1(s:St)(w:World)(e:Ending)(w':World):Prop:=
 ∃N g aH bO bP,e=.returned (.tuple #[.pointer (some ⟨N,0,none⟩),jg s.bH s.bB aH bO bP,.int .i64 0])∧Nn N g s [] w'∧w'.ownsRow w.heap.size 77 2 aH s.aF.length (uH s.aF)∧w'.ownsRow w.heap.size 56 2 bO s.aO.length (uH s.aO)∧w'.ownsRow w.heap.size 195 1 bP s.aP.length (Jj s.aP)∧Below w.heap.size w w'∧∀k,Ft N g s k->w.heap.size<=k
theorem Wv{me q:Int}{Ms Mo Mr:Nat}{ff:Int->Option Nat}{gg:Int->Value}{w9:World}(now:Int)(hMT:MT me T M ff gg A w9)(Jd:xN Ms 0 [] w9)(OP:MapU w9 Mo (λ_=>none) 0)(Xm:fG w9 Mr (λ_=>none) 0)(P8:TR 0 (B+1) B 0 [] (.slice none 0 0) w9)(h1:M<Ms)(h2:Ms<Mo)(h3:Mo<Mr)(h4:Mr<B):
  Nd w9.heap.size (w9.heap.size+1) ⟨⟨0,me,q,0,T,Ms,0,0,Mo,0,0,0,Mr,B+1,.slice none 0 0⟩,FO now,M,ff,gg,0,λ_=>none,λ_=> .slice none 0 0,B,[],.slice none 0 0⟩ ⟨me,q,0,0,0,A,[],0,λ_=>none,0,0,[],0,[],now,[],[],[],[],false,0⟩ [] ((w9.alloc (oG ⟨0,me,q,0,T,Ms,0,0,Mo,0,0,0,Mr,B+1,.slice none 0 0⟩)).alloc (oN (FO now))):=by
 have hb1:Below w9.heap.size w9 (w9.alloc (oG ⟨0,me,q,0,T,Ms,0,0,Mo,0,0,0,Mr,B+1,.slice none 0 0⟩)):=bC;have hn1:=bV w9 (oG ⟨0,me,q,0,T,Ms,0,0,Mo,0,0,0,Mr,B+1,.slice none 0 0⟩);have hsz:(w9.alloc (oG ⟨0,me,q,0,T,Ms,0,0,Mo,0,0,0,Mr,B+1,.slice none 0 0⟩)).heap.size=w9.heap.size+1:=by simp
 generalize w9.alloc (oG ⟨0,me,q,0,T,Ms,0,0,Mo,0,0,0,Mr,B+1,.slice none 0 0⟩)=W1 at hb1 hn1 hsz ⊢;have nn1:Nn w9.heap.size ⟨⟨0,me,q,0,T,Ms,0,0,Mo,0,0,0,Mr,B+1,.slice none 0 0⟩,FO now,M,ff,gg,0,λ_=>none,λ_=> .slice none 0 0,B,[],.slice none 0 0⟩ ⟨me,q,0,0,0,A,[],0,λ_=>none,0,0,[],0,[],now,[],[],[],[],false,0⟩ [] W1:=
  ⟨⟨hn1,OP.block (hb1.block _ OP.lt),hMT.later' hb1,by dsimp only;omega⟩,⟨rfl,rfl,rfl,rfl,rfl,rfl,rfl,rfl,rfl⟩,
  ⟨Jd.block (hb1.block _ Jd.lt),⟨Xm.block (hb1.block _ Xm.lt),List.Pairwise.nil,λ_ h=>(by cases h),λ_ _ _ h=>(by cases h),λ_ h=>(by cases h),λ_ h=>(by cases h),λ_ h=>(by cases h),dm _⟩,P8.later' hb1,(λ_ _ h=>absurd h (Nat.not_lt_zero _)),List.Perm.refl _,⟨rfl,.inl ⟨rfl,rfl⟩⟩⟩,
  by
   have e1:M≠Mo:=by omega
   have e2:M≠Ms:=by omega
   have e3:M≠Mr:=by omega
   have e4:M≠B:=by omega
   have e5:Mo≠Ms:=by omega
   have e6:Mo≠Mr:=by omega
   have e7:Mo≠B:=by omega
   have e8:Ms≠Mr:=by omega
   have e9:Ms≠B:=by omega
   have e10:Mr≠B:=by omega
   simp[e1,e2,e3,e4,e5,e6,e7,e8,e9,e10],by dsimp only;omega⟩
 have hb2:Below W1.heap.size W1 (W1.alloc (oN (FO now))):=bC;have ha:=jP.zero now W1;rw[hsz]at ha;exact⟨nn1.later hb2,ha,rfl,rfl⟩
theorem jP.Ju{base:Nat}{a:qh}{bg:List (Bool×Int×Int)}{aF aO:List (Int×ByteArray)}{aP:List Int}(h:jP B base a bg aF aO aP W)(b:Bool):
  jP B base {a with bB:=b} bg aF aO aP (W.setCell ⟨B,3,none⟩ (.bool b))∧W.grownBy (W.setCell ⟨B,3,none⟩ (.bool b)) (some B):=by
 have hg:=ah (aC W (some B)) 3 (.bool b);exact⟨⟨h.blk.Qt b,h.nV.kept hg (.inr (aL h.nV h.blk (λc e=>(by cases e)))),h.aH.kept hg (.inr (aL h.aH h.blk (λc e=>(by cases e)))),h.bO.kept hg (.inr (aL h.bO h.blk (λc e=>(by cases e)))),h.bP.kept hg (.inr (aL h.bP h.blk (λc e=>(by cases e))))⟩,hg⟩
theorem Ru{N:Nat}{g:bI}{s:St}(n:Nd N B g s [] W)(v:Int):
  ∃g',Nd N B g' {s with bN:=v,bB:=true} [] ((W.setCell ⟨N,4,none⟩ (.int .u64 v)).setCell ⟨B,3,none⟩ (.bool true))∧Up B (Ft N g s) (Ft N g' {s with bN:=v,bB:=true}) W ((W.setCell ⟨N,4,none⟩ (.int .u64 v)).setCell ⟨B,3,none⟩ (.bool true)):=by
 have e:=n.nn.eq;obtain⟨n1,u1⟩:=n.cells (s':={s with bN:=v}) (n.nn.cr.nd.Qr v) (Fx.grown (ah (aC W (some N)) 4 _) λk h=>by cases h;rfl) ⟨e.self,e.seq,rfl,e.b_,e.eu,e.tn,e.own,e.cnt,e.lk⟩ ⟨rfl,rfl,rfl,rfl,rfl,rfl⟩ ⟨rfl,rfl,rfl,rfl,rfl,rfl,rfl,rfl,rfl⟩ ⟨rfl,rfl,rfl,rfl,rfl⟩;obtain⟨a2,hg2⟩:=n1.ac.Ju true;obtain⟨n2,u2⟩:=n1.act (s':={s with bN:=v,bB:=true}) a2 (Fx.grown hg2 λk h=>by cases h;exact .inl rfl) ⟨rfl,rfl,rfl,rfl,rfl,rfl,rfl,rfl,rfl,rfl,rfl,rfl,rfl,rfl,rfl⟩ n1.now rfl;exact⟨_,n2,u1.trans u2⟩
theorem PG(me now:Int)(hU:a_ me)(hself:me≠0)(v:Value)(xs:List Int)(w:World)(hv:fo w v xs)(hx1:xs.length<=100000)(hjb:qg (jl xs))(hfw:Na (jl xs))(hjl:(jl xs).length<=50000)(di:0<=now∧now<=4611686018427387904):
  Calls Tryz.prog 19 #[.int .u32 me,v,.int .u64 now] w λe w'=>ae1 (St.new me xs now) w e w':=by
 have hs0:(me==0)=false:=by simpa using hself
 have hmm:=@run_makeMap Tryz.prog;have hb0:Below w.heap.size w (w.alloc jy):=bC;have hC0:(w.alloc jy).heap[w.heap.size]?=some jy:=bV _ _;have hz0:w.heap.size+1<=(w.alloc jy).heap.size:=by simp
 obtain⟨av,cv,rfl⟩:∃a c,v=.slice a xs.length c:=by
  rcases hv.2 with⟨rfl,rfl⟩|⟨b,o,c,rfl,_⟩
  ·exact⟨_,_,rfl⟩
  ·exact⟨_,_,rfl⟩
 have HR:=(show Hid _ from λW hW=>yX (.slice av xs.length cv) xs (by omega) W (hv.kept hW));have hmid:=hide (Li (xs:=xs) hU hjb di);obtain⟨s9,qV⟩:∃z,St.raw me xs now=z:=⟨_,rfl⟩;have ab4:=hide qV;rw[qV]at hmid;have hnew:St.new me xs now=s9.finish:=by rw[<-qV];rfl
 rw[hnew];obtain⟨s',hs'⟩:∃z,s9.finish=z:=⟨_,rfl⟩;rw[hs'];replace hs':=hide hs';clear hnew qV;have Ta:=hide (MQ hjb);dsimp only[jy]at hb0 hC0 hz0;clear hv;go_enter Tryz.func19,Tryz.ntmps19;go_upto_region 1 with(fail);generalize World.alloc _ _=W1 at hb0 hC0 hz0 ⊢;go_wp2_with fail;refine aU (HR.out W1 hb0) ?_;rintro e w2 ⟨u,rfl,hb2,hu⟩;obtain⟨au,cu,rfl,hH⟩:=ax hu;generalize hJ:(jl xs)=J at hjb hfw hjl hH hu Ta;have hJ':=hide hJ;clear hJ HR;have aaw:=hb0.trans (hb2.mono hb0.size);have hC2:=(hb2.block _ (by omega:w.heap.size<W1.heap.size)).trans hC0;have hz2:=hb2.size;go_wp2_with fail;refine aU (yQ au J.length cu J rfl (by omega) hjb w2 hH) ?_;rintro e w3 ⟨rfl,hb3⟩;generalize hgo:(sD J).getD 0=g0;have hgo':=hide hgo;clear hgo;go_wp2_with fail;refine aU (oK g0 w3) ?_;rintro e w4 ⟨rfl,rfl⟩;have hH3:=hH.below hb3;have aav:=aaw.trans (hb3.mono aaw.size);have qj:=(hb3.block _ (by omega:w.heap.size<w2.heap.size)).trans hC2;have hz3:=hb3.size;generalize hq:gr g0=q;have hq':=hide hq;clear hq hC0 hC2 hH hu aaw hb0 hb2 hb3;go_wp2_with fail;refine aU (Cn me au J.length cu J rfl hjl hjb hfw w4 hH3) ?_;rintro e w5 ⟨T,out,rfl,hcmp,⟨M,ff,gg,hMT,hTS⟩,hb5⟩;obtain rfl:out=cmpL J:=hcmp.unique Ta.out;go_wp2_with fail;refine aU (GI w5) ?_;rintro e w6 ⟨Ms,rfl,hb6,Jd,hMs⟩;go_wp2_with fail;refine aU (En w6) ?_;rintro e w7 ⟨Mo,rfl,Mw,hmo,OP⟩;have nZ:=hMT.map.lt;have hM8:=fG.made w7;have rX:Below w7.heap.size w7 (w7.alloc (.map #[] 0)):=bC;have hz8:(w7.alloc (.map #[] 0)).heap.size=w7.heap.size+1:=by simp
 go_wp2_with fail;generalize World.alloc _ _=W8 at hM8 rX hz8 ⊢;refine aU (Cm W8) ?_;rintro e w9 ⟨rfl,nY,hT9⟩;have hz5:=hb5.size;have hz6:=hb6.size;have hz7:=Mw.size;have hz9:=nY.size;have aax:=rX.trans (nY.mono rX.size);have aay:=Mw.trans (aax.mono Mw.size);have aaz:=hb6.trans (aay.mono hb6.size);have aaC:=hb5.trans (aaz.mono hb5.size);have aez:=hmo.lt;have aaH:=Jd.lt;have hn:=Wv (q:=q) now (hMT.later' aaz) (Jd.block (aay.block _ Jd.lt)) (hmo.block (aax.block _ hmo.lt)) (hM8.block (nY.block _ (by omega))) (hT9.lower (dm _)) (by omega) (by omega) (by omega) (by omega);have hbN:Below w9.heap.size w9 (w9.alloc (oG ⟨0,me,q,0,T,Ms,0,0,Mo,0,0,0,w7.heap.size,W8.heap.size+1,.slice none 0 0⟩)):=bC;have acL:Below w9.heap.size w9 ((w9.alloc (oG ⟨0,me,q,0,T,Ms,0,0,Mo,0,0,0,w7.heap.size,W8.heap.size+1,.slice none 0 0⟩)).alloc (oN (FO now))):=hbN.alloc hbN.size _;have ZW:((w9.alloc (oG ⟨0,me,q,0,T,Ms,0,0,Mo,0,0,0,w7.heap.size,W8.heap.size+1,.slice none 0 0⟩)).alloc (oN (FO now))).heap.size=w9.heap.size+2:=by simp
 have aaB:=aaC.trans (acL.mono aaC.size);have OW:=(aaB.block _ (by omega:w.heap.size<w4.heap.size)).trans qj;have sQ:=aav.trans (aaB.mono aav.size);have hlow:∀k,Ft w9.heap.size ⟨⟨0,me,q,0,T,Ms,0,0,Mo,0,0,0,w7.heap.size,W8.heap.size+1,.slice none 0 0⟩,FO now,M,ff,gg,0,λ_=>none,λ_=> .slice none 0 0,W8.heap.size,[],.slice none 0 0⟩ ⟨me,q,0,0,0,wS me (cmpL J),[],0,λ_=>none,0,0,[],0,[],now,[],[],[],[],false,0⟩ k->w.heap.size<k:=by
  rintro k ((rfl|rfl|hk)|(rfl|(rfl|⟨z,hz,_⟩)|rfl|rfl|hk|hk))
  ·omega
  ·omega
  ·have:=(hTS k hk).1;omega
  ·omega
  ·show _<w7.heap.size;omega
  ·cases hz
  ·show _<W8.heap.size+1;omega
  ·show _<W8.heap.size;omega
  ·cases hk
  ·cases hk
 have BK:w.heap.size<w9.heap.size:=by omega
 clear aax aay aaz aaC hbN acL aaB hM8 rX nY hT9 hb5 hb6 Mw qj aav hMT hTS Jd hmo hH3 hcmp Ta;dsimp only[oG,oN,FO]at hn ZW OW sQ hlow;clear hz8 hz9;go_upto_region 6 with(fail);generalize World.alloc (World.alloc _ _) _=W10 at hn ZW OW sQ ⊢;generalize w9.heap.size=N at hn ZW hlow BK ⊢;obtain⟨g,hg⟩:∃z,(⟨⟨0,me,q,0,T,Ms,0,0,Mo,0,0,0,w7.heap.size,W8.heap.size+1,.slice none 0 0⟩,⟨now,.slice none 0 0,⟨#[]⟩,false,.slice none 0 0,.slice none 0 0,.slice none 0 0⟩,M,ff,gg,0,λ_=>none,λ_=> .slice none 0 0,W8.heap.size,[],.slice none 0 0⟩:bI)=z:=⟨_,rfl⟩;rw[hg]at hn hlow;clear hg hz0 hz2 hz3 hz5 hz6 hz7 aez aaH nZ OP hMs;generalize w7.heap.size=n7;have hend:Hid (∀(g:bI) (W:World),Nd N (N+1) g s9 [] W->Below w.heap.size w W->W.heap[w.heap.size]?=some (.cells #[.string ⟨#[]⟩,.bool false,.slice none 0 0,.slice none 0 0,.slice none 0 0] 52)->(∀k,Ft N g s9 k->w.heap.size<k)->
   Calls Tryz.prog 48 #[.pointer (some ⟨N,0,none⟩),.pointer (some ⟨N+1,0,none⟩)] W λe w6=>∃af kf ac kc ad kd,e=.returned (.agg #[.string s9.finish.bH,.bool s9.finish.bB,.slice af s9.finish.aF.length kf,.slice ac s9.finish.aO.length kc,.slice ad s9.finish.aP.length kd])∧w6.heap[w.heap.size]?=some (.cells #[.string ⟨#[]⟩,.bool false,.slice none 0 0,.slice none 0 0,.slice none 0 0] 52)∧
    ∀W7,w6.grownBy W7 (some w.heap.size)->∃g,Nn N g s9.finish [] W7∧W7.ownsRow w.heap.size 77 2 (.slice af s9.finish.aF.length kf) s9.finish.aF.length (uH s9.finish.aF)∧W7.ownsRow w.heap.size 56 2 (.slice ac s9.finish.aO.length kc) s9.finish.aO.length (uH s9.finish.aO)∧W7.ownsRow w.heap.size 195 1 (.slice ad s9.finish.aP.length kd) s9.finish.aP.length (Jj s9.finish.aP)∧Below w.heap.size w W7∧∀k,Ft N g s9.finish k->w.heap.size<=k):=by
  intro g W n hb hC hl;have hm:=hmid.out;refine(oQ n hm.dom (by have:=hm.cnt;omega) (by have:=hm.bg;omega) hm.bd hm.seq).mono ?_;rintro e w6 ⟨g6,rfl,n6,u6,_⟩;obtain⟨af,kf,hf,_⟩:=ax n6.ac.aH;obtain⟨ac,kc,hc,_⟩:=ax n6.ac.bO;obtain⟨ad,kd,hd,_⟩:=ax n6.ac.bP;have hlw:w.heap.size<W.heap.size:=aG hC;have gX:=(u6.block w.heap.size _ hC (λh=>by have:=hl _ h;omega) (.inr (by omega)));have hl6:∀k,Ft N g6 s9.finish k->w.heap.size<k:=λk hk=>by
   rcases u6.sub k hk with h|h
   ·exact hl k h
   ·omega
  have r1:=ownsRow_base_a n6.ac.aH (show w.heap.size<=N+1+1 by omega);have r2:=ownsRow_base_a n6.ac.bO (show w.heap.size<=N+1+1 by omega);have r3:=ownsRow_base_a n6.ac.bP (show w.heap.size<=N+1+1 by omega);rw[hf]at r1;rw[hc]at r2;rw[hd]at r3;refine⟨af,kf,ac,kc,ad,kd,by rw[hf,hc,hd];rfl,gX,λW7 hg=>⟨g6,n6.nn.kept λk hk=>hg.block k (n6.nn.lt hk) (λe=>by cases e;have:=hl6 _ hk;omega),r1.kept hg (.inr (aL r1 gX (λc e=>(by cases e)))),r2.kept hg (.inr (aL r2 gX (λc e=>(by cases e)))),r3.kept hg (.inr (aL r3 gX (λc e=>(by cases e)))),?_,λk hk=>by have:=hl6 k hk;omega⟩⟩;have Cf:Below w.heap.size w w6:=⟨u6.os.trans hb.os,u6.tape.trans hb.tape,u6.output.trans hb.output,dN hb.size u6.size,λk hk=>by
   obtain⟨o,ho⟩:∃o,W.heap[k]?=some o:=⟨_,Array.getElem?_eq_getElem (by have:=hb.size;omega)⟩;rw[u6.block k o ho (λh=>by have:=hl _ h;omega) (.inr (by omega)),<-ho];exact hb.block k hk⟩
  exact Cf.grown hg Cf.size (λk e=>by cases e;exact aB _)
 by_cases hx:xs=[]
 ·have hs:(⟨me,q,0,0,0,wS me (cmpL J),[],0,λ_=>none,0,0,[],0,[],now,[],[],[],[],false,0⟩:St)=s9:=by
   rw[<-ab4.out,<-hq'.out,<-hgo'.out,<-hJ'.out];unfold St.raw;rw[aI hx,eU (λh=>h hx)]
  rw[hs]at hn hlow;have hlen:xs.length=0:=by rw[hx];rfl
  have HF:=hide (hend.out g W10 hn sQ OW hlow);clear hend hn hlow sQ OW hs;rw[hlen];go_wp2_with fail;refine aU HF.out ?_;rintro e w6 ⟨af,kf,ac,kc,ad,kd,rfl,gX,HE⟩;rw[hs'.out]at HE ⊢;replace HE:=hide HE;clear hs' HF;obtain⟨z0,z1,z2,z3,z4⟩:=cells5 gX;obtain⟨y0,y1,y2,y3,y4⟩:=yw gX;generalize hjj:s'.bH=jj;replace hjj:=hide hjj;have iY:=ah (ah (ah (ah (ah (aC w6 (some w.heap.size)) 0 (.string jj)) 1 (.bool s'.bB)) 2 (.slice af s'.aF.length kf)) 3 (.slice ac s'.aO.length kc)) 4 (.slice ad s'.aP.length kd);have gM:(((((w6.setCell ⟨w.heap.size,0,none⟩ (.string jj)).setCell ⟨w.heap.size,1,none⟩ (.bool s'.bB)).setCell ⟨w.heap.size,2,none⟩ (.slice af s'.aF.length kf)).setCell ⟨w.heap.size,3,none⟩ (.slice ac s'.aO.length kc)).setCell ⟨w.heap.size,4,none⟩ (.slice ad s'.aP.length kd)).heap[w.heap.size]?=some (.cells #[.string jj,.bool s'.bB,.slice af s'.aF.length kf,.slice ac s'.aO.length kc,.slice ad s'.aP.length kd] 52):=by
   simp[World.setCell,d_,gX]
  have HE7:=hide (HE.out _ iY);clear iY HE;go_wp2;generalize World.setCell _ _ _=W7 at gM HE7 ⊢;obtain⟨p0,p1,p2,p3,p4⟩:=cells5 gM;obtain⟨gE,e1,e2,e3,e4,e5,e6⟩:=HE7.out;exact bodyPost_ret (v:=.tuple #[.pointer (some ⟨N,0,none⟩),.agg #[.string jj,.bool s'.bB,.slice af s'.aF.length kf,.slice ac s'.aO.length kc,.slice ad s'.aP.length kd],.int .i64 0]) (by simp[results,Tryz.results19,go_sem,p0,p1,p2,p3,p4]) rfl ⟨N,gE,.slice af s'.aF.length kf,.slice ac s'.aO.length kc,.slice ad s'.aP.length kd,by rw[<-hjj.out];rfl,e1,e2,e3,e4,e5,e6⟩
 ·have hs:({(⟨me,q,0,0,0,wS me (cmpL J),[],0,λ_=>none,0,0,[],0,[],now,[],[],[],[],false,0⟩:St)with bN:=now+2000,bB:=true}:St)=s9:=by
   rw[<-ab4.out,<-hq'.out,<-hgo'.out,<-hJ'.out];unfold St.raw;rw[ay hx,f_ hx]
  have hlen:(0:Int)<(xs.length:Int):=by
   cases xs with
   |nil=>exact absurd rfl hx
   |cons a l=>simp only[dZ];omega
  obtain⟨g2,n2,u2⟩:=Ru hn (now+2000);rw[hs]at n2 u2;have c4:=hn.nn.cr.nd.cell.2.2.2.1;have f4:=hn.nn.cr.nd.free 4;have c5:=hn.ac.blk.cell.2.2.2.1;have f5:=hn.ac.blk.free 3;have hC2:=u2.block w.heap.size _ OW (λh=>by have:=hlow _ h;omega) (.inr (by omega));have hB2:Below w.heap.size w ((W10.setCell ⟨N,4,none⟩ (.int .u64 (now+2000))).setCell ⟨N+1,3,none⟩ (.bool true)):=⟨u2.os.trans sQ.os,u2.tape.trans sQ.tape,u2.output.trans sQ.output,dN sQ.size u2.size,λk hk=>by
   obtain⟨o,ho⟩:∃o,W10.heap[k]?=some o:=⟨_,Array.getElem?_eq_getElem (by omega)⟩;rw[u2.block k o ho (λh=>by have:=hlow _ h;omega) (.inr (by omega)),<-ho];exact sQ.block k hk⟩
  have HF:=hide (hend.out g2 _ n2 hB2 hC2 (λk hk=>(u2.sub k hk).elim (hlow k) (by omega)));clear hend hn hlow sQ OW hs n2 u2 hC2 hB2;go_wp2_with fail;refine aU HF.out ?_;rintro e w6 ⟨af,kf,ac,kc,ad,kd,rfl,gX,HE⟩;rw[hs'.out]at HE ⊢;replace HE:=hide HE;clear hs' HF;obtain⟨z0,z1,z2,z3,z4⟩:=cells5 gX;obtain⟨y0,y1,y2,y3,y4⟩:=yw gX;generalize hjj:s'.bH=jj;replace hjj:=hide hjj;have iY:=ah (ah (ah (ah (ah (aC w6 (some w.heap.size)) 0 (.string jj)) 1 (.bool s'.bB)) 2 (.slice af s'.aF.length kf)) 3 (.slice ac s'.aO.length kc)) 4 (.slice ad s'.aP.length kd);have gM:(((((w6.setCell ⟨w.heap.size,0,none⟩ (.string jj)).setCell ⟨w.heap.size,1,none⟩ (.bool s'.bB)).setCell ⟨w.heap.size,2,none⟩ (.slice af s'.aF.length kf)).setCell ⟨w.heap.size,3,none⟩ (.slice ac s'.aO.length kc)).setCell ⟨w.heap.size,4,none⟩ (.slice ad s'.aP.length kd)).heap[w.heap.size]?=some (.cells #[.string jj,.bool s'.bB,.slice af s'.aF.length kf,.slice ac s'.aO.length kc,.slice ad s'.aP.length kd] 52):=by
   simp[World.setCell,d_,gX]
  have HE7:=hide (HE.out _ iY);clear iY HE;go_wp2;generalize World.setCell _ _ _=W7 at gM HE7 ⊢;obtain⟨p0,p1,p2,p3,p4⟩:=cells5 gM;obtain⟨gE,e1,e2,e3,e4,e5,e6⟩:=HE7.out;exact bodyPost_ret (v:=.tuple #[.pointer (some ⟨N,0,none⟩),.agg #[.string jj,.bool s'.bB,.slice af s'.aF.length kf,.slice ac s'.aO.length kc,.slice ad s'.aP.length kd],.int .i64 0]) (by simp[results,Tryz.results19,go_sem,p0,p1,p2,p3,p4]) rfl ⟨N,gE,.slice af s'.aF.length kf,.slice ac s'.aO.length kc,.slice ad s'.aP.length kd,by rw[<-hjj.out];rfl,e1,e2,e3,e4,e5,e6⟩
theorem Wn{x0 x1 x2 x4:Int}{r:List Int}(hb:∀x∈r,0<=x∧x<=255)(h0:0<=x0∧x0<=255)(h1:0<=x1∧x1<=255)(h4:0<=x4∧x4<=255):(jd x0 x1 x2 x4 r).Wf:=by
 have hn:=λi=>LH hb i;have q0:=hn 0;have q1:=hn 1;have q2:=hn 2;have q3:=hn 3;have q4:=hn 4;have hz:(⟨#[]⟩:ByteArray).size=0:=rfl;unfold jd;split
 ·constructor<;>(dsimp only;omega)
 split
 ·constructor<;>(dsimp only;omega)
 split
 ·constructor<;>(dsimp only;omega)
 split
 ·have:(strOfNums ((r.drop 12).take x4.toNat)).size<=255:=by
   rw[strOfNums_size,List.length_take];omega
  constructor<;>(dsimp only;omega)
 ·constructor<;>(dsimp only;omega)
variable{s:St}
def St.Pos(s:St):Prop:=∀q∈s.Q,0<q.id
theorem vw{q:Sr}(h:∀z∈s.Q,z.dest≠q.dest->0<z.id)(ht:0<=s.tl):(s.ask q).Pos∧0<=(s.ask q).tl:=by
 obtain⟨o,h1,h2⟩:=MV s q;refine⟨λz hz=> ?_,by omega⟩;rw[h1]at hz;rcases fI hz with rfl|⟨k1,k2⟩
 ·dsimp only;omega
 ·exact h z k1 k2
theorem CQ(s:St)(d:Int):(∀z∈(s.sendAll d).Q,z∈s.Q)∧(s.sendAll d).tl=s.tl:=by
 have ht:∀(l:List ByteArray) (s:St),(l.foldl (λs t=>s.aZ d t) s).tl=s.tl:=by
  intro l
  induction l with
  |nil=>intro s;rfl
  |cons a l ih=>
   intro s;rw[gZ,ih];unfold St.aZ;split<;>rfl
 unfold St.sendAll;split
 ·exact⟨λ_ h=>h,rfl⟩
 ·split
  ·exact⟨λz hz=>(List.mem_filter.1 hz).1,ht _ _⟩
  ·exact⟨λ_ h=>h,rfl⟩
theorem QS(h:s.Pos)(ht:0<=s.tl)(q:Sr):(s.step q).Pos∧0<=(s.step q).tl:=by
 unfold St.step;split
 ·obtain⟨h1,h2⟩:=CQ s q.dest;exact⟨λz hz=>h z (h1 z hz),by omega⟩
 ·split
  ·unfold St.widen;split
   ·exact vw (λz hz _=>h z hz) ht
   ·split
    ·exact vw (λz hz _=>h z hz) ht
    ·split
     ·exact vw (λz hz _=>h z hz) ht
     ·exact⟨λz hz=>h z (List.mem_filter.1 hz).1,ht⟩
  ·exact vw (λz hz _=>h z hz) ht
theorem Wl(h:s.Pos)(ht:0<=s.tl)(now:Int):(s.iW now).Pos:=by
 have key:∀(D:List Sr) (z:St),z.Pos->0<=z.tl->(D.foldl St.step z).Pos:=by
  intro D
  induction D with
  |nil=>intro z h _;exact h
  |cons q D ih=>
   intro z hz htz;rw[gZ];obtain⟨h1,h2⟩:=QS hz htz q;exact ih _ h1 h2
 have h1:=key (St.jA s.Q now) (s.locked.begin now) h ht;intro q hq;refine h1 q ?_;have e:=(aR ((St.jA s.Q now).foldl St.step (s.locked.begin now))).Q;rw[<-e];exact hq
theorem Wm(h:s.Pos)(ht:0<=s.tl)(now d:Int)(t:ByteArray):(s.snd now d t).Pos:=by
 have e:=(aR (if (bE (s.locked.begin now).A d (s.locked.begin now).now).2 then(s.locked.begin now).aZ d t else(s.locked.begin now).await d t)).Q;intro q hq;have hq':q∈(if (bE (s.locked.begin now).A d (s.locked.begin now).now).2 then(s.locked.begin now).aZ d t else(s.locked.begin now).await d t).Q:=by
  rw[<-e];exact hq
 split at hq'
 ·rw[(jM _ _ _).1]at hq';exact h q hq'
 ·unfold St.await at hq';split at hq'
  ·rename_i q0 hs;have hm:=(jw hs).1;have:∀q':Sr,q'.id=q0.id->∀z∈St.dh s.Q q',0<z.id:=λq' e z hz=>by
    rcases fI hz with rfl|⟨k1,_⟩
    ·rw[e];exact h q0 hm
    ·exact h z k1
   unfold St.hold at hq';split at hq'
   ·exact this {q0 with txt:=q0.txt.tail++ [t]} rfl q hq'
   ·exact this {q0 with txt:=q0.txt++ [t]} rfl q hq'
  ·refine(vw (s:={s.locked.begin now with Q:=(s.locked.begin now).Q++ [St.jh d t]}) (q:=St.jh d t) (λz hz hne=> ?_) ht).1 q hq';rcases fu.1 hz with k|k
   ·exact h z k
   ·rw[fM]at k;rw[k]at hne;exact absurd rfl hne
variable{d h q:Int}{A:List Rt}{k n:Nat}{s s':St}
abbrev uM:=Option (Int×aD×List (Int×Int))
def yV(x:Option Rt)(q h:Int):Prop:=∃y,x=some y∧(q<rk y∨(rk y=q∧y.hops<=h))
inductive Ur(me now:Int)(c:uM)(A:List Rt):List Rt->Prop
 |Vk (fr:Int) (p:aD) (L:List (Int×Int)) (e:Int) (hc:c=some (fr,p,L)) (hk:p.kind=1):Ur me now c A (fA me A p.aH p.dQ (St.far p.hops) fr e).1
 |Vj (fr:Int) (p:aD) (L:List (Int×Int)) (e:Int) (hc:c=some (fr,p,L)) (hk:p.kind=2):Ur me now c A (fA me A p.dest p.bA (St.far p.hops) fr e).1
 |use (d e:Int):Ur me now c A (gU A d e)
 |bL (d n:Int):Ur me now c A (kM A d n)
 |lose (fr:Int) (p:aD) (L:List (Int×Int)) (hc:c=some (fr,p,L)) (x:Int×Int) (hx:x∈L):Ur me now c A (gN A fr x.1 x.2)
 |brk (fq:Int):Ur me now c A (A.map (dD fq 0))
 |grow (d:Int) (h:∀y,aK A d=some y->y.valid=false):Ur me now c A (gK A d St.vN)
def Just(c:uM)(s:St)(p:aD)(L:List (Int×Int)):Prop:=
 (p.kind=1∧p.aH=s.me∧p.hops=0∧1<=p.ttl∧p.ttl<=8∧p.dQ=s.seq∧p.bA=eP s.A p.dest)∨
 (∃fr q K,c=some (fr,q,K)∧q.kind=1∧p.kind=1∧p.aH=q.aH∧p.dQ=q.dQ∧p.hops=St.far q.hops∧p.ttl=q.ttl - 1∧q.ttl≠1∧p.aH≠s.me∧(p.bA=q.bA∨p.bA=eP s.A p.dest)∧(p.aH≠0->yV (aK s.A p.aH) p.dQ p.hops))∨
 (p.kind=2∧p.dest=s.me∧p.hops=0∧p.ttl=8∧p.bA=s.seq)∨
 (p.kind=2∧p.ttl=8∧∃y,aK s.A p.dest=some y∧y.valid=true∧p.bA=y.seq∧p.hops=y.hops)∨
 (∃fr q K,c=some (fr,q,K)∧q.kind=2∧p.kind=2∧p.dest=q.dest∧p.bA=q.bA∧p.hops=St.far q.hops∧p.ttl=q.ttl - 1∧q.ttl≠1∧p.dest≠s.me∧(p.dest≠0->yV (aK s.A p.dest) p.bA p.hops))∨
 (p.kind=3∧∀x∈L,x.2=0∨∃y∈s.A,y.dest=x.1∧x.2<=y.seq∧(0<=x.2∨x.2=y.seq))∨
 p.kind=9
structure adi(s s':St):Prop where
 me:s'.me=s.me
 seq:s'.seq=s.seq
 A:s'.A=s.A
 f:s'.f=s.f
 own:s'.own=s.own
 cnt:s'.cnt=s.cnt
 bg:s'.bg=s.bg
 bB:s'.bB=s.bB
 aF:s'.aF=s.aF
 now:s'.now=s.now
inductive Pr(c:uM)(s:St):St->Prop
 |Ac {s':St} (h:adi s s'):Pr c s s'
 |tab {A:List Rt} (h:Ur s.me s.now c s.A A):Pr c s {s with A:=A}
 |aH (t:Int) (p:aD) (L:List (Int×Int)) (h:Just c s p L) (hz:L=[]∨L.length=p.ln):Pr c s (s.send t p L)
 |grw:Pr c s {s with seq:=gr s.seq}
 |mx (fr:Int) (p:aD) (L:List (Int×Int)) (hc:c=some (fr,p,L)):Pr c s {s with seq:=max s.seq p.bA}
 |wr:Pr c s s.write
inductive gF(c:uM):Nat->St->St->Prop
 |nil (n:Nat) (s:St):gF c n s s
 |snoc {n:Nat} {s s1 s2:St} (h:gF c n s s1) (k:Pr c s1 s2):gF c (n+1) s s2
theorem gF.up{c:uM}(h:gF c n s s')(hk:n<=k):gF c k s s':=by
 induction h generalizing k with
 |nil n s=>exact .nil _ _
 |snoc h1 h2 ih=>
  obtain⟨j,rfl⟩:∃j,k=j+1:=⟨k - 1,by omega⟩;exact .snoc (ih (by omega)) h2
theorem gF.trans{c:uM}{s1 s2:St}(h:gF c n s s1)(g:gF c k s1 s2):gF c (n+k) s s2:=by
 induction g with
 |nil k s=>exact h.up (by omega)
 |snoc g1 g2 ih=>exact .snoc (ih h) g2
theorem gF.one{c:uM}(h:Pr c s s'):gF c 1 s s':=.snoc (.nil 0 s) h
theorem gF.Ac{c:uM}(h:adi s s'):gF c 1 s s':=.one (.Ac h)
theorem gF.me{c:uM}(h:gF c n s s'):s'.me=s.me:=by
 induction h with
 |nil=>rfl
 |snoc _ k ih=>
  rw[<-ih];cases k with
  |Ac h=>exact h.me
  |_=>rfl
theorem gF.now{c:uM}(h:gF c n s s'):s'.now=s.now:=by
 induction h with
 |nil=>rfl
 |snoc _ k ih=>
  rw[<-ih];cases k with
  |Ac h=>exact h.now
  |_=>rfl
theorem gy(c:uM)(s:St)(r:Int):gF c 1 s (s.drop r):=.Ac ⟨rfl,rfl,rfl,rfl,rfl,rfl,rfl,rfl,rfl,rfl⟩
theorem vo(c:uM)(s:St)(t:Int)(L:List (Int×Int))(h:∀x∈L,x.2=0∨∃y∈s.A,y.dest=x.1∧x.2<=y.seq∧(0<=x.2∨x.2=y.seq)):gF c 1 s (s.lose t L):=by
 unfold St.lose P7;split
 ·exact .Ac ⟨rfl,rfl,rfl,rfl,rfl,rfl,rfl,rfl,by simp,rfl⟩
 ·exact .one (.aH t (ZM L.length) L (.inr (.inr (.inr (.inr (.inr (.inl ⟨rfl,h⟩)))))) (.inr rfl))
theorem LJ(A:List Rt)(d:Int):eP A d=0∨∃y∈A,y.dest=d∧eP A d<=y.seq∧(0<=eP A d∨eP A d=y.seq):=by
 unfold eP;cases h:aK A d with
 |none=>exact .inl rfl
 |some y=>exact .inr ⟨y,(dA h).1,(dA h).2,gP _,.inr rfl⟩
theorem xX(c:uM)(s:St)(t d:Int):gF c 1 s (s.lD t d):=vo c s t _ λx hx=>by
 rw[fM]at hx;subst hx;exact LJ s.A d
theorem vg(c:uM)(s:St)(d:Int)(t:ByteArray):gF c 3 s (s.aZ d t):=by
 unfold St.aZ;split
 ·refine gF.snoc (gF.snoc (gF.Ac (s':={s with eu:=(s.eu+1)%4294967296}) ⟨rfl,rfl,rfl,rfl,rfl,rfl,rfl,rfl,rfl,rfl⟩) (.tab (.use d (s.now+3000)))) (.aH _ _ [] ?_ (.inl rfl));exact .inr (.inr (.inr (.inr (.inr (.inr rfl)))))
 ·exact .nil _ _
theorem NN(c:uM)(d:Int)(l:List ByteArray)(s:St):gF c (3 * l.length) s (l.foldl (λs t=>s.aZ d t) s):=by
 induction l generalizing s with
 |nil=>exact .nil _ _
 |cons a l ih=>
  rw[gZ,dZ];exact((vg c s d a).trans (ih _)).up (by omega)
theorem xW(c:uM)(s:St)(d:Int)(h4:∀q∈s.Q,q.txt.length<=4):gF c 13 s (s.sendAll d):=by
 unfold St.sendAll;cases hq:St.jU s.Q d with
 |none=>exact .nil _ _
 |some q=>
  dsimp only;split
  ·have:=h4 q (jw hq).1;have h1:=NN c d q.txt s;refine gF.up (gF.snoc h1 (.Ac ?_)) (by omega);exact⟨rfl,rfl,rfl,rfl,rfl,rfl,rfl,rfl,rfl,rfl⟩
  ·exact .nil _ _
theorem Gn(c:uM)(s:St)(d ttl:Int)(ht:1<=ttl∧ttl<=8):gF c 5 s (s.request d ttl):=by
 unfold St.request;refine gF.snoc (gF.snoc (gF.snoc (gF.snoc (gF.Ac (s':={s with b_:=(s.b_+1)%4294967296}) ⟨rfl,rfl,rfl,rfl,rfl,rfl,rfl,rfl,rfl,rfl⟩) .grw) .wr) (.Ac ?_)) (.aH 0 _ [] ?_ (.inl rfl))
 ·exact⟨rfl,rfl,rfl,rfl,rfl,rfl,rfl,rfl,rfl,rfl⟩
 ·exact .inl ⟨rfl,rfl,rfl,ht.1,ht.2,rfl,rfl⟩
theorem vv(c:uM)(s:St)(q:Sr)(ht:1<=q.ttl∧q.ttl<=8):gF c 6 s (s.ask q):=by
 unfold St.ask;split
 ·exact gF.up (n:=1) (.Ac ⟨rfl,rfl,rfl,rfl,rfl,rfl,rfl,rfl,rfl,rfl⟩) (by decide)
 ·split
  ·exact gF.up (n:=1) (.Ac ⟨rfl,rfl,rfl,rfl,rfl,rfl,rfl,rfl,rfl,rfl⟩) (by decide)
  ·exact gF.snoc (Gn c s q.dest q.ttl ht) (.Ac ⟨rfl,rfl,rfl,rfl,rfl,rfl,rfl,rfl,rfl,rfl⟩)
theorem NM(c:uM)(s:St)(q:Sr)(ht:1<=q.ttl∧q.ttl<=8):gF c 6 s (s.widen q):=by
 unfold St.widen;split
 ·exact vv c s _ (by dsimp only;omega)
 ·split
  ·exact vv c s _ (by dsimp only;omega)
  ·split
   ·exact vv c s _ ht
   ·exact gF.up (n:=1) (.Ac ⟨rfl,rfl,rfl,rfl,rfl,rfl,rfl,rfl,rfl,rfl⟩) (by decide)
theorem QN(c:uM)(s:St)(q:Sr)(ht:1<=q.ttl∧q.ttl<=8)(h4:∀q∈s.Q,q.txt.length<=4):gF c 13 s (s.step q):=by
 unfold St.step;split
 ·exact xW c s q.dest h4
 ·split
  ·exact(NM c s q ht).up (by omega)
  ·exact(vv c s q ht).up (by omega)
theorem NP(c:uM)(s:St)(d:Int)(t:ByteArray):gF c 7 s (s.await d t):=by
 unfold St.await;cases hq:St.jU s.Q d with
 |some q=>
  dsimp only;refine(gF.Ac ?_).up (by omega);unfold St.hold;split<;>exact⟨rfl,rfl,rfl,rfl,rfl,rfl,rfl,rfl,rfl,rfl⟩
 |none=>
  exact gF.up (n:=1+6) (gF.trans (.Ac (s':={s with Q:=s.Q++ [St.jh d t]}) ⟨rfl,rfl,rfl,rfl,rfl,rfl,rfl,rfl,rfl,rfl⟩) (vv c _ (St.jh d t) (by show(1:Int)<=1∧(1:Int)<=8;omega))) (by decide)
theorem Gd(f:Rt->Rt)(hd:∀y,(f y).dest=y.dest)(hr:∀y,y.dest=d->rk (f y)=rk y∧(f y).hops=y.hops)(x:yV (aK A d) q h):yV (aK (A.map f) d) q h:=by
 obtain⟨y,hy,h1⟩:=x;obtain⟨_,lS⟩:=dA hy;refine⟨f y,?_,?_⟩
 ·unfold aK at hy ⊢;rw[List.find?_map];have:((λx:Rt=>x.dest==d)∘ f)=λx=>x.dest==d:=by
   funext z
   simp[hd]
  rw[this,hy];rfl
 ·obtain⟨e1,e2⟩:=hr y lS;rw[e1,e2];exact h1
theorem Gb(d' e:Int)(x:yV (aK A d) q h):yV (aK (gU A d' e) d) q h:=by
 refine Gd _ (λy=> ?_) (λy _=> ?_) x
 ·split
  ·exact ol e y
  ·rfl
 ·split
  ·unfold Dy;split
   ·exact⟨rfl,rfl⟩
   ·exact⟨rfl,rfl⟩
  ·exact⟨rfl,rfl⟩
theorem Gf(d' n:Int)(x:yV (aK A d) q h):yV (aK (kM A d' n) d) q h:=by
 refine Gd _ (λy=> ?_) (λy _=> ?_) x
 ·split
  ·exact mH n y
  ·rfl
 ·split
  ·unfold A8;split
   ·exact⟨rfl,rfl⟩
   ·exact⟨rfl,rfl⟩
  ·exact⟨rfl,rfl⟩
theorem xY(A:List Rt)(x:Rt)(h:aK A x.dest=none):aK (um A x) x.dest=some x:=by
 unfold um aK;rw[List.find?_append];have h1:(A.take (pos A x.dest)).find? (λz=>z.dest==x.dest)=none:=by
  rw[List.find?_eq_none];intro z hz;have:=(j4.1 h) z (List.mem_of_mem_take hz);simpa using this
 rw[h1];simp
theorem Gc{me:Int}{n e:Int}(hd:d≠me)(h0:d≠0)(h4:(fA me A d q h n e).2≠4):yV (aK (fA me A d q h n e).1 d) q h:=by
 unfold fA at h4 ⊢;rw[ay (by simp[hd,h0])]at h4 ⊢;cases hl:aK A d with
 |none=>
  rw[hl]at h4;dsimp only at h4 ⊢;split at h4
  ·exact absurd rfl h4
  ·rename_i h8;rw[ay h8];exact⟨newR d q h n e,xY A (newR d q h n e) hl,.inr ⟨rfl,gP _⟩⟩
 |some x=>
  dsimp only;obtain⟨hx,hxd⟩:=dA hl;split
  ·refine⟨zD q h n e x,?_,.inr ⟨rfl,gP _⟩⟩;unfold gK aK;rw[List.find?_map];have:((λx:Rt=>x.dest==d)∘ λx=>if x.dest=d then zD q h n e x else x)=λx=>x.dest==d:=by
    funext z
    by_cases e:z.dest=d<;>simp[e,zD]
   rw[this,show List.find? (λx=>x.dest==d) A=some x from hl];simp[hxd]
  ·rename_i hg;refine⟨x,hl,?_⟩;have h2:=XA (newR d q h n e) x;have h3:Va (newR d q h n e) x=false:=by simpa using hg
   rw[h3]at h2;have e1:rk (newR d q h n e)=q:=rfl;rw[e1]at h2;simp only[Bool.not_false,Bool.true_eq,Bool.or_eq_true,jr,qi]at h2;rcases h2 with h2|⟨h2,h3⟩
   ·exact .inl h2
   ·exact .inr ⟨h2.symm,h3⟩
theorem zZ(c:uM)(s:St)(p:aD)(hp:(p.dest=s.me∧p.hops=0∧p.bA=s.seq)∨∃y,aK s.A p.dest=some y∧y.valid=true∧p.bA=y.seq∧p.hops=y.hops):gF c 1 s (s.answer p):=by
 unfold St.answer;split
 ·refine .one (.aH _ _ [] ?_ (.inl rfl));rcases hp with⟨h1,h2,h3⟩|h
  ·exact .inr (.inr (.inl ⟨rfl,h1,h2,rfl,h3⟩))
  ·exact .inr (.inr (.inr (.inl ⟨rfl,rfl,h⟩)))
 ·exact gy c s 3
theorem Kc{now:Int}(h:(bE A d now).2=true):aK A d=some (bE A d now).1∧(bE A d now).1.valid=true:=by
 unfold bE at h ⊢;cases hl:aK A d with
 |none=>rw[hl]at h;cases h
 |some x=>
  rw[hl]at h;dsimp only at h ⊢;split at h
  ·rename_i hv;rw[aI hv];simp only[jr]at hv;exact⟨rfl,hv.1⟩
  ·cases h
theorem Ah{f:Rt->Rt}(hd:∀y,(f y).dest=y.dest){y:Rt}(h:aK A d=some y):aK (A.map f) d=some (f y):=by
 unfold aK at h ⊢;rw[List.find?_map];have:((λx:Rt=>x.dest==d)∘ f)=λx=>x.dest==d:=by
  funext z
  simp[hd]
 rw[this,h];rfl
theorem G5{d' n:Int}{y:Rt}(h:aK A d=some y):∃z,aK (kM A d' n) d=some z∧z.valid=y.valid∧z.seq=y.seq∧z.hops=y.hops:=by
 refine⟨_,Ah (f:=λx=>if x.dest=d' then A8 n x else x) (λy=> ?_) h,?_⟩
 ·split
  ·exact mH n y
  ·rfl
 ·split
  ·unfold A8;split<;>exact⟨rfl,rfl,rfl⟩
  ·exact⟨rfl,rfl,rfl⟩
theorem CU(s:St)(fr:Int)(p:aD)(L:List (Int×Int))(hk:p.kind=1)(hme:p.aH≠s.me)(hr:p.aH≠0->yV (aK s.A p.aH) p.dQ (St.far p.hops)):gF (some (fr,p,L)) 3 s (s.asked p):=by
 unfold St.asked;split
 ·unfold St.iG;exact((gF.one (.mx fr p L rfl)).trans (zZ _ _ _ (.inl ⟨rfl,rfl,rfl⟩))).up (by omega)
 ·split
  ·rename_i hf;simp only[jr]at hf;obtain⟨h1,h2⟩:=Kc hf.1;unfold St.iy;have hb:∃z,aK (if (bE s.A p.aH s.now).2 then kM s.A p.dest (bE s.A p.aH s.now).1.next else s.A) p.dest=some z∧z.valid=true∧z.seq=(bE s.A p.dest s.now).1.seq∧z.hops=(bE s.A p.dest s.now).1.hops:=by
    split
    ·obtain⟨z,e1,e2,e3,e4⟩:=G5 (d':=p.dest) (n:=(bE s.A p.aH s.now).1.next) h1;exact⟨z,e1,e2.trans h2,e3,e4⟩
    ·exact⟨_,h1,h2,rfl,rfl⟩
   have hs1:gF (some (fr,p,L)) 1 s {s with A:=if (bE s.A p.aH s.now).2 then kM s.A p.dest (bE s.A p.aH s.now).1.next else s.A}:=by
    split
    ·exact .one (.tab (.bL _ _))
    ·exact .nil _ _
   obtain⟨z,e1,e2,e3,e4⟩:=hb;obtain⟨u,k1,k2,k3,k4⟩:=G5 (d':=p.aH) (n:=(bE s.A p.dest s.now).1.next) e1;refine gF.up (n:=1+1+1) ((hs1.snoc (.tab (.bL _ _))).trans (zZ _ _ _ (.inr ⟨u,k1,k2.trans e2,?_,?_⟩))) (by decide)
   ·exact(k3.trans e3).symm
   ·exact(k4.trans e4).symm
  ·split
   ·exact(gy _ _ _).up (by omega)
   ·rename_i ht;unfold St.askOn;refine gF.up (n:=1) (.one (.aH 0 {p with ttl:=p.ttl - 1,hops:=St.far p.hops,bA:=if (aK s.A p.dest).isSome then max p.bA (eP s.A p.dest)else p.bA,unk:=if (aK s.A p.dest).isSome then false else p.unk} [] (.inr (.inl ⟨fr,p,L,rfl,hk,hk,rfl,rfl,rfl,rfl,ht,hme,?_,hr⟩)) (.inl rfl))) (by decide);dsimp only;split
    ·rcases Int.le_total p.bA (eP s.A p.dest)with h|h
     ·exact .inr (Int.max_eq_right h)
     ·exact .inl (Int.max_eq_left h)
    ·exact .inl rfl
theorem yK(s:St)(fr:Int)(p:aD)(L:List (Int×Int))(hk:p.kind=1):gF (some (fr,p,L)) 7 s (s.bR fr p):=by
 unfold St.bR;split
 ·exact(gy _ _ _).up (by omega)
 ·rename_i hn;simp only[not_or]at hn;obtain⟨hme,_⟩:=hn;refine gF.up (n:=1+6) (gF.trans (.Ac (s':={s with mem:=dw s.mem (p.aH,p.id) (s.now+1280) s.tn,tn:=s.tn+1}) ⟨rfl,rfl,rfl,rfl,rfl,rfl,rfl,rfl,rfl,rfl⟩) ?_) (by decide);unfold St.learn;have hup:gF (some (fr,p,L)) 1 ({s with mem:=dw s.mem (p.aH,p.id) (s.now+1280) s.tn,tn:=s.tn+1}:St) {s with mem:=dw s.mem (p.aH,p.id) (s.now+1280) s.tn,tn:=s.tn+1,A:=(fA s.me s.A p.aH p.dQ (St.far p.hops) fr (s.now+3000)).1}:=.one (.tab (.Vk fr p L (s.now+3000) rfl hk));split
  ·exact(hup.trans (gy _ _ 2)).up (by omega)
  ·rename_i h4;have hr:p.aH≠0->yV (aK (fA s.me s.A p.aH p.dQ (St.far p.hops) fr (s.now+3000)).1 p.aH) p.dQ (St.far p.hops):=λh0=>Gc hme h0 h4;split
   ·refine((hup.snoc (.tab (.use p.aH (s.now+3000)))).trans (CU _ fr p L hk hme λh0=>Gb _ _ (hr h0))).up (by omega)
   ·exact(hup.trans (CU _ fr p L hk hme hr)).up (by omega)
theorem BQ(s:St)(fr:Int)(p:aD)(L:List (Int×Int))(hk:p.kind=2)(h4:∀q∈s.Q,q.txt.length<=4):gF (some (fr,p,L)) 15 s (s.dM fr p):=by
 unfold St.dM;split
 ·exact(gy _ _ _).up (by omega)
 ·rename_i hme;dsimp only;have hup:gF (some (fr,p,L)) 1 s {s with A:=(fA s.me s.A p.dest p.bA (St.far p.hops) fr (s.now+p.life)).1}:=.one (.tab (.Vj fr p L (s.now+p.life) rfl hk));split
  ·exact(hup.trans (gy _ _ 2)).up (by omega)
  ·rename_i h5;have hr:p.dest≠0->yV (aK (fA s.me s.A p.dest p.bA (St.far p.hops) fr (s.now+p.life)).1 p.dest) p.bA (St.far p.hops):=λh0=>Gc hme h0 h5;split
   ·have ha:=hup.trans (xW (some (fr,p,L)) _ p.dest h4);split
    ·exact gF.up (n:=1+13+1) (ha.trans (gy _ _ 7)) (by decide)
    ·exact ha.up (by omega)
   ·split
    ·exact(hup.trans (gy _ _ 4)).up (by omega)
    ·rename_i ht;refine gF.up (n:=1+4) (hup.trans ?_) (by decide);unfold St.iT;split
     ·refine gF.snoc (gF.snoc (gF.snoc (gF.one (.tab (.bL _ _))) (.tab (.bL _ _))) (.tab (.use _ _))) (.aH _ _ [] ?_ (.inl rfl));exact .inr (.inr (.inr (.inr (.inl ⟨fr,p,L,rfl,hk,hk,rfl,rfl,rfl,rfl,ht,hme,λh0=>Gb _ _ (Gf _ _ (Gf _ _ (hr h0)))⟩))))
     ·exact(gy _ _ 3).up (by omega)
theorem D9(s:St)(fr:Int)(p:aD)(L:List (Int×Int))(hk:p.kind=9)(hx:∀y∈s.A,y.valid=true->s.now<y.exp):gF (some (fr,p,L)) 3 s (s.dU fr p):=by
 unfold St.dU;split
 ·exact gF.up (n:=1) (.Ac ⟨rfl,rfl,rfl,rfl,rfl,rfl,rfl,rfl,rfl,rfl⟩) (by decide)
 ·split
  ·exact(gy _ _ _).up (by omega)
  ·split
   ·exact gF.snoc (gF.snoc (gF.one (.tab (.use _ _))) (.tab (.use _ _))) (.aH _ _ [] (.inr (.inr (.inr (.inr (.inr (.inr hk)))))) (.inl rfl))
   ·rename_i hf;refine gF.trans (n:=2) (k:=1) ?_ (xX _ _ _ _);refine gF.snoc (gy _ s 3) (.tab (.grow p.dest ?_));intro y hy;have hy':aK s.A p.dest=some y:=hy;cases hv:y.valid with
    |false=>rfl
    |true=>
     exfalso;apply hf;unfold bE;rw[hy'];dsimp only;have:=hx y (dA hy').1 hv;rw[hv,aI (by simpa using this)]
theorem zY(c:uM)(s:St)(fr:Int)(p:aD):gF c 3 s (s.fF fr p):=by
 unfold St.fF;split
 ·refine gF.trans (n:=1) (k:=2) (gy _ s 8) ?_;exact gF.snoc (xX _ _ _ _) (.Ac ⟨rfl,rfl,rfl,rfl,rfl,rfl,rfl,rfl,rfl,rfl⟩)
 ·exact(gy _ _ _).up (by omega)
theorem NE(fr q:Int)(y:Rt):y.seq<=(dD fr q y).seq:=by
 unfold dD;split
 ·show y.seq<=max (gr y.seq) q;have:y.seq<=gr y.seq:=by unfold gr;omega
  omega
 ·exact gP _
theorem Od{fr:Int}(q:Int)(h:mV A fr d=true):0<=eP (gN A fr d q) d:=by
 unfold mV at h;cases hl:aK A d with
 |none=>rw[hl]at h;cases h
 |some y=>
  rw[hl]at h;have hv:(y.valid&&(y.next==fr))=true:=h;have h1:=Ah (f:=λx=>if x.dest=d then dD fr q x else x) (λy=>by split;exact gB fr q y;rfl) hl;unfold eP gN gK;rw[h1,aI (dA hl).2];show 0<=(dD fr q y).seq;unfold dD;rw[aI hv];show 0<=max (gr y.seq) q;have:0<=gr y.seq:=by unfold gr;omega
  omega
theorem JG(fr:Int)(p:aD)(K:List (Int×Int)):∀(L:List (Int×Int)),(∀x∈L,x∈K)->∀(s:St) (b:Bool) (T:List (Int×Int)),(∀x∈T,0<=x.2∧(x.2=0∨∃y∈s.A,y.dest=x.1∧x.2<=y.seq))->
  gF (some (fr,p,K)) L.length s {s with A:=(L.foldl (St.GV fr) (s.A,b,T)).1}∧∀x∈(L.foldl (St.GV fr) (s.A,b,T)).2.2,0<=x.2∧(x.2=0∨∃y∈(L.foldl (St.GV fr) (s.A,b,T)).1,y.dest=x.1∧x.2<=y.seq):=by
 intro L
 induction L with
 |nil=>exact λ_ s b T hT=>⟨.nil _ _,hT⟩
 |cons a L ih=>
  intro hK s b T hT;rw[gZ,dZ];have hK':∀x∈L,x∈K:=λx hx=>hK x (lU _ hx);unfold St.GV;dsimp only;split
  ·rename_i hlb;have h1:gF (some (fr,p,K)) 1 s {s with A:=gN s.A fr a.1 a.2}:=.one (.tab (.lose fr p K rfl a (hK a jT)));have hkeep:∀x:Int×Int,(x.2=0∨∃y∈s.A,y.dest=x.1∧x.2<=y.seq)->x.2=0∨∃y∈gN s.A fr a.1 a.2,y.dest=x.1∧x.2<=y.seq:=λx hx=>by
    rcases hx with h|⟨y,hy,e,h⟩
    ·exact .inl h
    ·refine .inr ⟨if y.dest=a.1 then dD fr a.2 y else y,dW.2 ⟨y,hy,rfl⟩,?_⟩;split
     ·exact⟨(gB _ _ y).trans e,Int.le_trans h (NE fr a.2 y)⟩
     ·exact⟨e,h⟩
   have h2:=ih hK' {s with A:=gN s.A fr a.1 a.2} true (if ((aK s.A a.1).any λy=>decide (0<y.bL.length))then T++ [(a.1,eP (gN s.A fr a.1 a.2) a.1)]else T) (λx hx=>by
    split at hx
    ·rcases fu.1 hx with h|h
     ·exact⟨(hT x h).1,hkeep x (hT x h).2⟩
     ·rw[fM]at h;subst h;refine⟨Od a.2 hlb,?_⟩;rcases LJ (gN s.A fr a.1 a.2) a.1 with h|⟨y,k1,k2,k3,_⟩
      ·exact .inl h
      ·exact .inr ⟨y,k1,k2,k3⟩
    ·exact⟨(hT x hx).1,hkeep x (hT x hx).2⟩)
   exact⟨(h1.trans h2.1).up (by omega),h2.2⟩
  ·have h2:=ih hK' s b T hT;exact⟨h2.1.up (by omega),h2.2⟩
theorem D8(s:St)(fr:Int)(p:aD)(L:List (Int×Int)):gF (some (fr,p,L)) (L.length+2) s (s.iL fr L):=by
 unfold St.iL;dsimp only;obtain⟨h1,h2'⟩:=JG fr p L L (λ_ h=>h) s false [] (λx hx=>by cases hx);have h2:∀x∈(L.foldl (St.GV fr) (s.A,false,[])).2.2,x.2=0∨∃y∈(L.foldl (St.GV fr) (s.A,false,[])).1,y.dest=x.1∧x.2<=y.seq∧(0<=x.2∨x.2=y.seq):=λx hx=>by
  obtain⟨k0,k⟩:=h2' x hx;rcases k with k|⟨y,k1,k2,k3⟩
  ·exact .inl k
  ·exact .inr ⟨y,k1,k2,k3,.inl k0⟩
 split
 ·exact(h1.trans (vo _ _ _ _ h2)).up (by omega)
 ·exact(h1.trans ((gy _ _ 7).trans (vo _ _ _ _ h2))).up (by omega)
structure Ot where
 bg:List (Bool×Int×Int)
 bB:Bool
 aF:List (Int×ByteArray)
 aO:List (Int×ByteArray)
 aP:List Int
def St.ot(s:St):Ot:=⟨s.bg,s.bB,s.aF,s.aO,s.aP⟩
def Ot.none:Ot:=⟨[],false,[],[],[]⟩
def Ot.idle(o:Ot):Bool:=o.bg.isEmpty&&!o.bB&&o.aF.isEmpty&&o.aO.isEmpty&&o.aP.isEmpty
structure eB where
 addr:Int
 bH:List Int
 nd:Option St
 hrs:List Bool
 tears:Bool
 whole:Int
def eB.stop(s:eB):eB:={s with nd:=none,tears:=false,whole:=0}
def eB.write(s:eB)(o:Ot):eB×Bool:=
 if o.bg.isEmpty&&!o.bB then(s,true)
 else if s.tears then({s with bH:=if o.bB then s.bH else s.bH++(bD o.bg).take s.whole.toNat}.stop,false)
 else({s with bH:=(if o.bB then []else s.bH)++bD o.bg},true)
def eB.zero:eB:=⟨0,[],none,[],false,0⟩
structure aM where
 now:Int
 S:List eB
 aT:List (Nat×Nat×ByteArray)
structure Ev where
 node:Int
 err:Int
 o:Ot
namespace aM
def at'(m:aM)(i:Nat):eB:=m.S.getD i eB.zero
def put(m:aM)(i:Nat)(s:eB):aM:={m with S:=m.S.set i s}
def launch(m:aM)(f:Nat×Nat×ByteArray):aM:={m with aT:=if 48<(m.aT++ [f]).length then(m.aT++ [f]).tail else m.aT++ [f]}
def heard(m:aM)(i:Nat)(t:Int):List Nat:=(List.range m.S.length).filter λj=>(m.at' i).hrs.getD j false&&(decide (t=0)||decide (t=(m.at' j).addr))
def cO(m:aM)(i:Nat)(f:Int×ByteArray):aM:=(m.heard i f.1).foldl (λm j=>m.launch (i,j,f.2)) m
def jH(φ:aM->Int×ByteArray->aM×List Ev)(m:aM)(i:Nat)(o:Ot):aM×List Ev:=
 if o.idle then(m,[])
 else if ((m.at' i).write o).2 then o.aF.foldl (λz f=>((φ z.1 f).1,z.2++(φ z.1 f).2)) (m.put i ((m.at' i).write o).1,[⟨i,0,o⟩])
 else(m.put i ((m.at' i).write o).1,[⟨i,0,Ot.none⟩])
def nW(i:Nat)(m:aM)(f:Int×ByteArray):aM×List Ev:=(m.cO i f,[])
def Ch(m:aM)(i:Nat)(o:Ot):aM×List Ev:=jH (nW i) m i o
def iX(i:Nat)(m:aM)(f:Int×ByteArray):aM×List Ev:=
 if m.heard i f.1≠ []∨f.1=0 then(m.cO i f,[])
 else match ((m.cO i f).at' i).nd with
  |none=>(m.cO i f,[])
  |some s=>((m.cO i f).put i {(m.cO i f).at' i with nd:=some (s.brk m.now f.1)}).Ch i (s.brk m.now f.1).ot
def did(m:aM)(i:Nat)(o:Ot):aM×List Ev:=jH (iX i) m i o
def act(m:aM)(i:Nat)(s:St):aM×List Ev:=(m.put i {m.at' i with nd:=some s}).did i s.ot
def hear(m:aM)(i j:Nat)(b:ByteArray):aM×List Ev:=
 match (m.at' i).nd with
 |none=>(m,[])
 |some s=>m.act i (s.rcv m.now (m.at' j).addr (aA b))
def kz(z:aM×List Ev)(i:Nat):aM×List Ev:=
 match (z.1.at' i).nd with
 |none=>z
 |some s=>((z.1.act i (s.iW z.1.now)).1,z.2++(z.1.act i (s.iW z.1.now)).2)
def tick(m:aM)(n:Int):aM×List Ev:=
 if n<1∨n>60000 then(m,[])else(List.range m.S.length).foldl kz ({m with now:=m.now+n},[])
def link(m:aM)(a b:Nat)(on:Bool):aM:=
 if a=b then m else
  let m:=m.put a {m.at' a with hrs:=(m.at' a).hrs.set b on}
  m.put b {m.at' b with hrs:=(m.at' b).hrs.set a on}
def send(m:aM)(a b:Nat)(t:ByteArray):aM×List Ev:=
 match (m.at' a).nd with
 |none=>(m,[])
 |some s=>
  if t.size>16 then(m,[⟨a,6,Ot.none⟩])
  else if (m.at' b).addr=s.me∨(m.at' b).addr=0 then(m,[⟨a,2,Ot.none⟩])
  else m.act a (s.snd m.now (m.at' b).addr t)
def IB(m:aM)(a:Nat):aM×List Ev:=m.act a (St.new (m.at' a).addr (m.at' a).bH m.now)
def has(m:aM)(i:Int):Bool:=decide (0<=i)&&decide (i<m.S.length)
def runs(m:aM)(i:Int):Bool:=m.has i&&(m.at' i.toNat).nd.isSome
end aM
structure Op where
 fe:Int
 a:Int
 b:Int
 n:Int
 on:Bool
 txt:ByteArray
namespace aM
def may(m:aM)(op:Op):Bool:=
 if op.fe=1 then m.has op.a&&m.has op.b
 else if op.fe=2∨op.fe=8 then m.runs op.a&&m.has op.b
 else if op.fe=9∨op.fe=10 then m.runs op.a
 else if op.fe=11 then m.has op.a&&!m.runs op.a
 else true
def flight(m:aM)(op:Op):aM×List Ev:=
 if op.a<0∨m.aT.length=0 then(m,[])
 else
  let k:=op.a.toNat%m.aT.length
  let f:=m.aT.getD k (0,0,⟨#[]⟩)
  if op.fe=4 then {m with aT:=m.aT.eraseIdx k}.hear f.2.1 f.1 f.2.2
  else if op.fe=5 then({m with aT:=m.aT.eraseIdx k},[])
  else if op.fe=6 then(m.launch f,[])
  else({m with aT:=m.aT.set k (f.1,f.2.1,f.2.2.extract 0 (f.2.2.size - (min (max 0 op.n) f.2.2.size).toNat))},[])
def step(m:aM)(op:Op):aM×List Ev:=
 if !m.may op then(m,[⟨0,5,Ot.none⟩])
 else if op.fe=1 then(m.link op.a.toNat op.b.toNat op.on,[])
 else if op.fe=2 then m.send op.a.toNat op.b.toNat op.txt
 else if op.fe=3 then m.tick op.n
 else if op.fe=4∨op.fe=5∨op.fe=6∨op.fe=7 then m.flight op
 else if op.fe=8 then m.hear op.a.toNat op.b.toNat op.txt
 else if op.fe=9 then(m.put op.a.toNat (m.at' op.a.toNat).stop,[])
 else if op.fe=10 then(m.put op.a.toNat {m.at' op.a.toNat with tears:=true,whole:=max 0 op.n},[])
 else if op.fe=11 then m.IB op.a.toNat
 else(m,[])
def new(L:List Int):aM:=⟨0,L.map λa=>⟨a,bD (St.new a [] 0).bg,some (St.new a [] 0),List.replicate 6 false,false,0⟩,[]⟩
end aM
open Go.RowKit Go.Maps
variable{K:List Nat}{m:aM}{s:eB}{W W' a b:World}
def Yx:List Nat:=[97,94,149,102,5,131,158,38,34,177,9,165,254,35]
def abU:List Nat:=[131,158,38,34,177,9,165,254,35]
def YX(K:List Nat)(o:Obj):Prop:=(∃es cl,o=.map es cl)∨∃c t,t∈K∧o=.cells c t (0,0)
theorem YX.mono{K':List Nat}{o:Obj}(h:YX K o)(hs:∀t∈K,t∈K'):YX K' o:=by
 rcases h with h|⟨c,t,ht,e⟩
 ·exact .inl h
 ·exact .inr ⟨c,t,hs t ht,e⟩
theorem YX.not{c:Array Value}{t:Nat}{mk:Nat×Nat}(h:YX K (.cells c t mk))(ht:t ∉ K):False:=by
 rcases h with⟨es,cl,e⟩|⟨c',t',h1,e⟩
 ·cases e
 ·cases e;exact ht h1
theorem Nn.kind{N:Nat}{g:bI}{s:St}{TL:List Hp.Tm}(n:Nn N g s TL W){k:Nat}(hk:Ft N g s k):∃o,W.heap[k]?=some o∧YX abU o:=by
 rcases hk with(rfl|rfl|hk)|hk
 ·exact⟨_,n.cr.nd,.inr ⟨_,_,by decide,rfl⟩⟩
 ·obtain⟨es,cl,hm⟩:=n.cr.mo.obj;exact⟨_,hm,.inl ⟨_,_,rfl⟩⟩
 ·rcases hk with rfl|rfl|⟨y,hy,hk|hk⟩
  ·exact⟨_,n.cr.tb.blk,.inr ⟨_,158,by decide,rfl⟩⟩
  ·obtain⟨es,cl,hm⟩:=n.cr.tb.map.obj;exact⟨_,hm,.inl ⟨_,_,rfl⟩⟩
  ·obtain⟨B,p1,p2⟩:=n.cr.tb.ln y hy;rw[p1]at hk;cases hk;exact⟨_,p2,.inr ⟨_,38,by decide,rfl⟩⟩
  ·obtain⟨c,hc⟩:=aS (n.cr.tb.row y hy) hk;exact⟨_,hc,.inr ⟨_,34,by decide,rfl⟩⟩
 ·have r:=n.rs;rcases hk with rfl|hk|rfl|rfl|hk|hk
  ·obtain⟨es,cl,hm⟩:=r.sn.obj;exact⟨_,hm,.inl ⟨_,_,rfl⟩⟩
  ·obtain⟨o,ho,⟨rfl,es,cl,rfl⟩|⟨c,rfl⟩|⟨c,rfl⟩⟩:=r.sr.kind hk
   ·exact⟨_,ho,.inl ⟨_,_,rfl⟩⟩
   ·exact⟨_,ho,.inr ⟨_,177,by decide,rfl⟩⟩
   ·exact⟨_,ho,.inr ⟨_,9,by decide,rfl⟩⟩
  ·exact⟨_,r.tm.blk,.inr ⟨_,165,by decide,rfl⟩⟩
  ·obtain⟨f,p1,_⟩:=r.tm.map;obtain⟨es,cl,hm⟩:=p1.obj;exact⟨_,hm,.inl ⟨_,_,rfl⟩⟩
  ·obtain⟨c,hc⟩:=aS r.tm.row hk;exact⟨_,hc,.inr ⟨_,254,by decide,rfl⟩⟩
  ·obtain⟨c,hc⟩:=aS r.pc hk;exact⟨_,hc,.inr ⟨_,35,by decide,rfl⟩⟩
structure SG where
 B:Nat
 jv:Value
 N:Nat
 g:bI
 TL:List Hp.Tm
def Oi(N:Nat):Option St->Value
 |none=> .pointer none
 |some _=> .pointer (some ⟨N,0,none⟩)
def FJ(x:SG)(s:eB):List Value:=[.int .u32 s.addr,x.jv,Oi x.N s.nd]++s.hrs.map Value.bool++ [.bool s.tears,.int .i64 s.whole]
structure m_(x:SG)(s:eB)(W:World):Prop where
 blk:W.heap[x.B]?=some (.cells (FJ x s).toArray 102 (0,0))
 hl:s.hrs.length=6
 row:W.ownsRow 0 5 1 x.jv s.bH.length (U s.bH)
 nd:∀z,s.nd=some z->Nn x.N x.g z x.TL W∧dV z x.TL
def lm(x:SG)(s:eB)(k:Nat):Prop:=k=x.B∨x.jv.ownBlock=some k∨∃z,s.nd=some z∧Ft x.N x.g z k
def abG:List Nat:=[102,5,131,158,38,34,177,9,165,254,35]
theorem m_.kind{x:SG}(h:m_ x s W){k:Nat}(hk:lm x s k):∃o,W.heap[k]?=some o∧YX abG o:=by
 rcases hk with rfl|hk|⟨z,hz,hk⟩
 ·exact⟨_,h.blk,.inr ⟨_,102,by decide,rfl⟩⟩
 ·obtain⟨c,hc⟩:=aS h.row hk;exact⟨_,hc,.inr ⟨_,5,by decide,rfl⟩⟩
 ·obtain⟨o,ho,hK⟩:=(h.nd z hz).1.kind hk;exact⟨o,ho,hK.mono (by decide)⟩
theorem m_.lt{x:SG}(h:m_ x s W){k:Nat}(hk:lm x s k):k<W.heap.size:=by
 obtain⟨o,ho,_⟩:=h.kind hk;exact aG ho
theorem m_.kept{x:SG}(h:m_ x s W)(he:∀k,lm x s k->W'.heap[k]?=W.heap[k]?):m_ x s W':=
 ⟨(he _ (.inl rfl)).trans h.blk,h.hl,bQ h.row λk hk=>he k (.inr (.inl hk)),λz hz=>⟨(h.nd z hz).1.kept λk hk=>he k (.inr (.inr ⟨z,hz,hk⟩)),(h.nd z hz).2⟩⟩
structure MG where
 G:Nat
 sv:Value
 av:Value
 L:List SG
def KE(L:List SG):List Value:=L.map λx=> .pointer (some ⟨x.B,0,none⟩)
def oh(L:List (Nat×Nat×ByteArray)):List Value:=L.flatMap λf=> [.int .i64 f.1,.int .i64 f.2.1,.string f.2.2]
structure MM(y:MG)(m:aM)(W:World):Prop where
 blk:W.heap[y.G]?=some (.cells #[.int .u64 m.now,y.sv,y.av] 97 (0,0))
 zJ:W.ownsRow 0 94 1 y.sv m.S.length (KE y.L)
 aT:W.ownsRow 0 149 3 y.av m.aT.length (oh m.aT)
 len:y.L.length=m.S.length
 st:∀(i:Nat) x s,y.L[i]?=some x->m.S[i]?=some s->m_ x s W
 ap:∀(i j:Nat) x s x' s',i≠j->y.L[i]?=some x->m.S[i]?=some s->y.L[j]?=some x'->m.S[j]?=some s'->∀k,lm x s k->¬lm x' s' k
def wE(y:MG)(m:aM)(k:Nat):Prop:=k=y.G∨y.sv.ownBlock=some k∨y.av.ownBlock=some k∨∃(i:Nat) (x:SG) (s:eB),y.L[i]?=some x∧m.S[i]?=some s∧lm x s k
theorem MM.kind{y:MG}(h:MM y m W){k:Nat}(hk:wE y m k):∃o,W.heap[k]?=some o∧YX Yx o:=by
 rcases hk with rfl|hk|hk|⟨i,x,s,h1,h2,hk⟩
 ·exact⟨_,h.blk,.inr ⟨_,97,by decide,rfl⟩⟩
 ·obtain⟨c,hc⟩:=aS h.zJ hk;exact⟨_,hc,.inr ⟨_,94,by decide,rfl⟩⟩
 ·obtain⟨c,hc⟩:=aS h.aT hk;exact⟨_,hc,.inr ⟨_,149,by decide,rfl⟩⟩
 ·obtain⟨o,ho,hK⟩:=(h.st i x s h1 h2).kind hk;exact⟨o,ho,hK.mono (by decide)⟩
theorem MM.lt{y:MG}(h:MM y m W){k:Nat}(hk:wE y m k):k<W.heap.size:=by
 obtain⟨o,ho,_⟩:=h.kind hk;exact aG ho
theorem MM.not{y:MG}(h:MM y m W){k:Nat}{c:Array Value}{t:Nat}{mk:Nat×Nat}(ho:W.heap[k]?=some (.cells c t mk))(ht:t ∉ Yx):¬wE y m k:=λhk=>by
 obtain⟨o,ho',hK⟩:=h.kind hk;rw[ho]at ho';cases ho';exact hK.not ht
theorem MM.kept{y:MG}(h:MM y m W)(he:∀k,wE y m k->W'.heap[k]?=W.heap[k]?):MM y m W':=
 ⟨(he _ (.inl rfl)).trans h.blk,bQ h.zJ λk hk=>he k (.inr (.inl hk)),bQ h.aT λk hk=>he k (.inr (.inr (.inl hk))),h.len,λi x s h1 h2=>(h.st i x s h1 h2).kept λk hk=>he k (.inr (.inr (.inr ⟨i,x,s,h1,h2,hk⟩))),h.ap⟩
theorem MM.later{y:MG}(h:MM y m W)(hb:Below W.heap.size W W'):MM y m W':=h.kept λk hk=>hb.block k (h.lt hk)
theorem MM.own{y:MG}(h:MM y m W){i:Nat}{x:SG}{s:eB}(h1:y.L[i]?=some x)(h2:m.S[i]?=some s){k:Nat}(hk:lm x s k):k≠y.G∧y.sv.ownBlock≠some k∧y.av.ownBlock≠some k:=by
 obtain⟨o,ho,hK⟩:=(h.st i x s h1 h2).kind hk;refine⟨?_,λe=> ?_,λe=> ?_⟩
 ·rintro rfl;rw[h.blk]at ho;cases ho;exact hK.not (by decide)
 ·obtain⟨c,hc⟩:=aS h.zJ e;rw[hc]at ho;cases ho;exact hK.not (by decide)
 ·obtain⟨c,hc⟩:=aS h.aT e;rw[hc]at ho;cases ho;exact hK.not (by decide)
structure MU(y:MG)(m:aM)(y':MG)(m':aM)(W W':World):Prop where
 fx:Fx (wE y m) W W'
 sub:∀k,wE y' m' k->wE y m k∨(W.heap.size<=k∧k<W'.heap.size)
 G:y'.G=y.G
 n:m'.S.length=m.S.length
 sv:y'.sv=y.sv
 B:y'.L.map (·.B)=y.L.map (·.B)
theorem MU.refl(y:MG)(m:aM)(W:World):MU y m y m W W:=⟨Fx.refl _ _,λ_ h=> .inl h,rfl,rfl,rfl,rfl⟩
theorem MU.trans{y y' y'':MG}{m' m'':aM}{c:World}(p:MU y m y' m' a b)(q:MU y' m' y'' m'' b c):MU y m y'' m'' a c:=by
 have h1:=p.fx.size;have h2:=q.fx.size;refine⟨p.fx.trans q.fx λi hi hk=>(p.sub i hk).elim id λh=>by omega,λk hk=> ?_,q.G.trans p.G,q.n.trans p.n,q.sv.trans p.sv,q.B.trans p.B⟩;rcases q.sub k hk with h|h
 ·rcases p.sub k h with h|h
  ·exact .inl h
  ·exact .inr (by omega)
 ·exact .inr (by omega)
theorem MU.below{y:MG}(h:Below a.heap.size a b):MU y m y m a b:=⟨Fx.below h,λ_ h=> .inl h,rfl,rfl,rfl,rfl⟩
theorem bW{α:Type}{L:List α}{i j:Nat}{a b:α}(h:(L.set i a)[j]?=some b):(j=i∧b=a)∨(j≠i∧L[j]?=some b):=by
 rw[List.getElem?_set]at h;split at h
 ·rename_i e;split at h
  ·cases h;exact .inl ⟨e.symm,rfl⟩
  ·cases h
 ·rename_i e;exact .inr ⟨λh=>e h.symm,h⟩
theorem MM.turn{y:MG}(h:MM y m W){i:Nat}{x x':SG}{s s':eB}(h1:y.L[i]?=some x)(h2:m.S[i]?=some s)(hf:Fx (lm x s) W W')(hst:m_ x' s' W')(hB:x'.B=x.B)(sub:∀k,lm x' s' k->lm x s k∨(W.heap.size<=k∧k<W'.heap.size)):
  MM {y with L:=y.L.set i x'} {m with S:=m.S.set i s'} W'∧MU y m {y with L:=y.L.set i x'} {m with S:=m.S.set i s'} W W':=by
 have hpt:KE (y.L.set i x')=KE y.L:=by
  unfold KE;rw[List.map_set,hB];refine List.ext_getElem? λj=> ?_;rw[List.getElem?_set];split
  ·rename_i e;subst e;rw[l9,h1];split
   ·rfl
   ·rename_i hl;rw[gY]at hl;exact absurd (fO.1 h1).1 hl
  ·rfl
 have hoth:∀(j:Nat) z u,j≠i->y.L[j]?=some z->m.S[j]?=some u->∀k,lm z u k->W'.heap[k]?=W.heap[k]?:=λj z u hj e1 e2 k hk=>
  hf.block k ((h.st j z u e1 e2).lt hk) λhc=>h.ap j i z u x s hj e1 e2 h1 h2 k hk hc
 refine⟨⟨(hf.block _ (aG h.blk) λhc=>(h.own h1 h2 hc).1 rfl).trans h.blk,?_,bQ h.aT λk hk=>hf.block k (h.aT.lt k hk).2 λhc=>(h.own h1 h2 hc).2.2 hk,?_,?_,?_⟩,⟨hf.mono λk hk=> .inr (.inr (.inr ⟨i,x,s,h1,h2,hk⟩)),?_,rfl,List.length_set,rfl,?_⟩⟩
 ·dsimp only;rw[hpt,List.length_set];exact bQ h.zJ λk hk=>hf.block k (h.zJ.lt k hk).2 λhc=>(h.own h1 h2 hc).2.1 hk
 ·simp only[List.length_set];exact h.len
 ·intro j z u e1 e2;rcases bW e1 with⟨rfl,rfl⟩|⟨hj,e1⟩
  ·rcases bW e2 with⟨_,rfl⟩|⟨hj,_⟩
   ·exact hst
   ·exact absurd rfl hj
  ·rcases bW e2 with⟨e,_⟩|⟨_,e2⟩
   ·exact absurd e hj
   ·exact(h.st j z u e1 e2).kept (hoth j z u hj e1 e2)
 ·intro a b z u z' u' hab e1 e2 e3 e4 k hk hk';rcases bW e1 with⟨rfl,rfl⟩|⟨ha,e1⟩
  ·rcases bW e2 with⟨_,rfl⟩|⟨hj,_⟩
   ·rcases bW e3 with⟨e,_⟩|⟨hb,e3⟩
    ·exact hab e.symm
    ·rcases bW e4 with⟨e,_⟩|⟨_,e4⟩
     ·exact hb e
     ·rcases sub k hk with hc|hc
      ·exact h.ap _ _ _ _ _ _ (Ne.symm hb) h1 h2 e3 e4 k hc hk'
      ·have:=(h.st _ _ _ e3 e4).lt hk';omega
   ·exact hj rfl
  ·rcases bW e2 with⟨e,_⟩|⟨_,e2⟩
   ·exact ha e
   ·rcases bW e3 with⟨rfl,rfl⟩|⟨hb,e3⟩
    ·rcases bW e4 with⟨_,rfl⟩|⟨hj,_⟩
     ·rcases sub k hk' with hc|hc
      ·exact h.ap _ _ _ _ _ _ ha (by assumption) (by assumption) h1 h2 k hk hc
      ·have:=(h.st _ _ _ (by assumption) (by assumption)).lt hk;omega
     ·exact hj rfl
    ·rcases bW e4 with⟨e,_⟩|⟨_,e4⟩
     ·exact hb e
     ·exact h.ap _ _ _ _ _ _ hab e1 e2 e3 e4 k hk hk'
 ·rintro k (rfl|hk|hk|⟨j,z,u,e1,e2,hk⟩)
  ·exact .inl (.inl rfl)
  ·exact .inl (.inr (.inl hk))
  ·exact .inl (.inr (.inr (.inl hk)))
  ·rcases bW e1 with⟨rfl,rfl⟩|⟨hj,e1⟩
   ·rcases bW e2 with⟨_,rfl⟩|⟨hj,_⟩
    ·rcases sub k hk with hc|hc
     ·exact .inl (.inr (.inr (.inr ⟨j,x,s,h1,h2,hc⟩)))
     ·exact .inr hc
    ·exact absurd rfl hj
   ·rcases bW e2 with⟨e,_⟩|⟨_,e2⟩
    ·exact absurd e hj
    ·exact .inl (.inr (.inr (.inr ⟨j,z,u,e1,e2,hk⟩)))
 ·dsimp only;rw[List.map_set,hB];refine List.ext_getElem? λj=> ?_;rw[List.getElem?_set];split
  ·rename_i e;subst e;rw[l9,h1];split
   ·rfl
   ·rename_i hl;rw[gY]at hl;exact absurd (fO.1 h1).1 hl
  ·rfl
section
variable {P:Program} (w:World)
theorem zS(base:Nat)(t tx ty e:TypeId)(i:TypeInfo)(z:Value)(size bytes:Nat)(ht:P.underlying t=some (.slice e))(hi:P.info? e=some i)(hz:i.zero=some z)
  (hsize:i.size=size) (hby:i.bytes=bytes) (hzs:z.cells.size=size)
  (v:Value) (n:Nat) (xs:List Value) (hown:w.ownsRow base e size v n xs)
  (x:Value) (m:Nat) (news:List Value) (hs:Src P size tx x m news w)
  (h63:n+m<=maxLen) (hbytes:(n+m)* bytes<=140737488355328) (hbase:base<=w.heap.size):
  ∃v' w',(Builtin.append_ #[t,tx] ty #[v,x]).run P w=.ok v' w'∧w'.ownsRow base e size v' (n+m) (xs++news)∧w.grownBy w' v.ownBlock∧(v'.ownBlock=v.ownBlock∨v'.ownBlock=some w.heap.size):=by
 subst hsize;subst hby;have hl:=hs.newsLen;have hsmall:n+m<=9223372036854775807:=by simp only[maxLen]at h63;omega
 have hlen:(xs++news).length=(n+m)* i.size:=by rw[bU,hown.1,hl,Nat.add_mul]
 rcases hown.2 with⟨rfl,rfl⟩|⟨g,cap,cur,rfl,hbg,hg,hnc,hcm,hcs,htake⟩
 ·have hx0:xs=[]:=nU (by have:=hown.1;simpa using this);subst hx0;by_cases hm:m=0
  ·subst hm;have hn0:news=[]:=nU (by rw[hl];simp);subst hn0;have hr:(Builtin.append_ #[t,tx] ty #[.slice none 0 0,x]).run P w=.ok (.slice none 0 0) w:=by
    rcases hs.kind with⟨e',hk⟩|hk<;>simp[Builtin.append_,run_underlying ht,run_underlying hk,sizeOf,typeInfo,hi,hs.len,hs.cells]
   exact⟨_,_,hr,hown,⟨rfl,rfl,rfl,aB _,λ_ _ _=>rfl⟩,.inl rfl⟩
  ·have hr:=run_append_grow_src (P:=P) w t tx ty e i z ht hi hz none 0 0 [] (run_firstCells_none w.drew i.size 0 0 0) x m news hs (by omega) (by omega) (growslice_fits (by omega) hbytes);have hge:=grownCap_ge w (0+m) 0 e;have hcm:grownCap w (0+m) 0 e<=maxLen:=grownCap_le_maxLen w (0+m) 0 e h63;refine⟨_,_,hr,⟨hlen,.inr ⟨w.heap.size,_,_,rfl,hbase,bV w.drew _,hge,hcm,?_,?_⟩⟩,⟨rfl,rfl,rfl,by simp,λk hk _=>Go.heap_alloc_old w.drew _ hk⟩,.inr rfl⟩
   ·simp only[Array.size_append,List.size_toArray,size_zeroCells,hzs,hlen,<-Nat.add_mul]
    congr 1
    omega
   ·simp only[Array.toList_append];rw[<-hlen];exact List.take_left
 ·by_cases hroom:n+m<=cap
  ·have hfit:n * i.size+news.length<=cur.size:=by rw[hl,hcs,<-Nat.add_mul];exact Nat.mul_le_mul_right _ hroom
   have hr:=l7 (P:=P) w t tx ty e i ht hi g n cap cur hg x m news hs hroom hfit;refine⟨_,_,hr,⟨hlen,.inr ⟨g,cap,_,rfl,hbg,setRow_heap w g cur _ e _ hg,hroom,hcm,?_,?_⟩⟩,⟨rfl,rfl,rfl,by simp,λk _ hk=>setRow_other w g k _ (λe=>hk (by simp[Value.ownBlock,e]))⟩,.inl rfl⟩
   ·simp only[List.size_toArray,bU,List.length_take,List.length_drop,Array.length_toList];omega
   ·rw[htake,<-hlen];exact List.take_left
  ·have holds:∀j u,xs[j]?=some u->w.cell? ((⟨g,0,none⟩:Addr).add j)=some u:=hown.cells (g:=g) rfl;have hfo:=run_firstCells_some (P:=P) w.drew i.size n ⟨g,0,none⟩ n cap xs hown.1 (by simpa using holds);have hr:=run_append_grow_src (P:=P) w t tx ty e i z ht hi hz (some ⟨g,0,none⟩) n cap xs hfo x m news hs (by omega) (by omega) (growslice_fits (by omega) hbytes);have hge:=grownCap_ge w (n+m) cap e;have hcm:grownCap w (n+m) cap e<=maxLen:=grownCap_le_maxLen w (n+m) cap e h63;refine⟨_,_,hr,⟨hlen,.inr ⟨w.heap.size,_,_,rfl,hbase,bV w.drew _,hge,hcm,?_,?_⟩⟩,⟨rfl,rfl,rfl,by simp,λk hk _=>Go.heap_alloc_old w.drew _ hk⟩,.inr rfl⟩
   ·simp only[Array.size_append,List.size_toArray,size_zeroCells,hzs,hlen,<-Nat.add_mul]
    congr 1
    omega
   ·simp only[Array.toList_append];rw[<-hlen];exact List.take_left
end
theorem iJ{P:Program}{ops:Array Oper}{o:Oper}{a:Act}{w:World}{K:Act->World->Prop}{Q:Exit->Act->World->Prop}{E:Prop}
  (hg:o.guard=none) (s x:Operand) (t tx:TypeId) (hop:o.op=Op.call {callee:=Callee.builtin Builtin.append,args:=#[s,x],argTypes:=#[t,tx]})
  (base:Nat) (e:TypeId) (i:TypeInfo) (z:Value) (size bytes:Nat) (h1:P.underlying t=some (.slice e)) (h2:P.info? e=some i) (h3:i.zero=some z) (h4:i.size=size) (h5:i.bytes=bytes) (h6:z.cells.size=size)
  (v:Value) (n:Nat) (xs:List Value) (hs:a.eval s=v) (hown:w.ownsRow base e size v n xs)
  (xv:Value) (m:Nat) (news:List Value) (hx:a.eval x=xv) (hsrc:Src P size tx xv m news w)
  (b1:n+m<=maxLen) (b2:(n+m)* bytes<=140737488355328) (hbase:base<=w.heap.size)
  (hK:∀v' w',w'.ownsRow base e size v' (n+m) (xs++news)->w.grownBy w' v.ownBlock->(v'.ownBlock=v.ownBlock∨v'.ownBlock=some w.heap.size)->K (a.put o.dst v') w'):
  if Region.wanted o (yielded ops a.tmps)=true then Oper.wp P o a w K Q else E:=by
 have hw:Region.wanted o (yielded ops a.tmps)=true:=by simp[Region.wanted,hg]
 rw[aI hw];obtain⟨v',w',hrun,r1,r2,r3⟩:=zS (P:=P) w base t tx o.type e i z size bytes h1 h2 h3 h4 h5 h6 v n xs hown xv m news hsrc b1 b2 hbase;unfold Oper.wp;simp[execOp,hop,resolve,invoke,builtin,hs,hx,hrun,Result.andThen];exact hK v' w' r1 r2 r3
theorem nH{P:Program}{w:World}{ops:Array Oper}{rest:List Oper}{o:Oper}{a:Act}{Q:Exit->Act->World->Prop}(hg:o.guard=none)(s x:Operand)(t tx:TypeId)(hop:o.op=Op.call {callee:=Callee.builtin Builtin.append,args:=#[s,x],argTypes:=#[t,tx]})
  (base:Nat) (e:TypeId) (i:TypeInfo) (z:Value) (size bytes:Nat) (h1:P.underlying t=some (.slice e)) (h2:P.info? e=some i) (h3:i.zero=some z) (h4:i.size=size) (h5:i.bytes=bytes) (h6:z.cells.size=size)
  (v:Value) (n:Nat) (xs:List Value) (hs:a.eval s=v) (hown:w.ownsRow base e size v n xs)
  (xv:Value) (m:Nat) (news:List Value) (hx:a.eval x=xv) (hsrc:Src P size tx xv m news w)
  (b1:n+m<=maxLen) (b2:(n+m)* bytes<=140737488355328) (hbase:base<=w.heap.size)
  (hK:∀v' w',w'.ownsRow base e size v' (n+m) (xs++news)->w.grownBy w' v.ownBlock->(v'.ownBlock=v.ownBlock∨v'.ownBlock=some w.heap.size)->wpList P ops Q rest (a.put o.dst v') w'):
  wpList P ops Q (o::rest) a w:=by
 refine wpList_plain hg λK hKK=> ?_;have h:=iJ (ops:=ops) (E:=True) (K:=K) (Q:=Q) hg s x t tx hop base e i z size bytes h1 h2 h3 h4 h5 h6 v n xs hs hown xv m news hx hsrc b1 b2 hbase λv' w' k1 k2 k3=>hKK _ _ (hK v' w' k1 k2 k3);have hw:Region.wanted o (yielded ops a.tmps)=true:=by simp[Region.wanted,hg]
 rw[aI hw]at h;exact h
theorem Src.ofRow{P:Program}{w:World}{base e size n:Nat}{v:Value}{xs:List Value}{tx e':TypeId}(hk:P.underlying tx=some (.slice e'))(h:w.ownsRow base e size v n xs)(h1:∀u∈xs,u.oneCell'=true):Src P size tx v n xs w:=by
 rcases h.2 with⟨rfl,rfl⟩|⟨g,cap,cur,rfl,_⟩
 ·have hx:xs=[]:=nU (by have:=h.1;simpa using this);subst hx;exact Src.ofNil w hk 0
 ·exact Src.ofSlice w hk ⟨g,0,none⟩ n cap xs h.1 (h.cells (g:=g) rfl) h1
end Go.Proofs.YtakaadcpaeiccabGreat
