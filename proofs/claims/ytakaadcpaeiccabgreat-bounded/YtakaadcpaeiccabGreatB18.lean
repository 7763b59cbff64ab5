import Derived.Test.YtakaadcpaeiccabGreatB17
set_option maxHeartbeats 4000000
set_option maxRecDepth 100000
namespace Go.Proofs.YtakaadcpaeiccabGreat
open Go.RowKit Go.Maps Go.MuLone
variable{last:Int}{J:List (Bool×Int×Int)}{A:List Rt}{B M T b:Nat}{v:Value}{W W':World}
theorem Vr(h:oV J):∀(f:Int->Option Int) (c:Option Int) (o:List (Bool×Int×Int)),jI f c o->jI (J.foldl stepM f) (J.foldl oN c) (J.foldl (λo r=>Am o (norm r)) o):=by
 induction J with
 |nil=>intro f c o h;exact h
 |cons y J ih=>
  intro f c o hc;simp only[iH];exact ih (λz hz=>h z (kU _ hz)) _ _ _ (hc.put y (JN h (jo ..)).2.1)
theorem KG(h:oV J):jI (Ar J) (qF J) (cmpL J):=Vr h _ _ _ jI.nil
theorem ER(h:oV J):bg ((qF J).getD 0):=by
 have:∀(J:List (Bool×Int×Int)) (c:Option Int),oV J->OB c->OB (J.foldl oN c):=by
  intro J
  induction J with
  |nil=>intro c _ h;exact h
  |cons y J ih=>
   intro c hJ hc;rw[iH];exact ih _ (λz hz=>hJ z (kU _ hz)) (hc.step (JN hJ (jo ..)).2)
 exact(this J none h Pj).getD
def St.raw(me:Int)(xs:List Int)(now:Int):St:=
 ⟨me,gr ((qF (jl xs)).getD 0),if xs=[]then 0 else now+2000,0,0,vw me (cmpL (jl xs)),[],0,λ_=>none,0,0,[],0,[],now,[],[],[],[],decide (xs≠ []),0⟩
theorem St.rU(me:Int)(xs:List Int)(now:Int):St.new me xs now=(St.raw me xs now).finish:=rfl
theorem Od:bg 0:=by unfold bg;omega
theorem JO{me:Int}{xs:List Int}{now:Int}(hU:bg me)(hbd:oV (jl xs))(eZ:0<=now∧now<=4611686018427387904):(St.raw me xs now).Mid 0 0:=
 ⟨hU,sD (ER hbd),eZ,λ_ h=>(by cases h),⟨λ_ _ h=>(by cases h),λ_ h=>(by cases h),Od⟩,by dsimp only[St.raw];omega,aA _,λ_ h=>(by cases h),aA _,aA _,aA _,by dsimp only[St.raw];omega,by dsimp only[St.raw];omega,bX _,List.Pairwise.nil,λ_ h=>(by cases h),λ_ h=>(by cases h)⟩
theorem TR.lower{base:Nat}{h:List Hp.Tm}(r:TR base T M last h v W)(hb:b<=base):TR b T M last h v W:=
 ⟨r.blk,ownsRow_base_a r.row hb,r.map,r.ok,dF hb r.bT,dF hb r.bM⟩
theorem MT.later'{me:Int}{f:Int->Option Nat}{g:Int->Value}(h:MT me T M f g A W)(hb:Below W.heap.size W W'):MT me T M f g A W':=h.kept λk hk=>hb.block k (h.lt hk)
theorem TR.later'{h:List Hp.Tm}(r:TR b T M last h v W)(hb:Below W.heap.size W W'):TR b T M last h v W':=
 r.at (hb.block _ r.blk.lt) (by obtain⟨f,p1,_⟩:=r.map;exact hb.block _ p1.lt) λk hk=>hb.block _ (r.row.lt k hk).2
theorem E5(w:World):
  Calls Tryz.prog 45 #[] w λe w'=>∃Ms,e=.returned (.agg #[.map (some Ms),.int .i64 0])∧Below w.heap.size w w'∧vU Ms 0 [] w'∧w.heap.size<=Ms:=by
 have hmm:=@run_makeMap Tryz.prog;have jh:Below w.heap.size w (w.alloc (.cells #[.map (some (w.heap.size+1)),.int .i64 0] 113)):=bn;have hb:Below w.heap.size w ((w.alloc (.cells #[.map (some (w.heap.size+1)),.int .i64 0] 113)).alloc (.map #[] 0)):=jh.alloc jh.size _;have hC:((w.alloc (.cells #[.map (some (w.heap.size+1)),.int .i64 0] 113)).alloc (.map #[] 0)).heap[w.heap.size]?=some (.cells #[.map (some (w.heap.size+1)),.int .i64 0] 113):=(((aR _ (w.alloc (.cells #[.map (some (w.heap.size+1)),.int .i64 0] 113))).alloc (aA _) _).block w.heap.size (by simp)).trans (bO _ _);have hM:=vU.made (w.alloc (.cells #[.map (some (w.heap.size+1)),.int .i64 0] 113));rw[World.size_alloc]at hM;go_enter Tryz.func45,Tryz.ntmps45;go_wp2;generalize World.alloc (World.alloc _ _) _=W at hb hC hM ⊢;have p0:W.cell? ⟨w.heap.size,0,none⟩=some (.map (some (w.heap.size+1))):=aF _ _ 0 _ _ _ hC;have p1:W.cell? ⟨w.heap.size,1,none⟩=some (.int .i64 0):=aF _ _ 1 _ _ _ hC;exact bodyPost_ret (v:=.agg #[.map (some (w.heap.size+1)),.int .i64 0]) (by simp[results,Tryz.results45,go_sem,p0,p1]) rfl ⟨_,rfl,hb,hM,Nat.le_succ _⟩
theorem CK(w:World):
  Calls Tryz.prog 46 #[] w λe w'=>∃Mo,e=.returned (.agg #[.int .u32 0,.map (some Mo),.int .i64 0])∧Below w.heap.size w w'∧MapU w' Mo (λ_=>none) 0∧w.heap.size<=Mo:=by
 have hmm:=@run_makeMap Tryz.prog;have jh:Below w.heap.size w (w.alloc (.cells #[.int .u32 0,.map (some (w.heap.size+1)),.int .i64 0] 117)):=bn;have hb:Below w.heap.size w ((w.alloc (.cells #[.int .u32 0,.map (some (w.heap.size+1)),.int .i64 0] 117)).alloc (.map #[] 0)):=jh.alloc jh.size _;have hC:((w.alloc (.cells #[.int .u32 0,.map (some (w.heap.size+1)),.int .i64 0] 117)).alloc (.map #[] 0)).heap[w.heap.size]?=some (.cells #[.int .u32 0,.map (some (w.heap.size+1)),.int .i64 0] 117):=(((aR _ (w.alloc (.cells #[.int .u32 0,.map (some (w.heap.size+1)),.int .i64 0] 117))).alloc (aA _) _).block w.heap.size (by simp)).trans (bO _ _);have hM:=MapU.made (w.alloc (.cells #[.int .u32 0,.map (some (w.heap.size+1)),.int .i64 0] 117));rw[World.size_alloc]at hM;go_enter Tryz.func46,Tryz.ntmps46;go_wp2;generalize World.alloc (World.alloc _ _) _=W at hb hC hM ⊢;have p0:W.cell? ⟨w.heap.size,0,none⟩=some (.int .u32 0):=aF _ _ 0 _ _ _ hC;have p1:W.cell? ⟨w.heap.size,1,none⟩=some (.map (some (w.heap.size+1))):=aF _ _ 1 _ _ _ hC;have p2:W.cell? ⟨w.heap.size,2,none⟩=some (.int .i64 0):=aF _ _ 2 _ _ _ hC;exact bodyPost_ret (v:=.agg #[.int .u32 0,.map (some (w.heap.size+1)),.int .i64 0]) (by simp[results,Tryz.results46,go_sem,p0,p1,p2]) rfl ⟨_,rfl,hb,hM,Nat.le_succ _⟩
def ads(s:St)(w:World)(e:Ending)(w':World):Prop:=
 ∃N g aG bL bN,e=.returned (.tuple #[.pointer (some ⟨N,0,none⟩),iC s.bD s.bq aG bL bN,.int .i64 0])∧Nn N g s [] w'∧w'.ownsRow w.heap.size 77 2 aG s.aI.length (sK s.aI)∧w'.ownsRow w.heap.size 56 2 bL s.aT.length (sK s.aT)∧w'.ownsRow w.heap.size 195 1 bN s.aM.length (GZ s.aM)∧Below w.heap.size w w'∧∀k,Ft N g s k->w.heap.size<=k
theorem Uh{me q:Int}{Ms Mo Mr:Nat}{ff:Int->Option Nat}{gg:Int->Value}{w9:World}(now:Int)(hMT:MT me T M ff gg A w9)(GR:vU Ms 0 [] w9)(MQ:MapU w9 Mo (λ_=>none) 0)(UQ:eP w9 Mr (λ_=>none) 0)(NV:TR 0 (B+1) B 0 [] (.slice none 0 0) w9)(h1:M<Ms)(h2:Ms<Mo)(h3:Mo<Mr)(h4:Mr<B):
  Nd w9.heap.size (w9.heap.size+1) ⟨⟨0,me,q,0,T,Ms,0,0,Mo,0,0,0,Mr,B+1,.slice none 0 0⟩,Ed now,M,ff,gg,0,λ_=>none,λ_=> .slice none 0 0,B,[],.slice none 0 0⟩ ⟨me,q,0,0,0,A,[],0,λ_=>none,0,0,[],0,[],now,[],[],[],[],false,0⟩ [] ((w9.alloc (nM ⟨0,me,q,0,T,Ms,0,0,Mo,0,0,0,Mr,B+1,.slice none 0 0⟩)).alloc (nS (Ed now))):=by
 have hb1:Below w9.heap.size w9 (w9.alloc (nM ⟨0,me,q,0,T,Ms,0,0,Mo,0,0,0,Mr,B+1,.slice none 0 0⟩)):=bn;have hn1:=bO w9 (nM ⟨0,me,q,0,T,Ms,0,0,Mo,0,0,0,Mr,B+1,.slice none 0 0⟩);have hsz:(w9.alloc (nM ⟨0,me,q,0,T,Ms,0,0,Mo,0,0,0,Mr,B+1,.slice none 0 0⟩)).heap.size=w9.heap.size+1:=by simp
 generalize w9.alloc (nM ⟨0,me,q,0,T,Ms,0,0,Mo,0,0,0,Mr,B+1,.slice none 0 0⟩)=W1 at hb1 hn1 hsz ⊢;have nn1:Nn w9.heap.size ⟨⟨0,me,q,0,T,Ms,0,0,Mo,0,0,0,Mr,B+1,.slice none 0 0⟩,Ed now,M,ff,gg,0,λ_=>none,λ_=> .slice none 0 0,B,[],.slice none 0 0⟩ ⟨me,q,0,0,0,A,[],0,λ_=>none,0,0,[],0,[],now,[],[],[],[],false,0⟩ [] W1:=
  ⟨⟨hn1,MQ.block (hb1.block _ MQ.lt),hMT.later' hb1,by dsimp only;omega⟩,⟨rfl,rfl,rfl,rfl,rfl,rfl,rfl,rfl,rfl⟩,
  ⟨GR.block (hb1.block _ GR.lt),⟨UQ.block (hb1.block _ UQ.lt),List.Pairwise.nil,λ_ h=>(by cases h),λ_ _ _ h=>(by cases h),λ_ h=>(by cases h),λ_ h=>(by cases h),λ_ h=>(by cases h),bX _⟩,NV.later' hb1,(λ_ _ h=>absurd h (Nat.not_lt_zero _)),List.Perm.refl _,⟨rfl,.inl ⟨rfl,rfl⟩⟩⟩,
  by
   have e1:M≠Mo:=by omega
   have e2:M≠Ms:=by omega
   have e3:M≠Mr:=by omega
   have e4:M≠B:=by omega
   have e5:Mo≠Ms:=by omega
   have e6:Mo≠Mr:=by omega
   have e7:Mo≠B:=by omega
   have e8:Ms≠Mr:=by omega
   have e9:Ms≠B:=by omega
   have e10:Mr≠B:=by omega
   simp[e1,e2,e3,e4,e5,e6,e7,e8,e9,e10],by dsimp only;omega⟩
 have hb2:Below W1.heap.size W1 (W1.alloc (nS (Ed now))):=bn;have ha:=je.zero now W1;rw[hsz]at ha;exact⟨nn1.later hb2,ha,rfl,rfl⟩
theorem je.Hg{base:Nat}{a:oW}{aY:List (Bool×Int×Int)}{aI aT:List (Int×ByteArray)}{aM:List Int}(h:je B base a aY aI aT aM W)(b:Bool):
  je B base {a with bq:=b} aY aI aT aM (W.setCell ⟨B,3,none⟩ (.bool b))∧W.grownBy (W.setCell ⟨B,3,none⟩ (.bool b)) (some B):=by
 have hg:=ah (ay W (some B)) 3 (.bool b);exact⟨⟨h.blk.Ou b,h.mW.kept hg (.inr (aH h.mW h.blk (λc e=>(by cases e)))),h.aG.kept hg (.inr (aH h.aG h.blk (λc e=>(by cases e)))),h.bL.kept hg (.inr (aH h.bL h.blk (λc e=>(by cases e)))),h.bN.kept hg (.inr (aH h.bN h.blk (λc e=>(by cases e))))⟩,hg⟩
theorem Pt{N:Nat}{g:bF}{s:St}(n:Nd N B g s [] W)(v:Int):
  ∃g',Nd N B g' {s with bR:=v,bq:=true} [] ((W.setCell ⟨N,4,none⟩ (.int .u64 v)).setCell ⟨B,3,none⟩ (.bool true))∧Up B (Ft N g s) (Ft N g' {s with bR:=v,bq:=true}) W ((W.setCell ⟨N,4,none⟩ (.int .u64 v)).setCell ⟨B,3,none⟩ (.bool true)):=by
 have e:=n.nn.eq;obtain⟨n1,u1⟩:=n.cells (s':={s with bR:=v}) (n.nn.cr.nd.Oo v) (Fx.grown (ah (ay W (some N)) 4 _) λk h=>by cases h;rfl) ⟨e.self,e.seq,rfl,e.b_,e.dZ,e.tn,e.own,e.cnt,e.lk⟩ ⟨rfl,rfl,rfl,rfl,rfl,rfl⟩ ⟨rfl,rfl,rfl,rfl,rfl,rfl,rfl,rfl,rfl⟩ ⟨rfl,rfl,rfl,rfl,rfl⟩;obtain⟨a2,hg2⟩:=n1.ac.Hg true;obtain⟨n2,u2⟩:=n1.act (s':={s with bR:=v,bq:=true}) a2 (Fx.grown hg2 λk h=>by cases h;exact .inl rfl) ⟨rfl,rfl,rfl,rfl,rfl,rfl,rfl,rfl,rfl,rfl,rfl,rfl,rfl,rfl,rfl⟩ n1.now rfl;exact⟨_,n2,u1.trans u2⟩
theorem NF(me now:Int)(hU:bg me)(hself:me≠0)(v:Value)(xs:List Int)(w:World)(hv:d_ w v xs)(hx1:xs.length<=100000)(hjb:oV (jl xs))(hfw:KY (jl xs))(hjl:(jl xs).length<=50000)(eZ:0<=now∧now<=4611686018427387904):
  Calls Tryz.prog 19 #[.int .u32 me,v,.int .u64 now] w λe w'=>ads (St.new me xs now) w e w':=by
 have hs0:(me==0)=false:=by simpa using hself
 have hmm:=@run_makeMap Tryz.prog;have hb0:Below w.heap.size w (w.alloc iK):=bn;have hC0:(w.alloc iK).heap[w.heap.size]?=some iK:=bO _ _;have hz0:w.heap.size+1<=(w.alloc iK).heap.size:=by simp
 obtain⟨av,cv,rfl⟩:∃a c,v=.slice a xs.length c:=by
  rcases hv.2 with⟨rfl,rfl⟩|⟨b,o,c,rfl,_⟩
  ·exact⟨_,_,rfl⟩
  ·exact⟨_,_,rfl⟩
 have HR:=(show Hid _ from λW hW=>xE (.slice av xs.length cv) xs (by omega) W (hv.kept hW));have hmid:=hide (JO (xs:=xs) hU hjb eZ);obtain⟨s9,pW⟩:∃z,St.raw me xs now=z:=⟨_,rfl⟩;have aau:=hide pW;rw[pW]at hmid;have hnew:St.new me xs now=s9.finish:=by rw[<-pW];rfl
 rw[hnew];obtain⟨s',hs'⟩:∃z,s9.finish=z:=⟨_,rfl⟩;rw[hs'];replace hs':=hide hs';clear hnew pW;have QC:=hide (KG hjb);dsimp only[iK]at hb0 hC0 hz0;clear hv;go_enter Tryz.func19,Tryz.ntmps19;go_upto_region 1 with(fail);generalize World.alloc _ _=W1 at hb0 hC0 hz0 ⊢;go_wp2_with fail;refine aN (HR.out W1 hb0) ?_;rintro e w2 ⟨u,rfl,hb2,hu⟩;obtain⟨au,cu,rfl,hH⟩:=ak hu;generalize hJ:(jl xs)=J at hjb hfw hjl hH hu QC;have hJ':=hide hJ;clear hJ HR;have Ym:=hb0.trans (hb2.mono hb0.size);have hC2:=(hb2.block _ (by omega:w.heap.size<W1.heap.size)).trans hC0;have hz2:=hb2.size;go_wp2_with fail;refine aN (xw au J.length cu J rfl (by omega) hjb w2 hH) ?_;rintro e w3 ⟨rfl,hb3⟩;generalize hgo:(qF J).getD 0=g0;have hgo':=hide hgo;clear hgo;go_wp2_with fail;refine aN (nQ g0 w3) ?_;rintro e w4 ⟨rfl,rfl⟩;have hH3:=hH.below hb3;have Yl:=Ym.trans (hb3.mono Ym.size);have oZ:=(hb3.block _ (by omega:w.heap.size<w2.heap.size)).trans hC2;have hz3:=hb3.size;generalize hq:gr g0=q;have hq':=hide hq;clear hq hC0 hC2 hH hu Ym hb0 hb2 hb3;go_wp2_with fail;refine aN (AV me au J.length cu J rfl hjl hjb hfw w4 hH3) ?_;rintro e w5 ⟨T,out,rfl,hcmp,⟨M,ff,gg,hMT,hTS⟩,hb5⟩;obtain rfl:out=cmpL J:=hcmp.unique QC.out;go_wp2_with fail;refine aN (E5 w5) ?_;rintro e w6 ⟨Ms,rfl,hb6,GR,hMs⟩;go_wp2_with fail;refine aN (CK w6) ?_;rintro e w7 ⟨Mo,rfl,GQ,hmo,MQ⟩;have m_:=hMT.map.lt;have hM8:=eP.made w7;have qz:Below w7.heap.size w7 (w7.alloc (.map #[] 0)):=bn;have hz8:(w7.alloc (.map #[] 0)).heap.size=w7.heap.size+1:=by simp
 go_wp2_with fail;generalize World.alloc _ _=W8 at hM8 qz hz8 ⊢;refine aN (AU W8) ?_;rintro e w9 ⟨rfl,mZ,hT9⟩;have hz5:=hb5.size;have hz6:=hb6.size;have hz7:=GQ.size;have hz9:=mZ.size;have Yp:=qz.trans (mZ.mono qz.size);have Yq:=GQ.trans (Yp.mono GQ.size);have Yr:=hb6.trans (Yq.mono hb6.size);have Yv:=hb5.trans (Yr.mono hb5.size);have acU:=hmo.lt;have YC:=GR.lt;have hn:=Uh (q:=q) now (hMT.later' Yr) (GR.block (Yq.block _ GR.lt)) (hmo.block (Yp.block _ hmo.lt)) (hM8.block (mZ.block _ (by omega))) (hT9.lower (bX _)) (by omega) (by omega) (by omega) (by omega);have hbN:Below w9.heap.size w9 (w9.alloc (nM ⟨0,me,q,0,T,Ms,0,0,Mo,0,0,0,w7.heap.size,W8.heap.size+1,.slice none 0 0⟩)):=bn;have aa2:Below w9.heap.size w9 ((w9.alloc (nM ⟨0,me,q,0,T,Ms,0,0,Mo,0,0,0,w7.heap.size,W8.heap.size+1,.slice none 0 0⟩)).alloc (nS (Ed now))):=hbN.alloc hbN.size _;have XI:((w9.alloc (nM ⟨0,me,q,0,T,Ms,0,0,Mo,0,0,0,w7.heap.size,W8.heap.size+1,.slice none 0 0⟩)).alloc (nS (Ed now))).heap.size=w9.heap.size+2:=by simp
 have Yu:=Yv.trans (aa2.mono Yv.size);have MX:=(Yu.block _ (by omega:w.heap.size<w4.heap.size)).trans oZ;have qQ:=Yl.trans (Yu.mono Yl.size);have hlow:∀k,Ft w9.heap.size ⟨⟨0,me,q,0,T,Ms,0,0,Mo,0,0,0,w7.heap.size,W8.heap.size+1,.slice none 0 0⟩,Ed now,M,ff,gg,0,λ_=>none,λ_=> .slice none 0 0,W8.heap.size,[],.slice none 0 0⟩ ⟨me,q,0,0,0,vw me (cmpL J),[],0,λ_=>none,0,0,[],0,[],now,[],[],[],[],false,0⟩ k->w.heap.size<k:=by
  rintro k ((rfl|rfl|hk)|(rfl|(rfl|⟨z,hz,_⟩)|rfl|rfl|hk|hk))
  ·omega
  ·omega
  ·have:=(hTS k hk).1;omega
  ·omega
  ·show _<w7.heap.size;omega
  ·cases hz
  ·show _<W8.heap.size+1;omega
  ·show _<W8.heap.size;omega
  ·cases hk
  ·cases hk
 have Ai:w.heap.size<w9.heap.size:=by omega
 clear Yp Yq Yr Yv hbN aa2 Yu hM8 qz mZ hT9 hb5 hb6 GQ oZ Yl hMT hTS GR hmo hH3 hcmp QC;dsimp only[nM,nS,Ed]at hn XI MX qQ hlow;clear hz8 hz9;go_upto_region 6 with(fail);generalize World.alloc (World.alloc _ _) _=W10 at hn XI MX qQ ⊢;generalize w9.heap.size=N at hn XI hlow Ai ⊢;obtain⟨g,hg⟩:∃z,(⟨⟨0,me,q,0,T,Ms,0,0,Mo,0,0,0,w7.heap.size,W8.heap.size+1,.slice none 0 0⟩,⟨now,.slice none 0 0,⟨#[]⟩,false,.slice none 0 0,.slice none 0 0,.slice none 0 0⟩,M,ff,gg,0,λ_=>none,λ_=> .slice none 0 0,W8.heap.size,[],.slice none 0 0⟩:bF)=z:=⟨_,rfl⟩;rw[hg]at hn hlow;clear hg hz0 hz2 hz3 hz5 hz6 hz7 acU YC m_ MQ hMs;generalize w7.heap.size=n7;have hend:Hid (∀(g:bF) (W:World),Nd N (N+1) g s9 [] W->Below w.heap.size w W->W.heap[w.heap.size]?=some (.cells #[.string ⟨#[]⟩,.bool false,.slice none 0 0,.slice none 0 0,.slice none 0 0] 52)->(∀k,Ft N g s9 k->w.heap.size<k)->
   Calls Tryz.prog 48 #[.pointer (some ⟨N,0,none⟩),.pointer (some ⟨N+1,0,none⟩)] W λe w6=>∃af kf ac kc ad kd,e=.returned (.agg #[.string s9.finish.bD,.bool s9.finish.bq,.slice af s9.finish.aI.length kf,.slice ac s9.finish.aT.length kc,.slice ad s9.finish.aM.length kd])∧w6.heap[w.heap.size]?=some (.cells #[.string ⟨#[]⟩,.bool false,.slice none 0 0,.slice none 0 0,.slice none 0 0] 52)∧
    ∀W7,w6.grownBy W7 (some w.heap.size)->∃g,Nn N g s9.finish [] W7∧W7.ownsRow w.heap.size 77 2 (.slice af s9.finish.aI.length kf) s9.finish.aI.length (sK s9.finish.aI)∧W7.ownsRow w.heap.size 56 2 (.slice ac s9.finish.aT.length kc) s9.finish.aT.length (sK s9.finish.aT)∧W7.ownsRow w.heap.size 195 1 (.slice ad s9.finish.aM.length kd) s9.finish.aM.length (GZ s9.finish.aM)∧Below w.heap.size w W7∧∀k,Ft N g s9.finish k->w.heap.size<=k):=by
  intro g W n hb hC hl;have hm:=hmid.out;refine(nV n hm.dom (by have:=hm.cnt;omega) (by have:=hm.aY;omega) hm.bd hm.seq).mono ?_;rintro e w6 ⟨g6,rfl,n6,u6,_⟩;obtain⟨af,kf,hf,_⟩:=ak n6.ac.aG;obtain⟨ac,kc,hc,_⟩:=ak n6.ac.bL;obtain⟨ad,kd,hd,_⟩:=ak n6.ac.bN;have hlw:w.heap.size<W.heap.size:=aB hC;have gy:=(u6.block w.heap.size _ hC (λh=>by have:=hl _ h;omega) (.inr (by omega)));have hl6:∀k,Ft N g6 s9.finish k->w.heap.size<k:=λk hk=>by
   rcases u6.sub k hk with h|h
   ·exact hl k h
   ·omega
  have r1:=ownsRow_base_a n6.ac.aG (show w.heap.size<=N+1+1 by omega);have r2:=ownsRow_base_a n6.ac.bL (show w.heap.size<=N+1+1 by omega);have r3:=ownsRow_base_a n6.ac.bN (show w.heap.size<=N+1+1 by omega);rw[hf]at r1;rw[hc]at r2;rw[hd]at r3;refine⟨af,kf,ac,kc,ad,kd,by rw[hf,hc,hd];rfl,gy,λW7 hg=>⟨g6,n6.nn.kept λk hk=>hg.block k (n6.nn.lt hk) (λe=>by cases e;have:=hl6 _ hk;omega),r1.kept hg (.inr (aH r1 gy (λc e=>(by cases e)))),r2.kept hg (.inr (aH r2 gy (λc e=>(by cases e)))),r3.kept hg (.inr (aH r3 gy (λc e=>(by cases e)))),?_,λk hk=>by have:=hl6 k hk;omega⟩⟩;have AJ:Below w.heap.size w w6:=⟨u6.os.trans hb.os,u6.tape.trans hb.tape,u6.output.trans hb.output,dF hb.size u6.size,λk hk=>by
   obtain⟨o,ho⟩:∃o,W.heap[k]?=some o:=⟨_,Array.getElem?_eq_getElem (by have:=hb.size;omega)⟩;rw[u6.block k o ho (λh=>by have:=hl _ h;omega) (.inr (by omega)),<-ho];exact hb.block k hk⟩
  exact AJ.grown hg AJ.size (λk e=>by cases e;exact aA _)
 by_cases hx:xs=[]
 ·have hs:(⟨me,q,0,0,0,vw me (cmpL J),[],0,λ_=>none,0,0,[],0,[],now,[],[],[],[],false,0⟩:St)=s9:=by
   rw[<-aau.out,<-hq'.out,<-hgo'.out,<-hJ'.out];unfold St.raw;rw[aO hx,dL (λh=>h hx)]
  rw[hs]at hn hlow;have hlen:xs.length=0:=by rw[hx];rfl
  have HF:=hide (hend.out g W10 hn qQ MX hlow);clear hend hn hlow qQ MX hs;rw[hlen];go_wp2_with fail;refine aN HF.out ?_;rintro e w6 ⟨af,kf,ac,kc,ad,kd,rfl,gy,HE⟩;rw[hs'.out]at HE ⊢;replace HE:=hide HE;clear hs' HF;obtain⟨z0,z1,z2,z3,z4⟩:=cells5 gy;obtain⟨y0,y1,y2,y3,y4⟩:=wM gy;generalize hjj:s'.bD=jj;replace hjj:=hide hjj;have iq:=ah (ah (ah (ah (ah (ay w6 (some w.heap.size)) 0 (.string jj)) 1 (.bool s'.bq)) 2 (.slice af s'.aI.length kf)) 3 (.slice ac s'.aT.length kc)) 4 (.slice ad s'.aM.length kd);have fQ:(((((w6.setCell ⟨w.heap.size,0,none⟩ (.string jj)).setCell ⟨w.heap.size,1,none⟩ (.bool s'.bq)).setCell ⟨w.heap.size,2,none⟩ (.slice af s'.aI.length kf)).setCell ⟨w.heap.size,3,none⟩ (.slice ac s'.aT.length kc)).setCell ⟨w.heap.size,4,none⟩ (.slice ad s'.aM.length kd)).heap[w.heap.size]?=some (.cells #[.string jj,.bool s'.bq,.slice af s'.aI.length kf,.slice ac s'.aT.length kc,.slice ad s'.aM.length kd] 52):=by
   simp[World.setCell,dM,gy]
  have HE7:=hide (HE.out _ iq);clear iq HE;go_wp2;generalize World.setCell _ _ _=W7 at fQ HE7 ⊢;obtain⟨p0,p1,p2,p3,p4⟩:=cells5 fQ;obtain⟨gE,e1,e2,e3,e4,e5,e6⟩:=HE7.out;exact bodyPost_ret (v:=.tuple #[.pointer (some ⟨N,0,none⟩),.agg #[.string jj,.bool s'.bq,.slice af s'.aI.length kf,.slice ac s'.aT.length kc,.slice ad s'.aM.length kd],.int .i64 0]) (by simp[results,Tryz.results19,go_sem,p0,p1,p2,p3,p4]) rfl ⟨N,gE,.slice af s'.aI.length kf,.slice ac s'.aT.length kc,.slice ad s'.aM.length kd,by rw[<-hjj.out];rfl,e1,e2,e3,e4,e5,e6⟩
 ·have hs:({(⟨me,q,0,0,0,vw me (cmpL J),[],0,λ_=>none,0,0,[],0,[],now,[],[],[],[],false,0⟩:St)with bR:=now+2000,bq:=true}:St)=s9:=by
   rw[<-aau.out,<-hq'.out,<-hgo'.out,<-hJ'.out];unfold St.raw;rw[aD hx,eX hx]
  have hlen:(0:Int)<(xs.length:Int):=by
   cases xs with
   |nil=>exact absurd rfl hx
   |cons a l=>simp only[dR];omega
  obtain⟨g2,n2,u2⟩:=Pt hn (now+2000);rw[hs]at n2 u2;have c4:=hn.nn.cr.nd.cell.2.2.2.1;have f4:=hn.nn.cr.nd.free 4;have c5:=hn.ac.blk.cell.2.2.2.1;have f5:=hn.ac.blk.free 3;have hC2:=u2.block w.heap.size _ MX (λh=>by have:=hlow _ h;omega) (.inr (by omega));have hB2:Below w.heap.size w ((W10.setCell ⟨N,4,none⟩ (.int .u64 (now+2000))).setCell ⟨N+1,3,none⟩ (.bool true)):=⟨u2.os.trans qQ.os,u2.tape.trans qQ.tape,u2.output.trans qQ.output,dF qQ.size u2.size,λk hk=>by
   obtain⟨o,ho⟩:∃o,W10.heap[k]?=some o:=⟨_,Array.getElem?_eq_getElem (by omega)⟩;rw[u2.block k o ho (λh=>by have:=hlow _ h;omega) (.inr (by omega)),<-ho];exact qQ.block k hk⟩
  have HF:=hide (hend.out g2 _ n2 hB2 hC2 (λk hk=>(u2.sub k hk).elim (hlow k) (by omega)));clear hend hn hlow qQ MX hs n2 u2 hC2 hB2;go_wp2_with fail;refine aN HF.out ?_;rintro e w6 ⟨af,kf,ac,kc,ad,kd,rfl,gy,HE⟩;rw[hs'.out]at HE ⊢;replace HE:=hide HE;clear hs' HF;obtain⟨z0,z1,z2,z3,z4⟩:=cells5 gy;obtain⟨y0,y1,y2,y3,y4⟩:=wM gy;generalize hjj:s'.bD=jj;replace hjj:=hide hjj;have iq:=ah (ah (ah (ah (ah (ay w6 (some w.heap.size)) 0 (.string jj)) 1 (.bool s'.bq)) 2 (.slice af s'.aI.length kf)) 3 (.slice ac s'.aT.length kc)) 4 (.slice ad s'.aM.length kd);have fQ:(((((w6.setCell ⟨w.heap.size,0,none⟩ (.string jj)).setCell ⟨w.heap.size,1,none⟩ (.bool s'.bq)).setCell ⟨w.heap.size,2,none⟩ (.slice af s'.aI.length kf)).setCell ⟨w.heap.size,3,none⟩ (.slice ac s'.aT.length kc)).setCell ⟨w.heap.size,4,none⟩ (.slice ad s'.aM.length kd)).heap[w.heap.size]?=some (.cells #[.string jj,.bool s'.bq,.slice af s'.aI.length kf,.slice ac s'.aT.length kc,.slice ad s'.aM.length kd] 52):=by
   simp[World.setCell,dM,gy]
  have HE7:=hide (HE.out _ iq);clear iq HE;go_wp2;generalize World.setCell _ _ _=W7 at fQ HE7 ⊢;obtain⟨p0,p1,p2,p3,p4⟩:=cells5 fQ;obtain⟨gE,e1,e2,e3,e4,e5,e6⟩:=HE7.out;exact bodyPost_ret (v:=.tuple #[.pointer (some ⟨N,0,none⟩),.agg #[.string jj,.bool s'.bq,.slice af s'.aI.length kf,.slice ac s'.aT.length kc,.slice ad s'.aM.length kd],.int .i64 0]) (by simp[results,Tryz.results19,go_sem,p0,p1,p2,p3,p4]) rfl ⟨N,gE,.slice af s'.aI.length kf,.slice ac s'.aT.length kc,.slice ad s'.aM.length kd,by rw[<-hjj.out];rfl,e1,e2,e3,e4,e5,e6⟩
theorem T9{x0 x1 x2 x4:Int}{r:List Int}(hb:∀x∈r,0<=x∧x<=255)(h0:0<=x0∧x0<=255)(h1:0<=x1∧x1<=255)(h4:0<=x4∧x4<=255):(iZ x0 x1 x2 x4 r).Wf:=by
 have hn:=λi=>JY hb i;have q0:=hn 0;have q1:=hn 1;have q2:=hn 2;have q3:=hn 3;have q4:=hn 4;have hz:(⟨#[]⟩:ByteArray).size=0:=rfl;unfold iZ;split
 ·constructor<;>(dsimp only;omega)
 split
 ·constructor<;>(dsimp only;omega)
 split
 ·constructor<;>(dsimp only;omega)
 split
 ·have:(strOfNums ((r.drop 12).take x4.toNat)).size<=255:=by
   rw[strOfNums_size,List.length_take];omega
  constructor<;>(dsimp only;omega)
 ·constructor<;>(dsimp only;omega)
variable{s:St}
def St.Pos(s:St):Prop:=∀q∈s.Q,0<q.id
theorem tX{q:Sr}(h:∀z∈s.Q,z.dest≠q.dest->0<z.id)(ht:0<=s.tl):(s.ask q).Pos∧0<=(s.ask q).tl:=by
 obtain⟨o,h1,h2⟩:=KJ s q;refine⟨λz hz=> ?_,by omega⟩;rw[h1]at hz;rcases eY hz with rfl|⟨k1,k2⟩
 ·dsimp only;omega
 ·exact h z k1 k2
theorem Bh(s:St)(d:Int):(∀z∈(s.sendAll d).Q,z∈s.Q)∧(s.sendAll d).tl=s.tl:=by
 have ht:∀(l:List ByteArray) (s:St),(l.foldl (λs t=>s.aX d t) s).tl=s.tl:=by
  intro l
  induction l with
  |nil=>intro s;rfl
  |cons a l ih=>
   intro s;rw[iH,ih];unfold St.aX;split<;>rfl
 unfold St.sendAll;split
 ·exact⟨λ_ h=>h,rfl⟩
 ·split
  ·exact⟨λz hz=>(List.mem_filter.1 hz).1,ht _ _⟩
  ·exact⟨λ_ h=>h,rfl⟩
theorem OU(h:s.Pos)(ht:0<=s.tl)(q:Sr):(s.step q).Pos∧0<=(s.step q).tl:=by
 unfold St.step;split
 ·obtain⟨h1,h2⟩:=Bh s q.dest;exact⟨λz hz=>h z (h1 z hz),by omega⟩
 ·split
  ·unfold St.widen;split
   ·exact tX (λz hz _=>h z hz) ht
   ·split
    ·exact tX (λz hz _=>h z hz) ht
    ·split
     ·exact tX (λz hz _=>h z hz) ht
     ·exact⟨λz hz=>h z (List.mem_filter.1 hz).1,ht⟩
  ·exact tX (λz hz _=>h z hz) ht
theorem TW(h:s.Pos)(ht:0<=s.tl)(now:Int):(s.kJ now).Pos:=by
 have key:∀(D:List Sr) (z:St),z.Pos->0<=z.tl->(D.foldl St.step z).Pos:=by
  intro D
  induction D with
  |nil=>intro z h _;exact h
  |cons q D ih=>
   intro z hz htz;rw[iH];obtain⟨h1,h2⟩:=OU hz htz q;exact ih _ h1 h2
 have h1:=key (St.lF s.Q now) (s.locked.begin now) h ht;intro q hq;refine h1 q ?_;have e:=(aW ((St.lF s.Q now).foldl St.step (s.locked.begin now))).Q;rw[<-e];exact hq
theorem TY(h:s.Pos)(ht:0<=s.tl)(now d:Int)(t:ByteArray):(s.snd now d t).Pos:=by
 have e:=(aW (if (bJ (s.locked.begin now).A d (s.locked.begin now).now).2 then(s.locked.begin now).aX d t else(s.locked.begin now).await d t)).Q;intro q hq;have hq':q∈(if (bJ (s.locked.begin now).A d (s.locked.begin now).now).2 then(s.locked.begin now).aX d t else(s.locked.begin now).await d t).Q:=by
  rw[<-e];exact hq
 split at hq'
 ·rw[(iY _ _ _).1]at hq';exact h q hq'
 ·unfold St.await at hq';split at hq'
  ·rename_i q0 hs;have hm:=(iI hs).1;have:∀q':Sr,q'.id=q0.id->∀z∈St.bY s.Q q',0<z.id:=λq' e z hz=>by
    rcases eY hz with rfl|⟨k1,_⟩
    ·rw[e];exact h q0 hm
    ·exact h z k1
   unfold St.hold at hq';split at hq'
   ·exact this {q0 with txt:=q0.txt.tail++ [t]} rfl q hq'
   ·exact this {q0 with txt:=q0.txt++ [t]} rfl q hq'
  ·refine(tX (s:={s.locked.begin now with Q:=(s.locked.begin now).Q++ [St.jy d t]}) (q:=St.jy d t) (λz hz hne=> ?_) ht).1 q hq';rcases fA.1 hz with k|k
   ·exact h z k
   ·rw[fD]at k;rw[k]at hne;exact absurd rfl hne
variable{d h q:Int}{A:List Rt}{k n:Nat}{s s':St}
abbrev sP:=Option (Int×aC×List (Int×Int))
def xD(x:Option Rt)(q h:Int):Prop:=∃y,x=some y∧(q<rk y∨(rk y=q∧y.hops<=h))
inductive Rx(me now:Int)(c:sP)(A:List Rt):List Rt->Prop
 |SE (fr:Int) (p:aC) (L:List (Int×Int)) (e:Int) (hc:c=some (fr,p,L)) (hk:p.kind=1):Rx me now c A (ig me A p.aG p.dX (St.far p.hops) fr e).1
 |SC (fr:Int) (p:aC) (L:List (Int×Int)) (e:Int) (hc:c=some (fr,p,L)) (hk:p.kind=2):Rx me now c A (ig me A p.dest p.bC (St.far p.hops) fr e).1
 |use (d e:Int):Rx me now c A (ic A d e)
 |bG (d n:Int):Rx me now c A (kQ A d n)
 |lose (fr:Int) (p:aC) (L:List (Int×Int)) (hc:c=some (fr,p,L)) (x:Int×Int) (hx:x∈L):Rx me now c A (fV A fr x.1 x.2)
 |brk (eu:Int):Rx me now c A (A.map (cO eu 0))
 |grow (d:Int) (h:∀y,aK A d=some y->y.valid=false):Rx me now c A (gD A d St.uy)
def Just(c:sP)(s:St)(p:aC)(L:List (Int×Int)):Prop:=
 (p.kind=1∧p.aG=s.me∧p.hops=0∧1<=p.ttl∧p.ttl<=8∧p.dX=s.seq∧p.bC=eB s.A p.dest)∨
 (∃fr q K,c=some (fr,q,K)∧q.kind=1∧p.kind=1∧p.aG=q.aG∧p.dX=q.dX∧p.hops=St.far q.hops∧p.ttl=q.ttl - 1∧q.ttl≠1∧p.aG≠s.me∧(p.bC=q.bC∨p.bC=eB s.A p.dest)∧(p.aG≠0->xD (aK s.A p.aG) p.dX p.hops))∨
 (p.kind=2∧p.dest=s.me∧p.hops=0∧p.ttl=8∧p.bC=s.seq)∨
 (p.kind=2∧p.ttl=8∧∃y,aK s.A p.dest=some y∧y.valid=true∧p.bC=y.seq∧p.hops=y.hops)∨
 (∃fr q K,c=some (fr,q,K)∧q.kind=2∧p.kind=2∧p.dest=q.dest∧p.bC=q.bC∧p.hops=St.far q.hops∧p.ttl=q.ttl - 1∧q.ttl≠1∧p.dest≠s.me∧(p.dest≠0->xD (aK s.A p.dest) p.bC p.hops))∨
 (p.kind=3∧∀x∈L,x.2=0∨∃y∈s.A,y.dest=x.1∧x.2<=y.seq∧(0<=x.2∨x.2=y.seq))∨
 p.kind=9
structure abu(s s':St):Prop where
 me:s'.me=s.me
 seq:s'.seq=s.seq
 A:s'.A=s.A
 f:s'.f=s.f
 own:s'.own=s.own
 cnt:s'.cnt=s.cnt
 aY:s'.aY=s.aY
 bq:s'.bq=s.bq
 aI:s'.aI=s.aI
 now:s'.now=s.now
inductive Pr(c:sP)(s:St):St->Prop
 |yK {s':St} (h:abu s s'):Pr c s s'
 |tab {A:List Rt} (h:Rx s.me s.now c s.A A):Pr c s {s with A:=A}
 |aG (t:Int) (p:aC) (L:List (Int×Int)) (h:Just c s p L) (hz:L=[]∨L.length=p.ln):Pr c s (s.send t p L)
 |grw:Pr c s {s with seq:=gr s.seq}
 |mx (fr:Int) (p:aC) (L:List (Int×Int)) (hc:c=some (fr,p,L)):Pr c s {s with seq:=max s.seq p.bC}
 |wr:Pr c s s.write
inductive fJ(c:sP):Nat->St->St->Prop
 |nil (n:Nat) (s:St):fJ c n s s
 |snoc {n:Nat} {s s1 s2:St} (h:fJ c n s s1) (k:Pr c s1 s2):fJ c (n+1) s s2
theorem fJ.up{c:sP}(h:fJ c n s s')(hk:n<=k):fJ c k s s':=by
 induction h generalizing k with
 |nil n s=>exact .nil _ _
 |snoc h1 h2 ih=>
  obtain⟨j,rfl⟩:∃j,k=j+1:=⟨k - 1,by omega⟩;exact .snoc (ih (by omega)) h2
theorem fJ.trans{c:sP}{s1 s2:St}(h:fJ c n s s1)(g:fJ c k s1 s2):fJ c (n+k) s s2:=by
 induction g with
 |nil k s=>exact h.up (by omega)
 |snoc g1 g2 ih=>exact .snoc (ih h) g2
theorem fJ.one{c:sP}(h:Pr c s s'):fJ c 1 s s':=.snoc (.nil 0 s) h
theorem fJ.yK{c:sP}(h:abu s s'):fJ c 1 s s':=.one (.yK h)
theorem fJ.me{c:sP}(h:fJ c n s s'):s'.me=s.me:=by
 induction h with
 |nil=>rfl
 |snoc _ k ih=>
  rw[<-ih];cases k with
  |yK h=>exact h.me
  |_=>rfl
theorem fJ.now{c:sP}(h:fJ c n s s'):s'.now=s.now:=by
 induction h with
 |nil=>rfl
 |snoc _ k ih=>
  rw[<-ih];cases k with
  |yK h=>exact h.now
  |_=>rfl
theorem fF(c:sP)(s:St)(r:Int):fJ c 1 s (s.drop r):=.yK ⟨rfl,rfl,rfl,rfl,rfl,rfl,rfl,rfl,rfl,rfl⟩
theorem tT(c:sP)(s:St)(t:Int)(L:List (Int×Int))(h:∀x∈L,x.2=0∨∃y∈s.A,y.dest=x.1∧x.2<=y.seq∧(0<=x.2∨x.2=y.seq)):fJ c 1 s (s.lose t L):=by
 unfold St.lose NU;split
 ·exact .yK ⟨rfl,rfl,rfl,rfl,rfl,rfl,rfl,rfl,by simp,rfl⟩
 ·exact .one (.aG t (Xz L.length) L (.inr (.inr (.inr (.inr (.inr (.inl ⟨rfl,h⟩)))))) (.inr rfl))
theorem JZ(A:List Rt)(d:Int):eB A d=0∨∃y∈A,y.dest=d∧eB A d<=y.seq∧(0<=eB A d∨eB A d=y.seq):=by
 unfold eB;cases h:aK A d with
 |none=>exact .inl rfl
 |some y=>exact .inr ⟨y,(dN h).1,(dN h).2,iB _,.inr rfl⟩
theorem wB(c:sP)(s:St)(t d:Int):fJ c 1 s (s.kF t d):=tT c s t _ λx hx=>by
 rw[fD]at hx;subst hx;exact JZ s.A d
theorem tQ(c:sP)(s:St)(d:Int)(t:ByteArray):fJ c 3 s (s.aX d t):=by
 unfold St.aX;split
 ·refine fJ.snoc (fJ.snoc (fJ.yK (s':={s with dZ:=(s.dZ+1)%4294967296}) ⟨rfl,rfl,rfl,rfl,rfl,rfl,rfl,rfl,rfl,rfl⟩) (.tab (.use d (s.now+3000)))) (.aG _ _ [] ?_ (.inl rfl));exact .inr (.inr (.inr (.inr (.inr (.inr rfl)))))
 ·exact .nil _ _
theorem LG(c:sP)(d:Int)(l:List ByteArray)(s:St):fJ c (3 * l.length) s (l.foldl (λs t=>s.aX d t) s):=by
 induction l generalizing s with
 |nil=>exact .nil _ _
 |cons a l ih=>
  rw[iH,dR];exact((tQ c s d a).trans (ih _)).up (by omega)
theorem wz(c:sP)(s:St)(d:Int)(h4:∀q∈s.Q,q.txt.length<=4):fJ c 13 s (s.sendAll d):=by
 unfold St.sendAll;cases hq:St.jK s.Q d with
 |none=>exact .nil _ _
 |some q=>
  dsimp only;split
  ·have:=h4 q (iI hq).1;have h1:=LG c d q.txt s;refine fJ.up (fJ.snoc h1 (.yK ?_)) (by omega);exact⟨rfl,rfl,rfl,rfl,rfl,rfl,rfl,rfl,rfl,rfl⟩
  ·exact .nil _ _
theorem EK(c:sP)(s:St)(d ttl:Int)(ht:1<=ttl∧ttl<=8):fJ c 5 s (s.request d ttl):=by
 unfold St.request;refine fJ.snoc (fJ.snoc (fJ.snoc (fJ.snoc (fJ.yK (s':={s with b_:=(s.b_+1)%4294967296}) ⟨rfl,rfl,rfl,rfl,rfl,rfl,rfl,rfl,rfl,rfl⟩) .grw) .wr) (.yK ?_)) (.aG 0 _ [] ?_ (.inl rfl))
 ·exact⟨rfl,rfl,rfl,rfl,rfl,rfl,rfl,rfl,rfl,rfl⟩
 ·exact .inl ⟨rfl,rfl,rfl,ht.1,ht.2,rfl,rfl⟩
theorem tV(c:sP)(s:St)(q:Sr)(ht:1<=q.ttl∧q.ttl<=8):fJ c 6 s (s.ask q):=by
 unfold St.ask;split
 ·exact fJ.up (n:=1) (.yK ⟨rfl,rfl,rfl,rfl,rfl,rfl,rfl,rfl,rfl,rfl⟩) (by decide)
 ·split
  ·exact fJ.up (n:=1) (.yK ⟨rfl,rfl,rfl,rfl,rfl,rfl,rfl,rfl,rfl,rfl⟩) (by decide)
  ·exact fJ.snoc (EK c s q.dest q.ttl ht) (.yK ⟨rfl,rfl,rfl,rfl,rfl,rfl,rfl,rfl,rfl,rfl⟩)
theorem LF(c:sP)(s:St)(q:Sr)(ht:1<=q.ttl∧q.ttl<=8):fJ c 6 s (s.widen q):=by
 unfold St.widen;split
 ·exact tV c s _ (by dsimp only;omega)
 ·split
  ·exact tV c s _ (by dsimp only;omega)
  ·split
   ·exact tV c s _ ht
   ·exact fJ.up (n:=1) (.yK ⟨rfl,rfl,rfl,rfl,rfl,rfl,rfl,rfl,rfl,rfl⟩) (by decide)
theorem OQ(c:sP)(s:St)(q:Sr)(ht:1<=q.ttl∧q.ttl<=8)(h4:∀q∈s.Q,q.txt.length<=4):fJ c 13 s (s.step q):=by
 unfold St.step;split
 ·exact wz c s q.dest h4
 ·split
  ·exact(LF c s q ht).up (by omega)
  ·exact(tV c s q ht).up (by omega)
theorem LH(c:sP)(s:St)(d:Int)(t:ByteArray):fJ c 7 s (s.await d t):=by
 unfold St.await;cases hq:St.jK s.Q d with
 |some q=>
  dsimp only;refine(fJ.yK ?_).up (by omega);unfold St.hold;split<;>exact⟨rfl,rfl,rfl,rfl,rfl,rfl,rfl,rfl,rfl,rfl⟩
 |none=>
  exact fJ.up (n:=1+6) (fJ.trans (.yK (s':={s with Q:=s.Q++ [St.jy d t]}) ⟨rfl,rfl,rfl,rfl,rfl,rfl,rfl,rfl,rfl,rfl⟩) (tV c _ (St.jy d t) (by show(1:Int)<=1∧(1:Int)<=8;omega))) (by decide)
theorem EB(f:Rt->Rt)(hd:∀y,(f y).dest=y.dest)(hr:∀y,y.dest=d->rk (f y)=rk y∧(f y).hops=y.hops)(x:xD (aK A d) q h):xD (aK (A.map f) d) q h:=by
 obtain⟨y,hy,h1⟩:=x;obtain⟨_,kS⟩:=dN hy;refine⟨f y,?_,?_⟩
 ·unfold aK at hy ⊢;rw[List.find?_map];have:((λx:Rt=>x.dest==d)∘ f)=λx=>x.dest==d:=by
   funext z
   simp[hd]
  rw[this,hy];rfl
 ·obtain⟨e1,e2⟩:=hr y kS;rw[e1,e2];exact h1
theorem Ez(d' e:Int)(x:xD (aK A d) q h):xD (aK (ic A d' e) d) q h:=by
 refine EB _ (λy=> ?_) (λy _=> ?_) x
 ·split
  ·exact nD e y
  ·rfl
 ·split
  ·unfold Ej;split
   ·exact⟨rfl,rfl⟩
   ·exact⟨rfl,rfl⟩
  ·exact⟨rfl,rfl⟩
theorem EC(d' n:Int)(x:xD (aK A d) q h):xD (aK (kQ A d' n) d) q h:=by
 refine EB _ (λy=> ?_) (λy _=> ?_) x
 ·split
  ·exact lQ n y
  ·rfl
 ·split
  ·unfold AQ;split
   ·exact⟨rfl,rfl⟩
   ·exact⟨rfl,rfl⟩
  ·exact⟨rfl,rfl⟩
theorem Fs(A:List Rt)(x:Rt)(h:aK A x.dest=none):aK (vG A x) x.dest=some x:=by
 unfold vG aK;rw[List.find?_append];have h1:(A.take (pos A x.dest)).find? (λz=>z.dest==x.dest)=none:=by
  rw[List.find?_eq_none];intro z hz;have:=(jF.1 h) z (List.mem_of_mem_take hz);simpa using this
 rw[h1];simp
theorem EA{me:Int}{n e:Int}(hd:d≠me)(h0:d≠0)(h4:(ig me A d q h n e).2≠4):xD (aK (ig me A d q h n e).1 d) q h:=by
 unfold ig at h4 ⊢;rw[aD (by simp[hd,h0])]at h4 ⊢;cases hl:aK A d with
 |none=>
  rw[hl]at h4;dsimp only at h4 ⊢;split at h4
  ·exact absurd rfl h4
  ·rename_i h8;rw[aD h8];exact⟨newR d q h n e,Fs A (newR d q h n e) hl,.inr ⟨rfl,iB _⟩⟩
 |some x=>
  dsimp only;obtain⟨hx,hxd⟩:=dN hl;split
  ·refine⟨Ak q h n e x,?_,.inr ⟨rfl,iB _⟩⟩;unfold gD aK;rw[List.find?_map];have:((λx:Rt=>x.dest==d)∘ λx=>if x.dest=d then Ak q h n e x else x)=λx=>x.dest==d:=by
    funext z
    by_cases e:z.dest=d<;>simp[e,Ak]
   rw[this,show List.find? (λx=>x.dest==d) A=some x from hl];simp[hxd]
  ·rename_i hg;refine⟨x,hl,?_⟩;have h2:=U7 (newR d q h n e) x;have h3:Wp (newR d q h n e) x=false:=by simpa using hg
   rw[h3]at h2;have e1:rk (newR d q h n e)=q:=rfl;rw[e1]at h2;simp only[Bool.not_false,Bool.true_eq,Bool.or_eq_true,jr,qE]at h2;rcases h2 with h2|⟨h2,h3⟩
   ·exact .inl h2
   ·exact .inr ⟨h2.symm,h3⟩
theorem yF(c:sP)(s:St)(p:aC)(hp:(p.dest=s.me∧p.hops=0∧p.bC=s.seq)∨∃y,aK s.A p.dest=some y∧y.valid=true∧p.bC=y.seq∧p.hops=y.hops):fJ c 1 s (s.answer p):=by
 unfold St.answer;split
 ·refine .one (.aG _ _ [] ?_ (.inl rfl));rcases hp with⟨h1,h2,h3⟩|h
  ·exact .inr (.inr (.inl ⟨rfl,h1,h2,rfl,h3⟩))
  ·exact .inr (.inr (.inr (.inl ⟨rfl,rfl,h⟩)))
 ·exact fF c s 3
theorem IJ{now:Int}(h:(bJ A d now).2=true):aK A d=some (bJ A d now).1∧(bJ A d now).1.valid=true:=by
 unfold bJ at h ⊢;cases hl:aK A d with
 |none=>rw[hl]at h;cases h
 |some x=>
  rw[hl]at h;dsimp only at h ⊢;split at h
  ·rename_i hv;rw[aO hv];simp only[jr]at hv;exact⟨rfl,hv.1⟩
  ·cases h
theorem yO{f:Rt->Rt}(hd:∀y,(f y).dest=y.dest){y:Rt}(h:aK A d=some y):aK (A.map f) d=some (f y):=by
 unfold aK at h ⊢;rw[List.find?_map];have:((λx:Rt=>x.dest==d)∘ f)=λx=>x.dest==d:=by
  funext z
  simp[hd]
 rw[this,h];rfl
theorem Fq{d' n:Int}{y:Rt}(h:aK A d=some y):∃z,aK (kQ A d' n) d=some z∧z.valid=y.valid∧z.seq=y.seq∧z.hops=y.hops:=by
 refine⟨_,yO (f:=λx=>if x.dest=d' then AQ n x else x) (λy=> ?_) h,?_⟩
 ·split
  ·exact lQ n y
  ·rfl
 ·split
  ·unfold AQ;split<;>exact⟨rfl,rfl,rfl⟩
  ·exact⟨rfl,rfl,rfl⟩
theorem Bn(s:St)(fr:Int)(p:aC)(L:List (Int×Int))(hk:p.kind=1)(hme:p.aG≠s.me)(hr:p.aG≠0->xD (aK s.A p.aG) p.dX (St.far p.hops)):fJ (some (fr,p,L)) 3 s (s.asked p):=by
 unfold St.asked;split
 ·unfold St.iD;exact((fJ.one (.mx fr p L rfl)).trans (yF _ _ _ (.inl ⟨rfl,rfl,rfl⟩))).up (by omega)
 ·split
  ·rename_i hf;simp only[jr]at hf;obtain⟨h1,h2⟩:=IJ hf.1;unfold St.gM;have hb:∃z,aK (if (bJ s.A p.aG s.now).2 then kQ s.A p.dest (bJ s.A p.aG s.now).1.next else s.A) p.dest=some z∧z.valid=true∧z.seq=(bJ s.A p.dest s.now).1.seq∧z.hops=(bJ s.A p.dest s.now).1.hops:=by
    split
    ·obtain⟨z,e1,e2,e3,e4⟩:=Fq (d':=p.dest) (n:=(bJ s.A p.aG s.now).1.next) h1;exact⟨z,e1,e2.trans h2,e3,e4⟩
    ·exact⟨_,h1,h2,rfl,rfl⟩
   have hs1:fJ (some (fr,p,L)) 1 s {s with A:=if (bJ s.A p.aG s.now).2 then kQ s.A p.dest (bJ s.A p.aG s.now).1.next else s.A}:=by
    split
    ·exact .one (.tab (.bG _ _))
    ·exact .nil _ _
   obtain⟨z,e1,e2,e3,e4⟩:=hb;obtain⟨u,k1,k2,k3,k4⟩:=Fq (d':=p.aG) (n:=(bJ s.A p.dest s.now).1.next) e1;refine fJ.up (n:=1+1+1) ((hs1.snoc (.tab (.bG _ _))).trans (yF _ _ _ (.inr ⟨u,k1,k2.trans e2,?_,?_⟩))) (by decide)
   ·exact(k3.trans e3).symm
   ·exact(k4.trans e4).symm
  ·split
   ·exact(fF _ _ _).up (by omega)
   ·rename_i ht;unfold St.askOn;refine fJ.up (n:=1) (.one (.aG 0 {p with ttl:=p.ttl - 1,hops:=St.far p.hops,bC:=if (aK s.A p.dest).isSome then max p.bC (eB s.A p.dest)else p.bC,unk:=if (aK s.A p.dest).isSome then false else p.unk} [] (.inr (.inl ⟨fr,p,L,rfl,hk,hk,rfl,rfl,rfl,rfl,ht,hme,?_,hr⟩)) (.inl rfl))) (by decide);dsimp only;split
    ·rcases Int.le_total p.bC (eB s.A p.dest)with h|h
     ·exact .inr (Int.max_eq_right h)
     ·exact .inl (Int.max_eq_left h)
    ·exact .inl rfl
theorem wX(s:St)(fr:Int)(p:aC)(L:List (Int×Int))(hk:p.kind=1):fJ (some (fr,p,L)) 7 s (s.dm fr p):=by
 unfold St.dm;split
 ·exact(fF _ _ _).up (by omega)
 ·rename_i hn;simp only[not_or]at hn;obtain⟨hme,_⟩:=hn;refine fJ.up (n:=1+6) (fJ.trans (.yK (s':={s with mem:=dK s.mem (p.aG,p.id) (s.now+1280) s.tn,tn:=s.tn+1}) ⟨rfl,rfl,rfl,rfl,rfl,rfl,rfl,rfl,rfl,rfl⟩) ?_) (by decide);unfold St.learn;have hup:fJ (some (fr,p,L)) 1 ({s with mem:=dK s.mem (p.aG,p.id) (s.now+1280) s.tn,tn:=s.tn+1}:St) {s with mem:=dK s.mem (p.aG,p.id) (s.now+1280) s.tn,tn:=s.tn+1,A:=(ig s.me s.A p.aG p.dX (St.far p.hops) fr (s.now+3000)).1}:=.one (.tab (.SE fr p L (s.now+3000) rfl hk));split
  ·exact(hup.trans (fF _ _ 2)).up (by omega)
  ·rename_i h4;have hr:p.aG≠0->xD (aK (ig s.me s.A p.aG p.dX (St.far p.hops) fr (s.now+3000)).1 p.aG) p.dX (St.far p.hops):=λh0=>EA hme h0 h4;split
   ·refine((hup.snoc (.tab (.use p.aG (s.now+3000)))).trans (Bn _ fr p L hk hme λh0=>Ez _ _ (hr h0))).up (by omega)
   ·exact(hup.trans (Bn _ fr p L hk hme hr)).up (by omega)
theorem Ao(s:St)(fr:Int)(p:aC)(L:List (Int×Int))(hk:p.kind=2)(h4:∀q∈s.Q,q.txt.length<=4):fJ (some (fr,p,L)) 15 s (s.fC fr p):=by
 unfold St.fC;split
 ·exact(fF _ _ _).up (by omega)
 ·rename_i hme;dsimp only;have hup:fJ (some (fr,p,L)) 1 s {s with A:=(ig s.me s.A p.dest p.bC (St.far p.hops) fr (s.now+p.life)).1}:=.one (.tab (.SC fr p L (s.now+p.life) rfl hk));split
  ·exact(hup.trans (fF _ _ 2)).up (by omega)
  ·rename_i h5;have hr:p.dest≠0->xD (aK (ig s.me s.A p.dest p.bC (St.far p.hops) fr (s.now+p.life)).1 p.dest) p.bC (St.far p.hops):=λh0=>EA hme h0 h5;split
   ·have ha:=hup.trans (wz (some (fr,p,L)) _ p.dest h4);split
    ·exact fJ.up (n:=1+13+1) (ha.trans (fF _ _ 7)) (by decide)
    ·exact ha.up (by omega)
   ·split
    ·exact(hup.trans (fF _ _ 4)).up (by omega)
    ·rename_i ht;refine fJ.up (n:=1+4) (hup.trans ?_) (by decide);unfold St.iJ;split
     ·refine fJ.snoc (fJ.snoc (fJ.snoc (fJ.one (.tab (.bG _ _))) (.tab (.bG _ _))) (.tab (.use _ _))) (.aG _ _ [] ?_ (.inl rfl));exact .inr (.inr (.inr (.inr (.inl ⟨fr,p,L,rfl,hk,hk,rfl,rfl,rfl,rfl,ht,hme,λh0=>Ez _ _ (EC _ _ (EC _ _ (hr h0)))⟩))))
     ·exact(fF _ _ 3).up (by omega)
theorem Cr(s:St)(fr:Int)(p:aC)(L:List (Int×Int))(hk:p.kind=9)(hx:∀y∈s.A,y.valid=true->s.now<y.exp):fJ (some (fr,p,L)) 3 s (s.fH fr p):=by
 unfold St.fH;split
 ·exact fJ.up (n:=1) (.yK ⟨rfl,rfl,rfl,rfl,rfl,rfl,rfl,rfl,rfl,rfl⟩) (by decide)
 ·split
  ·exact(fF _ _ _).up (by omega)
  ·split
   ·exact fJ.snoc (fJ.snoc (fJ.one (.tab (.use _ _))) (.tab (.use _ _))) (.aG _ _ [] (.inr (.inr (.inr (.inr (.inr (.inr hk)))))) (.inl rfl))
   ·rename_i hf;refine fJ.trans (n:=2) (k:=1) ?_ (wB _ _ _ _);refine fJ.snoc (fF _ s 3) (.tab (.grow p.dest ?_));intro y hy;have hy':aK s.A p.dest=some y:=hy;cases hv:y.valid with
    |false=>rfl
    |true=>
     exfalso;apply hf;unfold bJ;rw[hy'];dsimp only;have:=hx y (dN hy').1 hv;rw[hv,aO (by simpa using this)]
theorem yE(c:sP)(s:St)(fr:Int)(p:aC):fJ c 3 s (s.eH fr p):=by
 unfold St.eH;split
 ·refine fJ.trans (n:=1) (k:=2) (fF _ s 8) ?_;exact fJ.snoc (wB _ _ _ _) (.yK ⟨rfl,rfl,rfl,rfl,rfl,rfl,rfl,rfl,rfl,rfl⟩)
 ·exact(fF _ _ _).up (by omega)
theorem Lp(fr q:Int)(y:Rt):y.seq<=(cO fr q y).seq:=by
 unfold cO;split
 ·show y.seq<=max (gr y.seq) q;have:y.seq<=gr y.seq:=by unfold gr;omega
  omega
 ·exact iB _
theorem Ma{fr:Int}(q:Int)(h:l5 A fr d=true):0<=eB (fV A fr d q) d:=by
 unfold l5 at h;cases hl:aK A d with
 |none=>rw[hl]at h;cases h
 |some y=>
  rw[hl]at h;have hv:(y.valid&&(y.next==fr))=true:=h;have h1:=yO (f:=λx=>if x.dest=d then cO fr q x else x) (λy=>by split;exact fG fr q y;rfl) hl;unfold eB fV gD;rw[h1,aO (dN hl).2];show 0<=(cO fr q y).seq;unfold cO;rw[aO hv];show 0<=max (gr y.seq) q;have:0<=gr y.seq:=by unfold gr;omega
  omega
theorem H7(fr:Int)(p:aC)(K:List (Int×Int)):∀(L:List (Int×Int)),(∀x∈L,x∈K)->∀(s:St) (b:Bool) (T:List (Int×Int)),(∀x∈T,0<=x.2∧(x.2=0∨∃y∈s.A,y.dest=x.1∧x.2<=y.seq))->
  fJ (some (fr,p,K)) L.length s {s with A:=(L.foldl (St.Fg fr) (s.A,b,T)).1}∧∀x∈(L.foldl (St.Fg fr) (s.A,b,T)).2.2,0<=x.2∧(x.2=0∨∃y∈(L.foldl (St.Fg fr) (s.A,b,T)).1,y.dest=x.1∧x.2<=y.seq):=by
 intro L
 induction L with
 |nil=>exact λ_ s b T hT=>⟨.nil _ _,hT⟩
 |cons a L ih=>
  intro hK s b T hT;rw[iH,dR];have hK':∀x∈L,x∈K:=λx hx=>hK x (kU _ hx);unfold St.Fg;dsimp only;split
  ·rename_i hlb;have h1:fJ (some (fr,p,K)) 1 s {s with A:=fV s.A fr a.1 a.2}:=.one (.tab (.lose fr p K rfl a (hK a jo)));have hkeep:∀x:Int×Int,(x.2=0∨∃y∈s.A,y.dest=x.1∧x.2<=y.seq)->x.2=0∨∃y∈fV s.A fr a.1 a.2,y.dest=x.1∧x.2<=y.seq:=λx hx=>by
    rcases hx with h|⟨y,hy,e,h⟩
    ·exact .inl h
    ·refine .inr ⟨if y.dest=a.1 then cO fr a.2 y else y,dO.2 ⟨y,hy,rfl⟩,?_⟩;split
     ·exact⟨(fG _ _ y).trans e,Int.le_trans h (Lp fr a.2 y)⟩
     ·exact⟨e,h⟩
   have h2:=ih hK' {s with A:=fV s.A fr a.1 a.2} true (if ((aK s.A a.1).any λy=>decide (0<y.bG.length))then T++ [(a.1,eB (fV s.A fr a.1 a.2) a.1)]else T) (λx hx=>by
    split at hx
    ·rcases fA.1 hx with h|h
     ·exact⟨(hT x h).1,hkeep x (hT x h).2⟩
     ·rw[fD]at h;subst h;refine⟨Ma a.2 hlb,?_⟩;rcases JZ (fV s.A fr a.1 a.2) a.1 with h|⟨y,k1,k2,k3,_⟩
      ·exact .inl h
      ·exact .inr ⟨y,k1,k2,k3⟩
    ·exact⟨(hT x hx).1,hkeep x (hT x hx).2⟩)
   exact⟨(h1.trans h2.1).up (by omega),h2.2⟩
  ·have h2:=ih hK' s b T hT;exact⟨h2.1.up (by omega),h2.2⟩
theorem Cq(s:St)(fr:Int)(p:aC)(L:List (Int×Int)):fJ (some (fr,p,L)) (L.length+2) s (s.gZ fr L):=by
 unfold St.gZ;dsimp only;obtain⟨h1,h2'⟩:=H7 fr p L L (λ_ h=>h) s false [] (λx hx=>by cases hx);have h2:∀x∈(L.foldl (St.Fg fr) (s.A,false,[])).2.2,x.2=0∨∃y∈(L.foldl (St.Fg fr) (s.A,false,[])).1,y.dest=x.1∧x.2<=y.seq∧(0<=x.2∨x.2=y.seq):=λx hx=>by
  obtain⟨k0,k⟩:=h2' x hx;rcases k with k|⟨y,k1,k2,k3⟩
  ·exact .inl k
  ·exact .inr ⟨y,k1,k2,k3,.inl k0⟩
 split
 ·exact(h1.trans (tT _ _ _ _ h2)).up (by omega)
 ·exact(h1.trans ((fF _ _ 7).trans (tT _ _ _ _ h2))).up (by omega)
structure Ot where
 aY:List (Bool×Int×Int)
 bq:Bool
 aI:List (Int×ByteArray)
 aT:List (Int×ByteArray)
 aM:List Int
def St.ot(s:St):Ot:=⟨s.aY,s.bq,s.aI,s.aT,s.aM⟩
def Ot.none:Ot:=⟨[],false,[],[],[]⟩
def Ot.idle(o:Ot):Bool:=o.aY.isEmpty&&!o.bq&&o.aI.isEmpty&&o.aT.isEmpty&&o.aM.isEmpty
structure eU where
 addr:Int
 bD:List Int
 nd:Option St
 hrs:List Bool
 tears:Bool
 whole:Int
def eU.stop(s:eU):eU:={s with nd:=none,tears:=false,whole:=0}
def eU.write(s:eU)(o:Ot):eU×Bool:=
 if o.aY.isEmpty&&!o.bq then(s,true)
 else if s.tears then({s with bD:=if o.bq then s.bD else s.bD++(bA o.aY).take s.whole.toNat}.stop,false)
 else({s with bD:=(if o.bq then []else s.bD)++bA o.aY},true)
def eU.zero:eU:=⟨0,[],none,[],false,0⟩
structure aP where
 now:Int
 S:List eU
 bH:List (Nat×Nat×ByteArray)
structure Ev where
 node:Int
 err:Int
 o:Ot
namespace aP
def at'(m:aP)(i:Nat):eU:=m.S.getD i eU.zero
def put(m:aP)(i:Nat)(s:eU):aP:={m with S:=m.S.set i s}
def launch(m:aP)(f:Nat×Nat×ByteArray):aP:={m with bH:=if 48<(m.bH++ [f]).length then(m.bH++ [f]).tail else m.bH++ [f]}
def heard(m:aP)(i:Nat)(t:Int):List Nat:=(List.range m.S.length).filter λj=>(m.at' i).hrs.getD j false&&(decide (t=0)||decide (t=(m.at' j).addr))
def bU(m:aP)(i:Nat)(f:Int×ByteArray):aP:=(m.heard i f.1).foldl (λm j=>m.launch (i,j,f.2)) m
def jc(φ:aP->Int×ByteArray->aP×List Ev)(m:aP)(i:Nat)(o:Ot):aP×List Ev:=
 if o.idle then(m,[])
 else if ((m.at' i).write o).2 then o.aI.foldl (λz f=>((φ z.1 f).1,z.2++(φ z.1 f).2)) (m.put i ((m.at' i).write o).1,[⟨i,0,o⟩])
 else(m.put i ((m.at' i).write o).1,[⟨i,0,Ot.none⟩])
def mX(i:Nat)(m:aP)(f:Int×ByteArray):aP×List Ev:=(m.bU i f,[])
def AO(m:aP)(i:Nat)(o:Ot):aP×List Ev:=jc (mX i) m i o
def iL(i:Nat)(m:aP)(f:Int×ByteArray):aP×List Ev:=
 if m.heard i f.1≠ []∨f.1=0 then(m.bU i f,[])
 else match ((m.bU i f).at' i).nd with
  |none=>(m.bU i f,[])
  |some s=>((m.bU i f).put i {(m.bU i f).at' i with nd:=some (s.brk m.now f.1)}).AO i (s.brk m.now f.1).ot
def did(m:aP)(i:Nat)(o:Ot):aP×List Ev:=jc (iL i) m i o
def act(m:aP)(i:Nat)(s:St):aP×List Ev:=(m.put i {m.at' i with nd:=some s}).did i s.ot
def hear(m:aP)(i j:Nat)(b:ByteArray):aP×List Ev:=
 match (m.at' i).nd with
 |none=>(m,[])
 |some s=>m.act i (s.rcv m.now (m.at' j).addr (aV b))
def qK(z:aP×List Ev)(i:Nat):aP×List Ev:=
 match (z.1.at' i).nd with
 |none=>z
 |some s=>((z.1.act i (s.kJ z.1.now)).1,z.2++(z.1.act i (s.kJ z.1.now)).2)
def tick(m:aP)(n:Int):aP×List Ev:=
 if n<1∨n>60000 then(m,[])else(List.range m.S.length).foldl qK ({m with now:=m.now+n},[])
def link(m:aP)(a b:Nat)(on:Bool):aP:=
 if a=b then m else
  let m:=m.put a {m.at' a with hrs:=(m.at' a).hrs.set b on}
  m.put b {m.at' b with hrs:=(m.at' b).hrs.set a on}
def send(m:aP)(a b:Nat)(t:ByteArray):aP×List Ev:=
 match (m.at' a).nd with
 |none=>(m,[])
 |some s=>
  if t.size>16 then(m,[⟨a,6,Ot.none⟩])
  else if (m.at' b).addr=s.me∨(m.at' b).addr=0 then(m,[⟨a,2,Ot.none⟩])
  else m.act a (s.snd m.now (m.at' b).addr t)
def Gi(m:aP)(a:Nat):aP×List Ev:=m.act a (St.new (m.at' a).addr (m.at' a).bD m.now)
def has(m:aP)(i:Int):Bool:=decide (0<=i)&&decide (i<m.S.length)
def runs(m:aP)(i:Int):Bool:=m.has i&&(m.at' i.toNat).nd.isSome
end aP
structure Op where
 dU:Int
 a:Int
 b:Int
 n:Int
 on:Bool
 txt:ByteArray
namespace aP
def may(m:aP)(op:Op):Bool:=
 if op.dU=1 then m.has op.a&&m.has op.b
 else if op.dU=2∨op.dU=8 then m.runs op.a&&m.has op.b
 else if op.dU=9∨op.dU=10 then m.runs op.a
 else if op.dU=11 then m.has op.a&&!m.runs op.a
 else true
def flight(m:aP)(op:Op):aP×List Ev:=
 if op.a<0∨m.bH.length=0 then(m,[])
 else
  let k:=op.a.toNat%m.bH.length
  let f:=m.bH.getD k (0,0,⟨#[]⟩)
  if op.dU=4 then {m with bH:=m.bH.eraseIdx k}.hear f.2.1 f.1 f.2.2
  else if op.dU=5 then({m with bH:=m.bH.eraseIdx k},[])
  else if op.dU=6 then(m.launch f,[])
  else({m with bH:=m.bH.set k (f.1,f.2.1,f.2.2.extract 0 (f.2.2.size - (min (max 0 op.n) f.2.2.size).toNat))},[])
def step(m:aP)(op:Op):aP×List Ev:=
 if !m.may op then(m,[⟨0,5,Ot.none⟩])
 else if op.dU=1 then(m.link op.a.toNat op.b.toNat op.on,[])
 else if op.dU=2 then m.send op.a.toNat op.b.toNat op.txt
 else if op.dU=3 then m.tick op.n
 else if op.dU=4∨op.dU=5∨op.dU=6∨op.dU=7 then m.flight op
 else if op.dU=8 then m.hear op.a.toNat op.b.toNat op.txt
 else if op.dU=9 then(m.put op.a.toNat (m.at' op.a.toNat).stop,[])
 else if op.dU=10 then(m.put op.a.toNat {m.at' op.a.toNat with tears:=true,whole:=max 0 op.n},[])
 else if op.dU=11 then m.Gi op.a.toNat
 else(m,[])
def new(L:List Int):aP:=⟨0,L.map λa=>⟨a,bA (St.new a [] 0).aY,some (St.new a [] 0),List.replicate 6 false,false,0⟩,[]⟩
def tab(m:aP)(i:Nat):List Rt:=match (m.at' i).nd with|none=> []|some s=>s.A
end aP
open Go.RowKit Go.Maps
variable{K:List Nat}{m:aP}{s:eU}{W W' a b:World}
def V3:List Nat:=[97,94,149,102,5,131,158,38,34,177,9,165,254,35]
def aao:List Nat:=[131,158,38,34,177,9,165,254,35]
def Wz(K:List Nat)(o:Obj):Prop:=(∃es cl,o=.map es cl)∨∃c t,t∈K∧o=.cells c t (0,0)
theorem Wz.mono{K':List Nat}{o:Obj}(h:Wz K o)(hs:∀t∈K,t∈K'):Wz K' o:=by
 rcases h with h|⟨c,t,ht,e⟩
 ·exact .inl h
 ·exact .inr ⟨c,t,hs t ht,e⟩
theorem Wz.not{c:Array Value}{t:Nat}{mk:Nat×Nat}(h:Wz K (.cells c t mk))(ht:t ∉ K):False:=by
 rcases h with⟨es,cl,e⟩|⟨c',t',h1,e⟩
 ·cases e
 ·cases e;exact ht h1
theorem Nn.kind{N:Nat}{g:bF}{s:St}{TL:List Hp.Tm}(n:Nn N g s TL W){k:Nat}(hk:Ft N g s k):∃o,W.heap[k]?=some o∧Wz aao o:=by
 rcases hk with(rfl|rfl|hk)|hk
 ·exact⟨_,n.cr.nd,.inr ⟨_,_,by decide,rfl⟩⟩
 ·obtain⟨es,cl,hm⟩:=n.cr.mo.obj;exact⟨_,hm,.inl ⟨_,_,rfl⟩⟩
 ·rcases hk with rfl|rfl|⟨y,hy,hk|hk⟩
  ·exact⟨_,n.cr.tb.blk,.inr ⟨_,158,by decide,rfl⟩⟩
  ·obtain⟨es,cl,hm⟩:=n.cr.tb.map.obj;exact⟨_,hm,.inl ⟨_,_,rfl⟩⟩
  ·obtain⟨B,p1,p2⟩:=n.cr.tb.ln y hy;rw[p1]at hk;cases hk;exact⟨_,p2,.inr ⟨_,38,by decide,rfl⟩⟩
  ·obtain⟨c,hc⟩:=aL (n.cr.tb.row y hy) hk;exact⟨_,hc,.inr ⟨_,34,by decide,rfl⟩⟩
 ·have r:=n.rs;rcases hk with rfl|hk|rfl|rfl|hk|hk
  ·obtain⟨es,cl,hm⟩:=r.sn.obj;exact⟨_,hm,.inl ⟨_,_,rfl⟩⟩
  ·obtain⟨o,ho,⟨rfl,es,cl,rfl⟩|⟨c,rfl⟩|⟨c,rfl⟩⟩:=r.sr.kind hk
   ·exact⟨_,ho,.inl ⟨_,_,rfl⟩⟩
   ·exact⟨_,ho,.inr ⟨_,177,by decide,rfl⟩⟩
   ·exact⟨_,ho,.inr ⟨_,9,by decide,rfl⟩⟩
  ·exact⟨_,r.tm.blk,.inr ⟨_,165,by decide,rfl⟩⟩
  ·obtain⟨f,p1,_⟩:=r.tm.map;obtain⟨es,cl,hm⟩:=p1.obj;exact⟨_,hm,.inl ⟨_,_,rfl⟩⟩
  ·obtain⟨c,hc⟩:=aL r.tm.row hk;exact⟨_,hc,.inr ⟨_,254,by decide,rfl⟩⟩
  ·obtain⟨c,hc⟩:=aL r.pc hk;exact⟨_,hc,.inr ⟨_,35,by decide,rfl⟩⟩
structure SG where
 B:Nat
 jv:Value
 N:Nat
 g:bF
 TL:List Hp.Tm
def J7(N:Nat):Option St->Value
 |none=> .pointer none
 |some _=> .pointer (some ⟨N,0,none⟩)
def D9(x:SG)(s:eU):List Value:=[.int .u32 s.addr,x.jv,J7 x.N s.nd]++s.hrs.map Value.bool++ [.bool s.tears,.int .i64 s.whole]
structure l7(x:SG)(s:eU)(W:World):Prop where
 blk:W.heap[x.B]?=some (.cells (D9 x s).toArray 102 (0,0))
 hl:s.hrs.length=6
 row:W.ownsRow 0 5 1 x.jv s.bD.length (U s.bD)
 nd:∀z,s.nd=some z->Nn x.N x.g z x.TL W∧dD z x.TL
def kz(x:SG)(s:eU)(k:Nat):Prop:=k=x.B∨x.jv.ownBlock=some k∨∃z,s.nd=some z∧Ft x.N x.g z k
def Z_:List Nat:=[102,5,131,158,38,34,177,9,165,254,35]
theorem l7.kind{x:SG}(h:l7 x s W){k:Nat}(hk:kz x s k):∃o,W.heap[k]?=some o∧Wz Z_ o:=by
 rcases hk with rfl|hk|⟨z,hz,hk⟩
 ·exact⟨_,h.blk,.inr ⟨_,102,by decide,rfl⟩⟩
 ·obtain⟨c,hc⟩:=aL h.row hk;exact⟨_,hc,.inr ⟨_,5,by decide,rfl⟩⟩
 ·obtain⟨o,ho,hK⟩:=(h.nd z hz).1.kind hk;exact⟨o,ho,hK.mono (by decide)⟩
theorem l7.lt{x:SG}(h:l7 x s W){k:Nat}(hk:kz x s k):k<W.heap.size:=by
 obtain⟨o,ho,_⟩:=h.kind hk;exact aB ho
theorem l7.kept{x:SG}(h:l7 x s W)(he:∀k,kz x s k->W'.heap[k]?=W.heap[k]?):l7 x s W':=
 ⟨(he _ (.inl rfl)).trans h.blk,h.hl,bK h.row λk hk=>he k (.inr (.inl hk)),λz hz=>⟨(h.nd z hz).1.kept λk hk=>he k (.inr (.inr ⟨z,hz,hk⟩)),(h.nd z hz).2⟩⟩
structure MG where
 G:Nat
 sv:Value
 av:Value
 L:List SG
def Jf(L:List SG):List Value:=L.map λx=> .pointer (some ⟨x.B,0,none⟩)
def nC(L:List (Nat×Nat×ByteArray)):List Value:=L.flatMap λf=> [.int .i64 f.1,.int .i64 f.2.1,.string f.2.2]
structure MM(y:MG)(m:aP)(W:World):Prop where
 blk:W.heap[y.G]?=some (.cells #[.int .u64 m.now,y.sv,y.av] 97 (0,0))
 xZ:W.ownsRow 0 94 1 y.sv m.S.length (Jf y.L)
 bH:W.ownsRow 0 149 3 y.av m.bH.length (nC m.bH)
 len:y.L.length=m.S.length
 st:∀(i:Nat) x s,y.L[i]?=some x->m.S[i]?=some s->l7 x s W
 ap:∀(i j:Nat) x s x' s',i≠j->y.L[i]?=some x->m.S[i]?=some s->y.L[j]?=some x'->m.S[j]?=some s'->∀k,kz x s k->¬kz x' s' k
def uU(y:MG)(m:aP)(k:Nat):Prop:=k=y.G∨y.sv.ownBlock=some k∨y.av.ownBlock=some k∨∃(i:Nat) (x:SG) (s:eU),y.L[i]?=some x∧m.S[i]?=some s∧kz x s k
theorem MM.kind{y:MG}(h:MM y m W){k:Nat}(hk:uU y m k):∃o,W.heap[k]?=some o∧Wz V3 o:=by
 rcases hk with rfl|hk|hk|⟨i,x,s,h1,h2,hk⟩
 ·exact⟨_,h.blk,.inr ⟨_,97,by decide,rfl⟩⟩
 ·obtain⟨c,hc⟩:=aL h.xZ hk;exact⟨_,hc,.inr ⟨_,94,by decide,rfl⟩⟩
 ·obtain⟨c,hc⟩:=aL h.bH hk;exact⟨_,hc,.inr ⟨_,149,by decide,rfl⟩⟩
 ·obtain⟨o,ho,hK⟩:=(h.st i x s h1 h2).kind hk;exact⟨o,ho,hK.mono (by decide)⟩
theorem MM.lt{y:MG}(h:MM y m W){k:Nat}(hk:uU y m k):k<W.heap.size:=by
 obtain⟨o,ho,_⟩:=h.kind hk;exact aB ho
theorem MM.not{y:MG}(h:MM y m W){k:Nat}{c:Array Value}{t:Nat}{mk:Nat×Nat}(ho:W.heap[k]?=some (.cells c t mk))(ht:t ∉ V3):¬uU y m k:=λhk=>by
 obtain⟨o,ho',hK⟩:=h.kind hk;rw[ho]at ho';cases ho';exact hK.not ht
theorem MM.kept{y:MG}(h:MM y m W)(he:∀k,uU y m k->W'.heap[k]?=W.heap[k]?):MM y m W':=
 ⟨(he _ (.inl rfl)).trans h.blk,bK h.xZ λk hk=>he k (.inr (.inl hk)),bK h.bH λk hk=>he k (.inr (.inr (.inl hk))),h.len,λi x s h1 h2=>(h.st i x s h1 h2).kept λk hk=>he k (.inr (.inr (.inr ⟨i,x,s,h1,h2,hk⟩))),h.ap⟩
theorem MM.later{y:MG}(h:MM y m W)(hb:Below W.heap.size W W'):MM y m W':=h.kept λk hk=>hb.block k (h.lt hk)
theorem MM.own{y:MG}(h:MM y m W){i:Nat}{x:SG}{s:eU}(h1:y.L[i]?=some x)(h2:m.S[i]?=some s){k:Nat}(hk:kz x s k):k≠y.G∧y.sv.ownBlock≠some k∧y.av.ownBlock≠some k:=by
 obtain⟨o,ho,hK⟩:=(h.st i x s h1 h2).kind hk;refine⟨?_,λe=> ?_,λe=> ?_⟩
 ·rintro rfl;rw[h.blk]at ho;cases ho;exact hK.not (by decide)
 ·obtain⟨c,hc⟩:=aL h.xZ e;rw[hc]at ho;cases ho;exact hK.not (by decide)
 ·obtain⟨c,hc⟩:=aL h.bH e;rw[hc]at ho;cases ho;exact hK.not (by decide)
structure MU(y:MG)(m:aP)(y':MG)(m':aP)(W W':World):Prop where
 fx:Fx (uU y m) W W'
 sub:∀k,uU y' m' k->uU y m k∨(W.heap.size<=k∧k<W'.heap.size)
 G:y'.G=y.G
 n:m'.S.length=m.S.length
 sv:y'.sv=y.sv
 B:y'.L.map (·.B)=y.L.map (·.B)
theorem MU.refl(y:MG)(m:aP)(W:World):MU y m y m W W:=⟨Fx.refl _ _,λ_ h=> .inl h,rfl,rfl,rfl,rfl⟩
theorem MU.trans{y y' y'':MG}{m' m'':aP}{c:World}(p:MU y m y' m' a b)(q:MU y' m' y'' m'' b c):MU y m y'' m'' a c:=by
 have h1:=p.fx.size;have h2:=q.fx.size;refine⟨p.fx.trans q.fx λi hi hk=>(p.sub i hk).elim id λh=>by omega,λk hk=> ?_,q.G.trans p.G,q.n.trans p.n,q.sv.trans p.sv,q.B.trans p.B⟩;rcases q.sub k hk with h|h
 ·rcases p.sub k h with h|h
  ·exact .inl h
  ·exact .inr (by omega)
 ·exact .inr (by omega)
theorem MU.below{y:MG}(h:Below a.heap.size a b):MU y m y m a b:=⟨Fx.below h,λ_ h=> .inl h,rfl,rfl,rfl,rfl⟩
theorem dz{α:Type}{L:List α}{i j:Nat}{a b:α}(h:(L.set i a)[j]?=some b):(j=i∧b=a)∨(j≠i∧L[j]?=some b):=by
 rw[List.getElem?_set]at h;split at h
 ·rename_i e;split at h
  ·cases h;exact .inl ⟨e.symm,rfl⟩
  ·cases h
 ·rename_i e;exact .inr ⟨λh=>e h.symm,h⟩
theorem MM.turn{y:MG}(h:MM y m W){i:Nat}{x x':SG}{s s':eU}(h1:y.L[i]?=some x)(h2:m.S[i]?=some s)(hf:Fx (kz x s) W W')(hst:l7 x' s' W')(hB:x'.B=x.B)(sub:∀k,kz x' s' k->kz x s k∨(W.heap.size<=k∧k<W'.heap.size)):
  MM {y with L:=y.L.set i x'} {m with S:=m.S.set i s'} W'∧MU y m {y with L:=y.L.set i x'} {m with S:=m.S.set i s'} W W':=by
 have hpt:Jf (y.L.set i x')=Jf y.L:=by
  unfold Jf;rw[List.map_set,hB];refine List.ext_getElem? λj=> ?_;rw[List.getElem?_set];split
  ·rename_i e;subst e;rw[lu,h1];split
   ·rfl
   ·rename_i hl;rw[jq]at hl;exact absurd (gm.1 h1).1 hl
  ·rfl
 have hoth:∀(j:Nat) z u,j≠i->y.L[j]?=some z->m.S[j]?=some u->∀k,kz z u k->W'.heap[k]?=W.heap[k]?:=λj z u hj e1 e2 k hk=>
  hf.block k ((h.st j z u e1 e2).lt hk) λhc=>h.ap j i z u x s hj e1 e2 h1 h2 k hk hc
 refine⟨⟨(hf.block _ (aB h.blk) λhc=>(h.own h1 h2 hc).1 rfl).trans h.blk,?_,bK h.bH λk hk=>hf.block k (h.bH.lt k hk).2 λhc=>(h.own h1 h2 hc).2.2 hk,?_,?_,?_⟩,⟨hf.mono λk hk=> .inr (.inr (.inr ⟨i,x,s,h1,h2,hk⟩)),?_,rfl,List.length_set,rfl,?_⟩⟩
 ·dsimp only;rw[hpt,List.length_set];exact bK h.xZ λk hk=>hf.block k (h.xZ.lt k hk).2 λhc=>(h.own h1 h2 hc).2.1 hk
 ·simp only[List.length_set];exact h.len
 ·intro j z u e1 e2;rcases dz e1 with⟨rfl,rfl⟩|⟨hj,e1⟩
  ·rcases dz e2 with⟨_,rfl⟩|⟨hj,_⟩
   ·exact hst
   ·exact absurd rfl hj
  ·rcases dz e2 with⟨e,_⟩|⟨_,e2⟩
   ·exact absurd e hj
   ·exact(h.st j z u e1 e2).kept (hoth j z u hj e1 e2)
 ·intro a b z u z' u' hab e1 e2 e3 e4 k hk hk';rcases dz e1 with⟨rfl,rfl⟩|⟨ha,e1⟩
  ·rcases dz e2 with⟨_,rfl⟩|⟨hj,_⟩
   ·rcases dz e3 with⟨e,_⟩|⟨hb,e3⟩
    ·exact hab e.symm
    ·rcases dz e4 with⟨e,_⟩|⟨_,e4⟩
     ·exact hb e
     ·rcases sub k hk with hc|hc
      ·exact h.ap _ _ _ _ _ _ (Ne.symm hb) h1 h2 e3 e4 k hc hk'
      ·have:=(h.st _ _ _ e3 e4).lt hk';omega
   ·exact hj rfl
  ·rcases dz e2 with⟨e,_⟩|⟨_,e2⟩
   ·exact ha e
   ·rcases dz e3 with⟨rfl,rfl⟩|⟨hb,e3⟩
    ·rcases dz e4 with⟨_,rfl⟩|⟨hj,_⟩
     ·rcases sub k hk' with hc|hc
      ·exact h.ap _ _ _ _ _ _ ha (by assumption) (by assumption) h1 h2 k hk hc
      ·have:=(h.st _ _ _ (by assumption) (by assumption)).lt hk;omega
     ·exact hj rfl
    ·rcases dz e4 with⟨e,_⟩|⟨_,e4⟩
     ·exact hb e
     ·exact h.ap _ _ _ _ _ _ hab e1 e2 e3 e4 k hk hk'
 ·rintro k (rfl|hk|hk|⟨j,z,u,e1,e2,hk⟩)
  ·exact .inl (.inl rfl)
  ·exact .inl (.inr (.inl hk))
  ·exact .inl (.inr (.inr (.inl hk)))
  ·rcases dz e1 with⟨rfl,rfl⟩|⟨hj,e1⟩
   ·rcases dz e2 with⟨_,rfl⟩|⟨hj,_⟩
    ·rcases sub k hk with hc|hc
     ·exact .inl (.inr (.inr (.inr ⟨j,x,s,h1,h2,hc⟩)))
     ·exact .inr hc
    ·exact absurd rfl hj
   ·rcases dz e2 with⟨e,_⟩|⟨_,e2⟩
    ·exact absurd e hj
    ·exact .inl (.inr (.inr (.inr ⟨j,z,u,e1,e2,hk⟩)))
 ·dsimp only;rw[List.map_set,hB];refine List.ext_getElem? λj=> ?_;rw[List.getElem?_set];split
  ·rename_i e;subst e;rw[lu,h1];split
   ·rfl
   ·rename_i hl;rw[jq]at hl;exact absurd (gm.1 h1).1 hl
  ·rfl
section
variable {P:Program} (w:World)
theorem yw(base:Nat)(t tx ty e:TypeId)(i:TypeInfo)(z:Value)(size bytes:Nat)(ht:P.underlying t=some (.slice e))(hi:P.info? e=some i)(hz:i.zero=some z)
  (hsize:i.size=size) (hby:i.bytes=bytes) (hzs:z.cells.size=size)
  (v:Value) (n:Nat) (xs:List Value) (hown:w.ownsRow base e size v n xs)
  (x:Value) (m:Nat) (news:List Value) (hs:Src P size tx x m news w)
  (h63:n+m<=maxLen) (hbytes:(n+m)* bytes<=140737488355328) (hbase:base<=w.heap.size):
  ∃v' w',(Builtin.append_ #[t,tx] ty #[v,x]).run P w=.ok v' w'∧w'.ownsRow base e size v' (n+m) (xs++news)∧w.grownBy w' v.ownBlock∧(v'.ownBlock=v.ownBlock∨v'.ownBlock=some w.heap.size):=by
 subst hsize;subst hby;have hl:=hs.newsLen;have hsmall:n+m<=9223372036854775807:=by simp only[maxLen]at h63;omega
 have hlen:(xs++news).length=(n+m)* i.size:=by rw[bZ,hown.1,hl,Nat.add_mul]
 rcases hown.2 with⟨rfl,rfl⟩|⟨g,cap,cur,rfl,hbg,hg,hnc,hcm,hcs,htake⟩
 ·have hx0:xs=[]:=qZ (by have:=hown.1;simpa using this);subst hx0;by_cases hm:m=0
  ·subst hm;have hn0:news=[]:=qZ (by rw[hl];simp);subst hn0;have hr:(Builtin.append_ #[t,tx] ty #[.slice none 0 0,x]).run P w=.ok (.slice none 0 0) w:=by
    rcases hs.kind with⟨e',hk⟩|hk<;>simp[Builtin.append_,run_underlying ht,run_underlying hk,sizeOf,typeInfo,hi,hs.len,hs.cells]
   exact⟨_,_,hr,hown,⟨rfl,rfl,rfl,aA _,λ_ _ _=>rfl⟩,.inl rfl⟩
  ·have hr:=run_append_grow_src (P:=P) w t tx ty e i z ht hi hz none 0 0 [] (run_firstCells_none w.drew i.size 0 0 0) x m news hs (by omega) (by omega) (growslice_fits (by omega) hbytes);have hge:=grownCap_ge w (0+m) 0 e;have hcm:grownCap w (0+m) 0 e<=maxLen:=grownCap_le_maxLen w (0+m) 0 e h63;refine⟨_,_,hr,⟨hlen,.inr ⟨w.heap.size,_,_,rfl,hbase,bO w.drew _,hge,hcm,?_,?_⟩⟩,⟨rfl,rfl,rfl,by simp,λk hk _=>Go.heap_alloc_old w.drew _ hk⟩,.inr rfl⟩
   ·simp only[Array.size_append,List.size_toArray,size_zeroCells,hzs,hlen,<-Nat.add_mul]
    congr 1
    omega
   ·simp only[Array.toList_append];rw[<-hlen];exact List.take_left
 ·by_cases hroom:n+m<=cap
  ·have hfit:n * i.size+news.length<=cur.size:=by rw[hl,hcs,<-Nat.add_mul];exact Nat.mul_le_mul_right _ hroom
   have hr:=lg (P:=P) w t tx ty e i ht hi g n cap cur hg x m news hs hroom hfit;refine⟨_,_,hr,⟨hlen,.inr ⟨g,cap,_,rfl,hbg,setRow_heap w g cur _ e _ hg,hroom,hcm,?_,?_⟩⟩,⟨rfl,rfl,rfl,by simp,λk _ hk=>setRow_other w g k _ (λe=>hk (by simp[Value.ownBlock,e]))⟩,.inl rfl⟩
   ·simp only[List.size_toArray,bZ,List.length_take,List.length_drop,Array.length_toList];omega
   ·rw[htake,<-hlen];exact List.take_left
  ·have holds:∀j u,xs[j]?=some u->w.cell? ((⟨g,0,none⟩:Addr).add j)=some u:=hown.cells (g:=g) rfl;have hfo:=run_firstCells_some (P:=P) w.drew i.size n ⟨g,0,none⟩ n cap xs hown.1 (by simpa using holds);have hr:=run_append_grow_src (P:=P) w t tx ty e i z ht hi hz (some ⟨g,0,none⟩) n cap xs hfo x m news hs (by omega) (by omega) (growslice_fits (by omega) hbytes);have hge:=grownCap_ge w (n+m) cap e;have hcm:grownCap w (n+m) cap e<=maxLen:=grownCap_le_maxLen w (n+m) cap e h63;refine⟨_,_,hr,⟨hlen,.inr ⟨w.heap.size,_,_,rfl,hbase,bO w.drew _,hge,hcm,?_,?_⟩⟩,⟨rfl,rfl,rfl,by simp,λk hk _=>Go.heap_alloc_old w.drew _ hk⟩,.inr rfl⟩
   ·simp only[Array.size_append,List.size_toArray,size_zeroCells,hzs,hlen,<-Nat.add_mul]
    congr 1
    omega
   ·simp only[Array.toList_append];rw[<-hlen];exact List.take_left
end
theorem gY{P:Program}{ops:Array Oper}{o:Oper}{a:Act}{w:World}{K:Act->World->Prop}{Q:Exit->Act->World->Prop}{E:Prop}
  (hg:o.guard=none) (s x:Operand) (t tx:TypeId) (hop:o.op=Op.call {callee:=Callee.builtin Builtin.append,args:=#[s,x],argTypes:=#[t,tx]})
  (base:Nat) (e:TypeId) (i:TypeInfo) (z:Value) (size bytes:Nat) (h1:P.underlying t=some (.slice e)) (h2:P.info? e=some i) (h3:i.zero=some z) (h4:i.size=size) (h5:i.bytes=bytes) (h6:z.cells.size=size)
  (v:Value) (n:Nat) (xs:List Value) (hs:a.eval s=v) (hown:w.ownsRow base e size v n xs)
  (xv:Value) (m:Nat) (news:List Value) (hx:a.eval x=xv) (hsrc:Src P size tx xv m news w)
  (b1:n+m<=maxLen) (b2:(n+m)* bytes<=140737488355328) (hbase:base<=w.heap.size)
  (hK:∀v' w',w'.ownsRow base e size v' (n+m) (xs++news)->w.grownBy w' v.ownBlock->(v'.ownBlock=v.ownBlock∨v'.ownBlock=some w.heap.size)->K (a.put o.dst v') w'):
  if Region.wanted o (yielded ops a.tmps)=true then Oper.wp P o a w K Q else E:=by
 have hw:Region.wanted o (yielded ops a.tmps)=true:=by simp[Region.wanted,hg]
 rw[aO hw];obtain⟨v',w',hrun,r1,r2,r3⟩:=yw (P:=P) w base t tx o.type e i z size bytes h1 h2 h3 h4 h5 h6 v n xs hown xv m news hsrc b1 b2 hbase;unfold Oper.wp;simp[execOp,hop,resolve,invoke,builtin,hs,hx,hrun,Result.andThen];exact hK v' w' r1 r2 r3
theorem mH{P:Program}{w:World}{ops:Array Oper}{rest:List Oper}{o:Oper}{a:Act}{Q:Exit->Act->World->Prop}(hg:o.guard=none)(s x:Operand)(t tx:TypeId)(hop:o.op=Op.call {callee:=Callee.builtin Builtin.append,args:=#[s,x],argTypes:=#[t,tx]})
  (base:Nat) (e:TypeId) (i:TypeInfo) (z:Value) (size bytes:Nat) (h1:P.underlying t=some (.slice e)) (h2:P.info? e=some i) (h3:i.zero=some z) (h4:i.size=size) (h5:i.bytes=bytes) (h6:z.cells.size=size)
  (v:Value) (n:Nat) (xs:List Value) (hs:a.eval s=v) (hown:w.ownsRow base e size v n xs)
  (xv:Value) (m:Nat) (news:List Value) (hx:a.eval x=xv) (hsrc:Src P size tx xv m news w)
  (b1:n+m<=maxLen) (b2:(n+m)* bytes<=140737488355328) (hbase:base<=w.heap.size)
  (hK:∀v' w',w'.ownsRow base e size v' (n+m) (xs++news)->w.grownBy w' v.ownBlock->(v'.ownBlock=v.ownBlock∨v'.ownBlock=some w.heap.size)->wpList P ops Q rest (a.put o.dst v') w'):
  wpList P ops Q (o::rest) a w:=by
 refine wpList_plain hg λK hKK=> ?_;have h:=gY (ops:=ops) (E:=True) (K:=K) (Q:=Q) hg s x t tx hop base e i z size bytes h1 h2 h3 h4 h5 h6 v n xs hs hown xv m news hx hsrc b1 b2 hbase λv' w' k1 k2 k3=>hKK _ _ (hK v' w' k1 k2 k3);have hw:Region.wanted o (yielded ops a.tmps)=true:=by simp[Region.wanted,hg]
 rw[aO hw]at h;exact h
theorem Src.ofRow{P:Program}{w:World}{base e size n:Nat}{v:Value}{xs:List Value}{tx e':TypeId}(hk:P.underlying tx=some (.slice e'))(h:w.ownsRow base e size v n xs)(h1:∀u∈xs,u.oneCell'=true):Src P size tx v n xs w:=by
 rcases h.2 with⟨rfl,rfl⟩|⟨g,cap,cur,rfl,_⟩
 ·have hx:xs=[]:=qZ (by have:=h.1;simpa using this);subst hx;exact Src.ofNil w hk 0
 ·exact Src.ofSlice w hk ⟨g,0,none⟩ n cap xs h.1 (h.cells (g:=g) rfl) h1
end Go.Proofs.YtakaadcpaeiccabGreat
