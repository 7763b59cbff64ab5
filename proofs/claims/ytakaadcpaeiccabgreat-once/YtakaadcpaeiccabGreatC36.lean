import Derived.Test.YtakaadcpaeiccabGreatC35
set_option maxHeartbeats 4000000
set_option maxRecDepth 100000
namespace Go.Proofs.YtakaadcpaeiccabGreat
open Go.RowKit Go.Maps
variable{P:List ByteArray}{e:List Ev}{L:List Op}{m:aP}{B G N i k n:Nat}{W W' w:World}
def allT(e:List Ev):List ByteArray:=e.flatMap λx=>x.o.aR.map (·.2)
def Lc(P:List ByteArray)(k:Nat):Nat:=P.countP λt=>decide (t=rX k)
theorem wB(a b:List Ev):allT (a++b)=allT a++allT b:=by simp[allT]
theorem Vk(e:List Ev)(t:ByteArray):(allT e).countP (λx=>decide (x=t))=eW e t:=by
 induction e with
 |nil=>rfl
 |cons x e ih=>
  have h1:allT (x::e)=x.o.aR.map (·.2)++allT e:=rfl;have h2:eW (x::e) t=wC x.o.aR t+eW e t:=rfl;rw[h1,h2,List.countP_append,ih,List.countP_map];rfl
theorem Od.one(h:Od n L i m e){P:List ByteArray}(hp:P<+:allT e)(k:Nat):Lc P k<=1:=by
 have h1:Lc P k<=Lc (allT e) k:=List.Sublist.countP_le hp.sublist;have h2:Lc (allT e) k=eW e (rX k):=Vk e (rX k);have h3:=h.om.wt (rX k);have h4:bd (VY n L) (rX k)<=1:=by unfold bd;split<;>omega
 omega
theorem Od.came(h:Od n L i m e){x:Ev}(hx:x∈e){c:Int×ByteArray}(hc:c∈x.o.aR):∃(b:UInt8) (o:Op),c.2=⟨#[b]⟩∧L[b.toNat]?=some o∧o.dK=2∧x.node=o.b∧c.1=10 * o.a+10∧0<=o.a∧o.a<n:=by
 obtain⟨j,a,h1,h2,h3⟩:=h.om.ev x hx c hc;obtain⟨b,o,e1,e2,e3,e4⟩:=GD h3;obtain⟨s1,s2,s3,s4,s5⟩:=vw.1 e3;have hl:=(fu.1 h2).1;rw[lK]at hl;rw[kC hl]at h2;have h2':=Option.some.inj h2;have e4':c.1=10 * o.a+10∧a=10 * o.b+10:=by
  have h5:=congrArg Prod.fst e4;have h6:=congrArg Prod.snd e4;exact⟨h5,h6⟩
 exact⟨b,o,e1,e2,s1,by rw[h1];omega,e4'.1,s2,s3⟩
theorem aag(b:UInt8):(⟨#[b]⟩:ByteArray)=rX b.toNat:=by
 unfold rX;rw[UInt8.ofNat_toNat]
def qm(N:Nat)(P:List ByteArray):List Value:=(List.range N).map λk=>Value.int .i64 (Lc P k:Int)
theorem sD(N:Nat)(P:List ByteArray):(qm N P).length=N:=by simp[qm]
theorem v_(P:List ByteArray)(h:k<N):(qm N P)[k]?=some (.int .i64 (Lc P k:Int)):=by
 unfold qm;rw[jQ,List.getElem?_range h];rfl
theorem Qu(P:List ByteArray)(h:k<N)(hk:k<256)(hN:N<=256):(qm N P).set k (.int .i64 ((Lc P k:Int)+1))=qm N (P++ [rX k]):=by
 refine List.ext_getElem? λj=> ?_;by_cases hj:j<N
 ·rw[v_ _ hj];have hc:Lc (P++ [rX k]) j=Lc P j+if rX k=rX j then 1 else 0:=by
   unfold Lc;rw[List.countP_append,List.countP_singleton];simp
  by_cases e:j=k
  ·subst e;rw[List.getElem?_set_self (by rw[sD];exact h),hc,aM rfl];simp
  ·rw[List.getElem?_set_ne (λh=>e h.symm),v_ _ hj,hc,aH (λh=>e (Ww hk (by omega) h).symm)];rfl
 ·rw[List.getElem?_eq_none (by rw[List.length_set,sD];omega),List.getElem?_eq_none (by rw[sD];omega)]
def Q5(B N:Nat)(P:List ByteArray)(W:World):Prop:=W.heap[B]?=some (.cells (qm N P).toArray 3 (0,0))
theorem Q5.later(h:Q5 B N P W)(hb:Below W.heap.size W W'):Q5 B N P W':=(hb.block B (aF h)).trans h
theorem Q5.turn{y y':MG}{m':aP}(h:Q5 B N P W)(hm:MM y m W)(u:MU y m y' m' W W'):Q5 B N P W':=(u.fx.block B (aF h) (hm.not h (by decide))).trans h
theorem Q5.add(h:Q5 B N P W)(hk:k<N)(hN:N<=256):Q5 B N (P++ [rX k]) (W.setCell ⟨B,k,none⟩ (.int .i64 ((Lc P k:Int)+1))):=by
 unfold Q5;rw[heap_setCell_same W B k _ _ _ h,<-Qu P hk (by omega) hN];simp
def OS(w:World)(n G B:Nat)(L:List Op)(k:Nat)(W:World):Prop:=∃(c:Nat) (y:MG) (m:aP) (e:List Ev),c<=k∧y.G=G∧SQ w n c y m W∧Od n L k m e∧Q5 B L.length (allT e) W∧w.heap.size<=B
theorem OS.later(h:OS w n G B L k W)(hb:Below W.heap.size W W'):OS w n G B L k W':=by
 obtain⟨c,y,m,e,h1,h2,h3,h4,h5,h6⟩:=h;exact⟨c,y,m,e,h1,h2,h3.later hb,h4,h5.later hb,h6⟩
theorem OS.skip(h:OS w n G B L k W):OS w n G B L (k+1) W:=by
 obtain⟨c,y,m,e,h1,h2,h3,h4,h5,h6⟩:=h;exact⟨c,y,m,e,by omega,h2,h3,h4.skip,h5,h6⟩
theorem OS.below(h:OS w n G B L k W):Below w.heap.size w W:=by
 obtain⟨c,y,m,e,h1,h2,h3,_⟩:=h;exact h3.bl
theorem TP:(Tryz.prog.info? 3).map (λi=>(i.zero,i.size,i.bytes))=some (some (.int .i64 0),1,8):=by kernel_rfl
theorem Qt(N:Nat):qm N []=List.replicate N (.int .i64 0):=by
 refine List.ext_getElem? λj=> ?_;by_cases hj:j<N
 ·rw[v_ _ hj,List.getElem?_replicate,aM hj];rfl
 ·rw[List.getElem?_eq_none (by rw[sD];omega),List.getElem?_eq_none (by rw[List.length_replicate];omega)]
theorem Pt(N:Nat)(hn:N<=250)(W:World):(Instr.makeSlice 44 (.int .i64 (N:Int)) (.int .i64 (N:Int))).run Tryz.prog W=.ok (.slice (some ⟨W.heap.size,0,none⟩) N N) (W.alloc (.cells (qm N []).toArray 3)):=by
 obtain⟨i0,hi,hz0,hz1,hz2⟩:=info_parts TP;have h:=run_make (P:=Tryz.prog) W 44 3 i0 (.int .i64 0) Tryz.underlying44 hi hz0 .i64 .i64 (N:Int) (N:Int) (by omega) (by omega) (by rw[hz2];omega) (by omega);have e:madeCells (Value.int .i64 0).cells ((N:Int).toNat * i0.size)=(qm N []).toArray:=by
  rw[hz1,jm,Nat.mul_one,Qt];have h1:=toList_madeCells_one (Value.int .i64 0) N;rw[<-h1];rfl
 rw[e]at h;simpa using h
theorem aaI(hn:n<=6){y:MG}{W:World}(h:SQ w n 0 y (aP.new (iU n)) W)(L:List Op):OS w n y.G W.heap.size L 0 (W.alloc (.cells (qm L.length []).toArray 3)):=
 ⟨0,y,_,[],aB _,rfl,h.later (bC),Od.new hn L,bS _ _,h.bl.size⟩
theorem Y1(W:World)(k:Nat)(hk:k<256):(convert 58 9 (.slice (some ⟨W.heap.size,0,none⟩) 1 1)).run Tryz.prog (W.alloc (.cells #[.int .u8 (k:Int)] 5))=.ok (.string (rX k)) (W.alloc (.cells #[.int .u8 (k:Int)] 5)):=by
 have hr:fe (W.alloc (.cells #[.int .u8 (k:Int)] 5)) (.slice (some ⟨W.heap.size,0,none⟩) 1 1) [(k:Int)]:=by
  refine⟨λx hx=> ?_,.inr ⟨W.heap.size,0,1,rfl,?_,?_,?_⟩⟩
  ·rw[dO]at hx;omega
  ·exact aB _
  ·omega
  ·intro j x hj
   match j,hj with
   |0,hj=>
    cases hj;exact jP W _ _ _
   |j+1,hj=>simp at hj
 have h:=oO hr;have e:strOfNums [(k:Int)]=rX k:=by
  unfold strOfNums rX;simp
 rw[e]at h;exact h
variable{x:Ev}{Lv:List (Ev×J5)}{E ev:List Ev}{y:MG}{m:aP}{B N b c1 j kk n q:Nat}{v:Value}{W w:World}
def rQ(E:List Ev)(j:Nat):List (Int×ByteArray):=match E[j]? with|some x=>x.o.aR|none=> []
def PO(ev E:List Ev)(j q:Nat):List ByteArray:=allT ev++(allT (E.take j)++((rQ E j).map (·.2)).take q)
theorem Zi(ev E:List Ev):PO ev E 0 0=allT ev:=by simp[PO,allT]
theorem acs(ev E:List Ev):PO ev E E.length 0=allT (ev++E):=by
 unfold PO;rw[List.take_length,List.take_zero,gU,wB]
theorem Eg(h:E[j]?=some x):allT (E.take (j+1))=allT (E.take j)++x.o.aR.map (·.2):=by
 rw[List.take_add_one,h,wB];simp[allT]
theorem Zj(h:E[j]?=some x):PO ev E j (rQ E j).length=PO ev E (j+1) 0:=by
 have hcs:rQ E j=x.o.aR:=by unfold rQ;rw[h]
 unfold PO;rw[hcs,List.take_zero,gU,Eg h,jD (l:=x.o.aR.map (·.2)) (by rw[iL];exact aB _)]
theorem Ob{c:Int×ByteArray}(h:(rQ E j)[q]?=some c):PO ev E j (q+1)=PO ev E j q++ [c.2]:=by
 unfold PO;rw[List.take_add_one,jQ,h];simp
theorem acr(hj:j<E.length):PO ev E j q<+:allT (ev++E):=by
 have hx:=cK hj;rw[wB];unfold PO;refine(List.prefix_append_right_inj _).2 ?_;have h1:allT E=allT (E.take (j+1))++allT (E.drop (j+1)):=by rw[<-wB,List.take_append_drop]
 rw[h1,Eg hx,List.append_assoc];refine(List.prefix_append_right_inj _).2 ?_;have h2:rQ E j=E[j].o.aR:=by unfold rQ;rw[hx]
 rw[h2];exact(List.take_prefix _ _).trans (List.prefix_append _ _)
def ES(w:World)(n c1 B N b:Nat)(y:MG)(m:aP)(v:Value)(Lv:List (Ev×J5))(ev:List Ev)(j q:Nat)(W:World):Prop:=SQ w n c1 y m W∧gP b v Lv W∧Q5 B N (PO ev (Lv.map (·.1)) j q) W∧w.heap.size<=B
theorem ES.later{W':World}(h:ES w n c1 B N b y m v Lv ev j q W)(hb:Below W.heap.size W W'):ES w n c1 B N b y m v Lv ev j q W':=⟨h.1.later hb,h.2.1.later hb,h.2.2.1.later hb,h.2.2.2⟩
theorem ME{base e size:Nat}{xs:List Value}(h:W.ownsRow base e size v n xs):n<=9223372036854775807:=by
 rcases h.2 with⟨_,h0⟩|⟨g,cap,cur,rfl,_,_,hl,hm,_⟩
 ·omega
 ·unfold maxLen at hm;omega
theorem Jj(h:gP b v Lv W){j:Nat}(hj:j<Lv.length):∃(gv cv:Nat) (x:Ev) (ac:Option Addr) (ca:Nat),v=.slice (some ⟨gv,0,none⟩) Lv.length cv∧(Lv.map (·.1))[j]?=some x∧W.cell? ⟨gv,j * 7,none⟩=some (.int .i64 x.node)∧W.cell? ⟨gv,j * 7+5,none⟩=some (.slice ac x.o.aR.length ca)∧∀(q:Nat) c,x.o.aR[q]?=some c->∃ga,ac=some ⟨ga,0,none⟩∧W.cell? ⟨ga,q * 2,none⟩=some (.int .u32 c.1)∧W.cell? ⟨ga,q * 2+1,none⟩=some (.string c.2):=by
 obtain⟨gv,cv,rfl,_⟩:=bY h.row (by omega);obtain⟨⟨x,u⟩,hx⟩:∃p,Lv[j]?=some p:=⟨_,cK hj⟩;have hc:∀i,i<7->∀z,(xV (x,u))[i]?=some z->W.cell? ⟨gv,j * 7+i,none⟩=some z:=λi hi z hz=>(h.row.cellAt (j * 7+i) (by omega)).trans ((jh xV 7 (by decide) (λ_=>rfl) Lv j i hi hx).trans hz);have ho:=h.out _ (gI hx);obtain⟨ac,ca,abA,_⟩:=ay ho.bL;dsimp only at abA;have h5:=hc 5 (by decide) _ rfl;dsimp only at h5;rw[abA]at h5;refine⟨gv,cv,x,ac,ca,rfl,by rw[jQ,hx];rfl,hc 0 (by decide) _ rfl,h5,λq c hq=> ?_⟩;have hql:=(fu.1 hq).1;have hrow:=ho.bL;dsimp only at hrow;rw[abA]at hrow;obtain⟨ga,ca',he,_⟩:=bY hrow (by omega);cases he;have hd:∀i,i<2->∀z,([.int .u32 c.1,.string c.2]:List Value)[i]?=some z->W.cell? ⟨ga,q * 2+i,none⟩=some z:=λi hi z hz=>(hrow.cellAt (q * 2+i) (by omega)).trans ((jh (λx:Int×ByteArray=>([.int .u32 x.1,.string x.2]:List Value)) 2 (by decide) (λ_=>rfl) x.o.aR q i hi hq).trans hz);exact⟨ga,rfl,hd 0 (by decide) _ rfl,hd 1 (by decide) _ rfl⟩
theorem ES.cell(h:ES w n c1 B N b y m v Lv ev j q W)(hN:N<=256)(hk:kk<N){c:Int×ByteArray}(hc:(rQ (Lv.map (·.1)) j)[q]?=some c)(hck:c.2=rX kk)(h0:Lc (PO ev (Lv.map (·.1)) j q) kk=0):ES w n c1 B N b y m v Lv ev j (q+1) (W.setCell ⟨B,kk,none⟩ (.int .i64 1)):=by
 obtain⟨h1,h2,h3,h4⟩:=h;have hs:=h3.add hk hN;rw[h0,<-hck,<-Ob hc]at hs;have hne:∀(k:Nat) (cs:Array Value) (t:Nat),t∈evK->W.heap[k]?=some (Obj.cells cs t (0,0))->k≠B:=λk cs t ht hk e=>by
  rw[e,h3]at hk;cases hk;exact absurd ht (by decide)
 exact⟨h1.cell h4 (h1.mm.not h3 (by decide)) kk _,h2.at λk cs t ht hk=>kS W ⟨B,kk,none⟩ _ k (hne k cs t ht hk),hs,h4⟩
theorem Y5{P:List ByteArray}(h:Q5 B N P W)(hk:kk<N):W.cell? ⟨B,kk,none⟩=some (.int .i64 (Lc P kk:Int))∧W.frozen? ⟨B,kk,none⟩=false∧B<W.heap.size:=by
 have h1:=aG W B kk _ _ _ h;rw[List.getElem?_toArray,v_ P hk]at h1;exact⟨h1,lW W B kk _ _ h,aF h⟩
theorem Vs(nodes:Int)(hn0:-9223372036854775808<=nodes∧nodes<=9223372036854775807)(ao:Option Addr)(N c:Nat)(L:List Op)(hN:L.length=N)(w:World)(hL:gN w ao (OpC L)):
  Calls Tryz.prog 5 #[.int .i64 nodes,.slice ao N c] w λe w'=>e=.returned (.bool true)∧Below w.heap.size w w':=by
 obtain⟨n,hn2,hn6,hpk,hpw⟩:=ac8 (c:=nodes);have HP:=hide (Sc nodes 5 hn0.1 hn0.2 (by decide) (by decide) w);have HR:=hide (Xm n ⟨by omega,hn6⟩ w);go_enter Tryz.func5,Tryz.ntmps5;go_upto_region 2 with(go_at_call 9;refine HP.out.mono ?_;rintro e w2 ⟨rfl,hw2⟩;have hw3:=hw2.symm;subst hw3;clear hw2);clear HP hpk hpw;go_upto_region 3 with(go_at_call 10;refine HR.out.mono ?_;rintro e w3 ⟨y,rfl,hq⟩);replace hq:=hide hq;have hb3:=hq.out.bl;clear HR;by_cases h4:250<N
 ·have e1:decide (250<(N:Int))=true:=gu (by omega);clear hq hL;go_wp2;go_ret;exact⟨rfl,hb3⟩
 have e1:decide (250<(N:Int))=false:=fD (by omega);have hmk:=λW=>Pt N (by omega) W;obtain⟨G,hG⟩:∃G,y.G=G:=⟨_,rfl⟩;have NH:=hide (aaI hn6 hq.out L);rw[hG,hN]at NH;rw[hG];obtain⟨z0,hz0⟩:∃z,(qm N []).toArray=z:=⟨_,rfl⟩;rw[hz0]at NH hmk;replace hN:=hide hN;clear hq hb3 hG hz0;go_wp2_with fail;clear hmk;generalize World.alloc _ _=W4 at NH ⊢;generalize w3.heap.size=B at NH ⊢;go_loopw [8] (λi wr=>∃(k:Nat),k<=N∧i=.int .i64 k∧Hid (OS w n G B L k wr)) (λi _=>N - (intOf i).toNat)
 case atStart=>exact⟨0,b_ _,rfl,NH⟩
 case round=>
  clear NH;obtain⟨k,hk,rfl,hq⟩:=hrel;by_cases hlt:k<N
  ·have hki:(k:Int)<(N:Int):=by omega
   obtain⟨o,ho⟩:∃o,L[k]?=some o:=⟨_,cK (by rw[hN.out];omega)⟩;obtain⟨g,f,hao,hgl,d0,d1,d2,d3,d4,d5⟩:=Vr (hL.below hq.out.below) ho;subst hao;have hwk:=hide (acP (h:=k) (by omega));by_cases hsk:o.dK=6∨o.dK=8
   ·have hgo:Hid (∀W',Below wr.heap.size wr W'->∃(k':Nat),k'<=N∧(.int .i64 ((k:Int)+1):Value)=.int .i64 k'∧Hid (OS w n G B L k' W')):=hide λW' hb=>⟨k+1,by omega,by simp,hide (hq.out.skip.later hb)⟩;have hbX:Below wr.heap.size wr (wr.alloc (.cells #[.int .i64 o.dK,.int .i64 o.a,.int .i64 o.b,.int .i64 o.n,.bool o.on,.string o.txt] 28)):=bC;have hg2:=hide (hgo.out _ hbX);clear hgo hq hbX;obtain⟨dK,a,b,num,on,txt⟩:=o;dsimp only at d0 d1 d2 d3 d4 d5 hsk hg2;rcases hsk with rfl|rfl;all_goals
     go_wp2;go_roundw
     case rel=>exact hg2.out
     case measure=>exact pQ hlt
   ·have e6:(o.dK==6)=false:=by simp;omega
    have e8:(o.dK==8)=false:=by simp;omega
    go_upto_region 11 with(fail);have hbX:Below wr.heap.size wr (wr.alloc (.cells #[.int .i64 o.dK,.int .i64 o.a,.int .i64 o.b,.int .i64 o.n,.bool o.on,.string o.txt] 28)):=bC;have hX:=bS wr (.cells #[.int .i64 o.dK,.int .i64 o.a,.int .i64 o.b,.int .i64 o.n,.bool o.on,.string o.txt] 28);generalize World.alloc _ _=wX at hbX hX ⊢;obtain⟨X,V6⟩:∃X,wr.heap.size=X:=⟨_,rfl⟩;rw[V6]at hX ⊢;have p0:=aG _ _ 0 _ _ _ hX;have p1:=aG _ _ 1 _ _ _ hX;have p2:=aG _ _ 2 _ _ _ hX;have p3:=aG _ _ 3 _ _ _ hX;have p4:=aG _ _ 4 _ _ _ hX;have p5:=aG _ _ 5 _ _ _ hX;simp only[List.getElem?_toArray,List.getElem?_cons_succ,List.getElem?_cons_zero]at p0 p1 p2 p3 p4 p5;have f5:=lW _ _ 5 _ _ hX;have hw8:IntKind.u8.wrap (k:Int)=(k:Int):=by simp only[IntKind.wrap,IntKind.signed,IntKind.bits];simp;omega
    have hcv:=Y1 wX k (by omega);have hXl:=aF hX;have hbu:Below wX.heap.size wX (wX.alloc (.cells #[.int .u8 (k:Int)] 5)):=bC;have hXu:=(hbu.block X hXl).trans hX;have q5:=aG _ _ 5 _ _ _ hXu;simp only[List.getElem?_toArray,List.getElem?_cons_succ,List.getElem?_cons_zero]at q5;have g5:=lW _ _ 5 _ _ hXu;have hXs:=heap_setCell_same wX X 5 _ _ (.string (rX k)) hX;have hbs:Below wr.heap.size wr (wX.setCell ⟨X,5,none⟩ (.string (rX k))):=hbX.setCell (p:=⟨X,5,none⟩) (by rw[<-V6];exact aB _) _;have hbY:=hbs.alloc hbs.size (.cells #[.int .u8 (k:Int)] 5);have Yj:=(((aU _ (wX.setCell ⟨X,5,none⟩ (.string (rX k)))).alloc (aB _) (.cells #[.int .u8 (k:Int)] 5)).block X (aF hXs)).trans hXs;replace V6:=hide V6;clear d0 d1 d2 d3 d4 d5;go_upto_region 12 with(fail);clear p0 p1 p2 p3 p4 p5 q5 f5 g5 hw8 hcv hX hXu hbu hbX hXl hXs hbs;generalize World.alloc _ _=wY at hbY Yj ⊢;simp only[List.setIfInBounds_toArray,List.set_cons_succ,List.set_cons_zero]at Yj;have p0:=aG _ _ 0 _ _ _ Yj;have p1:=aG _ _ 1 _ _ _ Yj;have p2:=aG _ _ 2 _ _ _ Yj;have p3:=aG _ _ 3 _ _ _ Yj;have p4:=aG _ _ 4 _ _ _ Yj;have p5:=aG _ _ 5 _ _ _ Yj;simp only[List.getElem?_toArray,List.getElem?_cons_succ,List.getElem?_cons_zero]at p0 p1 p2 p3 p4 p5;obtain⟨c1,y1,m,ev,hck,hG,hs,hcb,hcm,hBw⟩:=hq.out.later hbY;obtain⟨G1,g0,g1,adR⟩:=id hcb.cm;have HD:=hide (agb hs (by omega) (o.tx k) (λh=>absurd h (by show ¬o.dK=8;omega)) adR.few);rw[hG]at HD;have hB1:=hcb.step (by omega) (λf hf=>(hs.fk.1 f hf).2.1) ho (by omega) (by omega);have ZI:=hide (And.intro hs.mm (And.intro hcm (And.intro hBw hB1)));have hG1:=hide hG;obtain⟨dK,a,b,num,on,txt⟩:=o;unfold VZ Op.tx at HD;dsimp only at p0 p1 p2 p3 p4 p5 e6 e8 HD;clear hs hcb hcm hB1 adR hG hq Yj hbY hsk;go_upto_region 13 with(go_at_call 11;refine HD.out.mono ?_;rintro e w4 ⟨v,Lv,y',rfl,hLv,hev,hG',hmu,hs⟩);obtain⟨hmm,hcm,_,hoc⟩:=ZI.out;have hG2:=hide hG';obtain⟨m',hm'⟩:∃m',(m.step ⟨dK,a,b,num,on,rX k⟩).1=m':=⟨_,rfl⟩;have adS:=hcm.turn hmm hmu;unfold Op.tx at hoc;dsimp only at hoc;rw[<-hLv,hm']at hoc;rw[hm']at hs;replace hoc:=hide hoc;have hES:Hid (ES w n (c1+1) B N wY.heap.size y' m' v Lv ev 0 0 w4):=hide ⟨hs,hev,by rw[Zi,<-hN.out];exact adS,hBw⟩;obtain⟨bb,hbb⟩:∃bb,wY.heap.size=bb:=⟨_,rfl⟩;rw[hbb]at hES;have afB:=hs.bl;have hvf:∃av cv,v=.slice av Lv.length cv:=by
     obtain⟨av,cv,e,_⟩:=ay hev.row;exact⟨av,cv,e⟩
    obtain⟨av,cv,rfl⟩:=hvf;have afA:c1+1<=k+1:=by omega
    clear hs hev hLv hmu HD ZI p0 p1 p2 p3 p4 p5 e6 e8 hG' hG1 ho hm' hmm hcm adS hbb hck V6 hgl afB;go_wp2_with fail;go_loopw [11] (λi wr=>∃(j:Nat),j<=Lv.length∧i=.int .i64 j∧Hid (ES w n (c1+1) B N bb y' m' (.slice av Lv.length cv) Lv ev j 0 wr)) (λi _=>Lv.length - (intOf i).toNat)
    case atStart=>exact⟨0,b_ _,rfl,hES⟩
    case round=>
     clear hES;obtain⟨j,hj,rfl,hE⟩:=hrel;by_cases hjl:j<Lv.length
     ·have agI:(j:Int)<(Lv.length:Int):=by omega
      have hj9:j<9223372036854775807:=by have:=ME hE.out.2.1.row;omega
      obtain⟨gv,cv',x,ac,ca,hv,hx,_⟩:=Jj hE.out.2.1 hjl;cases hv;have hcs:rQ (Lv.map (·.1)) j=x.o.aR:=by unfold rQ;rw[hx]
      have hxm:=gI hx;go_wp2_with fail;go_loopw [12] (λi wr=>∃(q:Nat),q<=x.o.aR.length∧i=.int .i64 q∧Hid (ES w n (c1+1) B N bb y' m' (.slice (some ⟨gv,0,none⟩) Lv.length cv) Lv ev j q wr)) (λi _=>x.o.aR.length - (intOf i).toNat)
      case atStart=>exact⟨0,b_ _,rfl,hE⟩
      case round=>
       clear hE;obtain⟨q,hq,rfl,hE⟩:=hrel;obtain⟨gv',cv',x',ac,ca,hv,hx',kn,kcm,kq⟩:=Jj hE.out.2.1 hjl;cases hv;rw[hx]at hx';cases hx';by_cases hql:q<x.o.aR.length
       ·have hqi:(q:Int)<(x.o.aR.length:Int):=by omega
        have hq9:x.o.aR.length<=9223372036854775807:=by
         obtain⟨p,hp,rfl⟩:=dh.1 hxm;exact ME (hE.out.2.1.out p hp).bL
        obtain⟨⟨cf,ct⟩,hc⟩:∃c,x.o.aR[q]?=some c:=⟨_,cK hql⟩;obtain⟨ga,hac,kf,kt⟩:=kq q _ hc;subst hac;obtain⟨bt,o',hb1,hb2,hb3,hb4,hb5,hb6,JV⟩:=hoc.out.came (List.mem_append_right ev hxm) (gI hc);dsimp only at hb1 hb5 kf kt;subst hb1 hb5;obtain⟨kk,hkk⟩:∃kk,bt.toNat=kk:=⟨_,rfl⟩;rw[hkk]at hb2;have htx:(⟨#[bt]⟩:ByteArray)=rX kk:=by rw[aag,hkk]
        have hkN:kk<N:=by rw[<-hN.out];exact(fu.1 hb2).1
        have hc':(rQ (Lv.map (·.1)) j)[q]?=some (10 * o'.a+10,(⟨#[bt]⟩:ByteArray)):=by rw[hcs];exact hc
        have h0:Lc (PO ev (Lv.map (·.1)) j q) kk=0:=by
         have h1:=hoc.out.one (acr (ev:=ev) (q:=q+1) (by rw[iL];exact hjl)) kk;rw[Ob hc']at h1;unfold Lc at h1 ⊢;rw[List.countP_append,List.countP_singleton,htx]at h1;simp at h1;simpa using h1
        obtain⟨k1,k2,k3⟩:=Y5 hE.out.2.2.1 hkN;rw[h0]at k1;have hgo:Hid (∀W',Below wr.heap.size wr W'->∃(q':Nat),q'<=x.o.aR.length∧(.int .i64 ((q:Int)+1):Value)=.int .i64 q'∧Hid (ES w n (c1+1) B N bb y' m' (.slice (some ⟨gv,0,none⟩) Lv.length cv) Lv ev j q' (W'.setCell ⟨B,kk,none⟩ (.int .i64 1)))):=hide λW' hb=>⟨q+1,by omega,by simp,hide ((hE.out.later hb).cell (by omega) hkN hc' htx h0)⟩;obtain⟨g2,f2,afD,Yd,d0,d1,d2,_,_,_⟩:=Vr (hL.below hE.out.1.bl) hb2;cases afD;obtain⟨na,hna⟩:=Int.eq_ofNat_of_zero_le hb6;rw[hna]at kf d1 JV;rw[hb3]at d0;rw[hb4]at kn;have afc:na<6:=by omega
        have hw:=GV afc;have hbX:Below wr.heap.size wr (wr.alloc (.cells #[.int .u32 (10 * (na:Int)+10),.string ⟨#[bt]⟩] 56)):=bC;have hX:=bS wr (.cells #[.int .u32 (10 * (na:Int)+10),.string ⟨#[bt]⟩] 56);have agG:(kk:Int)<(N:Int):=by omega
        replace hkk:=hide hkk;clear htx h0 hc' hcs hb3 hb4 hna hx;have adI:=World.block_lt_of_cell? _ _ kn;go_upto_region 20 with(fail);generalize World.alloc _ _=wX at hbX hX ⊢;obtain⟨X,V6⟩:∃X,wr.heap.size=X:=⟨_,rfl⟩;rw[V6]at hX ⊢;replace V6:=hide V6;have p0:=aG _ _ 0 _ _ _ hX;have p1:=aG _ _ 1 _ _ _ hX;simp only[List.getElem?_toArray,List.getElem?_cons_succ,List.getElem?_cons_zero]at p0 p1;replace kn:=cell_later kn hbX adI;replace d0:=cell_later d0 hbX Yd;replace d1:=cell_later d1 hbX Yd;replace d2:=cell_later d2 hbX Yd;replace k1:=cell_later k1 hbX k3;clear kf kt kcm hE kq hc hxm hb2;go_upto_region 23 with(fail);have afm:=hkk.out;clear hkk;subst afm;have hkv:∀h,wrap64 ((GetElem.getElem (⟨#[bt]⟩:ByteArray) (0:Nat) h).toNat:Int)=(bt.toNat:Int):=λh=>by
         show wrap64 (bt.toNat:Int)=_;have:=bt.toNat_lt;unfold wrap64;omega
        simp only[hkv];clear hkv;have e7:decide (N<=bt.toNat)=false:=fD (by omega);have e8:decide ((N:Int)<=(bt.toNat:Int))=false:=fD (by omega);have hfr:wX.frozen? ⟨B,bt.toNat,none⟩=false:=(hbX.frozen (p:=⟨B,bt.toNat,none⟩) k3).trans k2;have hBl:=fO k3 hbX.size;have hst:Hid (∀z W,wX.drewN z=W->W.cell? ⟨B,bt.toNat,none⟩=some (.int .i64 0)∧W.frozen? ⟨B,bt.toNat,none⟩=false∧(W.setCell ⟨B,bt.toNat,none⟩ (.int .i64 1)).cell? ⟨B,bt.toNat,none⟩=some (.int .i64 1)∧∃(q':Nat),q'<=x.o.aR.length∧(.int .i64 ((q:Int)+1):Value)=.int .i64 q'∧Hid (ES w n (c1+1) B N bb y' m' (.slice (some ⟨gv,0,none⟩) Lv.length cv) Lv ev j q' (W.setCell ⟨B,bt.toNat,none⟩ (.int .i64 1)))):=hide λz W hW=>by
         subst hW;have hc:=cell_later k1 (below_drewN (aU _ wX) z) hBl;refine⟨hc,hfr,World.cell?_setCell_same _ _ _ hc,hgo.out _ (below_drewN hbX z)⟩
        clear hgo hbX hX V6 k2 k3 Yd adI;go_quiet (fail);generalize hg:World.drewN _ _=W3;obtain⟨s1,s2,s3,s4⟩:=hst.out _ _ hg;replace s4:=hide s4;clear hg hst kn d0 d1 d2 p0 p1 hw k1 hfr hBl;go_wp2_with fail;exact⟨s4.out,pQ hql⟩
       ·obtain rfl:q=x.o.aR.length:=by omega
        have hgo:Hid (∃(j':Nat),j'<=Lv.length∧(.int .i64 ((j:Int)+1):Value)=.int .i64 j'∧Hid (ES w n (c1+1) B N bb y' m' (.slice (some ⟨gv,0,none⟩) Lv.length cv) Lv ev j' 0 wr)):=hide ⟨j+1,by omega,by simp,by
         have h:=hE.out;rw[<-hcs]at h;obtain⟨h1,h2,h3,h4⟩:=h;rw[Zj hx]at h3;exact hide ⟨h1,h2,h3,h4⟩⟩
        clear hE kq hcs hx hxm hq;go_wp2;go_roundw
        case rel=>exact hgo.out
        case measure=>exact pQ hjl
     ·obtain rfl:j=Lv.length:=by omega
      have hgo:Hid (∃(k':Nat),k'<=N∧(.int .i64 ((k:Int)+1):Value)=.int .i64 k'∧Hid (OS w n G B L k' wr)):=hide ⟨k+1,by omega,by simp,by
       obtain⟨h1,h2,h3,h4⟩:=hE.out;have h5:=acs ev (Lv.map (·.1));rw[iL]at h5;rw[h5,<-hN.out]at h3;exact hide ⟨c1+1,y',m',_,afA,hG2.out,h1,hoc.out,h3,h4⟩⟩
      clear hE hj hn0 hn2 hn6 h4 e1 hk hki hoc;go_wp2;go_roundw
      case rel=>rw[hwk.out];exact hgo.out
      case measure=>rw[hwk.out];exact pQ hlt
  ·obtain rfl:k=N:=by omega
   have hfin:=hq.out.below;clear hq hL;go_wp2;go_ret;exact⟨rfl,hfin⟩
end Go.Proofs.YtakaadcpaeiccabGreat
