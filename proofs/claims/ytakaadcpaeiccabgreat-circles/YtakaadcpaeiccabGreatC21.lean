import Derived.Test.YtakaadcpaeiccabGreatC20
import Derived.Lib.SliceRun
import Derived.Lib.UnsafeStr
import Derived.Laws.MakeOwn
import Derived.Lib.Strings
import Derived.Lib.BufferWrite
set_option maxHeartbeats 8000000
set_option maxRecDepth 100000
namespace Go.Proofs.YtakaadcpaeiccabGreat
open Go.RowKit Go.Maps
variable{B N:Nat}{s:St}{w:World}
theorem KV{g:bI}{TL:List Hp.Tm}(n:Nd N B g s TL w)(q:Int×Int)(hq:v_ q)(dK:Int)(h0:0<=dK)(hm:∀e∈s.mem,e.dK<=dK)(htn:s.tn<=4611686018427387904):
  Calls Tryz.prog 156 #[.pointer (some ⟨N,8,none⟩),jW q,.int .u64 dK] w λe w'=>e=.returned (.tuple #[])∧IY N B g s {s with mem:=dW s.mem q dK s.tn,tn:=s.tn+1} TL w w':=by
 have h:=n.nn.rs.sn;rw[<-n.nn.eq.tn]at h htn;refine(F_ N g.x s.mem q hq dK h0 hm htn w n.nn.cr.nd h).mono ?_;rintro e w' ⟨rfl,h1,h2,h3⟩;rw[n.nn.eq.tn]at h1 h2;obtain⟨e1,e2,e3,e4,e5,e6,e7,e8,e9⟩:=n.nn.eq;have hr:=n.nn.rs;have hne:∀k,kg g.x g.h g.u g.Mt g.tv s k->k≠g.x.Ms->¬(k=N∨k=g.x.Ms):=λk hk h1 h2=>h2.elim (λe=>n.nn.apart hk (.inl e)) h1;have hnd:=n.nn.qR;simp only[List.nodup_cons,fe,List.not_mem_nil,or_false,not_or]at hnd;obtain⟨_,_,⟨d1,d2⟩,_⟩:=hnd;have AB:∀ {k:Nat} {o:Obj},w.heap[k]?=some o->(∀es cl,o≠ .map es cl)->k≠g.x.Ms:=by
  rintro k o ho hn rfl;obtain⟨es,cl,hm⟩:=hr.sn.obj;rw[hm]at ho;exact hn _ _ (Option.some.inj ho).symm
 have hkeep:∀ {k:Nat},kg g.x g.h g.u g.Mt g.tv s k->k≠g.x.Ms->w'.heap[k]?=w.heap[k]?:=λhk h=>h3.block _ (hr.lt hk) (hne _ hk h);have hSr:∀k,IV g.x.qH g.h g.u s.Q k->k≠g.x.Ms:=by
  intro k hk;obtain⟨o,ho,⟨rfl,_⟩|⟨c,rfl⟩|⟨c,rfl⟩⟩:=hr.sr.kind hk
  ·exact Ne.symm d1
  ·exact AB ho (λ_ _ h=>by cases h)
  ·exact AB ho (λ_ _ h=>by cases h)
 obtain⟨p,q⟩:=n.rest (s':={s with mem:=dW s.mem q dK s.tn,tn:=s.tn+1}) (dR:=TL) h1 rfl rfl ⟨e1,e2,e3,e4,e5,rfl,e7,e8,e9⟩
  ⟨h2,hr.sr.kept λk hk=>hkeep (.inr (.inl hk)) (hSr k hk),hr.tm.at (hkeep (.inr (.inr (.inl rfl))) (AB hr.tm.blk (λ_ _ h=>by cases h))) (hkeep (.inr (.inr (.inr (.inl rfl)))) (Ne.symm d2)) (λk hk=>hkeep (.inr (.inr (.inr (.inr (.inl hk))))) (by
   obtain⟨c,hc⟩:=aR hr.tm.row hk;exact AB hc (λ_ _ h=>by cases h))),hr.hpo,hr.pm,bK hr.pc λk hk=>hkeep (.inr (.inr (.inr (.inr (.inr hk))))) (by
   obtain⟨c,hc⟩:=aR hr.pc hk;exact AB hc (λ_ _ h=>by cases h))⟩
  (h3.mono λk h=>h.elim .inl λh=> .inr (.inl h)) (λk hk=> .inl hk) ⟨rfl,rfl,rfl⟩ ⟨rfl,rfl,rfl,rfl,rfl,rfl,rfl,rfl,rfl⟩
 exact⟨rfl,_,p,q,rfl,rfl,rfl⟩
theorem U7{g:bI}{TL:List Hp.Tm}(n:Nd N B g s TL w)(hd:s.Dom)(hc:0<=s.cnt∧s.cnt<=1000000)(hw:s.bA.length<=90000):
  Calls Tryz.prog 71 #[.pointer (some ⟨N,0,none⟩),.pointer (some ⟨B,0,none⟩)] w λe w'=>e=.returned (.tuple #[])∧IY N B g s s.write TL w w':=by
 obtain⟨e1,e2,e3,e4,e5,e6,e7,e8,e9⟩:=n.nn.eq;refine(wm N B (B+1) g.x g.a g.M g.ff g.gg s.A s.f g.sz s.bA s.aL s.aY s.aT w n.nn.cr n.ac n.base (by rw[e8];exact hc) n.nn.Jg hw).mono ?_;rintro e w' ⟨v7,sz',rfl,h1,_,h3,h4⟩;have hn:bL g.x.seq g.x.own s.f s.A=bL s.seq s.own s.f s.A:=by rw[e2,e7]
 rw[hn]at h1 h3;have hz:sz'<=8:=h1.size_le (rT hd.on);obtain⟨p,q⟩:=n.core (s':=s.write) h1 h3 (h4.mono λk h=>by
  rcases h with rfl|rfl|h
  ·exact .inl (.inl rfl)
  ·exact .inl (.inr (.inl rfl))
  ·exact .inr h) (λk hk=>hk) ⟨rfl,rfl,rfl,rfl,rfl⟩ ⟨e1,e2,e3,e4,e5,e6,by dsimp only;rw[e2,e7];rfl,by dsimp only;rw[e8];rfl,e9⟩ ⟨rfl,rfl,rfl,rfl,rfl⟩ (by omega) n.now n.bC
 exact⟨rfl,_,p,q,rfl,rfl,rfl⟩
@[reducible] def FH(N B T : Nat)(me seq lr now : Int)(W : World): Prop := W.cell? ⟨N, 2, none⟩ = some (.int .u32 me) ∧ W.cell? ⟨N, 3, none⟩ = some (.int .u32 seq) ∧ W.cell? ⟨N, 5, none⟩ = some (.int .u32 lr) ∧ W.cell? ⟨N, 7, none⟩ = some (.pointer (some ⟨T, 0, none⟩)) ∧ W.cell? ⟨B, 0, none⟩ = some (.int .u64 now)
theorem FH.of{g:bI}{TL:List Hp.Tm}{W:World}(n:Nd N B g s TL W):FH N B g.x.T s.me s.seq s.dB s.now W:=by
 have h:=n.nn.cr.nd.more.1;rw[n.nn.eq.dB]at h;exact⟨n.cell.1,n.cell.2.1,h,n.cell.2.2.2.1,n.cell.2.2.2.2⟩
theorem WV{ttl i d q me sq:Int}{u:Bool}(ht:0<=ttl∧ttl<=255)(hi:bB i)(hd:bB d)(hq:bB q)(hm:bB me)(hs:bB sq):(St.Gh ttl u i d q me sq).Wf:=by
 unfold bB at hi hd hq hm hs;have hz:(⟨#[]⟩:ByteArray).size=0:=rfl;constructor<;>(dsimp only[St.Gh];omega)
theorem R7{A:List Rt}(hA:∀y∈A,y.Ok)(d:Int):bB (eF A d):=by
 unfold eF;cases hl:aJ A d with
 |none=>simp[bB]
 |some y=>exact(hA y (List.mem_of_find?_eq_some hl)).seq
structure St.Rdy(s:St):Prop where
 me:bB s.me
 seq:bB s.seq
 now:0<=s.now∧s.now<=4611686018427387904
 mem:∀e∈s.mem,e.dK<=s.now+1280
 dom:s.Dom
 cnt:0<=s.cnt∧s.cnt<=900000
 bA:s.bA.length<=80000
 aL:s.aL.length<=900000
 tn:s.tn<=4000000000000000000
 BJ:s.pc.length<=5
 z_:s.pc.Pairwise (·<=·)
 Aa:∀t∈s.pc,t<=s.now
theorem Qc{g:bI}{TL:List Hp.Tm}(n:Nd N B g s TL w)(hR:s.Rdy)(d ttl:Int)(hd:bB d)(ht:0<=ttl∧ttl<=255):
  Calls Tryz.prog 122 #[.pointer (some ⟨N,0,none⟩),.pointer (some ⟨B,0,none⟩),.int .u32 d,.int .i64 ttl] w λe w'=>e=.returned (.tuple #[])∧IY N B g s (s.request d ttl) TL w w':=by
 obtain⟨s9,qZ⟩:∃z,s.request d ttl=z:=⟨_,rfl⟩;rw[qZ];replace qZ:=hide qZ;obtain⟨c2,c3,c5,c7,c0⟩:=FH.of n;have f3:=n.nn.cr.nd.free 3;have f5:=n.nn.cr.nd.free 5;have hg0:=uw hR.seq;obtain⟨q1,hq1⟩:∃z,gr s.seq=z:=⟨_,rfl⟩;rw[hq1]at hg0;have HG:=hide (oN s.seq w);rw[hq1]at HG;replace hq1:=hide hq1;have hl1:bB ((s.dB+1)%4294967296):=by unfold bB;omega
 obtain⟨l1,hl⟩:∃z,(s.dB+1)%4294967296=z:=⟨_,rfl⟩;rw[hl]at hl1;have hg1:w.grownBy ((w.setCell ⟨N,3,none⟩ (.int .u32 q1)).setCell ⟨N,5,none⟩ (.int .u32 l1)) (some N):=ah (ah (aC _ (some N)) 3 _) 5 _;obtain⟨e1,e2,e3,e4,e5,e6,e7,e8,e9⟩:=n.nn.eq;obtain⟨n1,u1⟩:=n.cells (s':={s with seq:=q1,dB:=l1}) ((n.nn.cr.nd.Q7 q1).WL l1) (Fx.grown hg1 λk e=>by cases e;rfl) ⟨e1,rfl,e3,rfl,e5,e6,e7,e8,e9⟩ ⟨rfl,rfl,rfl,rfl,rfl,rfl⟩ ⟨rfl,rfl,rfl,rfl,rfl,rfl,rfl,rfl,rfl⟩ ⟨rfl,rfl,rfl,rfl,rfl⟩;have v1:Hid (({g with x:={g.x with seq:=q1,dB:=l1}}:bI).x.T=g.x.T):=rfl;have y1:Hid (({g with x:={g.x with seq:=q1,dB:=l1}}:bI).h=g.h∧({g with x:={g.x with seq:=q1,dB:=l1}}:bI).u=g.u):=⟨rfl,rfl⟩;generalize ({g with x:={g.x with seq:=q1,dB:=l1}}:bI)=g1 at n1 u1 v1 y1;have hA:=n.nn.cr.tb.ok;obtain⟨s1,hs1⟩:∃z,({s with seq:=q1,dB:=l1}:St)=z:=⟨_,rfl⟩;rw[hs1]at n1 u1;have hd1:s1.Dom:=by rw[<-hs1];exact⟨hR.dom.mb,hR.dom.on,hR.dom.own⟩
 have hc1:0<=s1.cnt∧s1.cnt<=900000:=by rw[<-hs1];exact hR.cnt
 have hw1:s1.bA.length<=80000:=by rw[<-hs1];exact hR.bA
 have HW:=hide (U7 n1 hd1 (by omega) (by omega));obtain⟨s2,hs2⟩:∃z,s1.write=z:=⟨_,rfl⟩;rw[hs2]at HW;have h2:Hid (s2.me=s.me∧s2.seq=q1∧s2.dB=l1∧s2.now=s.now∧s2.pc=s.pc∧s2.mem=s.mem∧s2.tn=s.tn∧s2.aL=s.aL∧s2.A=s.A∧ {s2 with pc:=St.dM s2.pc s2.now,mem:=dW s2.mem (s2.me,s2.dB) (s2.now+1280) s2.tn,tn:=s2.tn+1}.send 0 (St.Gh ttl (!(aJ s2.A d).isSome) s2.dB d (eF s2.A d) s2.me s2.seq) []=s9):=by
  show _∧_;rw[<-hs2,<-hs1];refine⟨rfl,rfl,rfl,rfl,rfl,rfl,rfl,rfl,rfl,?_⟩;rw[<-qZ.out,<-hl,<-hq1.out];rfl
 replace hl:=hide hl;have hmod:Hid (IntKind.u32.wrap (s.dB+1)=l1):=by
  show _=_;rw[<-hl.out];simp only[IntKind.wrap,IntKind.signed,IntKind.bits];simp
 clear hs1 hs2 e1 e2 e3 e4 e5 e6 e7 e8 e9 n hg1 hd1 hc1 hw1 n1;go_enter Tryz.func122,Tryz.ntmps122;go_wp2_with fail;refine aU HG.out ?_;rintro e w' ⟨rfl,rfl⟩;go_wp2_with fail;rw[hl.out];clear HG hmod hl hq1;refine aU HW.out ?_;rintro e w2 ⟨rfl,g2,n2,u2,t2,y2⟩;have Jf:=u1.trans u2;have tt2:Hid (g2.x.T=g.x.T):=t2.out.trans v1.out;have yy2:Hid (g2.h=g.h∧g2.u=g.u):=⟨y2.out.1.trans y1.out.1,y2.out.2.trans y1.out.2⟩;obtain⟨a1,a2,a3,a4,a5,a6,a7,a8,a9,a10⟩:=h2.out;have Zn:Hid (0<=s2.now∧s2.now<=4611686018427387904):=by rw[a4];exact hR.now
 have HP:=hide (ab9 n2.drew (by rw[a5];exact hR.BJ) (by rw[a5];exact hR.z_) (by rw[a5,a4];exact hR.Aa));have Zp:Hid (∀e∈s2.mem,e.dK<=s2.now+1280):=by rw[a6,a4];exact hR.mem
 have acV:Hid (s2.tn<=4000000000000000000):=by rw[a7];exact hR.tn
 have hU2:Hid (bB s2.me∧bB s2.seq∧bB s2.dB):=by rw[a1,a2,a3];exact⟨hR.me,hg0,hl1⟩
 have hfr2:Hid (s2.aL.length<=900000):=by rw[a8];exact hR.aL
 have hA2:Hid (∀y∈s2.A,y.Ok):=by rw[a9];exact hA
 have M0:=hide a10;clear a1 a2 a3 a4 a5 a6 a7 a8 a9 a10 h2 HW u1 u2 t2 y2 v1 y1 hR c2 c3 c5 c7 c0 f3 f5 hg0 hl1 hA;have hS:FH N B g2.x.T s2.me s2.seq s2.dB s2.now w2.drew:=FH.of n2.drew;have ub2:=Jf.trans (.below (aV _ _).drew:Up B (Ft N g2 s2) (Ft N g2 s2) w2 w2.drew);clear n2 Jf;go_wp2_with fail;go_region_held3 (FH N B g2.x.T s2.me s2.seq s2.dB s2.now) (first|with_reducible exact hS|with_reducible assumption) ((go_at_call 155;refine HP.out.mono ?_;rintro e w3 ⟨rfl,g3,n3,u3,t3,y3⟩;have hk3:FH N B g2.x.T s2.me s2.seq s2.dB s2.now w3:=by have h:=FH.of n3;rw[t3.out]at h;exact h))
 rename_i iR;clear iR hk3 hS HP;have ub3:=ub2.trans u3;have tt3:Hid (g3.x.T=g.x.T):=t3.out.trans tt2.out;have yy3:Hid (g3.h=g.h∧g3.u=g.u):=⟨y3.out.1.trans yy2.out.1,y3.out.2.trans yy2.out.2⟩;obtain⟨s3,hs3⟩:∃z,({s2 with pc:=St.dM s2.pc s2.now}:St)=z:=⟨_,rfl⟩;have h3:Hid (s3.me=s2.me∧s3.seq=s2.seq∧s3.dB=s2.dB∧s3.now=s2.now∧s3.mem=s2.mem∧s3.tn=s2.tn∧s3.aL=s2.aL∧s3.A=s2.A∧ {s3 with mem:=dW s3.mem (s3.me,s3.dB) (s3.now+1280) s3.tn,tn:=s3.tn+1}.send 0 (St.Gh ttl (!(aJ s3.A d).isSome) s3.dB d (eF s3.A d) s3.me s3.seq) []=s9):=by
  show _∧_;rw[<-hs3];exact⟨rfl,rfl,rfl,rfl,rfl,rfl,rfl,rfl,M0.out⟩
 rw[hs3]at n3 ub3;obtain⟨a1,a2,a3,a4,a5,a6,a7,a8,a9⟩:=h3.out;have xY:0<=s3.now∧s3.now<=4611686018427387904:=by rw[a4];exact Zn.out
 have HSn:Hid (∀t,t=s3.now+1280->Calls Tryz.prog 156 #[.pointer (some ⟨N,8,none⟩),jW (s3.me,s3.dB),.int .u64 t] w3.drew λe w'=>e=.returned (.tuple #[])∧IY N B g3 s3 {s3 with mem:=dW s3.mem (s3.me,s3.dB) (s3.now+1280) s3.tn,tn:=s3.tn+1} TL w3.drew w'):=by
  rintro _ rfl;exact KV n3.drew (s3.me,s3.dB) ⟨by rw[a1];exact hU2.out.1,by rw[a3];exact hU2.out.2.2⟩ (s3.now+1280) (by omega) (by rw[a5,a4];exact Zp.out) (by rw[a6];have:=acV.out;omega)
 dsimp only[jW]at HSn;have hU3:Hid (bB s3.me∧bB s3.seq∧bB s3.dB):=by rw[a1,a2,a3];exact hU2.out
 have adx:Hid (s3.aL.length<=900000):=by rw[a7];exact hfr2.out
 have hA3:Hid (∀y∈s3.A,y.Ok):=by rw[a8];exact hA2.out
 have Zt:=hide a9;clear a1 a2 a3 a4 a5 a6 a7 a8 a9 h3 hs3 u3 t3 y3 tt2 yy2 Zn Zp acV hU2 hfr2 hA2 M0 ub2;have hS:FH N B g3.x.T s3.me s3.seq s3.dB s3.now w3.drew:=FH.of n3.drew;have uc3:=ub3.trans (.below (aV _ _).drew:Up B (Ft N g3 s3) (Ft N g3 s3) w3 w3.drew);clear n3 ub3;go_wp2_with fail;go_region_held3 (FH N B g3.x.T s3.me s3.seq s3.dB s3.now) (first|with_reducible exact hS|with_reducible assumption) ((go_at_call 156;refine(HSn.out _ (by first|rfl|exact mP xY (by omega))).mono ?_;rintro e w4 ⟨rfl,g4,n4,u4,t4,y4⟩;have hk4:FH N B g3.x.T s3.me s3.seq s3.dB s3.now w4:=by have h:=FH.of n4;rw[t4.out]at h;exact h))
 rename_i iR;clear iR hk4 hS HSn;have uc4:=uc3.trans u4;have tt4:Hid (g4.x.T=g.x.T):=t4.out.trans tt3.out;have yy4:Hid (g4.h=g.h∧g4.u=g.u):=⟨y4.out.1.trans yy3.out.1,y4.out.2.trans yy3.out.2⟩;obtain⟨s4,hs4⟩:∃z,({s3 with mem:=dW s3.mem (s3.me,s3.dB) (s3.now+1280) s3.tn,tn:=s3.tn+1}:St)=z:=⟨_,rfl⟩;have h4:Hid (s4.me=s3.me∧s4.seq=s3.seq∧s4.dB=s3.dB∧s4.aL=s3.aL∧s4.A=s3.A∧s4.send 0 (St.Gh ttl (!(aJ s4.A d).isSome) s4.dB d (eF s4.A d) s4.me s4.seq) []=s9):=by
  show _∧_;rw[<-hs4];exact⟨rfl,rfl,rfl,rfl,rfl,Zt.out⟩
 rw[hs4]at n4 uc4;obtain⟨a1,a2,a3,a7,a8,a9⟩:=h4.out;have HN:=hide (ZN n4 d hd);obtain⟨nq,hnq⟩:∃z,eF s4.A d=z:=⟨_,rfl⟩;obtain⟨nk,hnk⟩:∃z,(aJ s4.A d).isSome=z:=⟨_,rfl⟩;rw[hnq,hnk]at HN a9;have adj:bB nq:=by rw[<-hnq,a8];exact R7 hA3.out d
 have HX:=hide (Ny n4.drew 0 (St.Gh ttl (!nk) s4.dB d nq s4.me s4.seq) (WV ht (by rw[a3];exact hU3.out.2.2) hd adj (by rw[a1];exact hU3.out.1) (by rw[a2];exact hU3.out.2.1)) [] ⟨rfl,λj hj=>by simp at hj⟩ (by rw[a7];have:=adx.out;omega));rw[a9]at HX;have h9:Hid (s9.me=s4.me∧s9.seq=s4.seq∧s9.dB=s4.dB∧s9.now=s4.now):=by
  show _∧_;rw[<-a9];exact⟨rfl,rfl,rfl,rfl⟩
 dsimp only[aF.val,St.Gh]at HX;have c4:=FH.of n4;obtain⟨c2,c3,c5,c7,c0⟩:=c4;have hS:FH N B g4.x.T s4.me s4.seq s4.dB s4.now w4.drew:=FH.of n4.drew;have ud4:=uc4.trans (.below (aV _ _).drew:Up B (Ft N g4 s4) (Ft N g4 s4) w4 w4.drew);clear a1 a2 a3 a7 a8 a9 h4 hs4 u4 t4 y4 tt3 yy3 hU3 adx hA3 Zt uc3 uc4 hnq hnk n4 adj;go_wp2_with fail;refine aU HN.out ?_;rintro e w5 ⟨rfl,rfl⟩;clear HN;go_wp2_with fail;go_region_held3 (FH N B g4.x.T s4.me s4.seq s4.dB s4.now) (first|with_reducible exact hS|with_reducible assumption) ((go_at_call 80;refine HX.out.mono ?_;rintro e w6 ⟨rfl,g6,n6,u6,t6,y6⟩;have hfin:Hid (IY N B g s s9 TL w' w6):=⟨g6,n6,ud4.trans u6,t6.out.trans tt4.out,y6.out.1.trans yy4.out.1,y6.out.2.trans yy4.out.2⟩;have Zr:FH N B g4.x.T s4.me s4.seq s4.dB s4.now w6:=by have h:=FH.of n6;rw[t6.out,h9.out.1,h9.out.2.1,h9.out.2.2.1,h9.out.2.2.2]at h;exact h))
 rename_i iR;clear iR Zr hS HX;go_wp2;go_returns;exact⟨rfl,hfin.out⟩
variable{B N:Nat}{s:St}{w:World}
def St.waits(s:St)(q:Sr)(t:Int)(o:Bool):St:={s with tl:=s.tl+1,Q:=St.dm s.Q {q with due:=t,id:=s.tl+1,out:=o}}
def St.lD(s:St)(q:Sr):Int:=match s.holds with|some _=>s.now+1000|none=>s.now+80 * (q.ttl+2)* 2 ^ q.ret
theorem Bb(s:St)(q:Sr):s.ask q=match s.holds with|some r=>(s.drop r).waits q (s.now+1000) false|none=>(s.request q.dest q.ttl).waits q (s.now+80 * (q.ttl+2)* 2 ^ q.ret) true:=by
 unfold St.ask St.holds;by_cases h:St.full s.pc s.now=true
 ·rw[aQ h,aQ h];rfl
 ·rw[aM h,aM h];by_cases h2:s.now<s.cO
  ·rw[aQ h2,aQ h2];rfl
  ·rw[aM h2,aM h2];rfl
def AkP(N B:Nat)(g:bI)(s s2:St)(_TL dR:List Hp.Tm)(w w':World):Prop:=
 ∃g',Nd N B g' s2 dR w'∧Up B (Ft N g s) (Ft N g' s2) w w'∧Hid (g'.x.T=g.x.T)∧Hid (g'.h=g.h∧g'.u=g.u)
theorem abP{q:Sr}(ok:q.Ok)(fK:0<=s.now∧s.now<=4611686018427387904):0<=s.now+80 * (q.ttl+2)* 2 ^ q.ret∧s.now+80 * (q.ttl+2)* 2 ^ q.ret<18446744073709551616∧0<=80 * (q.ttl+2)* 2 ^ q.ret∧80 * (q.ttl+2)* 2 ^ q.ret<=8589934592:=by
 have h1:=ok.ttl;have h2:=ok.ret;have hr:q.ret=0∨q.ret=1∨q.ret=2:=by omega
 rcases hr with hr|hr|hr<;>rw[hr]<;>simp<;>omega
theorem Fw{g:bI}{TL:List Hp.Tm}(n:Nd N B g s TL w)(r:Int)(hd:s.aT.length<=1000000):
  Calls Tryz.prog 92 #[.pointer (some ⟨B,0,none⟩),.int .i64 r] w λe w'=>e=.returned (.tuple #[])∧IY N B g s (s.drop r) TL w w':=by
 refine(Iz B (B+1) g.a s.bA s.aL s.aY s.aT r w n.ac n.base hd).mono ?_;rintro e w' ⟨v7,rfl,h1,h2⟩;obtain⟨p,q⟩:=n.act (s':=s.drop r) h1 h2 (tX s r) n.now n.bC;exact⟨rfl,_,p,q,rfl,rfl,rfl⟩
theorem Vf{g:bI}{TL:List Hp.Tm}(n:Nd N B g s TL w)(hR:s.Rdy)(hdl:s.aT.length<=900000)(q:Sr)(hq:q∈s.Q)(Bq:Nat)(hB:g.h q.dest=some Bq)(hl:TL.length<=900000)(htl:0<=s.tl∧s.tl<=4000000000000000000)(hid:∀x∈TL,x.2.1<=s.tl):
  Calls Tryz.prog 83 #[.pointer (some ⟨Bq,0,none⟩),.pointer (some ⟨N,0,none⟩),.pointer (some ⟨B,0,none⟩)] w λe w'=>e=.returned (.tuple #[])∧AkP N B g s (s.ask q) TL (TL++ [(s.lD q,s.tl+1,q.dest)]) w w':=by
 have hmf:∀(fn:Fn) (first cap:Array Value) (w:World),(Instr.makeFunc fn first cap).run Tryz.prog w=.ok (.func fn first cap) w:=λ_ _ _ _=>rfl;have hok:=n.nn.rs.sr.ok q hq;have fK:=hR.now;have HH:=hide (I4 n fK);obtain⟨s9,qZ⟩:∃z,s.ask q=z:=⟨_,rfl⟩;obtain⟨du,EJ⟩:∃z,s.lD q=z:=⟨_,rfl⟩;rw[qZ,EJ];rw[Bb]at qZ;unfold St.lD at EJ;obtain⟨ho,hho⟩:∃z,s.holds=z:=⟨_,rfl⟩;rw[hho]at qZ EJ HH;replace qZ:=hide qZ;replace EJ:=hide EJ;obtain⟨_,_,_,_,c0⟩:=n.cell;go_enter Tryz.func83,Tryz.ntmps83;go_wp2_with fail;refine aU HH.out ?_;rintro e w1 ⟨rfl,rfl⟩;clear HH;cases ho with
 |some r=>
  replace qZ:Hid ((s.drop r).waits q (s.now+1000) false=s9):=qZ;replace EJ:Hid (s.now+1000=du):=EJ;have HX:=hide (Fw n r (by omega));obtain⟨s1,hs1⟩:∃z,s.drop r=z:=⟨_,rfl⟩;have h1:Hid (s1.now=s.now∧s1.Q=s.Q∧s1.tl=s.tl):=by
   show _∧_;rw[<-hs1];exact⟨rfl,rfl,rfl⟩
  rw[hs1]at HX qZ;clear hho hR n hs1;simp only[Option.getD_some,Option.isSome_some];go_wp2_with fail;refine aU HX.out ?_;rintro e w2 ⟨rfl,g2,n2,u2,t2,y2⟩;have HW:Hid (∀t,t=s.now+1000->Calls Tryz.prog 121 #[.pointer (some ⟨Bq,0,none⟩),.pointer (some ⟨N,0,none⟩),.int .u64 t,.func (.func 83) #[.pointer (some ⟨Bq,0,none⟩)] #[]] w2 λe w'=>e=.returned (.tuple #[])∧AkP N B g s s9 TL (TL++ [(du,s.tl+1,q.dest)]) w1 w'):=by
   rintro _ rfl;refine(U9 n2 q (by rw[h1.out.2.1];exact hq) Bq (by rw[y2.out.1];exact hB) (s.now+1000) (by omega) false hl (by rw[h1.out.2.2];exact htl) (by rw[h1.out.2.2];exact hid)).mono ?_;rintro e w3 ⟨rfl,g3,n3,u3,t3,y3⟩;have e1:({s1 with tl:=s1.tl+1,Q:=St.dm s1.Q {q with due:=s.now+1000,id:=s1.tl+1,out:=false}}:St)=s9:=qZ.out;rw[e1]at n3 u3;rw[h1.out.2.2,EJ.out]at n3;exact⟨rfl,g3,n3,u2.trans u3,t3.out.trans t2.out,y3.out.1.trans y2.out.1,y3.out.2.trans y2.out.2⟩
  have c0':=n2.cell.2.2.2.2;rw[h1.out.1]at c0';clear n2 u2 t2 y2 h1 qZ EJ HX;go_wp2_with fail;refine aU (HW.out _ (by first|rfl|exact mP fK (by omega))) ?_;rintro e w3 ⟨rfl,hN⟩;replace hN:=hide hN;clear HW c0';go_wp2;go_returns;exact⟨rfl,hN.out⟩
 |none=>
  replace qZ:Hid ((s.request q.dest q.ttl).waits q (s.now+80 * (q.ttl+2)* 2 ^ q.ret) true=s9):=qZ;replace EJ:Hid (s.now+80 * (q.ttl+2)* 2 ^ q.ret=du):=EJ;obtain⟨B',hB1,hL1⟩:=n.nn.rs.sr.ln q hq;rw[hB]at hB1;cases hB1;obtain⟨k0,k1,k2,k3,k4⟩:=hL1.cell;have HX:=hide (Qc n.drew hR q.dest q.ttl hok.dest (by have:=hok.ttl;omega));obtain⟨s1,hs1⟩:∃z,s.request q.dest q.ttl=z:=⟨_,rfl⟩;have h1:Hid (s1.now=s.now∧s1.Q=s.Q∧s1.tl=s.tl):=by
   show _∧_;rw[<-hs1];exact⟨rfl,rfl,rfl⟩
  rw[hs1]at HX qZ;have hS:w1.drew.cell? ⟨Bq,0,none⟩=some (.int .u32 q.dest)∧w1.drew.cell? ⟨Bq,2,none⟩=some (.int .i64 q.ttl):=⟨k0,k2⟩;obtain⟨b1,b2,b3,b4⟩:=abP (s:=s) hok fK;clear hho hR n hs1 k0 k1 k2 k3 k4 hL1;simp only[Option.getD_none,Option.isSome_none];go_wp2_with fail;go_region_held3 (λW=>W.cell? ⟨Bq,0,none⟩=some (.int .u32 q.dest)∧W.cell? ⟨Bq,2,none⟩=some (.int .i64 q.ttl)) (first|with_reducible exact hS|with_reducible assumption) ((go_at_call 122;refine HX.out.mono ?_;rintro e w2 ⟨rfl,g2,n2,u2,t2,y2⟩;have hk2:w2.cell? ⟨Bq,0,none⟩=some (.int .u32 q.dest)∧w2.cell? ⟨Bq,2,none⟩=some (.int .i64 q.ttl):=by obtain⟨B',hB1,hL1⟩:=n2.nn.rs.sr.ln q (by rw[h1.out.2.1];exact hq);rw[y2.out.1,hB]at hB1;cases hB1;exact⟨hL1.cell.1,hL1.cell.2.2.1⟩))
  rename_i iR;clear iR hk2 hS HX;have hq2:q∈s1.Q:=by rw[h1.out.2.1];exact hq
  have hB2:g2.h q.dest=some Bq:=by rw[y2.out.1];exact hB
  have HPt:Hid (∀W5,Below w2.heap.size w2 W5->Calls Tryz.prog 123 #[.pointer (some ⟨Bq,0,none⟩)] W5 λe w'=>e=.returned (.int .u64 (80 * (q.ttl+2)* 2 ^ q.ret))∧Below w2.heap.size w2 w'):=by
   intro W5 h5;obtain⟨B',hB1,hL1⟩:=(n2.later h5).nn.rs.sr.ln q hq2;rw[hB2]at hB1;cases hB1;refine(Ee Bq q _ W5 hL1 hok).mono ?_;rintro e w' ⟨rfl,hb⟩;exact⟨rfl,h5.trans (hb.mono h5.size)⟩
  have HW:Hid (∀W5,Below w2.heap.size w2 W5->∀t,t=s.now+80 * (q.ttl+2)* 2 ^ q.ret->Calls Tryz.prog 121 #[.pointer (some ⟨Bq,0,none⟩),.pointer (some ⟨N,0,none⟩),.int .u64 t,.func (.func 124) #[.pointer (some ⟨Bq,0,none⟩)] #[]] W5 λe w'=>e=.returned (.tuple #[])∧w'.cell? ⟨B,0,none⟩=some (.int .u64 s.now)∧AkP N B g s s9 TL (TL++ [(du,s.tl+1,q.dest)]) w1 w'):=by
   rintro W5 h5 _ rfl;refine(U9 (n2.later h5) q hq2 Bq hB2 (s.now+80 * (q.ttl+2)* 2 ^ q.ret) ⟨b1,b2⟩ true hl (by rw[h1.out.2.2];exact htl) (by rw[h1.out.2.2];exact hid)).mono ?_;rintro e w3 ⟨rfl,g3,n3,u3,t3,y3⟩;have e1:({s1 with tl:=s1.tl+1,Q:=St.dm s1.Q {q with due:=s.now+80 * (q.ttl+2)* 2 ^ q.ret,id:=s1.tl+1,out:=true}}:St)=s9:=qZ.out;have e2:s9.now=s.now:=by rw[<-e1];exact h1.out.1
   rw[e1]at n3 u3;rw[h1.out.2.2,EJ.out]at n3;have c3:=n3.cell.2.2.2.2;rw[e2]at c3;exact⟨rfl,c3,g3,n3,(((Up.below (aV _ _).drew).trans u2).trans (.below h5)).trans u3,t3.out.trans t2.out,y3.out.1.trans y2.out.1,y3.out.2.trans y2.out.2⟩
  have hS:w2.drew.cell? ⟨B,0,none⟩=some (.int .u64 s.now):=by
   have:=n2.drew.cell.2.2.2.2;rw[h1.out.1]at this;exact this
  have HC:Hid (∀W5,Below w2.heap.size w2 W5->W5.cell? ⟨B,0,none⟩=some (.int .u64 s.now)):=by
   intro W5 h5;have:=(n2.later h5).cell.2.2.2.2;rw[h1.out.1]at this;exact this
  generalize hpt:80 * (q.ttl+2)* 2 ^ q.ret=pt at HPt HW b3 b4;replace hpt:=hide hpt;clear n2 u2 t2 y2 h1 qZ EJ hq2 hB2 hok c0;go_wp2_with fail;go_region_held3 (λW=>W.cell? ⟨B,0,none⟩=some (.int .u64 s.now)) (first|with_reducible exact hS|with_reducible assumption) (first
   |(go_at_call 123;refine(HPt.out _ (by first|exact aV _ _|exact(aV _ _).drew|exact below_drewN (aV _ _) _)).mono ?_;rintro e w5 ⟨rfl,hb5⟩;have hk5:=HC.out w5 hb5)
   |(go_at_call 121;refine(HW.out _ (by first|exact hb5|exact hb5.drew|exact below_drewN hb5 _) _ (by first|rfl|exact mP fK (by omega))).mono ?_;rintro e w6 ⟨rfl,Zr,hN⟩;replace hN:=hide hN))
  all_goals
   go_wp2;go_returns;exact⟨rfl,hN.out⟩
variable{B N:Nat}{s:St}
theorem Ob(L:List Int)(k:Nat):L++List.replicate k (5:Int)++ [5]=L++List.replicate (k+1) 5:=by
 rw[List.append_assoc,List.replicate_succ',]
theorem Nd.j_{g:bI}{TL:List Hp.Tm}{W:World}(n:Nd N B g s TL W){q:Sr}(hq:q∈s.Q){Bq:Nat}(hB:g.h q.dest=some Bq):qD Bq q (g.u q.dest) W:=by
 obtain⟨B',h1,h2⟩:=n.nn.rs.sr.ln q hq;rw[hB]at h1;cases h1;exact h2
theorem Vd{g:bI}{TL:List Hp.Tm}{w:World}(n:Nd N B g s TL w)(hdl:s.aT.length<=900000)(q:Sr)(hq:q∈s.Q)(Bq:Nat)(hB:g.h q.dest=some Bq)(hl:TL.length<=900000):
  Calls Tryz.prog 158 #[.pointer (some ⟨Bq,0,none⟩),.pointer (some ⟨N,0,none⟩),.pointer (some ⟨B,0,none⟩)] w λe w'=>e=.returned (.tuple #[])∧∃dR,FR N B g s (({s with aT:=s.aT++List.replicate q.txt.length 5}:St).Yu q.dest) dR (λz=>z=q.dest) w w'∧Fh q.id TL dR:=by
 have hok:=n.nn.rs.sr.ok q hq;have hrow:=n.nn.rs.sr.row q hq;obtain⟨ao,c,hv,_⟩:=ak hrow;obtain⟨k0,k1,k2,k3,k4⟩:=(n.j_ hq hB).cell;rw[hv]at k1;have hln:=hok.txt;obtain⟨s2,hs2⟩:∃z,({s with aT:=s.aT++List.replicate q.txt.length 5}:St).Yu q.dest=z:=⟨_,rfl⟩;rw[hs2];replace hs2:=hide hs2;have hb0:Hid (({s with aT:=s.aT++List.replicate 0 5}:St)=s):=by
  show _=_;simp
 have n0:=hide n;clear hrow hv n;go_enter Tryz.func158,Tryz.ntmps158;go_wp2_with fail;clear k0 k1 k2 k3 k4;go_loopw [11] (λi wr=>∃(k:Nat) (st:St) (g':bI),k<=q.txt.length∧i=.int .i64 k∧Hid (({s with aT:=s.aT++List.replicate k 5}:St)=st)∧Nd N B g' st TL wr∧Up B (Ft N g s) (Ft N g' st) w wr∧Hid (g'.x.T=g.x.T)∧Hid (g'.h=g.h∧g'.u=g.u)) (λi _=>q.txt.length - (intOf i).toNat)
 case atStart=>exact⟨0,s,g,dh _,rfl,hb0,n0.out,Up.refl _ _ _,rfl,rfl,rfl⟩
 case round=>
  obtain⟨k,st,g',hk,rfl,hst,nk,uk,tk,yk⟩:=hrel;by_cases hlt:k<q.txt.length
  ·have hki:(k:Int)<(q.txt.length:Int):=by omega
   have hd1:st.aT.length<=1000000:=by
    rw[<-hst.out];show(s.aT++List.replicate k (5:Int)).length<=_;rw[dw,List.length_replicate];omega
   have HX:=hide (Fw nk 5 hd1);have aaM:Hid (({s with aT:=s.aT++List.replicate (k+1) 5}:St)=st.drop 5):=by
    show _=_;rw[<-hst.out];unfold St.drop;dsimp only;rw[Ob]
   have Aq:Hid (q.txt.length - (intOf (.int .i64 ((k:Int)+1))).toNat<q.txt.length - (intOf (.int .i64 (k:Int))).toNat):=by
    show q.txt.length - ((k:Int)+1).toNat<q.txt.length - (k:Int).toNat;omega
   clear nk hst hd1;go_wp2_with fail;refine aU HX.out ?_;rintro e w4 ⟨rfl,g4,n4,u4,t4,y4⟩;have hfin:Hid (Nd N B g4 (st.drop 5) TL w4∧Up B (Ft N g s) (Ft N g4 (st.drop 5)) w w4∧Hid (g4.x.T=g.x.T)∧Hid (g4.h=g.h∧g4.u=g.u)):=⟨n4,uk.trans u4,t4.out.trans tk.out,y4.out.1.trans yk.out.1,y4.out.2.trans yk.out.2⟩;have hn1:k+1<=q.txt.length:=hlt;clear n4 u4 t4 y4 HX uk;go_wp2;exact⟨⟨k+1,_,g4,hn1,by go_num,aaM,hfin.out⟩,Aq.out⟩
  ·obtain rfl:k=q.txt.length:=by omega
   have hq':q∈st.Q:=by rw[<-hst.out];exact hq
   have HE:=hide (yA nk q hq' Bq (by rw[yk.out.1];exact hB) (by omega));have hs3:Hid (({st with Q:=st.Q.filter λz=>!decide (z.dest=q.dest)}:St)=s2):=by
    show _=_;rw[<-hs2.out,<-hst.out];rfl
   rw[hs3.out]at HE;clear nk hq';go_wp2_with fail;refine aU HE.out ?_;rintro e w5 ⟨rfl,dR,⟨g5,n5,u5,t5,y5⟩,h6⟩;have hfin:Hid (∃dR,FR N B g s s2 dR (λz=>z=q.dest) w w5∧Fh q.id TL dR):=⟨dR,⟨g5,n5,uk.trans u5,t5.out.trans tk.out,λz hz=>(y5.out z hz).trans (by rw[yk.out.1])⟩,h6⟩;clear n5 u5 t5 y5 h6 HE uk;go_wp2;go_returns;exact⟨rfl,hfin.out⟩
variable{B:Nat}{q:Sr}{fn v:Value}{W:World}
def TmR(q:Sr)(s:St)(TL:List Hp.Tm)(s2:St)(dR:List Hp.Tm):Prop:=
 (∃q2:Sr,q2.dest=q.dest∧q2.id=s.tl+1∧s2.tl=s.tl+1∧s2.Q=St.dm s.Q q2∧dR=TL++ [kW q2])∨(s2.tl=s.tl∧s2.Q=(s.Q.filter λz=>!decide (z.dest=q.dest))∧Fh q.id TL dR)
theorem IL(s:St)(q:Sr):∃o,(s.ask q).Q=St.dm s.Q {q with due:=s.lD q,id:=s.tl+1,out:=o}∧(s.ask q).tl=s.tl+1:=by
 rw[Bb];unfold St.lD;cases s.holds with
 |some r=>exact⟨false,rfl,rfl⟩
 |none=>exact⟨true,rfl,rfl⟩
theorem Nr(s:St)(q q':Sr)(TL:List Hp.Tm)(h:q'.dest=q.dest):TmR q s TL (s.ask q') (TL++ [(s.lD q',s.tl+1,q'.dest)]):=by
 obtain⟨o,h1,h2⟩:=IL s q';exact .inl ⟨{q' with due:=s.lD q',id:=s.tl+1,out:=o},h,rfl,h2,h1,rfl⟩
theorem YM(s:St)(q':Sr)(X:List Sr)(hX:X=St.dm s.Q q'):({s with Q:=X}:St).ask q'=s.ask q'∧({s with Q:=X}:St).lD q'=s.lD q':=by
 refine⟨?_,rfl⟩;rw[Bb,Bb];have hh:({s with Q:=X}:St).holds=s.holds:=rfl;rw[hh,hX];cases s.holds with
 |some r=>
  dsimp only;unfold St.waits;have:=tQ s.Q (a:=q') (b:={q' with due:=s.now+1000,id:=s.tl+1,out:=false}) rfl;show({s.drop r with tl:=s.tl+1,Q:=St.dm (St.dm s.Q q') {q' with due:=s.now+1000,id:=s.tl+1,out:=false}}:St)={s.drop r with tl:=s.tl+1,Q:=St.dm s.Q {q' with due:=s.now+1000,id:=s.tl+1,out:=false}};rw[this]
 |none=>
  dsimp only;unfold St.waits;have:=tQ s.Q (a:=q') (b:={q' with due:=s.now+80 * (q'.ttl+2)* 2 ^ q'.ret,id:=s.tl+1,out:=true}) rfl;show({s.request q'.dest q'.ttl with tl:=s.tl+1,Q:=St.dm (St.dm s.Q q') {q' with due:=s.now+80 * (q'.ttl+2)* 2 ^ q'.ret,id:=s.tl+1,out:=true}}:St)={s.request q'.dest q'.ttl with tl:=s.tl+1,Q:=St.dm s.Q {q' with due:=s.now+80 * (q'.ttl+2)* 2 ^ q'.ret,id:=s.tl+1,out:=true}};rw[this]
theorem su.pq(h:su B q v fn W)(i:Int):su B {q with ttl:=i} v fn (W.setCell ⟨B,2,none⟩ (.int .i64 i)):=by
 unfold su at h ⊢;simp[World.setCell,Array.getElem?_modify,h]
theorem su.JA(h:su B q v fn W)(i:Nat):su B {q with ret:=i} v fn (W.setCell ⟨B,3,none⟩ (.int .i64 i)):=by
 unfold su at h ⊢;simp[World.setCell,Array.getElem?_modify,h]
theorem qD.frees(h:qD B q v W)(i:Nat):W.frozen? ⟨B,i,none⟩=false:=by
 obtain⟨fn,h1,_⟩:=h;exact h1.free i
theorem qD.pq(h:qD B q v W)(i:Int):qD B {q with ttl:=i} v (W.setCell ⟨B,2,none⟩ (.int .i64 i)):=by
 obtain⟨fn,h1,h2⟩:=h;exact⟨fn,h1.pq i,h2⟩
theorem qD.JA(h:qD B q v W)(i:Nat):qD B {q with ret:=i} v (W.setCell ⟨B,3,none⟩ (.int .i64 i)):=by
 obtain⟨fn,h1,h2⟩:=h;exact⟨fn,h1.JA i,h2⟩
def U3(N B:Nat)(g:bI)(s s2:St)(TL:List Hp.Tm)(q:Sr)(w w':World):Prop:=∃dR,FR N B g s s2 dR (λz=>z=q.dest) w w'∧TmR q s TL s2 dR
theorem YX{N:Nat}{g:bI}{s:St}{TL:List Hp.Tm}{w:World}(n:Nd N B g s TL w)(hR:s.Rdy)(hdl:s.aT.length<=800000)(q:Sr)(hq:q∈s.Q)(Bq:Nat)(hB:g.h q.dest=some Bq)(hl:TL.length<=900000)(htl:0<=s.tl∧s.tl<=4000000000000000000)(hid:∀x∈TL,x.2.1<=s.tl):
  Calls Tryz.prog 124 #[.pointer (some ⟨Bq,0,none⟩),.pointer (some ⟨N,0,none⟩),.pointer (some ⟨B,0,none⟩)] w λe w'=>e=.returned (.tuple #[])∧U3 N B g s (s.widen q) TL q w w':=by
 have hok:=n.nn.rs.sr.ok q hq;have hL:=n.j_ hq hB;obtain⟨k0,k1,k2,k3,k4⟩:=hL.cell;have f2:=hL.frees 2;have f3:=hL.frees 3;have Kq:∀(q':Sr) (W':World),q'.dest=q.dest->q'.Ok->q'.txt=q.txt->qD Bq q' (g.u q.dest) W'->Fx (λk=>k=Bq) w W'->Calls Tryz.prog 83 #[.pointer (some ⟨Bq,0,none⟩),.pointer (some ⟨N,0,none⟩),.pointer (some ⟨B,0,none⟩)] W' λe w'=>e=.returned (.tuple #[])∧U3 N B g s (s.ask q') TL q w w':=by
  intro q' W' hd ok' ht hL' hf;obtain⟨n1,u1⟩:=n.WJ hq hd ok' ht hB hL' hf;obtain⟨e1,e2⟩:=YM s q' _ rfl;refine(Vf n1 ⟨hR.me,hR.seq,hR.now,hR.mem,⟨hR.dom.mb,hR.dom.on,hR.dom.own⟩,hR.cnt,hR.bA,hR.aL,hR.tn,hR.BJ,hR.z_,hR.Aa⟩ (by dsimp only;omega) q' ((mV hq).1 hd.symm) Bq (by rw[hd];exact hB) hl htl hid).mono ?_;rintro e w9 ⟨rfl,g9,n9,u9,t9,y9⟩;rw[e1]at n9 u9;rw[e2]at n9;exact⟨rfl,_,⟨g9,n9,u1.trans u9,t9,λz _=>by rw[y9.out.1]⟩,Nr s q q' TL hd⟩
 have Ii:Calls Tryz.prog 158 #[.pointer (some ⟨Bq,0,none⟩),.pointer (some ⟨N,0,none⟩),.pointer (some ⟨B,0,none⟩)] w λe w'=>e=.returned (.tuple #[])∧U3 N B g s (({s with aT:=s.aT++List.replicate q.txt.length 5}:St).Yu q.dest) TL q w w':=by
  refine(Vd n (by omega) q hq Bq hB hl).mono ?_;rintro e w9 ⟨rfl,dR,h1,h2⟩;exact⟨rfl,dR,h1,.inr ⟨rfl,rfl,h2⟩⟩
 obtain⟨s2,hs2⟩:∃z,s.widen q=z:=⟨_,rfl⟩;rw[hs2];unfold St.widen at hs2;by_cases h5:q.ttl+2<=5
 ·rw[aQ h5]at hs2;have d5:decide (q.ttl+2<=5)=true:=gm h5;have HX:=hide (Kq {q with ttl:=q.ttl+2} _ rfl ⟨hok.dest,by have:=hok.ttl;dsimp only;omega,hok.ret,hok.txt,hok.Jg,hok.id⟩ rfl (hL.pq _) (Fx.grown (ah (aC _ (some Bq)) 2 _) λk e=>by cases e;rfl));rw[hs2]at HX;have htt:=hok.ttl;replace hs2:=hide hs2;clear Kq Ii n hL hok;go_enter Tryz.func124,Tryz.ntmps124;go_wp2_with fail;refine aU HX.out ?_;rintro e w9 ⟨rfl,hN⟩;replace hN:=hide hN;clear HX;go_wp2;go_returns;exact⟨rfl,hN.out⟩
 ·rw[aM h5]at hs2;have d5:decide (q.ttl+2<=5)=false:=fA h5;by_cases h8:q.ttl<8
  ·rw[aQ h8]at hs2;have d8:decide (q.ttl<8)=true:=gm h8;have HX:=hide (Kq {q with ttl:=8} _ rfl ⟨hok.dest,by dsimp only;omega,hok.ret,hok.txt,hok.Jg,hok.id⟩ rfl (hL.pq _) (Fx.grown (ah (aC _ (some Bq)) 2 _) λk e=>by cases e;rfl));rw[hs2]at HX;have htt:=hok.ttl;replace hs2:=hide hs2;clear Kq Ii n hL hok;go_enter Tryz.func124,Tryz.ntmps124;go_wp2_with fail;refine aU HX.out ?_;rintro e w9 ⟨rfl,hN⟩;replace hN:=hide hN;clear HX;go_wp2;go_returns;exact⟨rfl,hN.out⟩
  ·rw[aM h8]at hs2;have d8:decide (q.ttl<8)=false:=fA h8;by_cases h2:q.ret<2
   ·rw[aQ h2]at hs2;have d2:decide (q.ret<2)=true:=gm h2;have d2':decide ((q.ret:Int)<2)=true:=gm (by omega);have HX:=hide (Kq {q with ret:=q.ret+1} _ rfl ⟨hok.dest,hok.ttl,by dsimp only;omega,hok.txt,hok.Jg,hok.id⟩ rfl (hL.JA _) (Fx.grown (ah (aC _ (some Bq)) 3 _) λk e=>by cases e;rfl));rw[hs2]at HX;rw[Int.natCast_add]at HX;have htt:=hok.ttl;replace hs2:=hide hs2;clear Kq Ii n hL hok;go_enter Tryz.func124,Tryz.ntmps124;go_wp2_with fail;refine aU HX.out ?_;rintro e w9 ⟨rfl,hN⟩;replace hN:=hide hN;clear HX;go_wp2;go_returns;exact⟨rfl,hN.out⟩
   ·rw[aM h2]at hs2;have d2:decide (q.ret<2)=false:=fA h2;have d2':decide ((q.ret:Int)<2)=false:=fA (by omega);have HX:=hide Ii;rw[hs2]at HX;have htt:=hok.ttl;replace hs2:=hide hs2;clear Kq Ii n hL hok;go_enter Tryz.func124,Tryz.ntmps124;go_wp2_with fail;refine aU HX.out ?_;rintro e w9 ⟨rfl,hN⟩;replace hN:=hide hN;clear HX;go_wp2;go_returns;exact⟨rfl,hN.out⟩
end Go.Proofs.YtakaadcpaeiccabGreat
namespace Go.Proofs.YtakaadcpaeiccabGreat.DS
open Go.RowKit Go.Maps
variable{cap e m:Nat}
theorem kZ{base g size:Nat}:∀(vs:List Value) (o:Nat) (xs:List Value) (W:World),W.ownsRow base e size (.slice (some ⟨g,0,none⟩) m cap) m xs->o+vs.length<=m * size->
  (W.setCells g o vs).ownsRow base e size (.slice (some ⟨g,0,none⟩) m cap) m (xs.take o++vs++xs.drop (o+vs.length))∧W.grownBy (W.setCells g o vs) (some g)
 | [],o,xs,W,h,_=>by
  simp only[World.setCells,iD,List.length_nil,Nat.add_zero,List.take_append_drop];exact⟨h,aC _ _⟩
 |v::r,o,xs,W,h,hl=>by
  simp only[dU]at hl;have hx:xs.length=m * size:=h.1;obtain⟨h1,g1⟩:=h.stored o v;obtain⟨h2,g2⟩:=kZ r (o+1) (xs.set o v) (W.setCell ⟨g,o,none⟩ v) h1 (by omega);refine⟨?_,⟨g2.os.trans g1.os,g2.tape.trans g1.tape,g2.output.trans g1.output,dH g1.size g2.size,λk hk hn=>(g2.block k (fZ hk g1.size) hn).trans (g1.block k hk hn)⟩⟩;have e1:(xs.set o v).take (o+1)=xs.take o++ [v]:=by
   rw[List.take_succ_eq_append_getElem (by simp;omega),List.take_set_of_le (aD o)];simp
  have e2:(xs.set o v).drop (o+1+r.length)=xs.drop (o+(r.length+1)):=by
   rw[List.drop_set_of_lt (by omega),show o+1+r.length=o+(r.length+1)by omega]
  rw[e1,e2]at h2;show((W.setCell ⟨g,o,none⟩ v).setCells g (o+1) r).ownsRow _ _ _ _ _ _;simpa using h2
theorem wI{base g n size:Nat}{W:World}{xs:List Value}(h:W.ownsRow base e size (.slice (some ⟨g,0,none⟩) n cap) n xs)(hm:m<=n):
  W.ownsRow base e size (.slice (some ⟨g,0,none⟩) m cap) m (xs.take (m * size)):=by
 rcases h.2 with⟨he,_⟩|⟨g',cap',cur,he,hb,hg,h1,h2,h3,h4⟩
 ·cases he
 ·cases he;have hx:=h.1;have hms:m * size<=n * size:=Nat.mul_le_mul_right _ hm;refine⟨by rw[List.length_take,hx];omega,.inr ⟨g,cap,cur,rfl,hb,hg,by omega,h2,h3,?_⟩⟩;rw[<-h4,List.take_take,Nat.min_eq_left hms]
theorem DV(a:Option Addr)(n c k:Nat)(hk:k<=c)(W:World):(Instr.slice 80 (.slice a n c) none (some (.int .i64 k)) none).run Tryz.prog W=.ok (.slice a k c) W:=by
 have ht:Tryz.prog.underlying 80=some (.slice (Tryz.prog.elem 80)):=by simp[Program.elem,Tryz.underlying80]
 have hz:∀w,(Go.sizeOf (Tryz.prog.elem 80)).run Tryz.prog w=.ok 1 w:=by
  intro w;simp[go_sem,Program.elem,Tryz.underlying80]
 rw[run_slice_h W 80 _ _ _ ht .i64 _ (by omega) (by omega),hz];simp only[Result.andThen,sliced];rw[Nat.sub_zero,Nat.sub_zero,iU];cases a<;>(split<;>simp[Addr.add])
theorem DU(g n c k:Nat)(hk:k<=n):∃ad:Addr,(∀W,(Instr.slice 80 (.slice (some ⟨g,0,none⟩) n c) (some (.int .i64 k)) none none).run Tryz.prog W=.ok (.slice (some ad) (n - k) (c - k)) W)∧(k<c->ad=⟨g,k * 1,none⟩):=by
 have ht:Tryz.prog.underlying 80=some (.slice (Tryz.prog.elem 80)):=by simp[Program.elem,Tryz.underlying80]
 have hz:∀w,(Go.sizeOf (Tryz.prog.elem 80)).run Tryz.prog w=.ok 1 w:=by
  intro w;simp[go_sem,Program.elem,Tryz.underlying80]
 refine⟨if c=k then⟨g,0,none⟩else⟨g,k * 1,none⟩,λW=> ?_,λh=>by rw[aM (by omega)]⟩;rw[run_slice_l W 80 _ _ _ ht .i64 _ (by omega) (by omega),hz];simp only[Result.andThen,sliced];rw[iU];split<;>simp[Addr.add_lit]
theorem zJ(g n c k m:Nat)(hk:k<m)(hm:m<=c)(W:World):(Instr.slice 80 (.slice (some ⟨g,0,none⟩) n c) (some (.int .i64 k)) (some (.int .i64 m)) none).run Tryz.prog W=.ok (.slice (some ⟨g,k * 1,none⟩) (m - k) (c - k)) W:=by
 have ht:Tryz.prog.underlying 80=some (.slice (Tryz.prog.elem 80)):=by simp[Program.elem,Tryz.underlying80]
 have hz:∀w,(Go.sizeOf (Tryz.prog.elem 80)).run Tryz.prog w=.ok 1 w:=by
  intro w;simp[go_sem,Program.elem,Tryz.underlying80]
 rw[run_slice_lh W 80 _ _ _ ht .i64 .i64 _ _ (by omega) (by omega) (by omega),hz];simp only[Result.andThen,sliced];rw[iU,iU,aM (by omega)];simp[Addr.add_lit]
theorem wD(a:Option Addr)(n c k m l:Nat)(hk:k<=m)(hm:m<=l)(hl:l<=c):∃v,∀W,(Instr.slice 80 (.slice a n c) (some (.int .i64 k)) (some (.int .i64 m)) (some (.int .i64 l))).run Tryz.prog W=.ok v W:=by
 have ht:Tryz.prog.underlying 80=some (.slice (Tryz.prog.elem 80)):=by simp[Program.elem,Tryz.underlying80]
 have hz:∀w,(Go.sizeOf (Tryz.prog.elem 80)).run Tryz.prog w=.ok 1 w:=by
  intro w;simp[go_sem,Program.elem,Tryz.underlying80]
 refine⟨sliced a k m l 1,λW=> ?_⟩;rw[run_slice_lhm W 80 _ _ _ ht .i64 .i64 .i64 _ _ _ (by omega) (by omega) (by omega) (by omega),hz];simp only[Result.andThen,iU]
theorem tY(w:World)(ty:TypeId)(b o c:Nat)(hc:∀j,j<1->(w.cell? ⟨b,o+j,none⟩).isSome=true)(hf:∀j,j<1->w.frozen? ⟨b,o+j,none⟩=false):
  (Builtin.clear_ #[80] ty #[.slice (some ⟨b,o,none⟩) 1 c]).run Tryz.prog w=.ok (.tuple #[]) (w.setCells b o ([.string ⟨#[]⟩]:List Value)):=by
 have hzc:(Builtin.zeroCells (.string ⟨#[]⟩:Value).cells 1).toList=([.string ⟨#[]⟩]:List Value):=by kernel_rfl
 have hst:=run_storeCells_cells (P:=Tryz.prog) b o ([.string ⟨#[]⟩]:List Value) 0 w (λj hj=>by rw[Nat.add_zero];exact hc j hj) (λj hj=>by rw[Nat.add_zero];exact hf j hj) (by intro v hv;simp at hv;rcases hv with rfl<;>rfl);simp only[Nat.add_zero]at hst;simp[Builtin.clear_,run_underlying Tryz.underlying80,hzc,hst]
theorem J8:(Tryz.prog.info? 9).map (λi=>(i.zero,i.size,i.bytes))=some (some (.string ⟨#[]⟩),1,16):=by kernel_rfl
theorem uG(base g n cap i:Nat)(xs:List Value)(w:World)(h:w.ownsRow base 9 1 (.slice (some ⟨g,0,none⟩) n cap) n xs)(hi:i<n)(hn:n<=1000000)(h1c:∀u∈xs,u.oneCell'=true):
  Calls Tryz.prog 118 #[.slice (some ⟨g,0,none⟩) n cap,.int .i64 i,.int .i64 ((i:Int)+1)] w λe w'=>e=.returned (.slice (some ⟨g,0,none⟩) (n - 1) cap)∧w'.ownsRow base 9 1 (.slice (some ⟨g,0,none⟩) (n - 1) cap) (n - 1) (xs.take (i)++xs.drop (i+1))∧w.grownBy w' (some g):=by
 obtain⟨i0,hii,hz0,hz1,hz2⟩:=info_parts J8;have hcap:n<=cap:=by
  rcases h.2 with⟨he,_⟩|⟨g',cap',cur,he,hb,hg,h1,h2,h3,h4⟩
  ·cases he
  ·cases he;exact h1
 have hx:=h.1;obtain⟨v13,aaR⟩:=wD (some ⟨g,0,none⟩) n cap i (i+1) n (by omega) (by omega) hcap;have aeY:=DV (some ⟨g,0,none⟩) n cap i (by omega);obtain⟨ad,aaQ,had⟩:=DU g n cap (i+1) (by omega);have hd:w.drew.ownsRow base 9 1 (.slice (some ⟨g,0,none⟩) n cap) n xs:=h;have hnl:(xs.drop ((i+1)* 1)).length=(n - (i+1))* 1:=by
  rw[List.length_drop,hx,Nat.sub_mul]
 have hcell:∀ {W:World} {ys:List Value},W.ownsRow base 9 1 (.slice (some ⟨g,0,none⟩) n cap) n ys->∀j,j<n * 1->(W.cell? ⟨g,j,none⟩).isSome=true:=λhW j hj=>by
  rw[hW.cellAt j hj,cZ (by rw[hW.1];exact hj)];rfl
 have hjl:∀j,j<(n - (i+1))* 1->(i+1)* 1+j<n * 1∧i * 1+j<n * 1:=λj hj=>by
  rw[Nat.sub_mul]at hj;have:(i+1)* 1<=n * 1:=Nat.mul_le_mul_right _ (by omega);rw[Nat.add_mul]at hj this ⊢;try omega
 have hcA:Hid (∀j u,(xs.drop ((i+1)* 1))[j]?=some u->w.drew.cell? (ad.add j)=some u):=λj u hj=>by
  have hl:=(eB.1 hj).1;rw[hnl]at hl;rw[had (by omega),Addr.add_lit];rw[List.getElem?_drop]at hj;exact(hd.cellAt _ (hjl j hl).1).trans hj
 have aaO:Hid (∀j,j<(xs.drop ((i+1)* 1)).length->(w.drew.cell? ⟨g,0+i * 1+j,none⟩).isSome=true∧w.drew.frozen? ⟨g,0+i * 1+j,none⟩=false):=λj hj=>by
  rw[hnl]at hj;rw[Nat.zero_add];exact⟨hcell hd _ (hjl j hj).2,hd.frozenAt _⟩
 have hE1:Hid (i+(n - (i+1))=n - 1):=by show _=_;omega
 have hE2:Hid (0+i * 1=i * 1):=Nat.zero_add _;have aa0:=(show Hid _ from hnl);have abD:Hid (∀u∈xs.drop ((i+1)* 1),u.oneCell'=true):=λu hu=>h1c u (List.mem_of_mem_drop hu);obtain⟨h1,g1⟩:=kZ (xs.drop ((i+1)* 1)) (i * 1) xs _ hd (by
  rw[hnl,<-Nat.add_mul];exact Nat.mul_le_mul_right _ (by omega))
 have Tq:=zJ g (n - 1) cap (n - 1) n (by omega) hcap;rw[show n - (n - 1)=1 by omega]at Tq;have hlast:(n - 1)* 1+1=n * 1:=by
  rw[<-Nat.succ_mul,show(n - 1).succ=n by omega]
 have hcl:∀ty,(Builtin.clear_ #[80] ty #[.slice (some ⟨g,(n - 1)* 1,none⟩) 1 (cap - (n - 1))]).run Tryz.prog (w.drew.setCells g (i * 1) (xs.drop ((i+1)* 1)))=.ok (.tuple #[]) ((w.drew.setCells g (i * 1) (xs.drop ((i+1)* 1))).setCells g ((n - 1)* 1) ([.string ⟨#[]⟩]:List Value)):=λty=>
  tY _ ty g _ _ (λj hj=>hcell h1 _ (by omega)) (λj hj=>h1.frozenAt _)
 obtain⟨h2,g2⟩:=kZ ([.string ⟨#[]⟩]:List Value) ((n - 1)* 1) _ _ h1 (by simp only[dU,List.length_nil];omega);have h3:=wI h2 (m:=n - 1) (by omega);have hgg:w.grownBy ((w.drew.setCells g (i * 1) (xs.drop ((i+1)* 1))).setCells g ((n - 1)* 1) ([.string ⟨#[]⟩]:List Value)) (some g):=⟨g2.os.trans g1.os,g2.tape.trans g1.tape,g2.output.trans g1.output,dH g1.size g2.size,λk hk hn=>(g2.block k (fZ hk g1.size) hn).trans (g1.block k hk hn)⟩;have jU:((xs.take (i * 1)++xs.drop ((i+1)* 1)++xs.drop (i * 1+(xs.drop ((i+1)* 1)).length)).take ((n - 1)* 1)++([.string ⟨#[]⟩]:List Value)++(xs.take (i * 1)++xs.drop ((i+1)* 1)++xs.drop (i * 1+(xs.drop ((i+1)* 1)).length)).drop ((n - 1)* 1+([.string ⟨#[]⟩]:List Value).length)).take ((n - 1)* 1)=xs.take (i * 1)++xs.drop ((i+1)* 1):=by
  have hl:(xs.take (i * 1)++xs.drop ((i+1)* 1)).length=(n - 1)* 1:=by
   have:i * 1<=n * 1:=Nat.mul_le_mul_right _ (by omega);rw[dw,hnl,List.length_take,hx,Nat.min_eq_left this,<-Nat.add_mul]
   congr 1
   all_goals omega
  rw[List.take_left' hl,List.append_assoc,List.take_left' hl]
 rw[jU]at h3;clear h1 g1 h2 g2 hcell hd h hnl hlast hx had h1c hjl;have hfin:=(show Hid _ from And.intro h3 hgg);clear h3 hgg jU;have hne:((i:Int)==(i:Int)+1)=false:=by
  have:¬((i:Int)=(i:Int)+1):=by omega
  simpa using this
 rw[show((i+1:Nat):Int)=(i:Int)+1 from rfl]at aaR aaQ;try simp only[Nat.mul_one]at hcl Tq hfin
 go_enter Tryz.func118,Tryz.ntmps118;go_wp2_with fail;go_region_law (refine step_append_room rfl (.tmp 22) (.tmp 25) 80 rfl 9 i0 1 Tryz.underlying80 hii hz1 g 0 i cap rfl ad (n - (i+1)) (cap - (i+1)) (xs.drop ((i+1)* 1)) rfl aa0.out hcA.out abD.out (by omega) aaO.out ?_;rw[hE1.out,hE2.out])
 all_goals
  generalize (w.drew.setCells g (i) (xs.drop (i+1)))=X at hcl hfin ⊢;go_wp2;go_returns;exact⟨rfl,hfin.out⟩
end Go.Proofs.YtakaadcpaeiccabGreat.DS
namespace Go.Proofs.YtakaadcpaeiccabGreat
open Go.RowKit
theorem XK:(Tryz.prog.info? 5).map (λi=>(i.zero,i.size,i.bytes))=some (some (.int .u8 0),1,1):=by kernel_rfl
theorem uR(s:ByteArray)(w:World)(hlim:s.size<=1000000):
  Calls Tryz.prog 152 #[.string s] w λe w'=>e=.returned (.string s)∧Below w.heap.size w w':=by
 by_cases h0:s.size=0
 ·have hs:s=⟨#[]⟩:=by
   apply ByteArray.ext;exact Array.eq_empty_of_size_eq_zero h0
  subst hs;go_enter Tryz.func152,Tryz.ntmps152;go_wp2;go_ret;exact⟨rfl,aV _ _⟩
 ·obtain⟨i0,hi,hz0,hz1,hz2⟩:=info_parts XK;have hinfo:(Tryz.prog.info? 5).map (·.size)=some 1:=by rw[hi];simp[hz1]
  have hco:Tryz.prog.cellsOf 5=1:=by simp[Program.cellsOf,hi,hz1]
  obtain⟨M,hM⟩:∃M,M=madeCells (Value.int .u8 0).cells (((s.size:Nat):Int).toNat * i0.size):=⟨_,rfl⟩;have hMs:M.size=s.size:=by rw[hM,size_madeCells,hz1];simp
  have hmk:∀W:World,(Instr.makeSlice 58 (.int .i64 (s.size:Int)) (.int .i64 (s.size:Int))).run Tryz.prog W=.ok (.slice (some ⟨W.heap.size,0,none⟩) s.size s.size) (W.alloc (.cells M 5)):=λW=>by
   have h:=run_make (P:=Tryz.prog) W 58 5 i0 (.int .u8 0) Tryz.underlying58 hi hz0 .i64 .i64 (s.size:Int) (s.size:Int) (by omega) (by omega) (by rw[hz2];omega) (by omega);rw[<-hM]at h;simpa using h
  clear hM;have hcp:=Lib.run_copy_row_string (P:=Tryz.prog) (w.alloc (.cells M 5)) 58 9 3 5 w.heap.size 0 s.size s.size s M 5 Tryz.underlying58 hinfo (bS w _) (aD _) (by omega);obtain⟨Y,hY⟩:∃Y,Y=(M.toList.take 0++Lib.byteCells s.data.toList++M.toList.drop (0+s.size)).toArray:=⟨_,rfl⟩;rw[<-hY]at hcp;have hYl:Y.toList=Lib.byteCells s.data.toList:=by
   rw[hY,List.toList_toArray,List.take_zero,List.nil_append,List.drop_of_length_le (by rw[Array.length_toList];omega),iD]
  have hYs:Y.size=s.size:=by rw[<-Array.length_toList,hYl,Lib.byteCells_length,<-Lib.size_eq]
  have hgY:((w.alloc (.cells M 5)).setRow w.heap.size Y).heap[w.heap.size]?=some (.cells Y 5 (0,0)):=setRow_heap _ _ M _ 5 (0,0) (bS w _);have hne:s.data.toList≠ []:=λe=>h0 (by rw[Lib.size_eq,e];rfl);have hUS:=Lib.run_unsafeString_row (P:=Tryz.prog) ((w.alloc (.cells M 5)).setRow w.heap.size Y) 274 3 9 5 Tryz.underlying274 hco w.heap.size Y.size (by unfold World.shape?;rw[hgY]) s.data.toList hne (by rw[<-Lib.size_eq];omega) (by rw[<-Lib.size_eq];omega)
   (λj x hx=>Lib.cells_of_row hgY Y.size j _ (by rw[ko (by rw[Array.length_toList];exact aD _),hYl];simp[Lib.byteCells,hx]))
  rw[<-Lib.size_eq]at hUS;clear hY;go_enter Tryz.func152,Tryz.ntmps152;go_wp2;go_ret;have hb1:Below w.heap.size w (w.alloc (.cells M 5)):=(aV _ w).alloc (aD _) _;have hb2:Below w.heap.size (w.alloc (.cells M 5)) ((w.alloc (.cells M 5)).setRow w.heap.size Y):=⟨rfl,rfl,rfl,by simp,λk hk=>setRow_other _ _ _ _ (by omega)⟩;exact⟨rfl,Lib.below_freeze (hb1.trans hb2) (p:=⟨w.heap.size,0,none⟩) (aD _) _⟩
theorem PK(s:ByteArray)(w:World)(hlim:s.size<=1000000):
  Calls Tryz.prog 119 #[.string s] w λe w'=>e=.returned (.string s)∧Below w.heap.size w w':=by
 go_enter Tryz.func119,Tryz.ntmps119;go_wp2_with fail;refine(uR s w hlim).mono ?_;rintro e w' ⟨rfl,hb⟩;go_wp2;go_ret;exact⟨rfl,hb⟩
end Go.Proofs.YtakaadcpaeiccabGreat
