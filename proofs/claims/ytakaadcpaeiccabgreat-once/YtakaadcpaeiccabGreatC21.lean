import Derived.Test.YtakaadcpaeiccabGreatC20
import Derived.Lib.SliceRun
import Derived.Lib.UnsafeStr
import Derived.Laws.MakeOwn
import Derived.Lib.Strings
import Derived.Lib.BufferWrite
set_option maxHeartbeats 8000000
set_option maxRecDepth 100000
namespace Go.Proofs.YtakaadcpaeiccabGreat
open Go.RowKit Go.Maps
variable{B N:Nat}{s:St}{w:World}
theorem LK{g:bI}{TL:List Hp.Tm}(n:Nd N B g s TL w)(q:Int×Int)(hq:wK q)(dL:Int)(h0:0<=dL)(hm:∀e∈s.mem,e.dL<=dL)(htn:s.tn<=4611686018427387904):
  Calls Tryz.prog 156 #[.pointer (some ⟨N,8,none⟩),jV q,.int .u64 dL] w λe w'=>e=.returned (.tuple #[])∧JE N B g s {s with mem:=dP s.mem q dL s.tn,tn:=s.tn+1} TL w w':=by
 have h:=n.nn.rs.sn;rw[<-n.nn.eq.tn]at h htn;refine(GU N g.x s.mem q hq dL h0 hm htn w n.nn.cr.nd h).mono ?_;rintro e w' ⟨rfl,h1,h2,h3⟩;rw[n.nn.eq.tn]at h1 h2;obtain⟨e1,e2,e3,e4,e5,e6,e7,e8,e9⟩:=n.nn.eq;have hr:=n.nn.rs;have hne:∀k,kg g.x g.h g.u g.Mt g.tv s k->k≠g.x.Ms->¬(k=N∨k=g.x.Ms):=λk hk h1 h2=>h2.elim (λe=>n.nn.apart hk (.inl e)) h1;have hnd:=n.nn.qY;simp only[List.nodup_cons,eD,List.not_mem_nil,or_false,not_or]at hnd;obtain⟨_,_,⟨d1,d2⟩,_⟩:=hnd;have Bu:∀ {k:Nat} {o:Obj},w.heap[k]?=some o->(∀es cl,o≠ .map es cl)->k≠g.x.Ms:=by
  rintro k o ho hn rfl;obtain⟨es,cl,hm⟩:=hr.sn.obj;rw[hm]at ho;exact hn _ _ (Option.some.inj ho).symm
 have hkeep:∀ {k:Nat},kg g.x g.h g.u g.Mt g.tv s k->k≠g.x.Ms->w'.heap[k]?=w.heap[k]?:=λhk h=>h3.block _ (hr.lt hk) (hne _ hk h);have hSr:∀k,JB g.x.qK g.h g.u s.Q k->k≠g.x.Ms:=by
  intro k hk;obtain⟨o,ho,⟨rfl,_⟩|⟨c,rfl⟩|⟨c,rfl⟩⟩:=hr.sr.kind hk
  ·exact Ne.symm d1
  ·exact Bu ho (λ_ _ h=>by cases h)
  ·exact Bu ho (λ_ _ h=>by cases h)
 obtain⟨p,q⟩:=n.rest (s':={s with mem:=dP s.mem q dL s.tn,tn:=s.tn+1}) (dW:=TL) h1 rfl rfl ⟨e1,e2,e3,e4,e5,rfl,e7,e8,e9⟩
  ⟨h2,hr.sr.kept λk hk=>hkeep (.inr (.inl hk)) (hSr k hk),hr.tm.at (hkeep (.inr (.inr (.inl rfl))) (Bu hr.tm.blk (λ_ _ h=>by cases h))) (hkeep (.inr (.inr (.inr (.inl rfl)))) (Ne.symm d2)) (λk hk=>hkeep (.inr (.inr (.inr (.inr (.inl hk))))) (by
   obtain⟨c,hc⟩:=aS hr.tm.row hk;exact Bu hc (λ_ _ h=>by cases h))),hr.hpo,hr.pm,bP hr.pc λk hk=>hkeep (.inr (.inr (.inr (.inr (.inr hk))))) (by
   obtain⟨c,hc⟩:=aS hr.pc hk;exact Bu hc (λ_ _ h=>by cases h))⟩
  (h3.mono λk h=>h.elim .inl λh=> .inr (.inl h)) (λk hk=> .inl hk) ⟨rfl,rfl,rfl⟩ ⟨rfl,rfl,rfl,rfl,rfl,rfl,rfl,rfl,rfl⟩
 exact⟨rfl,_,p,q,rfl,rfl,rfl⟩
theorem Vu{g:bI}{TL:List Hp.Tm}(n:Nd N B g s TL w)(hd:s.Dom)(hc:0<=s.cnt∧s.cnt<=1000000)(hw:s.bg.length<=90000):
  Calls Tryz.prog 71 #[.pointer (some ⟨N,0,none⟩),.pointer (some ⟨B,0,none⟩)] w λe w'=>e=.returned (.tuple #[])∧JE N B g s s.write TL w w':=by
 obtain⟨e1,e2,e3,e4,e5,e6,e7,e8,e9⟩:=n.nn.eq;refine(wM N B (B+1) g.x g.a g.M g.ff g.gg s.A s.f g.sz s.bg s.aI s.aR s.aQ w n.nn.cr n.ac n.base (by rw[e8];exact hc) n.nn.JS hw).mono ?_;rintro e w' ⟨v7,sz',rfl,h1,_,h3,h4⟩;have hn:bJ g.x.seq g.x.own s.f s.A=bJ s.seq s.own s.f s.A:=by rw[e2,e7]
 rw[hn]at h1 h3;have hz:sz'<=8:=h1.size_le (rY hd.on);obtain⟨p,q⟩:=n.core (s':=s.write) h1 h3 (h4.mono λk h=>by
  rcases h with rfl|rfl|h
  ·exact .inl (.inl rfl)
  ·exact .inl (.inr (.inl rfl))
  ·exact .inr h) (λk hk=>hk) ⟨rfl,rfl,rfl,rfl,rfl⟩ ⟨e1,e2,e3,e4,e5,e6,by dsimp only;rw[e2,e7];rfl,by dsimp only;rw[e8];rfl,e9⟩ ⟨rfl,rfl,rfl,rfl,rfl⟩ (by omega) n.now n.bn
 exact⟨rfl,_,p,q,rfl,rfl,rfl⟩
@[reducible] def Gl(N B T : Nat)(me seq lr now : Int)(W : World): Prop := W.cell? ⟨N, 2, none⟩ = some (.int .u32 me) ∧ W.cell? ⟨N, 3, none⟩ = some (.int .u32 seq) ∧ W.cell? ⟨N, 5, none⟩ = some (.int .u32 lr) ∧ W.cell? ⟨N, 7, none⟩ = some (.pointer (some ⟨T, 0, none⟩)) ∧ W.cell? ⟨B, 0, none⟩ = some (.int .u64 now)
theorem Gl.of{g:bI}{TL:List Hp.Tm}{W:World}(n:Nd N B g s TL W):Gl N B g.x.T s.me s.seq s.dm s.now W:=by
 have h:=n.nn.cr.nd.more.1;rw[n.nn.eq.dm]at h;exact⟨n.cell.1,n.cell.2.1,h,n.cell.2.2.2.1,n.cell.2.2.2.2⟩
theorem Xo{ttl i d q me sq:Int}{u:Bool}(ht:0<=ttl∧ttl<=255)(hi:a_ i)(hd:a_ d)(hq:a_ q)(hm:a_ me)(hs:a_ sq):(St.G8 ttl u i d q me sq).Wf:=by
 unfold a_ at hi hd hq hm hs;have hz:(⟨#[]⟩:ByteArray).size=0:=rfl;constructor<;>(dsimp only[St.G8];omega)
theorem SN{A:List Rt}(hA:∀y∈A,y.Ok)(d:Int):a_ (eT A d):=by
 unfold eT;cases hl:aK A d with
 |none=>simp[a_]
 |some y=>exact(hA y (List.mem_of_find?_eq_some hl)).seq
structure St.Rdy(s:St):Prop where
 me:a_ s.me
 seq:a_ s.seq
 now:0<=s.now∧s.now<=4611686018427387904
 mem:∀e∈s.mem,e.dL<=s.now+1280
 dom:s.Dom
 cnt:0<=s.cnt∧s.cnt<=900000
 bg:s.bg.length<=80000
 aI:s.aI.length<=900000
 tn:s.tn<=4000000000000000000
 Cv:s.pc.length<=5
 AR:s.pc.Pairwise (·<=·)
 AU:∀t∈s.pc,t<=s.now
theorem QM{g:bI}{TL:List Hp.Tm}(n:Nd N B g s TL w)(hR:s.Rdy)(d ttl:Int)(hd:a_ d)(ht:0<=ttl∧ttl<=255):
  Calls Tryz.prog 122 #[.pointer (some ⟨N,0,none⟩),.pointer (some ⟨B,0,none⟩),.int .u32 d,.int .i64 ttl] w λe w'=>e=.returned (.tuple #[])∧JE N B g s (s.request d ttl) TL w w':=by
 obtain⟨s9,rz⟩:∃z,s.request d ttl=z:=⟨_,rfl⟩;rw[rz];replace rz:=hide rz;obtain⟨c2,c3,c5,c7,c0⟩:=Gl.of n;have f3:=n.nn.cr.nd.free 3;have f5:=n.nn.cr.nd.free 5;have hg0:=uG hR.seq;obtain⟨q1,hq1⟩:∃z,gr s.seq=z:=⟨_,rfl⟩;rw[hq1]at hg0;have HG:=hide (oL s.seq w);rw[hq1]at HG;replace hq1:=hide hq1;have hl1:a_ ((s.dm+1)%4294967296):=by unfold a_;omega
 obtain⟨l1,hl⟩:∃z,(s.dm+1)%4294967296=z:=⟨_,rfl⟩;rw[hl]at hl1;have hg1:w.grownBy ((w.setCell ⟨N,3,none⟩ (.int .u32 q1)).setCell ⟨N,5,none⟩ (.int .u32 l1)) (some N):=ah (ah (aC _ (some N)) 3 _) 5 _;obtain⟨e1,e2,e3,e4,e5,e6,e7,e8,e9⟩:=n.nn.eq;obtain⟨n1,u1⟩:=n.cells (s':={s with seq:=q1,dm:=l1}) ((n.nn.cr.nd.RG q1).Xg l1) (Fx.grown hg1 λk e=>by cases e;rfl) ⟨e1,rfl,e3,rfl,e5,e6,e7,e8,e9⟩ ⟨rfl,rfl,rfl,rfl,rfl,rfl⟩ ⟨rfl,rfl,rfl,rfl,rfl,rfl,rfl,rfl,rfl⟩ ⟨rfl,rfl,rfl,rfl,rfl⟩;have v1:Hid (({g with x:={g.x with seq:=q1,dm:=l1}}:bI).x.T=g.x.T):=rfl;have y1:Hid (({g with x:={g.x with seq:=q1,dm:=l1}}:bI).h=g.h∧({g with x:={g.x with seq:=q1,dm:=l1}}:bI).u=g.u):=⟨rfl,rfl⟩;generalize ({g with x:={g.x with seq:=q1,dm:=l1}}:bI)=g1 at n1 u1 v1 y1;have hA:=n.nn.cr.tb.ok;obtain⟨s1,hs1⟩:∃z,({s with seq:=q1,dm:=l1}:St)=z:=⟨_,rfl⟩;rw[hs1]at n1 u1;have hd1:s1.Dom:=by rw[<-hs1];exact⟨hR.dom.mb,hR.dom.on,hR.dom.own⟩
 have hc1:0<=s1.cnt∧s1.cnt<=900000:=by rw[<-hs1];exact hR.cnt
 have hw1:s1.bg.length<=80000:=by rw[<-hs1];exact hR.bg
 have HW:=hide (Vu n1 hd1 (by omega) (by omega));obtain⟨s2,hs2⟩:∃z,s1.write=z:=⟨_,rfl⟩;rw[hs2]at HW;have h2:Hid (s2.me=s.me∧s2.seq=q1∧s2.dm=l1∧s2.now=s.now∧s2.pc=s.pc∧s2.mem=s.mem∧s2.tn=s.tn∧s2.aI=s.aI∧s2.A=s.A∧ {s2 with pc:=St.dJ s2.pc s2.now,mem:=dP s2.mem (s2.me,s2.dm) (s2.now+1280) s2.tn,tn:=s2.tn+1}.send 0 (St.G8 ttl (!(aK s2.A d).isSome) s2.dm d (eT s2.A d) s2.me s2.seq) []=s9):=by
  show _∧_;rw[<-hs2,<-hs1];refine⟨rfl,rfl,rfl,rfl,rfl,rfl,rfl,rfl,rfl,?_⟩;rw[<-rz.out,<-hl,<-hq1.out];rfl
 replace hl:=hide hl;have hmod:Hid (IntKind.u32.wrap (s.dm+1)=l1):=by
  show _=_;rw[<-hl.out];simp only[IntKind.wrap,IntKind.signed,IntKind.bits];simp
 clear hs1 hs2 e1 e2 e3 e4 e5 e6 e7 e8 e9 n hg1 hd1 hc1 hw1 n1;go_enter Tryz.func122,Tryz.ntmps122;go_wp2_with fail;refine aT HG.out ?_;rintro e w' ⟨rfl,rfl⟩;go_wp2_with fail;rw[hl.out];clear HG hmod hl hq1;refine aT HW.out ?_;rintro e w2 ⟨rfl,g2,n2,u2,t2,y2⟩;have JR:=u1.trans u2;have tt2:Hid (g2.x.T=g.x.T):=t2.out.trans v1.out;have yy2:Hid (g2.h=g.h∧g2.u=g.u):=⟨y2.out.1.trans y1.out.1,y2.out.2.trans y1.out.2⟩;obtain⟨a1,a2,a3,a4,a5,a6,a7,a8,a9,a10⟩:=h2.out;have ZL:Hid (0<=s2.now∧s2.now<=4611686018427387904):=by rw[a4];exact hR.now
 have HP:=hide (acz n2.drew (by rw[a5];exact hR.Cv) (by rw[a5];exact hR.AR) (by rw[a5,a4];exact hR.AU));have ZN:Hid (∀e∈s2.mem,e.dL<=s2.now+1280):=by rw[a6,a4];exact hR.mem
 have adi:Hid (s2.tn<=4000000000000000000):=by rw[a7];exact hR.tn
 have hU2:Hid (a_ s2.me∧a_ s2.seq∧a_ s2.dm):=by rw[a1,a2,a3];exact⟨hR.me,hg0,hl1⟩
 have hfr2:Hid (s2.aI.length<=900000):=by rw[a8];exact hR.aI
 have hA2:Hid (∀y∈s2.A,y.Ok):=by rw[a9];exact hA
 have NA:=hide a10;clear a1 a2 a3 a4 a5 a6 a7 a8 a9 a10 h2 HW u1 u2 t2 y2 v1 y1 hR c2 c3 c5 c7 c0 f3 f5 hg0 hl1 hA;have hS:Gl N B g2.x.T s2.me s2.seq s2.dm s2.now w2.drew:=Gl.of n2.drew;have ub2:=JR.trans (.below (aU _ _).drew:Up B (Ft N g2 s2) (Ft N g2 s2) w2 w2.drew);clear n2 JR;go_wp2_with fail;go_region_held3 (Gl N B g2.x.T s2.me s2.seq s2.dm s2.now) (first|with_reducible exact hS|with_reducible assumption) ((go_at_call 155;refine HP.out.mono ?_;rintro e w3 ⟨rfl,g3,n3,u3,t3,y3⟩;have hk3:Gl N B g2.x.T s2.me s2.seq s2.dm s2.now w3:=by have h:=Gl.of n3;rw[t3.out]at h;exact h))
 rename_i iV;clear iV hk3 hS HP;have ub3:=ub2.trans u3;have tt3:Hid (g3.x.T=g.x.T):=t3.out.trans tt2.out;have yy3:Hid (g3.h=g.h∧g3.u=g.u):=⟨y3.out.1.trans yy2.out.1,y3.out.2.trans yy2.out.2⟩;obtain⟨s3,hs3⟩:∃z,({s2 with pc:=St.dJ s2.pc s2.now}:St)=z:=⟨_,rfl⟩;have h3:Hid (s3.me=s2.me∧s3.seq=s2.seq∧s3.dm=s2.dm∧s3.now=s2.now∧s3.mem=s2.mem∧s3.tn=s2.tn∧s3.aI=s2.aI∧s3.A=s2.A∧ {s3 with mem:=dP s3.mem (s3.me,s3.dm) (s3.now+1280) s3.tn,tn:=s3.tn+1}.send 0 (St.G8 ttl (!(aK s3.A d).isSome) s3.dm d (eT s3.A d) s3.me s3.seq) []=s9):=by
  show _∧_;rw[<-hs3];exact⟨rfl,rfl,rfl,rfl,rfl,rfl,rfl,rfl,NA.out⟩
 rw[hs3]at n3 ub3;obtain⟨a1,a2,a3,a4,a5,a6,a7,a8,a9⟩:=h3.out;have yM:0<=s3.now∧s3.now<=4611686018427387904:=by rw[a4];exact ZL.out
 have HSn:Hid (∀t,t=s3.now+1280->Calls Tryz.prog 156 #[.pointer (some ⟨N,8,none⟩),jV (s3.me,s3.dm),.int .u64 t] w3.drew λe w'=>e=.returned (.tuple #[])∧JE N B g3 s3 {s3 with mem:=dP s3.mem (s3.me,s3.dm) (s3.now+1280) s3.tn,tn:=s3.tn+1} TL w3.drew w'):=by
  rintro _ rfl;exact LK n3.drew (s3.me,s3.dm) ⟨by rw[a1];exact hU2.out.1,by rw[a3];exact hU2.out.2.2⟩ (s3.now+1280) (by omega) (by rw[a5,a4];exact ZN.out) (by rw[a6];have:=adi.out;omega)
 dsimp only[jV]at HSn;have hU3:Hid (a_ s3.me∧a_ s3.seq∧a_ s3.dm):=by rw[a1,a2,a3];exact hU2.out
 have adM:Hid (s3.aI.length<=900000):=by rw[a7];exact hfr2.out
 have hA3:Hid (∀y∈s3.A,y.Ok):=by rw[a8];exact hA2.out
 have ZQ:=hide a9;clear a1 a2 a3 a4 a5 a6 a7 a8 a9 h3 hs3 u3 t3 y3 tt2 yy2 ZL ZN adi hU2 hfr2 hA2 NA ub2;have hS:Gl N B g3.x.T s3.me s3.seq s3.dm s3.now w3.drew:=Gl.of n3.drew;have uc3:=ub3.trans (.below (aU _ _).drew:Up B (Ft N g3 s3) (Ft N g3 s3) w3 w3.drew);clear n3 ub3;go_wp2_with fail;go_region_held3 (Gl N B g3.x.T s3.me s3.seq s3.dm s3.now) (first|with_reducible exact hS|with_reducible assumption) ((go_at_call 156;refine(HSn.out _ (by first|rfl|exact mK yM (by omega))).mono ?_;rintro e w4 ⟨rfl,g4,n4,u4,t4,y4⟩;have hk4:Gl N B g3.x.T s3.me s3.seq s3.dm s3.now w4:=by have h:=Gl.of n4;rw[t4.out]at h;exact h))
 rename_i iV;clear iV hk4 hS HSn;have uc4:=uc3.trans u4;have tt4:Hid (g4.x.T=g.x.T):=t4.out.trans tt3.out;have yy4:Hid (g4.h=g.h∧g4.u=g.u):=⟨y4.out.1.trans yy3.out.1,y4.out.2.trans yy3.out.2⟩;obtain⟨s4,hs4⟩:∃z,({s3 with mem:=dP s3.mem (s3.me,s3.dm) (s3.now+1280) s3.tn,tn:=s3.tn+1}:St)=z:=⟨_,rfl⟩;have h4:Hid (s4.me=s3.me∧s4.seq=s3.seq∧s4.dm=s3.dm∧s4.aI=s3.aI∧s4.A=s3.A∧s4.send 0 (St.G8 ttl (!(aK s4.A d).isSome) s4.dm d (eT s4.A d) s4.me s4.seq) []=s9):=by
  show _∧_;rw[<-hs4];exact⟨rfl,rfl,rfl,rfl,rfl,ZQ.out⟩
 rw[hs4]at n4 uc4;obtain⟨a1,a2,a3,a7,a8,a9⟩:=h4.out;have HN:=hide (aac n4 d hd);obtain⟨nq,hnq⟩:∃z,eT s4.A d=z:=⟨_,rfl⟩;obtain⟨nk,hnk⟩:∃z,(aK s4.A d).isSome=z:=⟨_,rfl⟩;rw[hnq,hnk]at HN a9;have ady:a_ nq:=by rw[<-hnq,a8];exact SN hA3.out d
 have HX:=hide (Og n4.drew 0 (St.G8 ttl (!nk) s4.dm d nq s4.me s4.seq) (Xo ht (by rw[a3];exact hU3.out.2.2) hd ady (by rw[a1];exact hU3.out.1) (by rw[a2];exact hU3.out.2.1)) [] ⟨rfl,λj hj=>by simp at hj⟩ (by rw[a7];have:=adM.out;omega));rw[a9]at HX;have h9:Hid (s9.me=s4.me∧s9.seq=s4.seq∧s9.dm=s4.dm∧s9.now=s4.now):=by
  show _∧_;rw[<-a9];exact⟨rfl,rfl,rfl,rfl⟩
 dsimp only[aD.val,St.G8]at HX;have c4:=Gl.of n4;obtain⟨c2,c3,c5,c7,c0⟩:=c4;have hS:Gl N B g4.x.T s4.me s4.seq s4.dm s4.now w4.drew:=Gl.of n4.drew;have ud4:=uc4.trans (.below (aU _ _).drew:Up B (Ft N g4 s4) (Ft N g4 s4) w4 w4.drew);clear a1 a2 a3 a7 a8 a9 h4 hs4 u4 t4 y4 tt3 yy3 hU3 adM hA3 ZQ uc3 uc4 hnq hnk n4 ady;go_wp2_with fail;refine aT HN.out ?_;rintro e w5 ⟨rfl,rfl⟩;clear HN;go_wp2_with fail;go_region_held3 (Gl N B g4.x.T s4.me s4.seq s4.dm s4.now) (first|with_reducible exact hS|with_reducible assumption) ((go_at_call 80;refine HX.out.mono ?_;rintro e w6 ⟨rfl,g6,n6,u6,t6,y6⟩;have hfin:Hid (JE N B g s s9 TL w' w6):=⟨g6,n6,ud4.trans u6,t6.out.trans tt4.out,y6.out.1.trans yy4.out.1,y6.out.2.trans yy4.out.2⟩;have ZP:Gl N B g4.x.T s4.me s4.seq s4.dm s4.now w6:=by have h:=Gl.of n6;rw[t6.out,h9.out.1,h9.out.2.1,h9.out.2.2.1,h9.out.2.2.2]at h;exact h))
 rename_i iV;clear iV ZP hS HX;go_wp2;go_returns;exact⟨rfl,hfin.out⟩
variable{B N:Nat}{s:St}{w:World}
def St.waits(s:St)(q:Sr)(t:Int)(o:Bool):St:={s with tl:=s.tl+1,Q:=St.bR s.Q {q with due:=t,id:=s.tl+1,out:=o}}
def St.lu(s:St)(q:Sr):Int:=match s.holds with|some _=>s.now+1000|none=>s.now+80 * (q.ttl+2)* 2 ^ q.ret
theorem BR(s:St)(q:Sr):s.ask q=match s.holds with|some r=>(s.drop r).waits q (s.now+1000) false|none=>(s.request q.dest q.ttl).waits q (s.now+80 * (q.ttl+2)* 2 ^ q.ret) true:=by
 unfold St.ask St.holds;by_cases h:St.full s.pc s.now=true
 ·rw[aM h,aM h];rfl
 ·rw[aH h,aH h];by_cases h2:s.now<s.cZ
  ·rw[aM h2,aM h2];rfl
  ·rw[aH h2,aH h2];rfl
def AkP(N B:Nat)(g:bI)(s s2:St)(_TL dW:List Hp.Tm)(w w':World):Prop:=
 ∃g',Nd N B g' s2 dW w'∧Up B (Ft N g s) (Ft N g' s2) w w'∧Hid (g'.x.T=g.x.T)∧Hid (g'.h=g.h∧g'.u=g.u)
theorem ab7{q:Sr}(ok:q.Ok)(fK:0<=s.now∧s.now<=4611686018427387904):0<=s.now+80 * (q.ttl+2)* 2 ^ q.ret∧s.now+80 * (q.ttl+2)* 2 ^ q.ret<18446744073709551616∧0<=80 * (q.ttl+2)* 2 ^ q.ret∧80 * (q.ttl+2)* 2 ^ q.ret<=8589934592:=by
 have h1:=ok.ttl;have h2:=ok.ret;have hr:q.ret=0∨q.ret=1∨q.ret=2:=by omega
 rcases hr with hr|hr|hr<;>rw[hr]<;>simp<;>omega
theorem Gd{g:bI}{TL:List Hp.Tm}(n:Nd N B g s TL w)(r:Int)(hd:s.aQ.length<=1000000):
  Calls Tryz.prog 92 #[.pointer (some ⟨B,0,none⟩),.int .i64 r] w λe w'=>e=.returned (.tuple #[])∧JE N B g s (s.drop r) TL w w':=by
 refine(Jo B (B+1) g.a s.bg s.aI s.aR s.aQ r w n.ac n.base hd).mono ?_;rintro e w' ⟨v7,rfl,h1,h2⟩;obtain⟨p,q⟩:=n.act (s':=s.drop r) h1 h2 (uf s r) n.now n.bn;exact⟨rfl,_,p,q,rfl,rfl,rfl⟩
theorem VD{g:bI}{TL:List Hp.Tm}(n:Nd N B g s TL w)(hR:s.Rdy)(hdl:s.aQ.length<=900000)(q:Sr)(hq:q∈s.Q)(Bq:Nat)(hB:g.h q.dest=some Bq)(hl:TL.length<=900000)(htl:0<=s.tl∧s.tl<=4000000000000000000)(hid:∀x∈TL,x.2.1<=s.tl):
  Calls Tryz.prog 83 #[.pointer (some ⟨Bq,0,none⟩),.pointer (some ⟨N,0,none⟩),.pointer (some ⟨B,0,none⟩)] w λe w'=>e=.returned (.tuple #[])∧AkP N B g s (s.ask q) TL (TL++ [(s.lu q,s.tl+1,q.dest)]) w w':=by
 have hmf:∀(fn:Fn) (first cap:Array Value) (w:World),(Instr.makeFunc fn first cap).run Tryz.prog w=.ok (.func fn first cap) w:=λ_ _ _ _=>rfl;have hok:=n.nn.rs.sr.ok q hq;have fK:=hR.now;have HH:=hide (JH n fK);obtain⟨s9,rz⟩:∃z,s.ask q=z:=⟨_,rfl⟩;obtain⟨du,Fy⟩:∃z,s.lu q=z:=⟨_,rfl⟩;rw[rz,Fy];rw[BR]at rz;unfold St.lu at Fy;obtain⟨ho,hho⟩:∃z,s.holds=z:=⟨_,rfl⟩;rw[hho]at rz Fy HH;replace rz:=hide rz;replace Fy:=hide Fy;obtain⟨_,_,_,_,c0⟩:=n.cell;go_enter Tryz.func83,Tryz.ntmps83;go_wp2_with fail;refine aT HH.out ?_;rintro e w1 ⟨rfl,rfl⟩;clear HH;cases ho with
 |some r=>
  replace rz:Hid ((s.drop r).waits q (s.now+1000) false=s9):=rz;replace Fy:Hid (s.now+1000=du):=Fy;have HX:=hide (Gd n r (by omega));obtain⟨s1,hs1⟩:∃z,s.drop r=z:=⟨_,rfl⟩;have h1:Hid (s1.now=s.now∧s1.Q=s.Q∧s1.tl=s.tl):=by
   show _∧_;rw[<-hs1];exact⟨rfl,rfl,rfl⟩
  rw[hs1]at HX rz;clear hho hR n hs1;simp only[Option.getD_some,Option.isSome_some];go_wp2_with fail;refine aT HX.out ?_;rintro e w2 ⟨rfl,g2,n2,u2,t2,y2⟩;have HW:Hid (∀t,t=s.now+1000->Calls Tryz.prog 121 #[.pointer (some ⟨Bq,0,none⟩),.pointer (some ⟨N,0,none⟩),.int .u64 t,.func (.func 83) #[.pointer (some ⟨Bq,0,none⟩)] #[]] w2 λe w'=>e=.returned (.tuple #[])∧AkP N B g s s9 TL (TL++ [(du,s.tl+1,q.dest)]) w1 w'):=by
   rintro _ rfl;refine(Vv n2 q (by rw[h1.out.2.1];exact hq) Bq (by rw[y2.out.1];exact hB) (s.now+1000) (by omega) false hl (by rw[h1.out.2.2];exact htl) (by rw[h1.out.2.2];exact hid)).mono ?_;rintro e w3 ⟨rfl,g3,n3,u3,t3,y3⟩;have e1:({s1 with tl:=s1.tl+1,Q:=St.bR s1.Q {q with due:=s.now+1000,id:=s1.tl+1,out:=false}}:St)=s9:=rz.out;rw[e1]at n3 u3;rw[h1.out.2.2,Fy.out]at n3;exact⟨rfl,g3,n3,u2.trans u3,t3.out.trans t2.out,y3.out.1.trans y2.out.1,y3.out.2.trans y2.out.2⟩
  have c0':=n2.cell.2.2.2.2;rw[h1.out.1]at c0';clear n2 u2 t2 y2 h1 rz Fy HX;go_wp2_with fail;refine aT (HW.out _ (by first|rfl|exact mK fK (by omega))) ?_;rintro e w3 ⟨rfl,hN⟩;replace hN:=hide hN;clear HW c0';go_wp2;go_returns;exact⟨rfl,hN.out⟩
 |none=>
  replace rz:Hid ((s.request q.dest q.ttl).waits q (s.now+80 * (q.ttl+2)* 2 ^ q.ret) true=s9):=rz;replace Fy:Hid (s.now+80 * (q.ttl+2)* 2 ^ q.ret=du):=Fy;obtain⟨B',hB1,hL1⟩:=n.nn.rs.sr.ln q hq;rw[hB]at hB1;cases hB1;obtain⟨k0,k1,k2,k3,k4⟩:=hL1.cell;have HX:=hide (QM n.drew hR q.dest q.ttl hok.dest (by have:=hok.ttl;omega));obtain⟨s1,hs1⟩:∃z,s.request q.dest q.ttl=z:=⟨_,rfl⟩;have h1:Hid (s1.now=s.now∧s1.Q=s.Q∧s1.tl=s.tl):=by
   show _∧_;rw[<-hs1];exact⟨rfl,rfl,rfl⟩
  rw[hs1]at HX rz;have hS:w1.drew.cell? ⟨Bq,0,none⟩=some (.int .u32 q.dest)∧w1.drew.cell? ⟨Bq,2,none⟩=some (.int .i64 q.ttl):=⟨k0,k2⟩;obtain⟨b1,b2,b3,b4⟩:=ab7 (s:=s) hok fK;clear hho hR n hs1 k0 k1 k2 k3 k4 hL1;simp only[Option.getD_none,Option.isSome_none];go_wp2_with fail;go_region_held3 (λW=>W.cell? ⟨Bq,0,none⟩=some (.int .u32 q.dest)∧W.cell? ⟨Bq,2,none⟩=some (.int .i64 q.ttl)) (first|with_reducible exact hS|with_reducible assumption) ((go_at_call 122;refine HX.out.mono ?_;rintro e w2 ⟨rfl,g2,n2,u2,t2,y2⟩;have hk2:w2.cell? ⟨Bq,0,none⟩=some (.int .u32 q.dest)∧w2.cell? ⟨Bq,2,none⟩=some (.int .i64 q.ttl):=by obtain⟨B',hB1,hL1⟩:=n2.nn.rs.sr.ln q (by rw[h1.out.2.1];exact hq);rw[y2.out.1,hB]at hB1;cases hB1;exact⟨hL1.cell.1,hL1.cell.2.2.1⟩))
  rename_i iV;clear iV hk2 hS HX;have hq2:q∈s1.Q:=by rw[h1.out.2.1];exact hq
  have hB2:g2.h q.dest=some Bq:=by rw[y2.out.1];exact hB
  have HPt:Hid (∀W5,Below w2.heap.size w2 W5->Calls Tryz.prog 123 #[.pointer (some ⟨Bq,0,none⟩)] W5 λe w'=>e=.returned (.int .u64 (80 * (q.ttl+2)* 2 ^ q.ret))∧Below w2.heap.size w2 w'):=by
   intro W5 h5;obtain⟨B',hB1,hL1⟩:=(n2.later h5).nn.rs.sr.ln q hq2;rw[hB2]at hB1;cases hB1;refine(EM Bq q _ W5 hL1 hok).mono ?_;rintro e w' ⟨rfl,hb⟩;exact⟨rfl,h5.trans (hb.mono h5.size)⟩
  have HW:Hid (∀W5,Below w2.heap.size w2 W5->∀t,t=s.now+80 * (q.ttl+2)* 2 ^ q.ret->Calls Tryz.prog 121 #[.pointer (some ⟨Bq,0,none⟩),.pointer (some ⟨N,0,none⟩),.int .u64 t,.func (.func 124) #[.pointer (some ⟨Bq,0,none⟩)] #[]] W5 λe w'=>e=.returned (.tuple #[])∧w'.cell? ⟨B,0,none⟩=some (.int .u64 s.now)∧AkP N B g s s9 TL (TL++ [(du,s.tl+1,q.dest)]) w1 w'):=by
   rintro W5 h5 _ rfl;refine(Vv (n2.later h5) q hq2 Bq hB2 (s.now+80 * (q.ttl+2)* 2 ^ q.ret) ⟨b1,b2⟩ true hl (by rw[h1.out.2.2];exact htl) (by rw[h1.out.2.2];exact hid)).mono ?_;rintro e w3 ⟨rfl,g3,n3,u3,t3,y3⟩;have e1:({s1 with tl:=s1.tl+1,Q:=St.bR s1.Q {q with due:=s.now+80 * (q.ttl+2)* 2 ^ q.ret,id:=s1.tl+1,out:=true}}:St)=s9:=rz.out;have e2:s9.now=s.now:=by rw[<-e1];exact h1.out.1
   rw[e1]at n3 u3;rw[h1.out.2.2,Fy.out]at n3;have c3:=n3.cell.2.2.2.2;rw[e2]at c3;exact⟨rfl,c3,g3,n3,(((Up.below (aU _ _).drew).trans u2).trans (.below h5)).trans u3,t3.out.trans t2.out,y3.out.1.trans y2.out.1,y3.out.2.trans y2.out.2⟩
  have hS:w2.drew.cell? ⟨B,0,none⟩=some (.int .u64 s.now):=by
   have:=n2.drew.cell.2.2.2.2;rw[h1.out.1]at this;exact this
  have HC:Hid (∀W5,Below w2.heap.size w2 W5->W5.cell? ⟨B,0,none⟩=some (.int .u64 s.now)):=by
   intro W5 h5;have:=(n2.later h5).cell.2.2.2.2;rw[h1.out.1]at this;exact this
  generalize hpt:80 * (q.ttl+2)* 2 ^ q.ret=pt at HPt HW b3 b4;replace hpt:=hide hpt;clear n2 u2 t2 y2 h1 rz Fy hq2 hB2 hok c0;go_wp2_with fail;go_region_held3 (λW=>W.cell? ⟨B,0,none⟩=some (.int .u64 s.now)) (first|with_reducible exact hS|with_reducible assumption) (first
   |(go_at_call 123;refine(HPt.out _ (by first|exact aU _ _|exact(aU _ _).drew|exact below_drewN (aU _ _) _)).mono ?_;rintro e w5 ⟨rfl,hb5⟩;have hk5:=HC.out w5 hb5)
   |(go_at_call 121;refine(HW.out _ (by first|exact hb5|exact hb5.drew|exact below_drewN hb5 _) _ (by first|rfl|exact mK fK (by omega))).mono ?_;rintro e w6 ⟨rfl,ZP,hN⟩;replace hN:=hide hN))
  all_goals
   go_wp2;go_returns;exact⟨rfl,hN.out⟩
variable{B N:Nat}{s:St}
theorem OU(L:List Int)(k:Nat):L++List.replicate k (5:Int)++ [5]=L++List.replicate (k+1) 5:=by
 rw[List.append_assoc,List.replicate_succ',]
theorem Nd.j6{g:bI}{TL:List Hp.Tm}{W:World}(n:Nd N B g s TL W){q:Sr}(hq:q∈s.Q){Bq:Nat}(hB:g.h q.dest=some Bq):qG Bq q (g.u q.dest) W:=by
 obtain⟨B',h1,h2⟩:=n.nn.rs.sr.ln q hq;rw[hB]at h1;cases h1;exact h2
theorem Vz{g:bI}{TL:List Hp.Tm}{w:World}(n:Nd N B g s TL w)(hdl:s.aQ.length<=900000)(q:Sr)(hq:q∈s.Q)(Bq:Nat)(hB:g.h q.dest=some Bq)(hl:TL.length<=900000):
  Calls Tryz.prog 158 #[.pointer (some ⟨Bq,0,none⟩),.pointer (some ⟨N,0,none⟩),.pointer (some ⟨B,0,none⟩)] w λe w'=>e=.returned (.tuple #[])∧∃dW,Gv N B g s (({s with aQ:=s.aQ++List.replicate q.txt.length 5}:St).YQ q.dest) dW (λz=>z=q.dest) w w'∧F6 q.id TL dW:=by
 have hok:=n.nn.rs.sr.ok q hq;have hrow:=n.nn.rs.sr.row q hq;obtain⟨ao,c,hv,_⟩:=ay hrow;obtain⟨k0,k1,k2,k3,k4⟩:=(n.j6 hq hB).cell;rw[hv]at k1;have hln:=hok.txt;obtain⟨s2,hs2⟩:∃z,({s with aQ:=s.aQ++List.replicate q.txt.length 5}:St).YQ q.dest=z:=⟨_,rfl⟩;rw[hs2];replace hs2:=hide hs2;have hb0:Hid (({s with aQ:=s.aQ++List.replicate 0 5}:St)=s):=by
  show _=_;simp
 have n0:=hide n;clear hrow hv n;go_enter Tryz.func158,Tryz.ntmps158;go_wp2_with fail;clear k0 k1 k2 k3 k4;go_loopw [11] (λi wr=>∃(k:Nat) (st:St) (g':bI),k<=q.txt.length∧i=.int .i64 k∧Hid (({s with aQ:=s.aQ++List.replicate k 5}:St)=st)∧Nd N B g' st TL wr∧Up B (Ft N g s) (Ft N g' st) w wr∧Hid (g'.x.T=g.x.T)∧Hid (g'.h=g.h∧g'.u=g.u)) (λi _=>q.txt.length - (intOf i).toNat)
 case atStart=>exact⟨0,s,g,b_ _,rfl,hb0,n0.out,Up.refl _ _ _,rfl,rfl,rfl⟩
 case round=>
  obtain⟨k,st,g',hk,rfl,hst,nk,uk,tk,yk⟩:=hrel;by_cases hlt:k<q.txt.length
  ·have hki:(k:Int)<(q.txt.length:Int):=by omega
   have hd1:st.aQ.length<=1000000:=by
    rw[<-hst.out];show(s.aQ++List.replicate k (5:Int)).length<=_;rw[dx,List.length_replicate];omega
   have HX:=hide (Gd nk 5 hd1);have aa6:Hid (({s with aQ:=s.aQ++List.replicate (k+1) 5}:St)=st.drop 5):=by
    show _=_;rw[<-hst.out];unfold St.drop;dsimp only;rw[OU]
   have Bj:Hid (q.txt.length - (intOf (.int .i64 ((k:Int)+1))).toNat<q.txt.length - (intOf (.int .i64 (k:Int))).toNat):=by
    show q.txt.length - ((k:Int)+1).toNat<q.txt.length - (k:Int).toNat;omega
   clear nk hst hd1;go_wp2_with fail;refine aT HX.out ?_;rintro e w4 ⟨rfl,g4,n4,u4,t4,y4⟩;have hfin:Hid (Nd N B g4 (st.drop 5) TL w4∧Up B (Ft N g s) (Ft N g4 (st.drop 5)) w w4∧Hid (g4.x.T=g.x.T)∧Hid (g4.h=g.h∧g4.u=g.u)):=⟨n4,uk.trans u4,t4.out.trans tk.out,y4.out.1.trans yk.out.1,y4.out.2.trans yk.out.2⟩;have hn1:k+1<=q.txt.length:=hlt;clear n4 u4 t4 y4 HX uk;go_wp2;exact⟨⟨k+1,_,g4,hn1,by go_num,aa6,hfin.out⟩,Bj.out⟩
  ·obtain rfl:k=q.txt.length:=by omega
   have hq':q∈st.Q:=by rw[<-hst.out];exact hq
   have HE:=hide (zh nk q hq' Bq (by rw[yk.out.1];exact hB) (by omega));have hs3:Hid (({st with Q:=st.Q.filter λz=>!decide (z.dest=q.dest)}:St)=s2):=by
    show _=_;rw[<-hs2.out,<-hst.out];rfl
   rw[hs3.out]at HE;clear nk hq';go_wp2_with fail;refine aT HE.out ?_;rintro e w5 ⟨rfl,dW,⟨g5,n5,u5,t5,y5⟩,h6⟩;have hfin:Hid (∃dW,Gv N B g s s2 dW (λz=>z=q.dest) w w5∧F6 q.id TL dW):=⟨dW,⟨g5,n5,uk.trans u5,t5.out.trans tk.out,λz hz=>(y5.out z hz).trans (by rw[yk.out.1])⟩,h6⟩;clear n5 u5 t5 y5 h6 HE uk;go_wp2;go_returns;exact⟨rfl,hfin.out⟩
variable{B:Nat}{q:Sr}{fn v:Value}{W:World}
def TmR(q:Sr)(s:St)(TL:List Hp.Tm)(s2:St)(dW:List Hp.Tm):Prop:=
 (∃q2:Sr,q2.dest=q.dest∧q2.id=s.tl+1∧s2.tl=s.tl+1∧s2.Q=St.bR s.Q q2∧dW=TL++ [kT q2])∨(s2.tl=s.tl∧s2.Q=(s.Q.filter λz=>!decide (z.dest=q.dest))∧F6 q.id TL dW)
theorem Ef(s:St)(q:Sr):∃o,(s.ask q).Q=St.bR s.Q {q with due:=s.lu q,id:=s.tl+1,out:=o}∧(s.ask q).tl=s.tl+1:=by
 rw[BR];unfold St.lu;cases s.holds with
 |some r=>exact⟨false,rfl,rfl⟩
 |none=>exact⟨true,rfl,rfl⟩
theorem NZ(s:St)(q q':Sr)(TL:List Hp.Tm)(h:q'.dest=q.dest):TmR q s TL (s.ask q') (TL++ [(s.lu q',s.tl+1,q'.dest)]):=by
 obtain⟨o,h1,h2⟩:=Ef s q';exact .inl ⟨{q' with due:=s.lu q',id:=s.tl+1,out:=o},h,rfl,h2,h1,rfl⟩
theorem Za(s:St)(q':Sr)(X:List Sr)(hX:X=St.bR s.Q q'):({s with Q:=X}:St).ask q'=s.ask q'∧({s with Q:=X}:St).lu q'=s.lu q':=by
 refine⟨?_,rfl⟩;rw[BR,BR];have hh:({s with Q:=X}:St).holds=s.holds:=rfl;rw[hh,hX];cases s.holds with
 |some r=>
  dsimp only;unfold St.waits;have:=tY s.Q (a:=q') (b:={q' with due:=s.now+1000,id:=s.tl+1,out:=false}) rfl;show({s.drop r with tl:=s.tl+1,Q:=St.bR (St.bR s.Q q') {q' with due:=s.now+1000,id:=s.tl+1,out:=false}}:St)={s.drop r with tl:=s.tl+1,Q:=St.bR s.Q {q' with due:=s.now+1000,id:=s.tl+1,out:=false}};rw[this]
 |none=>
  dsimp only;unfold St.waits;have:=tY s.Q (a:=q') (b:={q' with due:=s.now+80 * (q'.ttl+2)* 2 ^ q'.ret,id:=s.tl+1,out:=true}) rfl;show({s.request q'.dest q'.ttl with tl:=s.tl+1,Q:=St.bR (St.bR s.Q q') {q' with due:=s.now+80 * (q'.ttl+2)* 2 ^ q'.ret,id:=s.tl+1,out:=true}}:St)={s.request q'.dest q'.ttl with tl:=s.tl+1,Q:=St.bR s.Q {q' with due:=s.now+80 * (q'.ttl+2)* 2 ^ q'.ret,id:=s.tl+1,out:=true}};rw[this]
theorem sK.o_(h:sK B q v fn W)(i:Int):sK B {q with ttl:=i} v fn (W.setCell ⟨B,2,none⟩ (.int .i64 i)):=by
 unfold sK at h ⊢;simp[World.setCell,Array.getElem?_modify,h]
theorem sK.Kh(h:sK B q v fn W)(i:Nat):sK B {q with ret:=i} v fn (W.setCell ⟨B,3,none⟩ (.int .i64 i)):=by
 unfold sK at h ⊢;simp[World.setCell,Array.getElem?_modify,h]
theorem qG.frees(h:qG B q v W)(i:Nat):W.frozen? ⟨B,i,none⟩=false:=by
 obtain⟨fn,h1,_⟩:=h;exact h1.free i
theorem qG.o_(h:qG B q v W)(i:Int):qG B {q with ttl:=i} v (W.setCell ⟨B,2,none⟩ (.int .i64 i)):=by
 obtain⟨fn,h1,h2⟩:=h;exact⟨fn,h1.o_ i,h2⟩
theorem qG.Kh(h:qG B q v W)(i:Nat):qG B {q with ret:=i} v (W.setCell ⟨B,3,none⟩ (.int .i64 i)):=by
 obtain⟨fn,h1,h2⟩:=h;exact⟨fn,h1.Kh i,h2⟩
def Vp(N B:Nat)(g:bI)(s s2:St)(TL:List Hp.Tm)(q:Sr)(w w':World):Prop:=∃dW,Gv N B g s s2 dW (λz=>z=q.dest) w w'∧TmR q s TL s2 dW
theorem Zl{N:Nat}{g:bI}{s:St}{TL:List Hp.Tm}{w:World}(n:Nd N B g s TL w)(hR:s.Rdy)(hdl:s.aQ.length<=800000)(q:Sr)(hq:q∈s.Q)(Bq:Nat)(hB:g.h q.dest=some Bq)(hl:TL.length<=900000)(htl:0<=s.tl∧s.tl<=4000000000000000000)(hid:∀x∈TL,x.2.1<=s.tl):
  Calls Tryz.prog 124 #[.pointer (some ⟨Bq,0,none⟩),.pointer (some ⟨N,0,none⟩),.pointer (some ⟨B,0,none⟩)] w λe w'=>e=.returned (.tuple #[])∧Vp N B g s (s.widen q) TL q w w':=by
 have hok:=n.nn.rs.sr.ok q hq;have hL:=n.j6 hq hB;obtain⟨k0,k1,k2,k3,k4⟩:=hL.cell;have f2:=hL.frees 2;have f3:=hL.frees 3;have K5:∀(q':Sr) (W':World),q'.dest=q.dest->q'.Ok->q'.txt=q.txt->qG Bq q' (g.u q.dest) W'->Fx (λk=>k=Bq) w W'->Calls Tryz.prog 83 #[.pointer (some ⟨Bq,0,none⟩),.pointer (some ⟨N,0,none⟩),.pointer (some ⟨B,0,none⟩)] W' λe w'=>e=.returned (.tuple #[])∧Vp N B g s (s.ask q') TL q w w':=by
  intro q' W' hd ok' ht hL' hf;obtain⟨n1,u1⟩:=n.Xe hq hd ok' ht hB hL' hf;obtain⟨e1,e2⟩:=Za s q' _ rfl;refine(VD n1 ⟨hR.me,hR.seq,hR.now,hR.mem,⟨hR.dom.mb,hR.dom.on,hR.dom.own⟩,hR.cnt,hR.bg,hR.aI,hR.tn,hR.Cv,hR.AR,hR.AU⟩ (by dsimp only;omega) q' ((mP hq).1 hd.symm) Bq (by rw[hd];exact hB) hl htl hid).mono ?_;rintro e w9 ⟨rfl,g9,n9,u9,t9,y9⟩;rw[e1]at n9 u9;rw[e2]at n9;exact⟨rfl,_,⟨g9,n9,u1.trans u9,t9,λz _=>by rw[y9.out.1]⟩,NZ s q q' TL hd⟩
 have I_:Calls Tryz.prog 158 #[.pointer (some ⟨Bq,0,none⟩),.pointer (some ⟨N,0,none⟩),.pointer (some ⟨B,0,none⟩)] w λe w'=>e=.returned (.tuple #[])∧Vp N B g s (({s with aQ:=s.aQ++List.replicate q.txt.length 5}:St).YQ q.dest) TL q w w':=by
  refine(Vz n (by omega) q hq Bq hB hl).mono ?_;rintro e w9 ⟨rfl,dW,h1,h2⟩;exact⟨rfl,dW,h1,.inr ⟨rfl,rfl,h2⟩⟩
 obtain⟨s2,hs2⟩:∃z,s.widen q=z:=⟨_,rfl⟩;rw[hs2];unfold St.widen at hs2;by_cases h5:q.ttl+2<=5
 ·rw[aM h5]at hs2;have d5:decide (q.ttl+2<=5)=true:=gu h5;have HX:=hide (K5 {q with ttl:=q.ttl+2} _ rfl ⟨hok.dest,by have:=hok.ttl;dsimp only;omega,hok.ret,hok.txt,hok.JS,hok.id⟩ rfl (hL.o_ _) (Fx.grown (ah (aC _ (some Bq)) 2 _) λk e=>by cases e;rfl));rw[hs2]at HX;have htt:=hok.ttl;replace hs2:=hide hs2;clear K5 I_ n hL hok;go_enter Tryz.func124,Tryz.ntmps124;go_wp2_with fail;refine aT HX.out ?_;rintro e w9 ⟨rfl,hN⟩;replace hN:=hide hN;clear HX;go_wp2;go_returns;exact⟨rfl,hN.out⟩
 ·rw[aH h5]at hs2;have d5:decide (q.ttl+2<=5)=false:=fD h5;by_cases h8:q.ttl<8
  ·rw[aM h8]at hs2;have d8:decide (q.ttl<8)=true:=gu h8;have HX:=hide (K5 {q with ttl:=8} _ rfl ⟨hok.dest,by dsimp only;omega,hok.ret,hok.txt,hok.JS,hok.id⟩ rfl (hL.o_ _) (Fx.grown (ah (aC _ (some Bq)) 2 _) λk e=>by cases e;rfl));rw[hs2]at HX;have htt:=hok.ttl;replace hs2:=hide hs2;clear K5 I_ n hL hok;go_enter Tryz.func124,Tryz.ntmps124;go_wp2_with fail;refine aT HX.out ?_;rintro e w9 ⟨rfl,hN⟩;replace hN:=hide hN;clear HX;go_wp2;go_returns;exact⟨rfl,hN.out⟩
  ·rw[aH h8]at hs2;have d8:decide (q.ttl<8)=false:=fD h8;by_cases h2:q.ret<2
   ·rw[aM h2]at hs2;have d2:decide (q.ret<2)=true:=gu h2;have d2':decide ((q.ret:Int)<2)=true:=gu (by omega);have HX:=hide (K5 {q with ret:=q.ret+1} _ rfl ⟨hok.dest,hok.ttl,by dsimp only;omega,hok.txt,hok.JS,hok.id⟩ rfl (hL.Kh _) (Fx.grown (ah (aC _ (some Bq)) 3 _) λk e=>by cases e;rfl));rw[hs2]at HX;rw[Int.natCast_add]at HX;have htt:=hok.ttl;replace hs2:=hide hs2;clear K5 I_ n hL hok;go_enter Tryz.func124,Tryz.ntmps124;go_wp2_with fail;refine aT HX.out ?_;rintro e w9 ⟨rfl,hN⟩;replace hN:=hide hN;clear HX;go_wp2;go_returns;exact⟨rfl,hN.out⟩
   ·rw[aH h2]at hs2;have d2:decide (q.ret<2)=false:=fD h2;have d2':decide ((q.ret:Int)<2)=false:=fD (by omega);have HX:=hide I_;rw[hs2]at HX;have htt:=hok.ttl;replace hs2:=hide hs2;clear K5 I_ n hL hok;go_enter Tryz.func124,Tryz.ntmps124;go_wp2_with fail;refine aT HX.out ?_;rintro e w9 ⟨rfl,hN⟩;replace hN:=hide hN;clear HX;go_wp2;go_returns;exact⟨rfl,hN.out⟩
end Go.Proofs.YtakaadcpaeiccabGreat
namespace Go.Proofs.YtakaadcpaeiccabGreat.DS
open Go.RowKit Go.Maps
variable{cap e m:Nat}
theorem kV{base g size:Nat}:∀(vs:List Value) (o:Nat) (xs:List Value) (W:World),W.ownsRow base e size (.slice (some ⟨g,0,none⟩) m cap) m xs->o+vs.length<=m * size->
  (W.setCells g o vs).ownsRow base e size (.slice (some ⟨g,0,none⟩) m cap) m (xs.take o++vs++xs.drop (o+vs.length))∧W.grownBy (W.setCells g o vs) (some g)
 | [],o,xs,W,h,_=>by
  simp only[World.setCells,gU,List.length_nil,Nat.add_zero,List.take_append_drop];exact⟨h,aC _ _⟩
 |v::r,o,xs,W,h,hl=>by
  simp only[dY]at hl;have hx:xs.length=m * size:=h.1;obtain⟨h1,g1⟩:=h.stored o v;obtain⟨h2,g2⟩:=kV r (o+1) (xs.set o v) (W.setCell ⟨g,o,none⟩ v) h1 (by omega);refine⟨?_,⟨g2.os.trans g1.os,g2.tape.trans g1.tape,g2.output.trans g1.output,dH g1.size g2.size,λk hk hn=>(g2.block k (fO hk g1.size) hn).trans (g1.block k hk hn)⟩⟩;have e1:(xs.set o v).take (o+1)=xs.take o++ [v]:=by
   rw[List.take_succ_eq_append_getElem (by simp;omega),List.take_set_of_le (aB o)];simp
  have e2:(xs.set o v).drop (o+1+r.length)=xs.drop (o+(r.length+1)):=by
   rw[List.drop_set_of_lt (by omega),show o+1+r.length=o+(r.length+1)by omega]
  rw[e1,e2]at h2;show((W.setCell ⟨g,o,none⟩ v).setCells g (o+1) r).ownsRow _ _ _ _ _ _;simpa using h2
theorem xB{base g n size:Nat}{W:World}{xs:List Value}(h:W.ownsRow base e size (.slice (some ⟨g,0,none⟩) n cap) n xs)(hm:m<=n):
  W.ownsRow base e size (.slice (some ⟨g,0,none⟩) m cap) m (xs.take (m * size)):=by
 rcases h.2 with⟨he,_⟩|⟨g',cap',cur,he,hb,hg,h1,h2,h3,h4⟩
 ·cases he
 ·cases he;have hx:=h.1;have hms:m * size<=n * size:=Nat.mul_le_mul_right _ hm;refine⟨by rw[List.length_take,hx];omega,.inr ⟨g,cap,cur,rfl,hb,hg,by omega,h2,h3,?_⟩⟩;rw[<-h4,List.take_take,Nat.min_eq_left hms]
theorem Eu(a:Option Addr)(n c k:Nat)(hk:k<=c)(W:World):(Instr.slice 80 (.slice a n c) none (some (.int .i64 k)) none).run Tryz.prog W=.ok (.slice a k c) W:=by
 have ht:Tryz.prog.underlying 80=some (.slice (Tryz.prog.elem 80)):=by simp[Program.elem,Tryz.underlying80]
 have hz:∀w,(Go.sizeOf (Tryz.prog.elem 80)).run Tryz.prog w=.ok 1 w:=by
  intro w;simp[go_sem,Program.elem,Tryz.underlying80]
 rw[run_slice_h W 80 _ _ _ ht .i64 _ (by omega) (by omega),hz];simp only[Result.andThen,sliced];rw[Nat.sub_zero,Nat.sub_zero,jm];cases a<;>(split<;>simp[Addr.add])
theorem Et(g n c k:Nat)(hk:k<=n):∃ad:Addr,(∀W,(Instr.slice 80 (.slice (some ⟨g,0,none⟩) n c) (some (.int .i64 k)) none none).run Tryz.prog W=.ok (.slice (some ad) (n - k) (c - k)) W)∧(k<c->ad=⟨g,k * 1,none⟩):=by
 have ht:Tryz.prog.underlying 80=some (.slice (Tryz.prog.elem 80)):=by simp[Program.elem,Tryz.underlying80]
 have hz:∀w,(Go.sizeOf (Tryz.prog.elem 80)).run Tryz.prog w=.ok 1 w:=by
  intro w;simp[go_sem,Program.elem,Tryz.underlying80]
 refine⟨if c=k then⟨g,0,none⟩else⟨g,k * 1,none⟩,λW=> ?_,λh=>by rw[aH (by omega)]⟩;rw[run_slice_l W 80 _ _ _ ht .i64 _ (by omega) (by omega),hz];simp only[Result.andThen,sliced];rw[jm];split<;>simp[Addr.add_lit]
theorem Al(g n c k m:Nat)(hk:k<m)(hm:m<=c)(W:World):(Instr.slice 80 (.slice (some ⟨g,0,none⟩) n c) (some (.int .i64 k)) (some (.int .i64 m)) none).run Tryz.prog W=.ok (.slice (some ⟨g,k * 1,none⟩) (m - k) (c - k)) W:=by
 have ht:Tryz.prog.underlying 80=some (.slice (Tryz.prog.elem 80)):=by simp[Program.elem,Tryz.underlying80]
 have hz:∀w,(Go.sizeOf (Tryz.prog.elem 80)).run Tryz.prog w=.ok 1 w:=by
  intro w;simp[go_sem,Program.elem,Tryz.underlying80]
 rw[run_slice_lh W 80 _ _ _ ht .i64 .i64 _ _ (by omega) (by omega) (by omega),hz];simp only[Result.andThen,sliced];rw[jm,jm,aH (by omega)];simp[Addr.add_lit]
theorem w_(a:Option Addr)(n c k m l:Nat)(hk:k<=m)(hm:m<=l)(hl:l<=c):∃v,∀W,(Instr.slice 80 (.slice a n c) (some (.int .i64 k)) (some (.int .i64 m)) (some (.int .i64 l))).run Tryz.prog W=.ok v W:=by
 have ht:Tryz.prog.underlying 80=some (.slice (Tryz.prog.elem 80)):=by simp[Program.elem,Tryz.underlying80]
 have hz:∀w,(Go.sizeOf (Tryz.prog.elem 80)).run Tryz.prog w=.ok 1 w:=by
  intro w;simp[go_sem,Program.elem,Tryz.underlying80]
 refine⟨sliced a k m l 1,λW=> ?_⟩;rw[run_slice_lhm W 80 _ _ _ ht .i64 .i64 .i64 _ _ _ (by omega) (by omega) (by omega) (by omega),hz];simp only[Result.andThen,jm]
theorem ug(w:World)(ty:TypeId)(b o c:Nat)(hc:∀j,j<1->(w.cell? ⟨b,o+j,none⟩).isSome=true)(hf:∀j,j<1->w.frozen? ⟨b,o+j,none⟩=false):
  (Builtin.clear_ #[80] ty #[.slice (some ⟨b,o,none⟩) 1 c]).run Tryz.prog w=.ok (.tuple #[]) (w.setCells b o ([.string ⟨#[]⟩]:List Value)):=by
 have hzc:(Builtin.zeroCells (.string ⟨#[]⟩:Value).cells 1).toList=([.string ⟨#[]⟩]:List Value):=by kernel_rfl
 have hst:=run_storeCells_cells (P:=Tryz.prog) b o ([.string ⟨#[]⟩]:List Value) 0 w (λj hj=>by rw[Nat.add_zero];exact hc j hj) (λj hj=>by rw[Nat.add_zero];exact hf j hj) (by intro v hv;simp at hv;rcases hv with rfl<;>rfl);simp only[Nat.add_zero]at hst;simp[Builtin.clear_,run_underlying Tryz.underlying80,hzc,hst]
theorem KN:(Tryz.prog.info? 9).map (λi=>(i.zero,i.size,i.bytes))=some (some (.string ⟨#[]⟩),1,16):=by kernel_rfl
theorem uN(base g n cap i:Nat)(xs:List Value)(w:World)(h:w.ownsRow base 9 1 (.slice (some ⟨g,0,none⟩) n cap) n xs)(hi:i<n)(hn:n<=1000000)(h1c:∀u∈xs,u.oneCell'=true):
  Calls Tryz.prog 118 #[.slice (some ⟨g,0,none⟩) n cap,.int .i64 i,.int .i64 ((i:Int)+1)] w λe w'=>e=.returned (.slice (some ⟨g,0,none⟩) (n - 1) cap)∧w'.ownsRow base 9 1 (.slice (some ⟨g,0,none⟩) (n - 1) cap) (n - 1) (xs.take (i)++xs.drop (i+1))∧w.grownBy w' (some g):=by
 obtain⟨i0,hii,hz0,hz1,hz2⟩:=info_parts KN;have hcap:n<=cap:=by
  rcases h.2 with⟨he,_⟩|⟨g',cap',cur,he,hb,hg,h1,h2,h3,h4⟩
  ·cases he
  ·cases he;exact h1
 have hx:=h.1;obtain⟨v13,abd⟩:=w_ (some ⟨g,0,none⟩) n cap i (i+1) n (by omega) (by omega) hcap;have ae3:=Eu (some ⟨g,0,none⟩) n cap i (by omega);obtain⟨ad,abb,had⟩:=Et g n cap (i+1) (by omega);have hd:w.drew.ownsRow base 9 1 (.slice (some ⟨g,0,none⟩) n cap) n xs:=h;have hnl:(xs.drop ((i+1)* 1)).length=(n - (i+1))* 1:=by
  rw[List.length_drop,hx,Nat.sub_mul]
 have hcell:∀ {W:World} {ys:List Value},W.ownsRow base 9 1 (.slice (some ⟨g,0,none⟩) n cap) n ys->∀j,j<n * 1->(W.cell? ⟨g,j,none⟩).isSome=true:=λhW j hj=>by
  rw[hW.cellAt j hj,cK (by rw[hW.1];exact hj)];rfl
 have hjl:∀j,j<(n - (i+1))* 1->(i+1)* 1+j<n * 1∧i * 1+j<n * 1:=λj hj=>by
  rw[Nat.sub_mul]at hj;have:(i+1)* 1<=n * 1:=Nat.mul_le_mul_right _ (by omega);rw[Nat.add_mul]at hj this ⊢;try omega
 have hcA:Hid (∀j u,(xs.drop ((i+1)* 1))[j]?=some u->w.drew.cell? (ad.add j)=some u):=λj u hj=>by
  have hl:=(fu.1 hj).1;rw[hnl]at hl;rw[had (by omega),Addr.add_lit];rw[List.getElem?_drop]at hj;exact(hd.cellAt _ (hjl j hl).1).trans hj
 have aa8:Hid (∀j,j<(xs.drop ((i+1)* 1)).length->(w.drew.cell? ⟨g,0+i * 1+j,none⟩).isSome=true∧w.drew.frozen? ⟨g,0+i * 1+j,none⟩=false):=λj hj=>by
  rw[hnl]at hj;rw[Nat.zero_add];exact⟨hcell hd _ (hjl j hj).2,hd.frozenAt _⟩
 have hE1:Hid (i+(n - (i+1))=n - 1):=by show _=_;omega
 have hE2:Hid (0+i * 1=i * 1):=Nat.zero_add _;have abn:=(show Hid _ from hnl);have abU:Hid (∀u∈xs.drop ((i+1)* 1),u.oneCell'=true):=λu hu=>h1c u (List.mem_of_mem_drop hu);obtain⟨h1,g1⟩:=kV (xs.drop ((i+1)* 1)) (i * 1) xs _ hd (by
  rw[hnl,<-Nat.add_mul];exact Nat.mul_le_mul_right _ (by omega))
 have TY:=Al g (n - 1) cap (n - 1) n (by omega) hcap;rw[show n - (n - 1)=1 by omega]at TY;have hlast:(n - 1)* 1+1=n * 1:=by
  rw[<-Nat.succ_mul,show(n - 1).succ=n by omega]
 have hcl:∀ty,(Builtin.clear_ #[80] ty #[.slice (some ⟨g,(n - 1)* 1,none⟩) 1 (cap - (n - 1))]).run Tryz.prog (w.drew.setCells g (i * 1) (xs.drop ((i+1)* 1)))=.ok (.tuple #[]) ((w.drew.setCells g (i * 1) (xs.drop ((i+1)* 1))).setCells g ((n - 1)* 1) ([.string ⟨#[]⟩]:List Value)):=λty=>
  ug _ ty g _ _ (λj hj=>hcell h1 _ (by omega)) (λj hj=>h1.frozenAt _)
 obtain⟨h2,g2⟩:=kV ([.string ⟨#[]⟩]:List Value) ((n - 1)* 1) _ _ h1 (by simp only[dY,List.length_nil];omega);have h3:=xB h2 (m:=n - 1) (by omega);have hgg:w.grownBy ((w.drew.setCells g (i * 1) (xs.drop ((i+1)* 1))).setCells g ((n - 1)* 1) ([.string ⟨#[]⟩]:List Value)) (some g):=⟨g2.os.trans g1.os,g2.tape.trans g1.tape,g2.output.trans g1.output,dH g1.size g2.size,λk hk hn=>(g2.block k (fO hk g1.size) hn).trans (g1.block k hk hn)⟩;have jS:((xs.take (i * 1)++xs.drop ((i+1)* 1)++xs.drop (i * 1+(xs.drop ((i+1)* 1)).length)).take ((n - 1)* 1)++([.string ⟨#[]⟩]:List Value)++(xs.take (i * 1)++xs.drop ((i+1)* 1)++xs.drop (i * 1+(xs.drop ((i+1)* 1)).length)).drop ((n - 1)* 1+([.string ⟨#[]⟩]:List Value).length)).take ((n - 1)* 1)=xs.take (i * 1)++xs.drop ((i+1)* 1):=by
  have hl:(xs.take (i * 1)++xs.drop ((i+1)* 1)).length=(n - 1)* 1:=by
   have:i * 1<=n * 1:=Nat.mul_le_mul_right _ (by omega);rw[dx,hnl,List.length_take,hx,Nat.min_eq_left this,<-Nat.add_mul]
   congr 1
   all_goals omega
  rw[List.take_left' hl,List.append_assoc,List.take_left' hl]
 rw[jS]at h3;clear h1 g1 h2 g2 hcell hd h hnl hlast hx had h1c hjl;have hfin:=(show Hid _ from And.intro h3 hgg);clear h3 hgg jS;have hne:((i:Int)==(i:Int)+1)=false:=by
  have:¬((i:Int)=(i:Int)+1):=by omega
  simpa using this
 rw[show((i+1:Nat):Int)=(i:Int)+1 from rfl]at abd abb;try simp only[Nat.mul_one]at hcl TY hfin
 go_enter Tryz.func118,Tryz.ntmps118;go_wp2_with fail;go_region_law (refine step_append_room rfl (.tmp 22) (.tmp 25) 80 rfl 9 i0 1 Tryz.underlying80 hii hz1 g 0 i cap rfl ad (n - (i+1)) (cap - (i+1)) (xs.drop ((i+1)* 1)) rfl abn.out hcA.out abU.out (by omega) aa8.out ?_;rw[hE1.out,hE2.out])
 all_goals
  generalize (w.drew.setCells g (i) (xs.drop (i+1)))=X at hcl hfin ⊢;go_wp2;go_returns;exact⟨rfl,hfin.out⟩
end Go.Proofs.YtakaadcpaeiccabGreat.DS
namespace Go.Proofs.YtakaadcpaeiccabGreat
open Go.RowKit
theorem X9:(Tryz.prog.info? 5).map (λi=>(i.zero,i.size,i.bytes))=some (some (.int .u8 0),1,1):=by kernel_rfl
theorem u_(s:ByteArray)(w:World)(hlim:s.size<=1000000):
  Calls Tryz.prog 152 #[.string s] w λe w'=>e=.returned (.string s)∧Below w.heap.size w w':=by
 by_cases h0:s.size=0
 ·have hs:s=⟨#[]⟩:=by
   apply ByteArray.ext;exact Array.eq_empty_of_size_eq_zero h0
  subst hs;go_enter Tryz.func152,Tryz.ntmps152;go_wp2;go_ret;exact⟨rfl,aU _ _⟩
 ·obtain⟨i0,hi,hz0,hz1,hz2⟩:=info_parts X9;have hinfo:(Tryz.prog.info? 5).map (·.size)=some 1:=by rw[hi];simp[hz1]
  have hco:Tryz.prog.cellsOf 5=1:=by simp[Program.cellsOf,hi,hz1]
  obtain⟨M,hM⟩:∃M,M=madeCells (Value.int .u8 0).cells (((s.size:Nat):Int).toNat * i0.size):=⟨_,rfl⟩;have hMs:M.size=s.size:=by rw[hM,size_madeCells,hz1];simp
  have hmk:∀W:World,(Instr.makeSlice 58 (.int .i64 (s.size:Int)) (.int .i64 (s.size:Int))).run Tryz.prog W=.ok (.slice (some ⟨W.heap.size,0,none⟩) s.size s.size) (W.alloc (.cells M 5)):=λW=>by
   have h:=run_make (P:=Tryz.prog) W 58 5 i0 (.int .u8 0) Tryz.underlying58 hi hz0 .i64 .i64 (s.size:Int) (s.size:Int) (by omega) (by omega) (by rw[hz2];omega) (by omega);rw[<-hM]at h;simpa using h
  clear hM;have hcp:=Lib.run_copy_row_string (P:=Tryz.prog) (w.alloc (.cells M 5)) 58 9 3 5 w.heap.size 0 s.size s.size s M 5 Tryz.underlying58 hinfo (bS w _) (aB _) (by omega);obtain⟨Y,hY⟩:∃Y,Y=(M.toList.take 0++Lib.byteCells s.data.toList++M.toList.drop (0+s.size)).toArray:=⟨_,rfl⟩;rw[<-hY]at hcp;have hYl:Y.toList=Lib.byteCells s.data.toList:=by
   rw[hY,List.toList_toArray,List.take_zero,List.nil_append,List.drop_of_length_le (by rw[Array.length_toList];omega),gU]
  have hYs:Y.size=s.size:=by rw[<-Array.length_toList,hYl,Lib.byteCells_length,<-Lib.size_eq]
  have hgY:((w.alloc (.cells M 5)).setRow w.heap.size Y).heap[w.heap.size]?=some (.cells Y 5 (0,0)):=setRow_heap _ _ M _ 5 (0,0) (bS w _);have hne:s.data.toList≠ []:=λe=>h0 (by rw[Lib.size_eq,e];rfl);have hUS:=Lib.run_unsafeString_row (P:=Tryz.prog) ((w.alloc (.cells M 5)).setRow w.heap.size Y) 274 3 9 5 Tryz.underlying274 hco w.heap.size Y.size (by unfold World.shape?;rw[hgY]) s.data.toList hne (by rw[<-Lib.size_eq];omega) (by rw[<-Lib.size_eq];omega)
   (λj x hx=>Lib.cells_of_row hgY Y.size j _ (by rw[jD (by rw[Array.length_toList];exact aB _),hYl];simp[Lib.byteCells,hx]))
  rw[<-Lib.size_eq]at hUS;clear hY;go_enter Tryz.func152,Tryz.ntmps152;go_wp2;go_ret;have hb1:Below w.heap.size w (w.alloc (.cells M 5)):=(aU _ w).alloc (aB _) _;have hb2:Below w.heap.size (w.alloc (.cells M 5)) ((w.alloc (.cells M 5)).setRow w.heap.size Y):=⟨rfl,rfl,rfl,by simp,λk hk=>setRow_other _ _ _ _ (by omega)⟩;exact⟨rfl,Lib.below_freeze (hb1.trans hb2) (p:=⟨w.heap.size,0,none⟩) (aB _) _⟩
theorem Qv(s:ByteArray)(w:World)(hlim:s.size<=1000000):
  Calls Tryz.prog 119 #[.string s] w λe w'=>e=.returned (.string s)∧Below w.heap.size w w':=by
 go_enter Tryz.func119,Tryz.ntmps119;go_wp2_with fail;refine(u_ s w hlim).mono ?_;rintro e w' ⟨rfl,hb⟩;go_wp2;go_ret;exact⟨rfl,hb⟩
end Go.Proofs.YtakaadcpaeiccabGreat
