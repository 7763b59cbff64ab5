import Derived.Test.YtakaadcpaeiccabGreatC70
set_option maxHeartbeats 8000000
set_option maxRecDepth 100000
namespace Go.Proofs.YtakaadcpaeiccabGreat
open Go.RowKit Go.Maps
theorem M7 {m:aK} {j:Nat}(h:m.runs j=true)(hj:j<m.S.length):∃s z,m.S[j]?=some s∧s.nd=some z∧m.tab j=z.A:=by
 have hs:=List.getElem?_eq_getElem hj;rw [KF hs]at h;obtain⟨z,hz⟩:=Option.isSome_iff_exists.1 h;exact⟨_,z,hs,hz,by unfold aK.tab;rw [eB hs,hz]⟩
def BLn(B j:Nat)(vr:Value)(Lb:List(Rt×Value))(ab:Option Addr)(cb:Nat)(W0:World):Prop:=∀wr,Below W0.heap.size W0 wr→∀t,t<Lb.length→∃(g:Nat)(x z:Rt)(ax:Option Addr)(nx cx:Nat),ab=some⟨g,0,none⟩∧g<wr.heap.size∧B<wr.heap.size∧x.Ok∧z.Ok∧PT x z=false∧wr.cell?⟨B,j,none⟩=some(.slice ab Lb.length cb)∧wr.cell?⟨g,t * 7,none⟩=some(.int .u32 x.dest)∧wr.cell?⟨g,t * 7+1,none⟩=some(.int .u32 x.seq)∧wr.cell?⟨g,t * 7+2,none⟩=some(.int .i64 x.hops)∧wr.cell?⟨g,t * 7+3,none⟩=some(.int .u32 x.next)∧wr.cell?⟨g,t * 7+4,none⟩=some(.bool x.valid)∧wr.cell?⟨g,t * 7+5,none⟩=some(.int .u64 x.exp)∧wr.cell?⟨g,t * 7+6,none⟩=some(.slice ax nx cx)∧
 ∀w1,Below wr.heap.size wr w1→Calls Tryz.prog 14 #[vr,.int .u32 x.dest]w1 fun e w'=>∃(ao:Option Addr)(a c:Nat),e=.returned(.tuple #[.agg #[.int .u32 z.dest,.int .u32 z.seq,.int .i64 z.hops,.int .u32 z.next,.bool z.valid,.int .u64 z.exp,.slice ao a c],.bool true])∧Below w1.heap.size w1 w'
theorem bln {w W:World} {B j bl:Nat} {y:MG} {m:aK} {Ls:List(Value×List(Rt×Value))} {vr:Value} {Lr Lb:List(Rt×Value)} {ab:Option Addr} {cb:Nat}(LQ:BM w.heap.size B Ls y m W)(hj:Ls[j]?=some(.slice ab Lb.length cb,Lb))(hle:Lb.length≤8)(SV:∀p∈Lb,p.1.Ok)(hls:nJ bl vr Lr W)(ha:Asc(Lr.map(·.1)))(h8:Lr.length≤8)(hro:∀p∈Lr,p.1.Ok)(hkey:∀p∈Lb,∃x,aJ(Lr.map(·.1))p.1.dest=some x∧PT p.1 x=false):BLn B j vr Lb ab cb W:=by
 intro wr hb t ht;have hbr:=LQ.later hb;have hlr:=hls.later hb;have hm:=List.mem_of_getElem? hj;have hrow:nJ w.heap.size(.slice ab Lb.length cb)Lb wr:=hbr.rows _ hm;obtain⟨⟨x,u⟩,hx⟩:∃p,Lb[t]?=some p:=⟨_,List.getElem?_eq_getElem ht⟩;have hxm:=List.mem_of_getElem? hx;obtain⟨g,c',hg,_⟩:=bS hrow.row(by omega);cases hg;obtain⟨ax,cx,hu,k0,k1,k2,k3,k4,k5,k6⟩:=uK hrow hx;subst hu;obtain⟨z,hz,hab⟩:=hkey _ hxm;have hcell:=cell_of_row wr B j _ _ _ hbr.blk;rw [List.getElem?_toArray,List.getElem?_map,hj]at hcell;have hzo:z.Ok:=by
  obtain⟨hz1,_⟩:=bN hz;obtain⟨p,hp,rfl⟩:=List.mem_map.1 hz1;exact hro p hp
 exact⟨g,x,z,ax,_,cx,rfl,(hrow.row.lt g rfl).2,aD hbr.blk,SV _ hxm,hzo,hab,hcell,k0,k1,k2,k3,k4,k5,k6,fun w1 h1=>BX(hlr.later h1)ha x.dest hz(by omega)⟩
@[reducible] def SLn (B j g t X nb cb : Nat) (x z : Rt) (u v : Value) (W : World) : Prop := W.cell? ⟨B, j, none⟩ = some (.slice (some ⟨g, 0, none⟩) nb cb) ∧ W.cell? ⟨g, t * 7, none⟩ = some (.int .u32 x.dest) ∧ W.cell? ⟨g, t * 7 + 1, none⟩ = some (.int .u32 x.seq) ∧ W.cell? ⟨g, t * 7 + 2, none⟩ = some (.int .i64 x.hops) ∧ W.cell? ⟨g, t * 7 + 3, none⟩ = some (.int .u32 x.next) ∧ W.cell? ⟨g, t * 7 + 4, none⟩ = some (.bool x.valid) ∧ W.cell? ⟨g, t * 7 + 5, none⟩ = some (.int .u64 x.exp) ∧ W.cell? ⟨g, t * 7 + 6, none⟩ = some u ∧
 W.cell?⟨X,0,none⟩=some(.int .u32 z.dest)∧W.cell?⟨X,1,none⟩=some(.int .u32 z.seq)∧W.cell?⟨X,2,none⟩=some(.int .i64 z.hops)∧W.cell?⟨X,3,none⟩=some(.int .u32 z.next)∧W.cell?⟨X,4,none⟩=some(.bool z.valid)∧W.cell?⟨X,5,none⟩=some(.int .u64 z.exp)∧W.cell?⟨X,6,none⟩=some v
theorem H7(nodes:Int)(hn0:-9223372036854775808≤nodes∧nodes≤9223372036854775807)(ao:Option Addr)(N c:Nat)(L:List Op)(hN:L.length=N)(w:World)(hL:f_ w ao(OpC L)):
  Calls Tryz.prog 3 #[.int .i64 nodes,.slice ao N c]w fun e w'=>e=.returned(.bool true)∧Below w.heap.size w w':=by
 obtain⟨n,hn2,UX,hpk,hpw⟩:=ab1(c:=nodes);have HP:=hide(QO nodes 5 hn0.1 hn0.2(by decide)(by decide)w);have HR:=hide(VZ n⟨by omega,UX⟩w);go_enter Tryz.func3,Tryz.ntmps3
 go_upto_region 2 with(go_at_call 9;refine HP.out.mono ?_;rintro e w2⟨rfl,hw2⟩;have hw3:=hw2.symm;subst hw3;clear hw2)
 clear HP hpk hpw;go_upto_region 3 with(go_at_call 10;refine HR.out.mono ?_;rintro e w3⟨y,rfl,hq⟩)
 replace hq:=hide hq;have hb3:=hq.out.bl;clear HR;by_cases h4:4096<N
 ·have e1:decide(4096<(N:Int))=true:=decide_eq_true(by omega);clear hq hL;go_wp2
  go_ret
  exact⟨rfl,hb3⟩
 have e1:decide(4096<(N:Int))=false:=decide_eq_false(by omega);have hmk:=fun W=>NZ n UX W;obtain⟨G,hG⟩:∃G,y.G=G:=⟨_,rfl⟩;have Gx:=hide(abb UX hq.out);rw [hG]at Gx ⊢;simp only [List.Ko]at Gx hmk;clear hq hb3 hG;go_wp2_with fail
 clear hmk;generalize World.alloc _ _=W4 at Gx ⊢;generalize w3.heap.size=B at Gx ⊢;go_loopw [8](fun i wr=>∃(k:Nat),k≤N∧i=.int .i64 k∧Hid(CS w n G B k wr))(fun i _=>N - (intOf i).toNat)
 case atStart=>exact⟨0,Nat.zero_le _,rfl,Gx⟩
 case round=>
  clear Gx;obtain⟨k,hk,rfl,hq⟩:=hrel;by_cases hlt:k<N
  ·have hki:(k:Int)<(N:Int):=by omega
   obtain⟨o,ho⟩:∃o,L[k]?=some o:=⟨_,List.getElem?_eq_getElem(by omega)⟩;obtain⟨g,f,hao,hgl,d0,d1,d2,d3,d4,d5⟩:=abp(hL.below hq.out.below)ho;subst hao;have hwk:=hide(Qa(h:=k)(by omega));obtain⟨c1,y1,m,Ls,hck,hG,hs,hcb,LQ,hle⟩:=hq.out;by_cases h8:o.dS=8
   ·have hgo:Hid(∃(k':Nat),k'≤N∧(.int .i64((k:Int)+1):Value)=.int .i64 k'∧Hid(CS w n G B k' wr)):=hide⟨k+1,by omega,by simp,hide(hq.out.mono(Nat.le_succ k))⟩;have e2:(o.dS==8)=true:=by simp [h8]
    clear hs hcb LQ hle hq d1 d2 d3 d4 d5 hck hG h8;go_wp2
    go_roundw
    case rel=>exact hgo.out
    case measure=>exact jg hlt
   ·have e2:(o.dS==8)=false:=by simp [h8]
    obtain⟨G1,g0,g1,hcm⟩:=id hcb.cm;have HD:=hide(afu hs(by omega)o(fun h=>absurd h h8)hcm.few);have hnext:Hid(∀y' w4,y'.G=y1.G→MU y1 m y'(m.step o).1 wr w4→SQ w n(c1+1)y'(m.step o).1 w4→CS w n G B(k+1)w4):=hide fun y' w4 e1 u s=>⟨c1+1,y',_,Ls,by omega,e1.trans hG,s,hcb.step(by omega)(fun f hf=>(hs.fk.1 f hf).2.1)o u.n h8,LQ.turn hs.mm u,hle⟩;rw [hG]at HD;have hG1:=hide hG;obtain⟨dS,a,b,num,on,txt⟩:=o;unfold UR at HD;dsimp only at d0 d1 d2 d3 d4 d5 e2 HD;clear hs hcb LQ hle hq hG hcm h8;go_upto_region 13 with(go_at_call 11;refine HD.out.mono ?_;rintro e w4⟨v,Lv,y',rfl,hLv,hev,hG',hmu,hs⟩)
    have hcs:=hide(hnext.out y' w4(hG'.trans hG1.out.symm)hmu hs);clear hs hev hLv hmu HD hnext d0 d1 d2 d3 d4 d5 e2 hgl hL hG' hG1 ho;go_wp2_with fail
    go_loopw [9](fun i wr=>∃(j:Nat),j≤n∧i=.int .i64 j∧Hid(CS w n G B(k+1)wr))(fun i _=>n - (intOf i).toNat)
    case atStart=>exact⟨0,Nat.zero_le _,rfl,hcs⟩
    case round=>
     clear hcs;obtain⟨j,hj,rfl,hq⟩:=hrel;by_cases hjn:j<n
     ·have aeK:(j:Int)<(n:Int):=by omega
      obtain⟨c2,y2,m2,Ls,hc2,hG2,hs,hcb,LQ,hle⟩:=hq.out;obtain⟨t1,t2,t3,t4,t5,t6⟩:=hs.tab hjn;have HT:=hide(Cu hs.mm j(by rw [hs.len];exact hjn)t4);have UF:=hide fun W(h:MM y2 m2 W)=>Ew h(j:Int);rw [hG2]at HT UF;have hwj:=hide(Qa(h:=j)(by omega));have Sj:=hide(And.intro hs(And.intro hcb(And.intro LQ hle)));replace t2:=hide t2;replace t3:=hide t3;have hGh:=hide hG2;clear hs hcb LQ hle t1 t4 t5 t6 hG2 hq;go_upto_region 17 with(go_at_call 12;refine HT.out.mono ?_;rintro e w6⟨vr,Lr,rfl,Jt,hls,DI,Z9⟩)
      obtain⟨hs,hcb,LQ,hle⟩:=Sj.out;have hs6:=hs.JN DI Z9;have hb6:=LQ.turn hs.mm Z9;have hout:∀q,Ht vr Lr q→¬oz y2 m2 q:=fun q hq' hin=>by
       have h1:=(hls.lt hq').1;have h2:=hs.mm.lt hin;omega
      have hl0:=hls.lower hs.bl.size;obtain⟨ar,cr,hvr,_⟩:=ak hls.row;subst hvr;have abK:=hide(UF.out w6 DI);obtain⟨rr,hrr⟩:∃rr,m2.runs(j:Int)=rr:=⟨_,rfl⟩;rw [hrr]at abK;cases rr with
      |false=>
       have hgo:Hid(∃(j':Nat),j'≤n∧(.int .i64((j:Int)+1):Value)=.int .i64 j'∧Hid(CS w n G B(k+1)w6)):=hide⟨j+1,by omega,by simp,hide⟨c2,y2,m2,Ls,hc2,hGh.out,hs6,hcb,hb6,hle⟩⟩;clear hs hcb LQ hle hs6 hb6 hout hl0 hls DI Z9 Sj HT UF hrr Jt t2 t3;clear hn0 hN hn2 UX h4 e1 hk hki hck hj aeK hc2;go_wp2_with(go_at_call 13;refine abK.out.mono ?_;rintro e w7⟨rfl,hw7⟩;have hw8:=hw7.symm;subst hw8;clear hw7)
       go_roundw
       case rel=>rw [hwj.out];exact hgo.out
       case measure=>rw [hwj.out];exact jg hjn
      |true=>
       obtain⟨s,z,hsj,hz,htab⟩:=M7 hrr(by rw [hs.len];exact hjn);rw [htab]at Jt;have hjl:j<Ls.length:=by
        have:=hcb.len;rw [List.length_map]at this;omega
       obtain⟨⟨vb,Lb⟩,hLb⟩:∃p,Ls[j]?=some p:=⟨_,List.getElem?_eq_getElem hjl⟩;have hLm:=List.mem_of_getElem? hLb;obtain⟨ab,cb,hvb,_⟩:=ak(hb6.rows _ hLm).row;dsimp only at hvb;subst hvb;have acS:=hcb.bst j s(Lb.map(·.1))hsj(by rw [List.getElem?_map,hLb];rfl);have hkey:∀p∈Lb,∃x,aJ(Lr.map(·.1))p.1.dest=some x∧PT p.1 x=false:=fun p hp=>by
        rw [Jt];exact acS.line hz(List.mem_map.2⟨p,hp,rfl⟩)
       obtain⟨G1,_,_,hcm⟩:=id hcb.cm;have hro:∀p∈Lr,p.1.Ok:=fun p hp=>hs.Yn hjn _(by rw [htab,←Jt];exact List.mem_map.2⟨p,hp,rfl⟩);have hnx:∀p∈Lr,NxF m2 n j p.1:=fun p hp=>Wp hcm hs.Ik hsj hz(by rw [←Jt];exact List.mem_map.2⟨p,hp,rfl⟩);have h8r:Lr.length≤8:=by
        have:=t3.out;rw [htab,←Jt,List.length_map]at this;exact this
       have hasc:Asc(Lr.map(·.1)):=by rw [Jt,←htab];exact t2.out
       have hbl:=hide(bln hb6 hLb(hle _ hLm).1(hle _ hLm).2 hls hasc h8r hro hkey);have aap:=hide(hle _ hLm).1;dsimp only at aap;have SY:Hid(∀W,Below w6.heap.size w6 W→W.cell?⟨B,j,none⟩=some(.slice ab Lb.length cb)∧W.frozen?⟨B,j,none⟩=false∧B<W.heap.size):=hide fun W hb=>by
        have hbr:=hb6.later hb;have hcell:=cell_of_row W B j _ _ _ hbr.blk;rw [List.getElem?_toArray,List.getElem?_map,hLb]at hcell;exact⟨hcell,frozen_of_row W B j _ _ hbr.blk,aD hbr.blk⟩
       have hfin:Hid(∀W,Below w6.heap.size w6 W→Calls Tryz.prog 16 #[.pointer(some⟨G,0,none⟩),.int .i64 n,.int .i64 j,.slice ar Lr.length cr](W.setCell⟨B,j,none⟩(.slice ar Lr.length cr))fun e w'=>e=.returned(.bool true)∧CS w n G B(k+1)w'):=hide fun W hb=>by
        have hs7:=(hs6.later hb).cell hb6.low(hb6.not DI)j(.slice ar Lr.length cr);have Gw:=(hb6.later hb).set j(hl0.later hb)hout;have hl7:=Gw.rows _(List.mem_of_getElem?(List.getElem?_set_self hjl));have hk7:=N9 hs7 hjn UX hl7 hout h8r hro hnx;rw [hGh.out]at hk7;refine hk7.mono ?_;rintro e w'⟨rfl,hm,hu⟩;refine⟨rfl,c2,y2,m2,Ls.set j(.slice ar Lr.length cr,Lr),hc2,hGh.out,hs7.JN hm hu,?_,Gw.turn hs7.mm hu,fun x hx=> ?_⟩
        ·have:=hcb.put hsj hz;rw [List.map_set];dsimp only;rw [Jt];exact this
        ·rcases List.mem_or_eq_of_mem_set hx with hx|rfl
         ·exact hle x hx
         ·exact⟨h8r,hro⟩
       clear hs hcb LQ hle hs6 hb6 hout hl0 hls DI Z9 Sj HT UF hrr Jt t2 t3 hsj hz htab hjl hLb hLm acS hkey hcm hro hnx hasc;clear hn0 hN hn2 UX h4 e1 hk hki hck hj hc2;obtain⟨nb,hnb⟩:∃nb,Lb.length=nb:=⟨_,rfl⟩;rw [hnb]at aap;go_wp2_with(go_at_call 13;refine abK.out.mono ?_;rintro e w7⟨rfl,hw7⟩;have hw8:=hw7.symm;subst hw8;clear hw7)
       go_loopw [12](fun i wr=>∃(t:Nat),t≤nb∧i=.int .i64 t∧Hid(Below w6.heap.size w6 wr))(fun i _=>nb - (intOf i).toNat)
       case atStart=>exact⟨0,Nat.zero_le _,rfl,hide(Below.refl _ _)⟩
       case round=>
        obtain⟨t,ht,rfl,hb⟩:=hrel;obtain⟨kb,kf,hBl⟩:=SY.out wr hb.out;rw [hnb]at kb;by_cases htl:t<nb
        ·have hti:(t:Int)<(nb:Int):=by omega
         obtain⟨g',x,z',ax,nx,cx,hab,Jl,_,hx,hz',ac0,_,k0,k1,k2,k3,k4,k5,k6,HLn⟩:=hbl.out wr hb.out t(by omega);subst hab;have HL:=hide(HLn wr(Below.refl _ _));have hwt:=hide(Qa(h:=t)(by have:=aap.out;omega));have hgo:Hid(∀W',Below wr.heap.size wr W'→∃(t':Nat),t'≤nb∧(.int .i64((t:Int)+1):Value)=.int .i64 t'∧Hid(Below w6.heap.size w6 W')):=hide fun W' hb'=>⟨t+1,by omega,by simp,hide(hb.out.trans(hb'.mono hb.out.size))⟩;clear HLn hfin SY hbl hnb;go_upto_region 23 with(go_at_call 14;refine HL.out.mono ?_;rintro e w9⟨az,nz,cz,rfl,gy⟩)
         have hbX:Below wr.heap.size wr(w9.alloc(.cells #[.int .u32 z'.dest,.int .u32 z'.seq,.int .i64 z'.hops,.int .u32 z'.next,.bool z'.valid,.int .u64 z'.exp,.slice az nz cz]38)):=gy.alloc gy.size _;have hX:=heap_alloc_new w9(.cells #[.int .u32 z'.dest,.int .u32 z'.seq,.int .i64 z'.hops,.int .u32 z'.next,.bool z'.valid,.int .u64 z'.exp,.slice az nz cz]38);generalize World.alloc _ _=wX at hbX hX ⊢;generalize w9.heap.size=X at hX ⊢;have hgX:=hide(hgo.out wX hbX);have HA:=hide fun W'=>zq x z' ax az nx cx nz cz hx hz' W';rw [ac0]at HA;have hl:dP X z'(.slice az nz cz)wX:=hX;obtain⟨p0,p1,p2,p3,p4,p5,p6⟩:=hl.cell;have hS:SLn B j g' t X nb cb x z'(.slice ax nx cx)(.slice az nz cz)wX:=⟨cell_later kb hbX hBl,cell_later k0 hbX Jl,cell_later k1 hbX Jl,cell_later k2 hbX Jl,cell_later k3 hbX Jl,cell_later k4 hbX Jl,cell_later k5 hbX Jl,cell_later k6 hbX Jl,p0,p1,p2,p3,p4,p5,p6⟩;have hgA:Hid(∀w9,Below wX.heap.size wX w9→∃(t':Nat),t'≤nb∧(.int .i64((t:Int)+1):Value)=.int .i64 t'∧Hid(Below w6.heap.size w6 w9)):=hide fun w9 h9=>hgo.out w9(hbX.trans(h9.mono hbX.size));clear kb kf k0 k1 k2 k3 k4 k5 k6 p0 p1 p2 p3 p4 p5 p6 hl hX hgo hgX HL gy hb ac0 hbX hx hz';refine jI(SLn B j g' t X nb cb x z'(.slice ax nx cx)(.slice az nz cz)) [8,9](by kernel_rfl)(show SLn B j g' t X nb cb x z'(.slice ax nx cx)(.slice az nz cz)wX.drew from hS)(fun hHeld=> ?_);refine aB(i:=0)(v:=?hv0)rfl(by kernel_rfl)(by kernel_rfl)(by kernel_rfl)(by kernel_rfl)(fun _ _ _ h=>h)(Or.inl⟨by rfl,?hy0⟩)hHeld ?hr0
         case hy0=>
          rintro w5⟨kb,k0,k1,k2,k3,k4,k5,k6,p0,p1,p2,p3,p4,p5,p6⟩;go_simp
          try with_reducible rfl
         try simp only [Act.put,List.setIfInBounds_toArray,List.set_cons_zero,List.set_cons_succ]
         refine aB(i:=1)(v:=?hv1)rfl(by kernel_rfl)(by kernel_rfl)(by kernel_rfl)(by kernel_rfl)(fun _ _ _ h=>h)(Or.inl⟨by rfl,?hy1⟩)hHeld ?hr1
         case hy1=>
          rintro w5⟨kb,k0,k1,k2,k3,k4,k5,k6,p0,p1,p2,p3,p4,p5,p6⟩;go_simp
          try with_reducible rfl
         try simp only [Act.put,List.setIfInBounds_toArray,List.set_cons_zero,List.set_cons_succ]
         refine aB(i:=2)(v:=?hv2)rfl(by kernel_rfl)(by kernel_rfl)(by kernel_rfl)(by kernel_rfl)(fun _ _ _ h=>h)(Or.inl⟨by rfl,?hy2⟩)hHeld ?hr2
         case hy2=>
          rintro w5⟨kb,k0,k1,k2,k3,k4,k5,k6,p0,p1,p2,p3,p4,p5,p6⟩;go_simp
          try with_reducible rfl
         try simp only [Act.put,List.setIfInBounds_toArray,List.set_cons_zero,List.set_cons_succ]
         refine aB(i:=3)(v:=?hv3)rfl(by kernel_rfl)(by kernel_rfl)(by kernel_rfl)(by kernel_rfl)(fun _ _ _ h=>h)(Or.inl⟨by rfl,?hy3⟩)hHeld ?hr3
         case hy3=>
          rintro w5⟨kb,k0,k1,k2,k3,k4,k5,k6,p0,p1,p2,p3,p4,p5,p6⟩;go_simp
          try with_reducible rfl
         try simp only [Act.put,List.setIfInBounds_toArray,List.set_cons_zero,List.set_cons_succ]
         refine aB(i:=4)(v:=?hv4)rfl(by kernel_rfl)(by kernel_rfl)(by kernel_rfl)(by kernel_rfl)(fun _ _ _ h=>h)(Or.inl⟨by rfl,?hy4⟩)hHeld ?hr4
         case hy4=>
          rintro w5⟨kb,k0,k1,k2,k3,k4,k5,k6,p0,p1,p2,p3,p4,p5,p6⟩;go_simp
          try with_reducible rfl
         try simp only [Act.put,List.setIfInBounds_toArray,List.set_cons_zero,List.set_cons_succ]
         refine aB(i:=5)(v:=?hv5)rfl(by kernel_rfl)(by kernel_rfl)(by kernel_rfl)(by kernel_rfl)(fun _ _ _ h=>h)(Or.inl⟨by rfl,?hy5⟩)hHeld ?iq
         case hy5=>
          rintro w5⟨kb,k0,k1,k2,k3,k4,k5,k6,p0,p1,p2,p3,p4,p5,p6⟩;go_simp
          try with_reducible rfl
         try simp only [Act.put,List.setIfInBounds_toArray,List.set_cons_zero,List.set_cons_succ]
         refine aB(i:=6)(v:=?hv6)rfl(by kernel_rfl)(by kernel_rfl)(by kernel_rfl)(by kernel_rfl)(fun _ _ _ h=>h)(Or.inl⟨by rfl,?hy6⟩)hHeld ?lw
         case hy6=>
          rintro w5⟨kb,k0,k1,k2,k3,k4,k5,k6,p0,p1,p2,p3,p4,p5,p6⟩;go_simp
          try with_reducible rfl
         try simp only [Act.put,List.setIfInBounds_toArray,List.set_cons_zero,List.set_cons_succ]
         refine aB(i:=7)(v:=?hv7)rfl(by kernel_rfl)(by kernel_rfl)(by kernel_rfl)(by kernel_rfl)(fun _ _ _ h=>h)(Or.inl⟨by rfl,?hy7⟩)hHeld ?pO
         case hy7=>
          rintro w5⟨kb,k0,k1,k2,k3,k4,k5,k6,p0,p1,p2,p3,p4,p5,p6⟩;go_simp
          try with_reducible rfl
         try simp only [Act.put,List.setIfInBounds_toArray,List.set_cons_zero,List.set_cons_succ]
         refine df(i:=8)(by kernel_rfl)rfl(fun K8 hK8=> ?_);go_simp
         go_at_call 15
         refine(HA.out _).mono ?_;rintro e Ki⟨rfl,acV⟩;have hf:=hide(hgA.out Ki((show Below wX.heap.size wX wX.drew from(Below.refl _ _).drew).trans acV));clear acV HA hgA hS hHeld;go_simp
         refine hK8.out _ _(fun h=>(h(by decide)).elim) ?_;clear hK8 K8;refine df(i:=9)(by kernel_rfl)rfl(fun K9 hK9=> ?_);go_simp
         refine hK9.out _ _(fun h=>(h(by decide)).elim) ?_;clear hK9 K9;refine jA(by kernel_rfl) ?_ _;go_wp2
         go_roundw
         case rel=>rw [hwt.out];exact hf.out
         case measure=>rw [hwt.out];exact jg htl
        ·obtain rfl:t=nb:=by omega
         have HN:=hide(hfin.out wr hb.out);have hgo:Hid(∀W',CS w n G B(k+1)W'→∃(j':Nat),j'≤n∧(.int .i64((j:Int)+1):Value)=.int .i64 j'∧Hid(CS w n G B(k+1)W')):=hide fun W' h=>⟨j+1,by omega,by simp,hide h⟩;clear hbl hfin SY hb hnb;go_wp2_with(go_at_call 16;refine HN.out.mono ?_;rintro e w8⟨rfl,hcs⟩;have hf:=hide(hgo.out _ hcs);clear hcs)
         go_roundw
         case rel=>rw [hwj.out];exact hf.out
         case measure=>rw [hwj.out];exact jg hjn
     ·obtain rfl:j=n:=by omega
      have hgo:Hid(∃(k':Nat),k'≤N∧(.int .i64((k:Int)+1):Value)=.int .i64 k'∧Hid(CS w j G B k' wr)):=hide⟨k+1,by omega,by simp,hq⟩;clear hq hj hn0 hN hn2 UX h4 e1 hk hki hck;go_wp2
      go_roundw
      case rel=>rw [hwk.out];exact hgo.out
      case measure=>rw [hwk.out];exact jg hlt
  ·obtain rfl:k=N:=by omega
   have hfin:=hq.out.below;clear hq hL;go_wp2
   go_ret
   exact⟨rfl,hfin⟩
end Go.Proofs.YtakaadcpaeiccabGreat
