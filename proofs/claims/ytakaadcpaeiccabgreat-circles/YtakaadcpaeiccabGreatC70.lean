import Derived.Test.YtakaadcpaeiccabGreatC69
set_option maxHeartbeats 4000000
set_option maxRecDepth 100000
namespace Go.Proofs.YtakaadcpaeiccabGreat
open Go.RowKit Go.Maps
theorem SQ.JN {w:World} {n i:Nat} {y:MG} {m:aK} {W W':World}(h:SQ w n i y m W)(h1:MM y m W')(u:MU y m y m W W'):SQ w n i y m W':=by
 have hz:=h.bl.size;exact⟨h1,h.low,h.bl.trans(u.fx.Cx hz fun j hj hf=>by have:=h.low j hf;omega),h.ok,h.fk,h.nw,h.Ik⟩
theorem SQ.Yn {w:World} {n i:Nat} {y:MG} {m:aK} {W:World}(h:SQ w n i y m W) {k:Nat}(hk:k<n):∀x∈m.tab k,x.Ok:=by
 obtain⟨x,s,b,c,e1,e2,e3,_⟩:=h.mm.get(i:=k)(by rw [h.len];exact hk);have hs:=h.ok.at e2;cases hz:s.nd with
 |none=>
  have ht:m.tab k=[]:=by unfold aK.tab;rw [e3,hz]
  rw [ht];exact fun x hx=>(by cases hx)
 |some z=>
  have ht:m.tab k=z.A:=by unfold aK.tab;rw [e3,hz]
  rw [ht];exact(hs.nd z hz).ok
theorem yx {P:Program} {ops:Array Oper} {Q:Exit→Act→World→Prop} {md:Region.Mode} {S:World→Prop} {U:List Nat} {i j:Nat} {oi oj:Oper} {fuel:Nat} {listed:Array Bool} {a:Act} {w:World}(hr:Region.ready md ops listed=[i,j])(hoi:ops[i]?=some oi)(hoj:ops[j]?=some oj)
  (h1:∀K':Act→World→Prop,Shut(∀a w,(i ∉ U→S w)→kg P md ops Q S U fuel(listed.setIfInBounds i true)a w→K' a w)→if Region.wanted oi(yielded ops a.tmps)=true then Oper.wp P oi a w K' Q else K'(a.put oi.dst undef)w)
  (h2:∀K':Act→World→Prop,Shut(∀a w,(j ∉ U→S w)→kg P md ops Q S U fuel(listed.setIfInBounds j true)a w→K' a w)→if Region.wanted oj(yielded ops a.tmps)=true then Oper.wp P oj a w K' Q else K'(a.put oj.dst undef)w):kg P md ops Q S U(fuel+1)listed a w:=by
 refine⟨fun h0=>absurd(hr▸h0)(by simp),fun k hk=> ?_⟩;rw [hr]at hk;rcases List.mem_cons.1 hk with rfl|hk
 ·exact wpOp_step hoi(fun K' hK=>h1 K'(fun a w hS hW=>hK a w⟨hS,hW⟩))
 ·rw [List.mem_singleton]at hk;subst hk;exact wpOp_step hoj(fun K' hK=>h2 K'(fun a w hS hW=>hK a w⟨hS,hW⟩))
theorem yJ {w:World} {D k:Nat} {v0 v1 v2 v3 v4 v5 v6:Value}(h:k≠D):(((((((w.setCell⟨D,0,none⟩v0).setCell⟨D,1,none⟩v1).setCell⟨D,2,none⟩v2).setCell⟨D,3,none⟩v3).setCell⟨D,4,none⟩v4).setCell⟨D,5,none⟩v5).setCell⟨D,6,none⟩v6).heap[k]?=w.heap[k]?:=by
 rw [Below.heap_setCell _ _ _ _ h,Below.heap_setCell _ _ _ _ h,Below.heap_setCell _ _ _ _ h,Below.heap_setCell _ _ _ _ h,Below.heap_setCell _ _ _ _ h,Below.heap_setCell _ _ _ _ h,Below.heap_setCell _ _ _ _ h]
theorem MU.VU {y:MG} {m:aK} {a w:World}(u:MU y m y m a w) {D:Nat}(hD:a.heap.size≤D)(v0 v1 v2 v3 v4 v5 v6:Value):MU y m y m a(((((((w.setCell⟨D,0,none⟩v0).setCell⟨D,1,none⟩v1).setCell⟨D,2,none⟩v2).setCell⟨D,3,none⟩v3).setCell⟨D,4,none⟩v4).setCell⟨D,5,none⟩v5).setCell⟨D,6,none⟩v6):=
 have b:=pF(Below.refl D w)(Nat.le_refl D)v0 v1 v2 v3 v4 v5 v6
 ⟨⟨b.os.trans u.fx.os,b.tape.trans u.fx.tape,b.output.trans u.fx.output,Nat.le_trans u.fx.size b.size,fun k hk hn=>(b.block k(by omega)).trans(u.fx.block k hk hn)⟩,fun _ h=> .inl h,rfl,rfl,rfl,rfl⟩
def YP(z:Rt)(y:MG)(m:aK)(wX:World)(pv fv:Value)(W:World):Prop:=∃(Y:Nat)(ao:Option Addr)(a c:Nat),pv=.pointer(some⟨Y,0,none⟩)∧fv=.bool true∧dP Y z(.slice ao a c)W∧MM y m W∧MU y m y m wX W
theorem P8 {z:Rt} {y:MG} {m:aK} {wX w:World} {ao:Option Addr} {a c:Nat}(hm:MM y m w)(u:MU y m y m wX w):YP z y m wX(.pointer(some⟨w.heap.size,0,none⟩))(.bool true)(w.alloc(.cells #[.int .u32 z.dest,.int .u32 z.seq,.int .i64 z.hops,.int .u32 z.next,.bool z.valid,.int .u64 z.exp,.slice ao a c]38)):=
 have hb:Below w.heap.size w(w.alloc(.cells #[.int .u32 z.dest,.int .u32 z.seq,.int .i64 z.hops,.int .u32 z.next,.bool z.valid,.int .u64 z.exp,.slice ao a c]38)):=(Below.refl _ _).alloc(Nat.le_refl _)_
 ⟨_,ao,a,c,rfl,rfl,heap_alloc_new _ _,hm.later hb,u.post hb⟩
theorem P7 {z x:Rt} {y:MG} {m:aK} {wX w:World} {Y:Nat} {v:Value} {ao:Option Addr} {a c:Nat}(hm:MM y m w)(u:MU y m y m wX w)(hY:wX.heap.size≤Y)(hn:¬oz y m Y)(hl:dP Y x v w):YP z y m wX(.pointer(some⟨Y,0,none⟩))(.bool true)(((((((w.setCell⟨Y,0,none⟩(.int .u32 z.dest)).setCell⟨Y,1,none⟩(.int .u32 z.seq)).setCell⟨Y,2,none⟩(.int .i64 z.hops)).setCell⟨Y,3,none⟩(.int .u32 z.next)).setCell⟨Y,4,none⟩(.bool z.valid)).setCell⟨Y,5,none⟩(.int .u64 z.exp)).setCell⟨Y,6,none⟩(.slice ao a c)):=
 ⟨Y,ao,a,c,rfl,rfl,hl.VU,hm.kept fun k hk=>yJ fun e=>hn(by rw [←e];exact hk),u.VU hY _ _ _ _ _ _ _⟩
theorem Qg {w0 wX:World} {n i:Nat} {y:MG} {m:aK}(h:SQ w0 n i y m wX) {j:Nat}(hj:j<n) {dd:Int} {z:Rt}(hz:aJ(m.tab j)dd=some z):∀W1,Below wX.heap.size wX W1→Calls Tryz.prog 12 #[.pointer(some⟨y.G,0,none⟩),.int .i64 j]W1 fun e w7=>∃v,e=.returned v∧MM y m w7∧MU y m y m W1 w7∧∀W2,Below w7.heap.size w7 W2→Calls Tryz.prog 14 #[v,.int .u32 dd]W2 fun e w8=>∃(ao:Option Addr)(a c:Nat),e=.returned(.tuple #[.agg #[.int .u32 z.dest,.int .u32 z.seq,.int .i64 z.hops,.int .u32 z.next,.bool z.valid,.int .u64 z.exp,.slice ao a c],.bool true])∧Below W2.heap.size W2 w8:=by
 intro W1 hb;obtain⟨_,t2,t3,t4,_⟩:=h.tab hj;refine(Cu(h.mm.later hb)j(by rw [h.len];exact hj)t4).mono ?_;rintro e w7⟨v,L,rfl,hL,hls,hm,hu⟩;refine⟨v,rfl,hm,hu,fun W2 h2=>BX(hls.later h2)(by rw [hL];exact t2)dd(by rw [hL];exact hz) ?_⟩;have:L.length≤8:=by rw [←hL,List.length_map]at t3;exact t3
 omega
@[reducible] def SX (X : Nat) (dd : Int) (W : World) : Prop := W.cell? ⟨X, 0, none⟩ = some (.int .u32 dd)
theorem Yo {X:Nat} {dd:Int} {y:MG} {m:aK} {W W':World}(h:SX X dd W)(u:MU y m y m W W')(hX:X<W.heap.size)(hn:¬oz y m X):SX X dd W':=by
 have e:=u.fx.block X hX hn;unfold SX World.cell? at h ⊢;simpa [e]using h
theorem Ku {X D:Nat} {dd:Int} {w:World}(h:SX X dd w)(hn:X≠D)(v0 v1 v2 v3 v4 v5 v6:Value):SX X dd(((((((w.setCell⟨D,0,none⟩v0).setCell⟨D,1,none⟩v1).setCell⟨D,2,none⟩v2).setCell⟨D,3,none⟩v3).setCell⟨D,4,none⟩v4).setCell⟨D,5,none⟩v5).setCell⟨D,6,none⟩v6):=by
 have e:=yJ(w:=w)(v0:=v0)(v1:=v1)(v2:=v2)(v3:=v3)(v4:=v4)(v5:=v5)(v6:=v6)hn;unfold SX World.cell? at h ⊢;simpa only [e]using h
theorem N9 {w0 W:World} {n i:Nat} {y:MG} {m:aK}(hs:SQ w0 n i y m W) {k:Nat}(hk:k<n)(UX:n≤6) {bb:Nat} {v:Value} {L:List(Rt×Value)}(hl:nJ bb v L W)(ho:∀j,Ht v L j→¬oz y m j)(h8:L.length≤8)(hok:∀p∈L,p.1.Ok)(hnx:∀p∈L,NxF m n k p.1):
  Calls Tryz.prog 16 #[.pointer(some⟨y.G,0,none⟩),.int .i64 n,.int .i64 k,v]W fun e w'=>e=.returned(.bool true)∧MM y m w'∧MU y m y m W w':=by
 obtain⟨ao,c,rfl,_⟩:=ak hl.row;have Gx:Hid(MM y m W∧MU y m y m W W):=hide⟨hs.mm,MU.refl _ _ _⟩;have hq:=hide hs;replace hl:=hide hl;clear hs;go_enter Tryz.func16,Tryz.ntmps16
 go_wp2_with fail
 go_loopw [9](fun i wr=>∃(t:Nat),t≤L.length∧i=.int .i64 t∧Hid(MM y m wr∧MU y m y m W wr))(fun i _=>L.length - (intOf i).toNat)
 case atStart=>exact⟨0,Nat.zero_le _,rfl,Gx⟩
 case round=>
  clear Gx;obtain⟨t,ht,rfl,hmu⟩:=hrel;by_cases htl:t<L.length
  ·have hti:(t:Int)<(L.length:Int):=by omega
   obtain⟨⟨x,u⟩,hx⟩:∃p,L[t]?=some p:=⟨_,List.getElem?_eq_getElem htl⟩;have hxm:=List.mem_of_getElem? hx;obtain⟨g,c',hg,_⟩:=bS hl.out.row(by omega);cases hg;have hlr:nJ bb(.slice(some⟨g,0,none⟩)L.length c)L wr:=hl.out.at' fun k hk=>hmu.out.2.fx.block k(hl.out.lt hk).2(ho k hk);obtain⟨ax,cx,rfl,k0,k1,k2,k3,k4,k5,k6⟩:=uK hlr hx;have hxo:=hok _ hxm;have Ob:=hnx _ hxm;dsimp only at hxo Ob;have Ie:=hide(hq.out.JN hmu.out.1 hmu.out.2);have hgo:Hid(∀W',Below wr.heap.size wr W'→∃(t':Nat),t'≤L.length∧(.int .i64((t:Int)+1):Value)=.int .i64 t'∧Hid(MM y m W'∧MU y m y m W W')):=hide fun W' hb=>⟨t+1,by omega,by simp,hide⟨hmu.out.1.later hb,hmu.out.2.post hb⟩⟩;have SC:Hid(∀W1 W',Below wr.heap.size wr W1→MM y m W'→MU y m y m W1 W'→∃(t':Nat),t'≤L.length∧(.int .i64((t:Int)+1):Value)=.int .i64 t'∧Hid(MM y m W'∧MU y m y m W W')):=hide fun W1 W' hb hm hu=>⟨t+1,by omega,by simp,hide⟨hm,(hmu.out.2.post hb).trans hu⟩⟩;have hbX:Below wr.heap.size wr(wr.alloc(.cells #[.int .u32 x.dest,.int .u32 x.seq,.int .i64 x.hops,.int .u32 x.next,.bool x.valid,.int .u64 x.exp,.slice ax x.bB.length cx]38)):=(Below.refl _ _).alloc(Nat.le_refl _)_;have hX:=heap_alloc_new wr(.cells #[.int .u32 x.dest,.int .u32 x.seq,.int .i64 x.hops,.int .u32 x.next,.bool x.valid,.int .u64 x.exp,.slice ax x.bB.length cx]38);clear hlr hl hmu hx hxm hok hnx ho;have hv0:Hid(∃b,x.valid=b):=⟨_,rfl⟩;obtain⟨vb,hvb⟩:=hv0.out;cases vb with
   |false=>
    have hgo':=hide(hgo.out _ hbX);rw [hvb]at hgo' k4;clear hX hbX hgo SC Ie hq Ob hxo hv0;go_wp2
    go_roundw
    case rel=>exact hgo'.out
    case measure=>exact jg htl
   |true=>
    obtain⟨i1,hi1,hik,hdd⟩:=Ob.dst;obtain⟨j,hj,hjk,hnn,hor⟩:=Ob.nx hvb;have Ju:=hide hor;obtain⟨nx,Sm⟩:∃nx,x.next=nx:=⟨_,rfl⟩;obtain⟨dd,SL⟩:∃dd,x.dest=dd:=⟨_,rfl⟩;rw [Sm]at k3 hX hbX hnn Ju;rw [SL]at k0 hX hbX hdd Ju;rw [hvb]at k4 hX hbX;have b0:0≤nx∧nx≤60:=by omega
    have b1:0≤dd∧dd≤60:=by omega
    have q1:nx / 10=(j:Int)+1:=by omega
    have q2:nx%10=0:=by omega
    have q3:dd / 10=(i1:Int)+1:=by omega
    obtain⟨b00,b01⟩:=b0;obtain⟨b10,b11⟩:=b1;have q4:((j:Int)==(k:Int))=false:=by simp;omega
    have q5:((i1:Int)==(k:Int))=false:=by simp;omega
    have q6:decide((j:Int)<0)=false:=decide_eq_false(by omega);have q7:decide(n≤j)=false:=decide_eq_false(by omega);replace Sm:=hide Sm;replace SL:=hide SL;replace hvb:=hide hvb;clear hnn hdd hor hv0;obtain⟨rr,hrr⟩:∃rr,m.runs(j:Int)=rr:=⟨_,rfl⟩;have YE:=Ie.out.later hbX;have UF:=hide(Ew YE.mm(j:Int));rw [hrr]at UF Ju;go_upto_region 9 with fail
    clear k0 k1 k2 k3 k4 k5 k6 q1 q2 q3 q4 q5 q6 q7;generalize World.alloc _ _=wX at hX hbX YE UF ⊢;obtain⟨X,hXe⟩:∃X,wr.heap.size=X:=⟨_,rfl⟩;rw [hXe]at hX ⊢;have aav:=hide(hgo.out _ hbX);replace hXe:=hide hXe;clear hgo;have p0:=cell_of_row _ _ 0 _ _ _ hX;have p3:=cell_of_row _ _ 3 _ _ _ hX;simp only [List.getElem?_toArray,List.getElem?_cons_succ,List.getElem?_cons_zero]at p0 p3;by_cases hnd:nx=dd
    ·subst hnd;clear Ju hbX YE hX hxo Ob SC hrr;go_wp2_with(go_at_call 13;refine UF.out.mono ?_;rintro e w7⟨rfl,hw7⟩;have hw8:=hw7.symm;subst hw8;clear hw7)
     go_roundw
     case rel=>exact aav.out
     case measure=>exact jg htl
    ·have q8:(nx==dd)=false:=by simp [hnd]
     cases rr with
     |false=>
      clear Ju hbX YE hX hxo Ob SC hrr;go_wp2_with(go_at_call 13;refine UF.out.mono ?_;rintro e w7⟨rfl,hw7⟩;have hw8:=hw7.symm;subst hw8;clear hw7)
      go_roundw
      case rel=>exact aav.out
      case measure=>exact jg htl
     |true=>
      obtain⟨z,hz,acY⟩:∃z,aJ(m.tab j)dd=some z∧PT z x=true:=by
       rcases Ju.out with h|h|h
       ·exact absurd h hnd
       ·cases h
       ·exact h
      have hXn:¬oz y m X:=fun h=>by
       have h1:=Ie.out.mm.lt h;have h2:=hXe.out;omega
      have HT:=hide(Qg YE hj hz);have hXl:=aD hX;go_upto_region 11 with(go_at_call 13;refine UF.out.mono ?_;rintro e w7⟨rfl,hw7⟩;have hw8:=hw7.symm;subst hw8;clear hw7)
      go_cut [13,14]from 73 to 81(YP z y m wX)
      case first=>
       have hSX:SX X dd wX.drew:=p0;refine jI(SX X dd) [](by kernel_rfl)hSX(fun hHeld=> ?_);clear p0 p3;refine aB(i:=0)(v:=?hv0)rfl(by kernel_rfl)(by kernel_rfl)(by kernel_rfl)(by kernel_rfl)(fun _ _ _ h=>h)(Or.inl⟨by rfl,?hy0⟩)hHeld ?hr0
       case hy0=>
        rintro w5 PL;go_simp
        try with_reducible rfl
       try simp only [Act.put,List.setIfInBounds_toArray,List.set_cons_zero,List.set_cons_succ]
       refine aB(i:=1)(v:=?hv1)rfl(by kernel_rfl)(by kernel_rfl)(by kernel_rfl)(by kernel_rfl)(fun _ _ _ h=>h)(Or.inl⟨by rfl,?hy1⟩)hHeld ?hr1
       case hy1=>
        rintro w5 PL;go_simp
        try with_reducible rfl
       try simp only [Act.put,List.setIfInBounds_toArray,List.set_cons_zero,List.set_cons_succ]
       refine aB(i:=3)(v:=?hv3)rfl(by kernel_rfl)(by kernel_rfl)(by kernel_rfl)(by kernel_rfl)(fun _ _ _ h=>h)(Or.inl⟨by rfl,?hy3⟩)hHeld ?hr3
       case hy3=>
        rintro w5 PL;go_simp
        try with_reducible rfl
       try simp only [Act.put,List.setIfInBounds_toArray,List.set_cons_zero,List.set_cons_succ]
       refine aB(i:=4)(v:=?hv4)rfl(by kernel_rfl)(by kernel_rfl)(by kernel_rfl)(by kernel_rfl)(fun _ _ _ h=>h)(Or.inl⟨by rfl,?hy4⟩)hHeld ?hr4
       case hy4=>
        rintro w5 PL;go_simp
        try with_reducible rfl
       try simp only [Act.put,List.setIfInBounds_toArray,List.set_cons_zero,List.set_cons_succ]
       refine yx(i:=2)(j:=9)(by kernel_rfl)rfl rfl(fun K hK=> ?_)(fun K hK=> ?_)
       ·have hbd:Below wX.heap.size wX wX.drew:=(Below.refl _ _).drew;go_simp
        go_at_call 12
        refine(HT.out _(hbd)).mono ?_;rintro e w7⟨v,rfl,UY,hu7,HL⟩;have hu:=(MU.below(hbd)).trans hu7;have hS7:=Yo hSX hu7 hXl hXn;have hX7:X<w7.heap.size:=by have:=hu.fx.size;omega
        go_simp
        refine hK.out _ _(fun _=>hS7) ?_;clear hK K;refine yx(i:=5)(j:=9)(by kernel_rfl)rfl rfl(fun K2 hK2=> ?_)(fun K2 hK2=> ?_)
        ·go_simp
         go_at_call 14
         refine(HL _(Below.refl _ _)).mono ?_;rintro e w8⟨ao,a,c,rfl,ll⟩;have Oe:=UY.later ll;have hu8:=hu.post ll;have zH:SX X dd w8:=cell_later hS7 ll hX7;have hX8:X<w8.heap.size:=by have:=ll.size;omega
         go_simp
         refine hK2.out _ _(fun _=>zH) ?_;clear hK2 K2;refine aB(i:=6)(v:=?acg)rfl(by kernel_rfl)(by kernel_rfl)(by kernel_rfl)(by kernel_rfl)(fun _ _ _ h=>h)(Or.inl⟨by rfl,?RY⟩)zH ?acp
         case RY=>
          rintro w5 PL;go_simp
          try with_reducible rfl
         try simp only [Act.put,List.setIfInBounds_toArray,List.set_cons_zero,List.set_cons_succ]
         refine aB(i:=7)(v:=?acf)rfl(by kernel_rfl)(by kernel_rfl)(by kernel_rfl)(by kernel_rfl)(fun _ _ _ h=>h)(Or.inl⟨by rfl,?RX⟩)zH ?aco
         case RX=>
          rintro w5 PL;go_simp
          try with_reducible rfl
         try simp only [Act.put,List.setIfInBounds_toArray,List.set_cons_zero,List.set_cons_succ]
         refine aB(i:=8)(v:=?ace)rfl(by kernel_rfl)(by kernel_rfl)(by kernel_rfl)(by kernel_rfl)(fun _ _ _ h=>h)(Or.inl⟨by rfl,?RV⟩)zH ?acn
         case RV=>
          rintro w5 PL;go_simp
          try with_reducible rfl
         try simp only [Act.put,List.setIfInBounds_toArray,List.set_cons_zero,List.set_cons_succ]
         refine df(i:=9)(by kernel_rfl)rfl(fun K14 adj=> ?_);have YR:SX X dd(w8.alloc(.cells #[.int .u32 0,.int .u32 0,.int .i64 0,.int .u32 0,.bool false,.int .u64 0,.slice none 0 0]38)):=cell_later zH((Below.refl _ _).alloc(Nat.le_refl _)_)hX8;go_simp
         refine adj.out _ _(fun _=>YR) ?_;clear adj K14;refine df(i:=10)(by kernel_rfl)rfl(fun K15 adi=> ?_);go_simp
         refine adi.out _ _(fun _=>by first|exact YR|exact cell_later zH((Below.refl _ _).alloc(Nat.le_refl _)_)hX8) ?_;clear adi K15;refine df(i:=11)(by kernel_rfl)rfl(fun K16 adh=> ?_);go_simp
         refine adh.out _ _(fun _=>cell_later zH((Below.refl _ _).alloc(Nat.le_refl _)_)hX8) ?_;clear adh K16;refine jA(by kernel_rfl) ?_ _;go_wp2_with fail
         go_meet
         exact P8 Oe hu8
        ·have hbz:Below w7.heap.size w7(w7.alloc(.cells #[.int .u32 0,.int .u32 0,.int .i64 0,.int .u32 0,.bool false,.int .u64 0,.slice none 0 0]38)):=(Below.refl _ _).alloc(Nat.le_refl _)_;have hSz:SX X dd(w7.alloc(.cells #[.int .u32 0,.int .u32 0,.int .i64 0,.int .u32 0,.bool false,.int .u64 0,.slice none 0 0]38)):=cell_later hS7 hbz hX7;have hYz:=dP.new bW(.slice none 0 0)w7;go_simp
         refine hK2.out _ _(fun _=>hSz) ?_;clear hK2 K2;refine df(i:=5)(by kernel_rfl)rfl(fun K17 adg=> ?_);go_simp
         go_at_call 14
         refine(HL _(hbz)).mono ?_;rintro e w8⟨ao,a,c,rfl,ll⟩;have Oe:=(UY.later hbz).later ll;have hu8:=(hu.post hbz).post ll;have hXz:X<(w7.alloc(.cells #[.int .u32 0,.int .u32 0,.int .i64 0,.int .u32 0,.bool false,.int .u64 0,.slice none 0 0]38)).heap.size:=by have:=hbz.size;omega
         have zH:SX X dd w8:=cell_later hSz ll hXz;have hX8:X<w8.heap.size:=by have:=ll.size;omega
         have aaK:wX.heap.size≤w7.heap.size:=hu.fx.size;have hYn:¬oz y m w7.heap.size:=fun h=>by have:=UY.lt h;omega
         have xR:dP w7.heap.size bW(.slice none 0 0)w8:=hYz.later ll;have aeX:=xR.lt;go_simp
         refine adg.out _ _(fun _=>zH) ?_;clear adg K17;refine aB(i:=6)(v:=?aeg)rfl(by kernel_rfl)(by kernel_rfl)(by kernel_rfl)(by kernel_rfl)(fun _ _ _ h=>h)(Or.inl⟨by rfl,?Z6⟩)zH ?aet
         case Z6=>
          rintro w5 PL;go_simp
          try with_reducible rfl
         try simp only [Act.put,List.setIfInBounds_toArray,List.set_cons_zero,List.set_cons_succ]
         refine aB(i:=7)(v:=?aef)rfl(by kernel_rfl)(by kernel_rfl)(by kernel_rfl)(by kernel_rfl)(fun _ _ _ h=>h)(Or.inl⟨by rfl,?Z5⟩)zH ?aes
         case Z5=>
          rintro w5 PL;go_simp
          try with_reducible rfl
         try simp only [Act.put,List.setIfInBounds_toArray,List.set_cons_zero,List.set_cons_succ]
         refine aB(i:=8)(v:=?aee)rfl(by kernel_rfl)(by kernel_rfl)(by kernel_rfl)(by kernel_rfl)(fun _ _ _ h=>h)(Or.inl⟨by rfl,?Z4⟩)zH ?aer
         case Z4=>
          rintro w5 PL;go_simp
          try with_reducible rfl
         try simp only [Act.put,List.setIfInBounds_toArray,List.set_cons_zero,List.set_cons_succ]
         obtain⟨d0,d1,d2,d3,d4,d5,d6⟩:=xR.cell;have q0:=xR.free 0;have q1:=xR.free 1;have q2:=xR.free 2;have q3:=xR.free 3;have q4:=xR.free 4;have q5:=xR.free 5;have q6:=xR.free 6;replace xR:=hide xR;refine df(i:=10)(by kernel_rfl)rfl(fun K21 adf=> ?_);go_simp
         clear d0 d1 d2 d3 d4 d5 d6 q0 q1 q2 q3 q4 q5 q6;have YR:=fun v0 v1 v2 v3 v4 v5 v6=>Ku(D:=w7.heap.size)zH(by omega)v0 v1 v2 v3 v4 v5 v6;refine adf.out _ _(fun _=>YR _ _ _ _ _ _ _) ?_;clear adf K21;refine df(i:=11)(by kernel_rfl)rfl(fun K22 ade=> ?_);go_simp
         refine ade.out _ _(fun _=>YR _ _ _ _ _ _ _) ?_;clear ade K22;refine jA(by kernel_rfl) ?_ _;go_wp2_with fail
         go_meet
         exact P7 Oe hu8 aaK hYn xR.out
       ·have hbd:Below wX.heap.size wX(wX.drew.alloc(.cells #[.int .u32 0,.int .u32 0,.int .i64 0,.int .u32 0,.bool false,.int .u64 0,.slice none 0 0]38)):=((Below.refl _ _).drew).alloc(by simp)_;have hSz:SX X dd(wX.drew.alloc(.cells #[.int .u32 0,.int .u32 0,.int .i64 0,.int .u32 0,.bool false,.int .u64 0,.slice none 0 0]38)):=cell_later(W:=wX)hSX hbd hXl;have hYz:=dP.new bW(.slice none 0 0)wX.drew;have hXz:X<(wX.drew.alloc(.cells #[.int .u32 0,.int .u32 0,.int .i64 0,.int .u32 0,.bool false,.int .u64 0,.slice none 0 0]38)).heap.size:=by have:=hbd.size;omega
        have ac1:¬oz y m wX.heap.size:=fun h=>by have:=YE.mm.lt h;omega
        go_simp
        refine hK.out _ _(fun _=>hSz) ?_;clear hK K;refine df(i:=2)(by kernel_rfl)rfl(fun K23 adc=> ?_);go_simp
        go_at_call 12
        refine(HT.out _(hbd)).mono ?_;rintro e w7⟨v,rfl,UY,hu7,HL⟩;have hu:=(MU.below(hbd)).trans hu7;have hS7:=Yo hSz hu7 hXz hXn;have hX7:X<w7.heap.size:=by have:=hu.fx.size;omega
        have hY7:dP wX.heap.size bW(.slice none 0 0)w7:=hYz.block(hu7.fx.block _ hYz.lt ac1);go_simp
        refine adc.out _ _(fun _=>hS7) ?_;clear adc K23;refine df(i:=5)(by kernel_rfl)rfl(fun K24 adb=> ?_);go_simp
        go_at_call 14
        refine(HL _(Below.refl _ _)).mono ?_;rintro e w8⟨ao,a,c,rfl,ll⟩;have Oe:=UY.later ll;have hu8:=hu.post ll;have zH:SX X dd w8:=cell_later hS7 ll hX7;have hX8:X<w8.heap.size:=by have:=ll.size;omega
        have aaK:wX.heap.size≤wX.heap.size:=Nat.le_refl _;have hYn:=ac1;have xR:dP wX.heap.size bW(.slice none 0 0)w8:=hY7.later ll;have aeX:=xR.lt;go_simp
        refine adb.out _ _(fun _=>zH) ?_;clear adb K24;refine aB(i:=6)(v:=?hv25)rfl(by kernel_rfl)(by kernel_rfl)(by kernel_rfl)(by kernel_rfl)(fun _ _ _ h=>h)(Or.inl⟨by rfl,?hy25⟩)zH ?afQ
        case hy25=>
         rintro w5 PL;go_simp
         try with_reducible rfl
        try simp only [Act.put,List.setIfInBounds_toArray,List.set_cons_zero,List.set_cons_succ]
        refine aB(i:=7)(v:=?afG)rfl(by kernel_rfl)(by kernel_rfl)(by kernel_rfl)(by kernel_rfl)(fun _ _ _ h=>h)(Or.inl⟨by rfl,?ad8⟩)zH ?afP
        case ad8=>
         rintro w5 PL;go_simp
         try with_reducible rfl
        try simp only [Act.put,List.setIfInBounds_toArray,List.set_cons_zero,List.set_cons_succ]
        refine aB(i:=8)(v:=?hv27)rfl(by kernel_rfl)(by kernel_rfl)(by kernel_rfl)(by kernel_rfl)(fun _ _ _ h=>h)(Or.inl⟨by rfl,?hy27⟩)zH ?afO
        case hy27=>
         rintro w5 PL;go_simp
         try with_reducible rfl
        try simp only [Act.put,List.setIfInBounds_toArray,List.set_cons_zero,List.set_cons_succ]
        obtain⟨d0,d1,d2,d3,d4,d5,d6⟩:=xR.cell;have q0:=xR.free 0;have q1:=xR.free 1;have q2:=xR.free 2;have q3:=xR.free 3;have q4:=xR.free 4;have q5:=xR.free 5;have q6:=xR.free 6;replace xR:=hide xR;refine df(i:=10)(by kernel_rfl)rfl(fun K28 ada=> ?_);go_simp
        clear d0 d1 d2 d3 d4 d5 d6 q0 q1 q2 q3 q4 q5 q6;have YR:=fun v0 v1 v2 v3 v4 v5 v6=>Ku(D:=wX.heap.size)zH(by omega)v0 v1 v2 v3 v4 v5 v6;refine ada.out _ _(fun _=>YR _ _ _ _ _ _ _) ?_;clear ada K28;refine df(i:=11)(by kernel_rfl)rfl(fun K29 ac9=> ?_);go_simp
        refine ac9.out _ _(fun _=>YR _ _ _ _ _ _ _) ?_;clear ac9 K29;refine jA(by kernel_rfl) ?_ _;go_wp2_with fail
        go_meet
        exact P7 Oe hu8 aaK hYn xR.out
      case rest=>
       obtain⟨Y,ay,ny,cy,rfl,rfl,hY,hmY,huY⟩:=hcut;have YO:=(huY.fx.block X hXl hXn).trans hX;have hzo:=YE.Yn hj z(bN hz).1;have HA:=fun W'=>zq z x ay ax ny cy x.bB.length cx hzo hxo W';rw [SL.out,Sm.out,hvb.out,acY]at HA;replace HA:=hide HA;have hfin:=hide fun w9(gy:Below wc.heap.size wc w9)=>SC.out wX w9 hbX(hmY.later gy)(huY.post gy);clear p0 p3;have p0:=cell_of_row _ _ 0 _ _ _ YO;have p1:=cell_of_row _ _ 1 _ _ _ YO;have p2:=cell_of_row _ _ 2 _ _ _ YO;have p3:=cell_of_row _ _ 3 _ _ _ YO;have p4:=cell_of_row _ _ 4 _ _ _ YO;have p5:=cell_of_row _ _ 5 _ _ _ YO;have p6:=cell_of_row _ _ 6 _ _ _ YO;simp only [List.getElem?_toArray,List.getElem?_cons_succ,List.getElem?_cons_zero]at p0 p1 p2 p3 p4 p5 p6;obtain⟨y0,y1,y2,y3,y4,y5,y6⟩:=hY.cell;clear YO hY hmY huY hX hzo hxo Ob acY hz HT UF Ju hbX YE SC Ie hrr Sm SL hvb hXe hXn hXl aav hq;go_wp2_with(go_at_call 15;refine(HA.out _).mono ?_;rintro e w9⟨rfl,gy⟩;have hf9:=hide(hfin.out _ gy);clear gy)
       go_roundw
       case rel=>exact hf9.out
       case measure=>exact jg htl
  ·obtain rfl:t=L.length:=by omega
   clear hl hq;go_wp2
   go_ret
   exact⟨rfl,hmu.out⟩
theorem CM.few {G:Int} {m:aK}(h:CM G m):∀(i:Nat)s,m.S[i]?=some s→s.nd=none→Yh(jl s.aY):=fun _ _ hs _=>abh h hs
def CS(w:World)(n G B k:Nat)(W:World):Prop:=∃(c:Nat)(y:MG)(m:aK)(Ls:List(Value×List(Rt×Value))),c≤k∧y.G=G∧SQ w n c y m W∧CB n c m(Ls.map fun x=>x.2.map(·.1))∧BM w.heap.size B Ls y m W∧∀x∈Ls,x.2.length≤8∧∀p∈x.2,p.1.Ok
theorem CS.mono {w:World} {n G B k k':Nat} {W:World}(h:CS w n G B k W)(hk:k≤k'):CS w n G B k' W:=by
 obtain⟨c,y,m,Ls,h1,h2⟩:=h;exact⟨c,y,m,Ls,Nat.le_trans h1 hk,h2⟩
theorem CS.below {w:World} {n G B k:Nat} {W:World}(h:CS w n G B k W):Below w.heap.size w W:=by
 obtain⟨c,y,m,Ls,h1,h2,h3,_⟩:=h;exact h3.bl
theorem abl {w:World} {n i:Nat} {y:MG} {m:aK} {W:World}(h:SQ w n i y m W):BM w.heap.size W.heap.size(List.replicate n(.slice none 0 0,[]))y m(W.alloc(.cells(List.replicate n(Value.slice none 0 0)).toArray 31)):=by
 refine⟨h.bl.size,?_,fun x hx=> ?_,fun x hx k hk=> ?_⟩
 ·rw [List.map_replicate];exact heap_alloc_new _ _
 ·obtain⟨_,rfl⟩:=List.mem_replicate.1 hx;exact⟨⟨rfl,.inl⟨rfl,rfl⟩⟩,fun p hp=>by cases hp⟩
 ·obtain⟨_,rfl⟩:=List.mem_replicate.1 hx;rcases hk with hk|⟨p,hp,_⟩
  ·cases hk
  ·cases hp
theorem abb {w:World} {n:Nat}(hn:n≤6) {y:MG} {W:World}(h:SQ w n 0 y(aK.new(ku n))W):CS w n y.G W.heap.size 0(W.alloc(.cells(List.replicate n(Value.slice none 0 0)).toArray 31)):=by
 refine⟨0,y,_,List.replicate n(.slice none 0 0,[]),Nat.le_refl _,rfl,h.later((Below.refl _ _).alloc(Nat.le_refl _)_),?_,abl h,fun x hx=> ?_⟩
 ·rw [List.map_replicate];exact CB.new hn
 ·obtain⟨_,rfl⟩:=List.mem_replicate.1 hx;exact⟨Nat.zero_le _,fun p hp=>by cases hp⟩
theorem RU:(Tryz.prog.info? 31).map(fun i=>(i.zero,i.size,i.bytes))=some(some(.slice none 0 0),1,24):=by kernel_rfl
theorem NZ(n:Nat)(hn:n≤6)(W:World):(Instr.makeSlice 26(.int .i64(n:Int))(.int .i64(n:Int))).run Tryz.prog W=.ok(.slice(some⟨W.heap.size,0,none⟩)n n)(W.alloc(.cells(List.replicate n(Value.slice none 0 0)).toArray 31)):=by
 obtain⟨i0,hi,hz0,hz1,hz2⟩:=info_parts RU;have h:=run_make(P:=Tryz.prog)W 26 31 i0(.slice none 0 0)Tryz.underlying26 hi hz0 .i64 .i64(n:Int)(n:Int)(by omega)(by omega)(by rw [hz2];omega)(by omega);have e:madeCells(Value.slice none 0 0).cells((n:Int).toNat * i0.size)=(List.replicate n(Value.slice none 0 0)).toArray:=by
  rw [hz1,Int.toNat_natCast,Nat.mul_one];have h1:=toList_madeCells_one(Value.slice none 0 0)n;rw [←h1];rfl
 rw [e]at h;simpa using h
end Go.Proofs.YtakaadcpaeiccabGreat
