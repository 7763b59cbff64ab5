import Derived.Test.YtakaadcpaeiccabGreatV09
set_option maxHeartbeats 8000000
set_option maxRecDepth 100000
namespace Go.Proofs.YtakaadcpaeiccabGreat
open Go.RowKit Go.Maps
open Hp
variable{M T:Nat}{v:Value}{W:World}
theorem Cm(w:World):
  Calls Tryz.prog 47 #[] w λe w'=>e=.returned (.pointer (some ⟨w.heap.size+1,0,none⟩))∧Below w.heap.size w w'∧TR w.heap.size (w.heap.size+1) w.heap.size 0 [] (.slice none 0 0) w':=by
 have hmm:=@run_makeMap Tryz.prog;have hm:=kQ.made w;have hB:Below w.heap.size w ((w.alloc (.map #[] 0)).alloc (.cells #[.slice none 0 0,.map (some w.heap.size),.int .i64 0] 165)):=(bC).alloc (by simp) _;have hT:v_ (w.heap.size+1) w.heap.size 0 (.slice none 0 0) ((w.alloc (.map #[] 0)).alloc (.cells #[.slice none 0 0,.map (some w.heap.size),.int .i64 0] 165)):=by
  have h:=bV (w.alloc (.map #[] 0)) (.cells #[.slice none 0 0,.map (some w.heap.size),.int .i64 0] 165);rw[World.size_alloc]at h;exact h
 have hm2:=hm.kept (ku (w.alloc (.map #[] 0)) (.cells #[.slice none 0 0,.map (some w.heap.size),.int .i64 0] 165) none) (by simp);go_enter Tryz.func47,Tryz.ntmps47;go_wp2;go_ret;exact⟨rfl,hB,hT,⟨rfl,.inl ⟨rfl,rfl⟩⟩,⟨_,hm2,⟨λi x hx=>by simp at hx,λk i hk=>by cases hk⟩⟩,λx hx=>by simp at hx,Nat.le_succ _,aB _⟩
theorem aeQ{h:List Tm}{f:Int->Option Nat}(p:PI h f){k:Int}(hk:∀x∈h,x.2.1≠k):f k=none:=by
 cases e:f k with
 |none=>rfl
 |some i=>
  obtain⟨x,hx,he⟩:=p.2 k i e;exact absurd he (hk x (iV hx))
theorem v_.set2{last:Int}(h:v_ T M last v W)(l:Int):v_ T M l v (W.setCell ⟨T,2,none⟩ (.int .i64 l)):=by
 unfold v_ at h ⊢;simp[World.setCell,d_,h]
theorem v_.alloc{last:Int}(h:v_ T M last v W)(o:Obj):v_ T M last v (W.alloc o):=h.kept (ku W o none) (by simp)
theorem v_.drew{last:Int}(h:v_ T M last v W):v_ T M last v W.drew:=h
theorem Ki(W:World)(x:Tm):∀(j:Nat) (u:Value),(K6 x)[j]?=some u->(W.alloc (mM x)).cell? ((⟨W.heap.size,0,none⟩:Addr).add j)=some u:=by
 intro j u hj;have hh:=bV W (mM x)
 match j,hj with
 |0,hj=>exact(aJ _ _ 0 _ _ _ hh).trans hj
 |1,hj=>exact(aJ _ _ 1 _ _ _ hh).trans hj
 |2,hj=>exact(aJ _ _ 2 _ _ _ hh).trans hj
 |j+3,hj=>simp[K6]at hj
theorem adz(x:Tm):∀u∈K6 x,u.oneCell'=true:=by
 intro u hu;simp only[K6,fE,List.not_mem_nil,or_false]at hu;rcases hu with rfl|rfl|rfl<;>rfl
theorem Yk(base T M:Nat)(last:Int)(h:List Tm)(v:Value)(w:World)(r:TR base T M last h v w)(hn:h.length<=900000)(hb:Heap h)(l0:0<=last)(l1:last<=4000000000000000000)(hid:∀x∈h,x.2.1<=last)(tm what:Int)(a0:0<=tm∧tm<18446744073709551616)(b0:oV what)(hbs:base<=w.heap.size):
  Calls Tryz.prog 154 #[.pointer (some ⟨T,0,none⟩),.int .u64 tm,.int .i64 what] w λe w'=>e=.returned (.int .i64 (last+1))∧∃h' v',TR base T M (last+1) h' v' w'∧Fr T M v w w'∧(v'.ownBlock=v.ownBlock∨∀k,v'.ownBlock=some k->w.heap.size<=k)∧h'.Perm (h++ [(tm,last+1,what)])∧Heap h':=by
 obtain⟨i0,hi,hz0,hz1,hz2⟩:=info_parts WV;obtain⟨c0,c1,c2⟩:=r.blk.cell;have ft:=r.blk.free;have hT:=r.blk.lt;have hap:=r.apart;obtain⟨f,hm,hp⟩:=r.map;have hg2:w.grownBy (w.setCell ⟨T,2,none⟩ (.int .i64 (last+1))) (some T):=eF (mF _ _) 2 _;have hBA:=r.blk.set2 (last+1);have Sz:=r.row.kept hg2 (.inr (Ne.symm hap.2.1));have hmA:=hm.kept hg2 (by simpa using hap.1.symm);have hFA:=Fr.grown (T:=T) (M:=M) (v:=v) hg2 (.inr (.inl rfl));have hsz:w.heap.size<=(w.setCell ⟨T,2,none⟩ (.int .i64 (last+1))).heap.size:=hg2.size;have hfn:=aeQ hp (k:=last+1) (λx hx=>by have:=hid x hx;omega);have hpA:=hp.add (x:=(tm,last+1,what)) hfn;have hok:∀x∈h++ [(tm,last+1,what)],TOk x:=by
  intro x hx;rcases fu.1 hx with hx|hx
  ·exact r.ok x hx
  ·rw[fM]at hx;subst hx;exact⟨a0,by unfold oV;dsimp only;omega,b0⟩
 have hbT:=r.bT;have hbM:=r.bM;have Xy:=Un hb (tm,last+1,what);have hll:(h++ [(tm,last+1,what)]).length=h.length+1:=by rw[bU,List.length_singleton]
 have hTC:TC (h++ [(tm,last+1,what)])=TC h++K6 (tm,last+1,what):=by
  rw[Pt];rfl
 obtain⟨ao,c,hv,_⟩:=ax r.row;clear r hm hp hg2;subst hv;go_enter Tryz.func154,Tryz.ntmps154;go_wp2_with fail;generalize World.setCell _ _ _=A at hBA Sz hmA hFA hsz ⊢;clear c0 c1 c2 ft;obtain⟨b0',b1,b2⟩:=hBA.cell;have ft:=hBA.free;have haT:=λo=>(hBA.alloc o).cell.1;have haL:=λo=>(hBA.alloc o).cell.2.2;have hk1:Hid (h.length+1<=maxLen):=by show _<=_;unfold maxLen;omega
 have hk2:Hid ((h.length+1)* 24<=140737488355328):=by show _<=_;omega
 have jE:Hid (∀o:Obj,base<=(A.alloc o).drew.heap.size):=by
  intro o;show base<=(A.alloc o).heap.size;rw[World.size_alloc];omega
 have aaD:Hid (some T≠(Value.slice ao h.length c).ownBlock):=hap.2.1;go_region_law (refine gW rfl (.tmp 24) (.tmp 32) 163 rfl base 254 i0 (.agg #[.int .u64 0,.int .i64 0,.int .i64 0]) 3 24 Tryz.underlying163 hi hz0 hz1 hz2 rfl (by decide) (.slice ao h.length c) h.length (TC h) (by simp[Act.eval]) (Sz.alloc _).drew ⟨_,0,none⟩ 1 1 (K6 (tm,last+1,what)) (by simp[Act.eval]) rfl (Ki _ _) (adz _) hk1.out hk2.out (jE.out _) ?_;intro v7 w7 ig gQ hloc;obtain⟨g7,c7,rfl,afA⟩:=bZ ig (Nat.succ_pos _);have jq:=(hBA.alloc (mM (tm,last+1,what))).drew.kept gQ aaD.out;have hc7:=jq.cell.1;have pJ:=jq.free 0)
 all_goals
  have YF:(Value.slice (some ⟨g7,0,none⟩) (h.length+1) c7).ownBlock=(Value.slice ao h.length c).ownBlock∨∀k,(Value.slice (some ⟨g7,0,none⟩) (h.length+1) c7).ownBlock=some k->w.heap.size<=k:=by
   rcases hloc with e|e
   ·exact .inl e
   ·refine .inr λk hk=> ?_;rw[e]at hk;cases hk;exact dN hsz (by show A.heap.size<=(A.alloc _).heap.size;rw[World.size_alloc];omega)
  have hgo:A.grownBy (A.alloc (mM (tm,last+1,what))).drew none:=AJ (ku A _ none);have hmB:=(hmA.kept hgo (by simp)).kept gQ hap.2.2;have P_:=(hFA.trans (Fr.grown (T:=T) (M:=M) (v:=Value.slice ao h.length c) hgo (.inl rfl)) (.inl rfl)).trans (Fr.grown (T:=T) (M:=M) (v:=Value.slice ao h.length c) gQ (.inr (.inr (.inr rfl)))) (.inl rfl);have jQ:=jq.set (.slice (some ⟨g7,0,none⟩) (h.length+1) c7);have lF:w7.grownBy (w7.setCell ⟨T,0,none⟩ (.slice (some ⟨g7,0,none⟩) (h.length+1) c7)) (some T):=eF (mF _ _) 0 _;have aes:T≠g7:=by
   rintro rfl;rcases ig.2 with⟨he,_⟩|⟨_,_,_,he,_,hh,_⟩
   ·cases he
   ·cases he;unfold v_ at jq;rw[jq]at hh;simp at hh
  have FL:=ig.kept lF (.inr (by simp[Value.ownBlock];exact λe=>aes e.symm));have hm8:=hmB.kept lF (by simpa using hap.1.symm);have hF8:=P_.trans (Fr.grown (T:=T) (M:=M) (v:=Value.slice ao h.length c) lF (.inr (.inl rfl))) (.inl rfl);clear hc7 pJ jq ig gQ hgo hmB P_ lF haT haL b0' b1 b2 ft hBA Sz hmA hFA hloc;generalize World.setCell _ _ _=w8 at jQ FL hm8 hF8 ⊢;obtain⟨b0',b1,b2⟩:=jQ.cell;have hhl:oV ((h.length:Nat):Int):=by unfold oV;omega
  have acy:oV (last+1):=by unfold oV;omega
  obtain⟨w9,mY,Mi,fK⟩:=(show kQ w8.drew M f h.length from hm8).put (by unfold maxLen;omega) acy hhl;go_wp2_with fail;go_region
  have Xd:w8.grownBy w9 (some M):=⟨fK.os,fK.tape,fK.output,fK.size,fK.block⟩;rw[hfn]at Mi;simp only[Option.isSome_none,Bool.false_eq_true,if_false]at Mi;have aeE:M≠g7:=by
   rintro rfl;rcases FL.2 with⟨he,_⟩|⟨_,_,_,he,_,hh,_⟩
   ·cases he
   ·cases he;obtain⟨D,⟨es,clock,hmm,_⟩,_⟩:=hm8;rw[hmm]at hh;cases hh
  have r9:TR base T M (last+1) (h++ [(tm,last+1,what)]) (.slice (some ⟨g7,0,none⟩) (h.length+1) c7) w9:=by
   refine⟨jQ.kept Xd (by simpa using hap.1),?_,⟨_,?_,hpA⟩,hok,hbT,hbM⟩
   ·rw[hll,hTC];exact FL.kept Xd (.inr (by simp[Value.ownBlock];exact λe=>aeE e.symm))
   ·rw[hll];exact Mi
  have hF9:=hF8.trans (Fr.grown (T:=T) (M:=M) (v:=Value.slice ao h.length c) Xd (.inr (.inr (.inl rfl)))) (.inl rfl);clear jQ FL hm8 hF8 mY Mi fK Xd b0' b1 b2 hpA;go_wp2_with fail;refine(Gi base T M (last+1) _ _ _ r9 h.length (by rw[hll];omega) (by rw[hll];omega) Xy).mono ?_;rintro e Y5 ⟨rfl,h10,r10,acT,ach,acV⟩;have aec:h10.length=h.length+1:=by rw[ach.length_eq];exact hll
  have aeG:Heap h10:=acV.leaf (by omega);have aeI:=hF9.trans acT YF;obtain⟨b0',b1,b2⟩:=r10.blk.cell;clear r9 hF9 acT acV aec;go_wp2;go_ret;exact⟨rfl,h10,_,r10,aeI,YF,ach,aeG⟩
open Hp
theorem KU(base T M:Nat)(last:Int)(h:List Tm)(v:Value)(w:World)(r:TR base T M last h v w)(hn:h.length<=1000000)(hb:Heap h)(k:Int)(hk:oV k):
  Calls Tryz.prog 150 #[.pointer (some ⟨T,0,none⟩),.int .i64 k] w λe w'=>∃h' v',TR base T M last h' v' w'∧Fr T M v w w'∧v'.ownBlock=v.ownBlock∧Heap h'∧
   ((∃x,x.2.1=k∧e=.returned (.bool true)∧(x::h').Perm h)∨((∀x∈h,x.2.1≠k)∧e=.returned (.bool false)∧h'=h)):=by
 obtain⟨f,hm,hp⟩:=r.map;obtain⟨u,hr,hu⟩:=hm.look hk;obtain⟨c0,c1,c2⟩:=r.blk.cell;have hF:=Fr.refl T M v w;cases hf:f k with
 |none=>
  rw[hf]at hr;have hno:∀x∈h,x.2.1≠k:=by
   intro x hx e;obtain⟨i,hi,rfl⟩:=List.mem_iff_getElem.1 hx;have:=hp.1 i _ (bS hi);rw[e,hf]at this;cases this
  simp only[Option.isSome_none]at hr;clear hm hp hu hf;go_enter Tryz.func150,Tryz.ntmps150;go_wp2;go_ret;exact⟨h,v,r,hF,rfl,hb,.inr ⟨hno,rfl,rfl⟩⟩
 |some i=>
  rw[hf]at hr;obtain rfl:=hu i hf;obtain⟨x,hx,hxk⟩:=hp.2 k i hf;have hi:i<h.length:=by
   rcases Nat.lt_or_ge i h.length with a|a
   ·exact a
   ·rw[List.getElem?_eq_none a]at hx;cases hx
  have hax:=r_ hx;simp only[Option.isSome_some]at hr;clear hm hp hu hf hx;go_enter Tryz.func150,Tryz.ntmps150;go_wp2_with fail;refine(zU base T M last h v _ r i hi hn hb).mono ?_;rintro e w1 ⟨rfl,h',v',r1,hF1,hv1,hp1,hH1⟩;rw[hax]at hp1;clear hr r c0 c1 c2;go_wp2;go_ret;exact⟨h',v',r1,hF1,hv1,hH1,.inl ⟨x,hxk,rfl,hp1⟩⟩
theorem XJ(a b c:Int)(w:World):(Instr.field 254 (.agg #[.int .u64 a,.int .i64 b,.int .i64 c]) 2).run Tryz.prog w=.ok (.int .i64 c) w:=by kernel_rfl
def adl(base T M:Nat)(last:Int)(h:List Tm)(v:Value)(w:World)(now:Int)(e:Ending)(w':World):Prop:=
 ∃h' v',TR base T M last h' v' w'∧Fr T M v w w'∧v'.ownBlock=v.ownBlock∧Heap h'∧
   ((0<h.length∧(at' h 0).1<=now∧e=.returned (.tuple #[.int .i64 (at' h 0).2.2,.bool true])∧(at' h 0::h').Perm h)∨((h.length=0∨now<(at' h 0).1)∧e=.returned (.tuple #[.int .i64 0,.bool false])∧h'=h))
theorem Uv(base T M:Nat)(last:Int)(h:List Tm)(v:Value)(w:World)(r:TR base T M last h v w)(hn:h.length<=1000000)(hb:Heap h)(now:Int)(_n0:0<=now)(_n1:now<18446744073709551616):
  Calls Tryz.prog 114 #[.pointer (some ⟨T,0,none⟩),.int .u64 now] w λe w'=>adl base T M last h v w now e w':=by
 obtain⟨c0,c1,c2⟩:=r.blk.cell;have hF:=Fr.refl T M v w;by_cases h0:h.length=0
 ·obtain⟨ao,c,hv,_⟩:=ax r.row;have hz:((h.length:Int)==0)=true:=by rw[beq_iff_eq];omega
  rw[hv]at c0;go_enter Tryz.func114,Tryz.ntmps114;go_wp2;go_ret2;exact⟨h,v,r,hF,rfl,hb,.inr ⟨.inl h0,rfl,rfl⟩⟩
 ·have hpos:0<h.length:=by omega
  obtain⟨g,cap,rfl,hg⟩:=r.shape hpos;have hz:((h.length:Int)==0)=false:=by rw[beq_eq_false_iff_ne];omega
  have hin:(0:Int)<(h.length:Int):=by omega
  have hl:=oO h;have d0:=(r.row.cellAt (0 * 3) (by omega)).trans (sZ hpos).1;rw[Nat.zero_mul]at d0;by_cases hle:(at' h 0).1<=now
  ·have hd:decide (now<(at' h 0).1)=false:=eU (by omega);have yO:=XJ;clear hl;go_enter Tryz.func114,Tryz.ntmps114;go_wp2_with fail;refine(zU base T M last h _ _ r 0 hpos hn hb).mono ?_;rintro e w1 ⟨rfl,h',v',r1,hF1,hv1,hp1,hH1⟩;clear r c0 c1 c2 d0 hd;dsimp only[tmV];go_wp2;go_ret2;exact⟨h',v',r1,hF1,hv1,hH1,.inl ⟨hpos,hle,rfl,hp1⟩⟩
  ·have hd:decide (now<(at' h 0).1)=true:=f_ (by omega);clear hl;go_enter Tryz.func114,Tryz.ntmps114;go_wp2;go_ret2;exact⟨h,_,r,hF,rfl,hb,.inr ⟨.inr (by omega),rfl,rfl⟩⟩
variable{d:Int}{f h:Int->Option Nat}{u:Int->Value}{Q:List Sr}{B M Ms s:Nat}{q:Sr}{fn v:Value}{W W':World}
theorem KY(w:World):(zeroValue 172).run Tryz.prog w=.ok (.pointer none) w:=by kernel_rfl
theorem fG.obj(h:fG W M f s):∃es cl,W.heap[M]?=some (.map es cl):=by
 obtain⟨D,⟨es,cl,hm,_⟩,_⟩:=h;exact⟨es,cl,hm⟩
theorem fG.puts(h:fG W M f s)(hs:s<maxLen){k:Int}(hk:a_ k)(B:Nat):
  ∃W',(Instr.mapUpdate 119 (.map (some M)) (.int .u32 k) (.pointer (some ⟨B,0,none⟩))).run Tryz.prog W=.ok () W'∧fG W' M (eY f k (some B)) (if (f k).isSome then s else s+1)∧W.grownBy W' (some M):=by
 obtain⟨D,h1,h2,h3⟩:=h;obtain⟨W',hr,ho,ht⟩:=h1.store gu Tryz.underlying119 hs hk.key (o_ (some B));have hm:=h1.isMap;have htd:=h1.tidy gu;have hkl:WideAt.IsKeyLit (.int .u32 k):=by trivial
 have hsz:Maps.size (D.put (.int .u32 k) (.lit (.int .i64 (lK (some B)))))=if (f k).isSome then s else s+1:=by
  rw[size_put htd,(h3 k hk).1,h2]
 refine⟨W',hr,⟨_,?_,hsz,λx hx=> ?_⟩,ht.grown⟩
 ·have:=fU ho;rw[hsz]at this;exact this
 ·by_cases e:x=k
  ·subst e;refine⟨by rw[has_put_same hm hkl];simp[eY],?_⟩;rw[atKey_put_same hm hkl];simp[eY]
  ·have hne:(Lit.int .u32 x)≠ .int .u32 k:=λh=>e (by cases h;rfl);refine⟨by rw[has_put_other hne];simp[eY,e,(h3 x hx).1],?_⟩;rw[atKey_put_other hne,(h3 x hx).2];simp[eY,e]
theorem fG.looks(h:fG W M f s){k:Int}(hk:a_ k):
  (Instr.lookup 119 (.map (some M)) (.int .u32 k) false).run Tryz.prog W=.ok (gJ (f k)) W:=by
 obtain⟨D,h1,h2,h3⟩:=h;obtain⟨v,ps,hr,hv⟩:=h1.lookup gu Tryz.underlying119 (KY W) (o_ none) hk.key;have h4:=(h3 k hk).2;simp only[lK]at hv h4;rw[h4]at hv;rw[hr,ve (o:=f k) hv]
theorem fG.GZ(h:fG W M f s){k:Int}(hk:a_ k):
  (Instr.lookup 119 (.map (some M)) (.int .u32 k) true).run Tryz.prog W=.ok (.tuple #[gJ (f k),.bool (f k).isSome]) W:=by
 obtain⟨D,h1,h2,h3⟩:=h;obtain⟨v,ps,hr,hv⟩:=h1.look_ok gu Tryz.underlying119 (KY W) (o_ none) hk.key;have h4:=(h3 k hk).2;simp only[lK]at hv h4;rw[h4]at hv;rw[hr,ve (o:=f k) hv,(h3 k hk).1]
theorem fG.aeS(h:fG W M f s){k:Int}(hk:a_ k)(ty:TypeId)(hf:(f k).isSome=true):
  ∃W',(Builtin.delete_ #[119,34] ty #[.map (some M),.int .u32 k]).run Tryz.prog W=.ok (.tuple #[]) W'∧fG W' M (eY f k none) (s - 1)∧W.grownBy W' (some M):=by
 obtain⟨D,h1,h2,h3⟩:=h;obtain⟨W',hr,ho,ht⟩:=h1.drop gu Tryz.underlying119 hk.key ty;have htd:=h1.tidy gu;have hsz:Maps.size (D.del (.int .u32 k))=s - 1:=by
  have:=size_del (k:=.int .u32 k) htd;rw[(h3 k hk).1,hf,h2]at this;simp at this;omega
 refine⟨W',hr,⟨_,?_,hsz,λx hx=> ?_⟩,ht.grown⟩
 ·have:=fU ho;rw[hsz]at this;exact this
 ·by_cases e:x=k
  ·subst e;refine⟨by rw[has_del_same];simp[eY],?_⟩;rw[atKey_del_same];simp[eY,lK]
  ·have hne:(Lit.int .u32 x)≠ .int .u32 k:=λh=>e (by cases h;rfl);refine⟨by rw[has_del_other hne];simp[eY,e,(h3 x hx).1],?_⟩;rw[atKey_del_other hne,(h3 x hx).2];simp[eY,e]
def DN(out:Bool)(B:Nat):Value:=.func (.func (if out then 124 else 83)) #[.pointer (some ⟨B,0,none⟩)] #[]
@[reducible] def Lb(q : Sr)(v fn : Value): Obj := .cells #[.int .u32 q.dest, v, .int .i64 q.ttl, .int .i64 q.ret, .int .i64 q.id, fn] 177
def sJ(B:Nat)(q:Sr)(v fn:Value)(W:World):Prop:=W.heap[B]?=some (Lb q v fn)
theorem sJ.cell(h:sJ B q v fn W):
  W.cell? ⟨B,0,none⟩=some (.int .u32 q.dest)∧W.cell? ⟨B,1,none⟩=some v∧W.cell? ⟨B,2,none⟩=some (.int .i64 q.ttl)∧W.cell? ⟨B,3,none⟩=some (.int .i64 q.ret)∧W.cell? ⟨B,4,none⟩=some (.int .i64 q.id)∧W.cell? ⟨B,5,none⟩=some fn:=
 ⟨aJ W B 0 _ _ _ h,aJ W B 1 _ _ _ h,aJ W B 2 _ _ _ h,aJ W B 3 _ _ _ h,aJ W B 4 _ _ _ h,aJ W B 5 _ _ _ h⟩
theorem sJ.free(h:sJ B q v fn W)(i:Nat):W.frozen? ⟨B,i,none⟩=false:=by
 unfold World.frozen?;rw[show W.heap[(⟨B,i,none⟩:Addr).block]?=some (Lb q v fn)from h];try rfl
theorem sJ.lt(h:sJ B q v fn W):B<W.heap.size:=(iA.1 h).1
theorem sJ.block(h:sJ B q v fn W)(he:W'.heap[B]?=W.heap[B]?):sJ B q v fn W':=he.trans h
def qm(B:Nat)(q:Sr)(v:Value)(W:World):Prop:=∃fn,sJ B q v fn W∧(q.id≠0->fn=DN q.out B)
theorem qm.cell(h:qm B q v W):
  W.cell? ⟨B,0,none⟩=some (.int .u32 q.dest)∧W.cell? ⟨B,1,none⟩=some v∧W.cell? ⟨B,2,none⟩=some (.int .i64 q.ttl)∧W.cell? ⟨B,3,none⟩=some (.int .i64 q.ret)∧W.cell? ⟨B,4,none⟩=some (.int .i64 q.id):=by
 obtain⟨fn,h1,_⟩:=h;obtain⟨c0,c1,c2,c3,c4,_⟩:=h1.cell;exact⟨c0,c1,c2,c3,c4⟩
theorem qm.lt(h:qm B q v W):B<W.heap.size:=by
 obtain⟨fn,h1,_⟩:=h;exact h1.lt
theorem qm.block(h:qm B q v W)(he:W'.heap[B]?=W.heap[B]?):qm B q v W':=by
 obtain⟨fn,h1,h2⟩:=h;exact⟨fn,h1.block he,h2⟩
theorem qm.obj(h:qm B q v W):∃c,W.heap[B]?=some (.cells c 177 (0,0)):=by
 obtain⟨fn,h1,_⟩:=h;exact⟨_,h1⟩
structure Sr.Ok(q:Sr):Prop where
 dest:a_ q.dest
 ttl:1<=q.ttl∧q.ttl<=8
 ret:q.ret<=2
 txt:q.txt.length<=4
 I_:∀t∈q.txt,t.size<=16
 id:0<=q.id∧q.id<=4611686018427387904
def II(Ms:Nat)(h:Int->Option Nat)(u:Int->Value)(Q:List Sr)(k:Nat):Prop:=
 k=Ms∨∃q∈Q,h q.dest=some k∨(u q.dest).ownBlock=some k
structure xL(Ms:Nat)(h:Int->Option Nat)(u:Int->Value)(Q:List Sr)(W:World):Prop where
 map:fG W Ms h Q.length
 qM:Q.Pairwise λa b=>a.dest≠b.dest
 ok:∀q∈Q,q.Ok
 dom:∀d B,a_ d->h d=some B->∃q∈Q,q.dest=d
 ln:∀q∈Q,∃B,h q.dest=some B∧qm B q (u q.dest) W
 row:∀q∈Q,W.ownsRow 0 9 1 (u q.dest) q.txt.length (q.txt.map Value.string)
 apart:∀a∈Q,∀b∈Q,a.dest≠b.dest->(u a.dest).ownBlock=none∨(u a.dest).ownBlock≠(u b.dest).ownBlock
 len:Q.length<=5000
theorem xL.kept(s:xL Ms h u Q W)(he:∀k,II Ms h u Q k->W'.heap[k]?=W.heap[k]?):xL Ms h u Q W':=by
 refine⟨s.map.block (he _ (.inl rfl)),s.qM,s.ok,s.dom,λq hq=> ?_,λq hq=> ?_,s.apart,s.len⟩
 ·obtain⟨B,h1,h2⟩:=s.ln q hq;exact⟨B,h1,h2.block (he B (.inr ⟨q,hq,.inl h1⟩))⟩
 ·exact bQ (s.row q hq) λk hk=>he k (.inr ⟨q,hq,.inr hk⟩)
theorem xL.lt(s:xL Ms h u Q W){k:Nat}(hk:II Ms h u Q k):k<W.heap.size:=by
 rcases hk with rfl|⟨q,hq,hk|hk⟩
 ·exact s.map.lt
 ·obtain⟨B,h1,h2⟩:=s.ln q hq;rw[h1]at hk;cases hk;exact h2.lt
 ·exact((s.row q hq).lt k hk).2
theorem xL.kind(s:xL Ms h u Q W){k:Nat}(hk:II Ms h u Q k):∃o,W.heap[k]?=some o∧((k=Ms∧∃es cl,o=.map es cl)∨(∃c,o=.cells c 177 (0,0))∨∃c,o=.cells c 9 (0,0)):=by
 rcases hk with rfl|⟨q,hq,hk|hk⟩
 ·obtain⟨es,cl,hm⟩:=s.map.obj;exact⟨_,hm,.inl ⟨rfl,_,_,rfl⟩⟩
 ·obtain⟨B,h1,h2⟩:=s.ln q hq;rw[h1]at hk;cases hk;obtain⟨c,hc⟩:=h2.obj;exact⟨_,hc,.inr (.inl ⟨_,rfl⟩)⟩
 ·obtain⟨c,hc⟩:=aS (s.row q hq) hk;exact⟨_,hc,.inr (.inr ⟨_,rfl⟩)⟩
theorem jw(h:St.jU Q d=some q):q∈Q∧q.dest=d:=by
 unfold St.jU at h;exact⟨List.mem_of_find?_eq_some h,by simpa using List.find?_some h⟩
theorem Nv:St.jU Q d=none ↔ ∀q∈Q,q.dest≠d:=by
 unfold St.jU;simp
theorem xL.off(s:xL Ms h u Q W){d:Int}(hd:a_ d)(hn:St.jU Q d=none):h d=none:=by
 cases e:h d with
 |none=>rfl
 |some B=>
  obtain⟨q,hq,YA⟩:=s.dom d B hd e;exact absurd YA (Nv.1 hn q hq)
theorem xL.at(s:xL Ms h u Q W){d:Int}{q:Sr}(hn:St.jU Q d=some q):q∈Q∧q.dest=d∧∃B,h d=some B∧qm B q (u d) W∧W.ownsRow 0 9 1 (u d) q.txt.length (q.txt.map Value.string):=by
 obtain⟨hq,rfl⟩:=jw hn;obtain⟨B,h1,h2⟩:=s.ln q hq;exact⟨hq,rfl,B,h1,h2,s.row q hq⟩
variable{xs:List Int}
theorem Gz(xs:List Int)(k:Nat){a b c d:Int}{ys:List Int}(h:xs.drop (4 * k)=a::b::c::d::ys):num xs k=n4 a b c d:=by
 have g:∀i x,(a::b::c::d::ys)[i]?=some x->xs.getD (4 * k+i) 0=x:=by
  intro i x hx;rw[<-h,List.getElem?_drop]at hx;simp[List.getD,hx]
 unfold num;rw[show 4 * k=4 * k+0 from rfl,g 0 a rfl,g 1 b rfl,g 2 c rfl,g 3 d rfl]
theorem NQ(k:Nat)(xs:List Int):qJ (k+1) xs=qJ k xs++ [(num xs (2 * k),num xs (2 * k+1))]:=by
 simp[qJ,List.range_succ]
theorem PN(a b:List (Int×Int)):LC (a++b)=LC a++LC b:=by simp[LC]
theorem h_(k:Nat)(xs:List Int):(qJ k xs).length=k:=by simp[qJ]
theorem VT(A:List Value)(u v x y:Value)(T:List Value):((A++u::v::T).set A.length x).set (A.length+1) y=A++ [x,y]++T:=by
 simp[List.set_append_right]
theorem RH(m:Nat):∀v∈(madeCells #[Value.int .u32 0,Value.int .u32 0] m).toList,∃z,v=.int .u32 z:=by
 intro v hv;simp only[madeCells,Array.toList_map,dW]at hv;obtain⟨i,_,rfl⟩:=hv;rcases Nat.mod_two_eq_zero_or_one i with h|h<;>simp[h]
def ads(R n:Nat)(xs:List Int)(W:World)(e:Ending)(w':World):Prop:=
 W.grownBy w' (some R)∧((8 * n<=xs.length∧(∃g,W.heap.size<=g∧e=.returned (.slice (some ⟨g,0,none⟩) n n)∧bF w' (some ⟨g,0,none⟩) (qJ n xs))∧Rd R (xs.drop (8 * n)) w')∨(xs.length<8 * n∧e=.panicked broken))
theorem bF.Yu{W:World}{base g n cap:Nat}{L:List (Int×Int)}(h:W.ownsRow base 237 2 (.slice (some ⟨g,0,none⟩) n cap) n (LC L))(hb:∀x∈L,0<=x.1∧x.1<4294967296∧0<=x.2∧x.2<4294967296):bF W (some ⟨g,0,none⟩) L:=by
 have hl:=h.1;rw[j_]at hl;have hlt:g<W.heap.size:=by
  rcases h.2 with⟨hh,_⟩|⟨g',_,_,hh,_,hg,_⟩
  ·simp at hh
  ·simp only[Value.slice.injEq,Option.some.injEq,Addr.mk.injEq,and_true]at hh;obtain⟨rfl,_⟩:=hh;exact(iA.1 hg).1
 intro j hj;have hx:=hb _ (List.getElem_mem hj);have hg:=abx L j;rw[bS hj]at hg;refine⟨g,0,L[j].1,L[j].2,rfl,hlt,bS hj,hx.1,hx.2.1,hx.2.2.1,hx.2.2.2,?_,?_⟩
 ·rw[Nat.zero_add,h.cellAt (j * 2) (by omega),hg.1];rfl
 ·rw[Nat.zero_add,h.cellAt (j * 2+1) (by omega),hg.2];rfl
theorem LH(h:∀x∈xs,0<=x∧x<=255)(i:Nat):0<=num xs i∧num xs i<4294967296:=by
 have g:∀j,0<=xs.getD j 0∧xs.getD j 0<=255:=by
  intro j;rcases Nat.lt_or_ge j xs.length with hj|hj
  ·have:=h _ (List.getElem_mem hj);simpa[List.getD,List.getElem?_eq_getElem hj]using this
  ·simp[List.getD,List.getElem?_eq_none hj]
 exact uh (g _) (g _) (g _) (g _)
theorem Zw(h:∀x∈xs,0<=x∧x<=255)(n:Nat):∀x∈qJ n xs,0<=x.1∧x.1<4294967296∧0<=x.2∧x.2<4294967296:=by
 intro x hx;simp only[qJ,dW]at hx;obtain⟨i,_,rfl⟩:=hx;have a:=LH h (2 * i);have b:=LH h (2 * i+1);exact⟨a.1,a.2,b.1,b.2⟩
theorem RJ(R n:Nat)(hn:n<=255)(xs:List Int)(W:World)(h:Rd R xs W):
  Calls Tryz.prog 88 #[.pointer (some ⟨R,0,none⟩),.int .i64 n] W λe w'=>ads R n xs W e w':=by
 obtain⟨i0,hi,hz0,hz1,hz2⟩:=info_parts Ow;have hR:=h.lt;have hby:=h.bytes;go_enter Tryz.func88,Tryz.ntmps88;go_wp2_with(at_make;refine wpList_make_full _ rfl _ _ 71 rfl W.heap.size 237 i0 (.agg #[.int .u32 0,.int .u32 0]) 2 Tryz.underlying71 hi hz0 hz1 .i64 .i64 n n n rfl rfl rfl rfl ?c1 ?c2 ?c3 ?_)
 case c1=>rw[hz2];omega
 case c2=>unfold maxLen;omega
 case c3=>exact aB _
 intro w1 hown hg1;have hb1:Below W.heap.size W w1:=⟨hg1.os,hg1.tape,hg1.output,hg1.size,λk hk=>hg1.block k hk (by simp)⟩;have hr1:=h.kept hb1;have hG1:W.grownBy w1 (some R):=⟨hg1.os,hg1.tape,hg1.output,hg1.size,λk hk _=>hg1.block k hk (by simp)⟩;have hT:∀v∈(madeCells #[Value.int .u32 0,Value.int .u32 0] (n * 2)).toList,∃z,v=.int .u32 z:=RH _;generalize (madeCells #[Value.int .u32 0,Value.int .u32 0] (n * 2)).toList=T0 at hown hT;generalize hG:W.heap.size=G at hown ⊢;clear hg1 hb1 h hi hz0 hz1 hz2;go_wp2_with fail;go_loopw [11] (λi wr=>∃(k:Nat) (T:List Value),k<=n∧i=.int .i64 k∧8 * k<=xs.length∧Rd R (xs.drop (8 * k)) wr∧wr.ownsRow G 237 2 (.slice (some ⟨G,0,none⟩) n n) n (LC (qJ k xs)++T)∧W.grownBy wr (some R)∧(∀v∈T,∃z,v=.int .u32 z)) (λi _=>n - (intOf i).toNat)
 case atStart=>exact⟨0,T0,dm _,rfl,dm _,hr1,hown,hG1,hT⟩
 case round=>
  clear hr1 hown hG1 hT;obtain⟨k,T,hk,rfl,h8,hr,ho,hg,hT⟩:=hrel;by_cases hlt:k<n
  ·go_wp2_with fail;refine(dJ R _ _ hr).mono ?_;rintro e w2 (⟨a,b,c,d,ys,hd1,rfl,hr2,hg2,_⟩|⟨hs,rfl,rfl⟩)
   case inr=>
    rw[List.length_drop]at hs;exact⟨rfl,hg,.inr ⟨by omega,rfl⟩⟩
   have ho2:=ho.kept hg2 (by right;simp[Value.ownBlock];omega);have hG2:=ak hg hg2;clear hr hg2 ho hg;go_wp2_with fail;refine(dJ R _ _ hr2).mono ?_;rintro e w3 (⟨a',b',c',d',zs,rfl,rfl,hr3,hg3,_⟩|⟨hs,rfl,rfl⟩)
   case inr=>
    have:=congrArg List.length hd1;simp only[List.length_drop,dZ]at this;exact⟨rfl,hG2,.inr ⟨by omega,rfl⟩⟩
   have ho3:=ho2.kept hg3 (by right;simp[Value.ownBlock];omega);have hG3:=ak hG2 hg3;clear hr2 hg3 ho2 hG2;have hl3:=ho3.1;rw[bU,j_,h_]at hl3;obtain⟨u,v,T',rfl⟩:∃u v T',T=u::v::T':=by
    match T,hl3 with
    | [],h=>simp at h;omega
    | [_],h=>simp at h;omega
    |u::v::T',_=>exact⟨u,v,T',rfl⟩
   obtain⟨z0,rfl⟩:=hT u (by simp);obtain⟨z1,rfl⟩:=hT v (by simp);have hT':∀v∈T',∃z,v=.int .u32 z:=λv hv=>hT v (by simp[hv]);have c0:w3.cell? ⟨G,k * 2,none⟩=some (.int .u32 z0):=by
    rw[ho3.cellAt (k * 2) (by omega),List.getElem?_append_right (by rw[j_,h_];omega),j_,h_];simp
   have c1:w3.cell? ⟨G,k * 2+1,none⟩=some (.int .u32 z1):=by
    rw[ho3.cellAt (k * 2+1) (by omega),List.getElem?_append_right (by rw[j_,h_];omega),j_,h_];simp
   have f0:=ho3.frozenAt (k * 2);have f1:=ho3.frozenAt (k * 2+1);have hkn:(k:Int)<(n:Int):=by omega
   clear hT;have n0:num xs (2 * k)=n4 a b c d:=Gz xs (2 * k) (by rw[show 4 * (2 * k)=8 * k by omega];exact hd1);have n1:num xs (2 * k+1)=n4 a' b' c' d':=Gz xs (2 * k+1) (ys:=zs) (by
    rw[show 4 * (2 * k+1)=8 * k+4 by omega,<-List.drop_drop,hd1];rfl)
   have hdr:xs.drop (8 * (k+1))=zs:=by
    rw[show 8 * (k+1)=8 * k+8 by omega,<-List.drop_drop,hd1];rfl
   have hle:8 * (k+1)<=xs.length:=by
    have:=congrArg List.length hd1;simp only[List.length_drop,dZ]at this;omega
   have hlc:LC (qJ (k+1) xs)=LC (qJ k xs)++ [.int .u32 (n4 a b c d),.int .u32 (n4 a' b' c' d')]:=by
    rw[NQ,PN,n0,n1];rfl
   have hst:=(ho3.stored (k * 2) (.int .u32 (n4 a b c d))).1.stored (k * 2+1) (.int .u32 (n4 a' b' c' d'));have hset:=VT (LC (qJ k xs)) (.int .u32 z0) (.int .u32 z1) (.int .u32 (n4 a b c d)) (.int .u32 (n4 a' b' c' d')) T';rw[j_,h_]at hset;rw[hset]at hst;have hst':=hst.1;rw[<-hlc]at hst';have hrA:=hr3.setCell (B:=G) (by omega) (i:=k * 2) (.int .u32 z0) (.int .u32 (n4 a b c d)) (by simp) c0;have c1':(w3.setCell ⟨G,k * 2,none⟩ (.int .u32 (n4 a b c d))).cell? ⟨G,k * 2+1,none⟩=some (.int .u32 z1):=by
    rw[World.cell?_setCell_other _ _ _ _ (by simp)];exact c1
   have hrB:=hrA.setCell (B:=G) (by omega) (i:=k * 2+1) (.int .u32 z1) (.int .u32 (n4 a' b' c' d')) (by simp) c1';have hgB:=bq (bq hG3 (a:=⟨G,k * 2,none⟩) (by simp;omega) (.int .u32 (n4 a b c d))) (a:=⟨G,k * 2+1,none⟩) (by simp;omega) (.int .u32 (n4 a' b' c' d'));rw[<-hdr]at hrB;clear n0 n1 hdr hlc hst hset hd1 hl3 c1' hrA hr3 hG3 ho3;go_wp2;go_roundw
   case rel=>exact⟨k+1,T',by omega,by go_num,hle,hrB,hst',hgB,hT'⟩
   case measure=>simp[intOf];omega
  ·obtain rfl:k=n:=by omega
   clear hk hlt;have hl3:=ho.1;rw[bU,j_,h_]at hl3;obtain rfl:T=[]:=nU (by omega);rw[fw]at ho;clear hl3 hT;go_wp2;go_ret;exact⟨hg,.inl ⟨h8,⟨G,Nat.le_of_eq hG,rfl,bF.Yu ho (Zw hby k)⟩,hr⟩⟩
variable{L:List (Int×Int)}{W:World}
theorem bF.far{g:Nat}(h:bF W (some ⟨g,0,none⟩) L){a:Addr}(ha:a.block≠g)(v:Value):bF (W.setCell a v) (some ⟨g,0,none⟩) L:=by
 intro j hj;obtain⟨lb,lo,d,s,h1,h2,h3,h4,h5,h6,h7,h8,h9⟩:=h j hj;have e:=h1;simp only[Option.some.injEq,Addr.mk.injEq,and_true]at e;obtain⟨rfl,rfl⟩:=e;exact⟨g,0,d,s,rfl,by simpa using h2,h3,h4,h5,h6,h7,(nK W a _ v (λe=>ha e.symm)).trans h8,(nK W a _ v (λe=>ha e.symm)).trans h9⟩
theorem bF.dG{g C:Nat}(h:bF W (some ⟨g,0,none⟩) L)(hC:C≠g)(p:aD):bF (dG W C p) (some ⟨g,0,none⟩) L:=
 bF.far (bF.far (bF.far (bF.far (bF.far (bF.far (bF.far (bF.far (bF.far (bF.far (bF.far (bF.far h (a:=⟨C,0,none⟩) hC _) (a:=⟨C,1,none⟩) hC _) (a:=⟨C,2,none⟩) hC _) (a:=⟨C,3,none⟩) hC _) (a:=⟨C,4,none⟩) hC _) (a:=⟨C,5,none⟩) hC _) (a:=⟨C,6,none⟩) hC _) (a:=⟨C,7,none⟩) hC _) (a:=⟨C,8,none⟩) hC _) (a:=⟨C,9,none⟩) hC _) (a:=⟨C,10,none⟩) hC _) (a:=⟨C,11,none⟩) hC _
theorem yU(C E:Nat)(hCE:C≠E)(z:aD)(x:Int)(u:TypeId)(pv:Value)(older:List PanicEntry)(w:World)(hC:PB z C w)(hE:w.heap[E]?=some (.cells #[.int .i64 x] 47 (0,0))):
  CallsD Tryz.prog 55 #[.pointer (some ⟨C,0,none⟩),.pointer (some ⟨E,0,none⟩)] (.panicking ({v:=.iface u pv,recovered:=false}::older)) w λe u' w'=>
   e=.returned (.tuple #[])∧u'=.panicking ({v:=.iface u pv,recovered:=true}::older)∧w'=(dG w C aD.zero).setCell ⟨E,0,none⟩ (.int .i64 1):=by
 obtain⟨k0,k1,k2,k3,k4,k5,k6,k7,k8,k9,k10,k11⟩:=hC.cell;have kf:=hC.free;have e0:w.cell? ⟨E,0,none⟩=some (.int .i64 x):=aJ w E 0 _ _ _ hE;have ef:w.frozen? ⟨E,0,none⟩=false:=ng w E 0 _ _ hE;refine callsD_of_wpS Tryz.func55 rfl λc₀ cs hu=> ?_;apply wpS_seq;apply wpS_region;simp[wpOpsS,go_sem,recoverD,hu,Tryz.ntmps55,Exit.thenS];refine wpS_cond (t:=true) (by simp[Act.eval,Array.replicate]) ?_;simp only[if_true];apply wpS_region;simp[wpOpsS,go_sem,k0,k1,k2,k3,k4,k5,k6,k7,k8,k9,k10,k11,kf,e0,ef,bodyPostS,results,Tryz.results55];rfl
theorem Kj(a b:Addr)(w:World):
  CallsD Tryz.prog 55 #[.pointer (some a),.pointer (some b)] .returning w λe u' w'=>e=.returned (.tuple #[])∧u'=.returning∧w'=w:=by
 refine callsD_of_wpS Tryz.func55 rfl λc₀ cs hu=> ?_;apply wpS_seq;apply wpS_region;simp[wpOpsS,go_sem,recoverD,hu,Tryz.ntmps55,Exit.thenS];refine wpS_cond (t:=false) (by simp[Act.eval,Array.replicate]) ?_;simp only[Bool.false_eq_true,if_false];refine wpS_of_wp (wp_skip ?_);cases c₀
 simp_all [bodyPostS,results,Tryz.results55]
variable{L:List (Int×Int)}{C N:Nat}{ao:Option Addr}{W:World}
def zB(xs:List Int)(W:World)(e:Ending)(w':World):Prop:=
 Below W.heap.size W w'∧((Ey xs=true∧∃v,e=.returned (.tuple #[v,.int .i64 0])∧Reads xs v w' W.heap.size)∨(Ey xs=false∧e=.returned (.tuple #[aD.zero.val,.int .i64 1])))
theorem bF.xD(h:bF W ao L)(hf:∀b,ao=some b->N<=b.block){a:Addr}(ha:a.block<N)(v:Value):bF (W.setCell a v) ao L:=by
 intro j hj;obtain⟨lb,lo,d,s,h1,h2,h3,h4,h5,h6,h7,h8,h9⟩:=h j hj;have hb:=hf _ h1;have hne:lb≠a.block:=by have:N<=lb:=hb;omega
 exact⟨lb,lo,d,s,h1,by simpa using h2,h3,h4,h5,h6,h7,(nK W a _ v hne).trans h8,(nK W a _ v hne).trans h9⟩
theorem DK(h:bF W ao L)(hf:∀b,ao=some b->N<=b.block)(hC:C<N)(p:aD):bF (dG W C p) ao L:=
 bF.xD (bF.xD (bF.xD (bF.xD (bF.xD (bF.xD (bF.xD (bF.xD (bF.xD (bF.xD (bF.xD (bF.xD h hf (a:=⟨C,0,none⟩) hC _) hf (a:=⟨C,1,none⟩) hC _) hf (a:=⟨C,2,none⟩) hC _) hf (a:=⟨C,3,none⟩) hC _) hf (a:=⟨C,4,none⟩) hC _) hf (a:=⟨C,5,none⟩) hC _) hf (a:=⟨C,6,none⟩) hC _) hf (a:=⟨C,7,none⟩) hC _) hf (a:=⟨C,8,none⟩) hC _) hf (a:=⟨C,9,none⟩) hC _) hf (a:=⟨C,10,none⟩) hC _) hf (a:=⟨C,11,none⟩) hC _
theorem vW{A B:World}(h:Below N A B)(hC:N<=C)(p:aD):Below N A (dG B C p):=
 ((((((((((((((((((((((((h).setCell (p:=⟨C,0,none⟩) hC _)).setCell (p:=⟨C,1,none⟩) hC _)).setCell (p:=⟨C,2,none⟩) hC _)).setCell (p:=⟨C,3,none⟩) hC _)).setCell (p:=⟨C,4,none⟩) hC _)).setCell (p:=⟨C,5,none⟩) hC _)).setCell (p:=⟨C,6,none⟩) hC _)).setCell (p:=⟨C,7,none⟩) hC _)).setCell (p:=⟨C,8,none⟩) hC _)).setCell (p:=⟨C,9,none⟩) hC _)).setCell (p:=⟨C,10,none⟩) hC _)).setCell (p:=⟨C,11,none⟩) hC _)
theorem CB(W:World){C:Nat}(p:aD){k:Nat}(hk:k≠C):(dG W C p).heap[k]?=W.heap[k]?:=by
 have f:=λ(w:World) (i:Nat) (v:Value)=>lV w ⟨C,i,none⟩ v k hk;simp only[dG,f]
theorem PX(hpk:∀(R:Nat) (xs:List Int) (W:World),Rd R xs W->Calls Tryz.prog 56 #[.pointer (some ⟨R,0,none⟩)] W λe w'=>jS R xs W e w')
  (v:Value) (xs:List Int) (W:World) (hv:fo W v xs):
  Calls Tryz.prog 22 #[v] W λe w'=>zB xs W e w':=by
 have hmf:∀(fn:Fn) (first cap:Array Value) (w:World),(Instr.makeFunc fn first cap).run Tryz.prog w=.ok (.func fn first cap) w:=λ_ _ _ _=>rfl;obtain⟨a,n,c,rfl⟩:∃a n c,v=.slice a n c:=by
  rcases hv.2 with⟨rfl,_⟩|⟨_,_,_,rfl,_⟩
  ·exact⟨_,_,_,rfl⟩
  ·exact⟨_,_,_,rfl⟩
 go_enter_defers Tryz.func22,Tryz.ntmps22
 go_wp2_with fail;have hb3:Below W.heap.size W (((W.alloc aD.zero.box).alloc (.cells #[.int .i64 0] 47)).alloc (.cells #[.slice a n c] 141)):=
  (((aV W.heap.size W).alloc (aB _) _).alloc (by simp) _).alloc (by simp;omega) _
 have hC:PB aD.zero W.heap.size (((W.alloc aD.zero.box).alloc (.cells #[.int .i64 0] 47)).alloc (.cells #[.slice a n c] 141)):=((PB.new aD.zero W).alloc _).alloc _;have hE:(((W.alloc aD.zero.box).alloc (.cells #[.int .i64 0] 47)).alloc (.cells #[.slice a n c] 141)).heap[W.heap.size+1]?=some (.cells #[.int .i64 0] 47 (0,0)):=by
  rw[Below.heap_alloc _ _ _ (by simp)];have:=bV (W.alloc aD.zero.box) (.cells #[.int .i64 0] 47)
  rwa [World.size_alloc]at this
 have hRh:(((W.alloc aD.zero.box).alloc (.cells #[.int .i64 0] 47)).alloc (.cells #[.slice a n c] 141)).heap[W.heap.size+1+1]?=some (.cells #[.slice a n c] 141 (0,0)):=by
  have:=bV ((W.alloc aD.zero.box).alloc (.cells #[.int .i64 0] 47)) (.cells #[.slice a n c] 141)
  rwa [World.size_alloc,World.size_alloc]at this
 have hrd:Rd (W.heap.size+1+1) xs (((W.alloc aD.zero.box).alloc (.cells #[.int .i64 0] 47)).alloc (.cells #[.slice a n c] 141)):=
  ⟨_,aJ _ _ 0 _ _ _ hRh,ng _ _ 0 _ _ hRh,hv.kept hb3⟩
 dsimp only[aD.box,aD.zero]at hb3 hC hE hrd;generalize World.alloc _ _=W3 at hb3 hC hE hrd ⊢;clear hRh hv;have B_:=hrd.lt;refine(hpk _ xs _ hrd).mono ?_;rintro e w1 ⟨hg,⟨hF,pv,rfl,hRd⟩|⟨hF,rfl⟩⟩
 ·obtain⟨x0,x1,x2,x3,x4,r,ao,c',hxs,hpv,hlen,hA,hfr⟩:=hRd;obtain⟨q,hq⟩:∃q:aD,q={jd x0 x1 x2 x4 r with la:=ao,lc:=c'}:=⟨_,rfl⟩;rw[<-hq]at hpv;subst hpv;have hq':=(show Hid _ from hq);clear hq;have rf:=hC.grown hg (by omega);have hE1:=(hg.block (W.heap.size+1) (iA.1 hE).1 (by simp)).trans hE;have hB1:Below W.heap.size W w1:=hb3.trans ⟨hg.os,hg.tape,hg.output,hg.size,λk hk=>hg.block k (by omega) (by simp;omega)⟩;have hF1:=rf.storeAll q;have hB2:Below W.heap.size W ((dG w1 W.heap.size q).setCell ⟨W.heap.size+1,0,none⟩ (.int .i64 0)):=
   (vW hB1 (aB _) q).setCell (p:=⟨W.heap.size+1,0,none⟩) (by simp) _
  have hF2:PB q W.heap.size ((dG w1 W.heap.size q).setCell ⟨W.heap.size+1,0,none⟩ (.int .i64 0)):=hF1.other (a:=⟨W.heap.size+1,0,none⟩) (by simp) _;obtain⟨k0,k1,k2,k3,k4,k5,k6,k7,k8,k9,k10,k11⟩:=rf.cell;dsimp only at k0 k1 k2 k3 k4 k5 k6 k7 k8 k9 k10 k11;have kf:=rf.free;have e0:w1.cell? ⟨W.heap.size+1,0,none⟩=some (.int .i64 0):=aJ w1 _ 0 _ _ _ hE1;have ef:w1.frozen? ⟨W.heap.size+1,0,none⟩=false:=ng w1 _ 0 _ _ hE1;have hA2:bF ((dG w1 W.heap.size q).setCell ⟨W.heap.size+1,0,none⟩ (.int .i64 0)) ao (pF x1 x4 r):=(DK hA hfr (by omega) q).xD hfr (a:=⟨W.heap.size+1,0,none⟩) (by simp;omega) _;have hE2:((dG w1 W.heap.size q).setCell ⟨W.heap.size+1,0,none⟩ (.int .i64 0)).cell? ⟨W.heap.size+1,0,none⟩=some (.int .i64 0):=by
   have hs:(dG w1 W.heap.size q).heap[W.heap.size+1]?=w1.heap[W.heap.size+1]?:=CB w1 q (by omega);have hpre:(dG w1 W.heap.size q).cell? ⟨W.heap.size+1,0,none⟩=some (.int .i64 0):=aJ _ _ 0 _ _ _ (hs.trans hE1);exact World.cell?_setCell_same _ _ _ hpre
  clear hC hE hb3 hg hA hB1 hF1 hE1 hrd;go_wp2;dsimp only[dG]at hF2 hB2 hA2 hE2;generalize World.setCell _ _ _=wF at hF2 hB2 hA2 hE2 ⊢;clear k0 k1 k2 k3 k4 k5 k6 k7 k8 k9 k10 k11 kf e0 ef;obtain⟨k0,k1,k2,k3,k4,k5,k6,k7,k8,k9,k10,k11⟩:=hF2.cell;refine leaves_cons (f:=55) (args:=#[.pointer (some ⟨W.heap.size,0,none⟩),.pointer (some ⟨W.heap.size+1,0,none⟩)]) (by simp) (by simp[go_sem]) ?_;refine(Kj _ _ _).mono ?_;rintro e u' w'' ⟨rfl,rfl,rfl⟩;have hpost:zB xs W (.returned (.tuple #[q.val,.int .i64 0])) w'':=
   ⟨hB2,.inl ⟨hF,_,rfl,x0,x1,x2,x3,x4,r,ao,c',hxs,by rw[hq'.out],hlen,hA2,λb hb=>dN (by omega) (hfr b hb)⟩⟩
  simp[Leaves,settle,results,Tryz.results22,go_sem,k0,k1,k2,k3,k4,k5,k6,k7,k8,k9,k10,k11,hE2];exact hpost
 ·have rf:=hC.grown hg (by omega);have hE1:=(hg.block (W.heap.size+1) (iA.1 hE).1 (by simp)).trans hE;have hB1:Below W.heap.size W w1:=hb3.trans ⟨hg.os,hg.tape,hg.output,hg.size,λk hk=>hg.block k (by omega) (by simp;omega)⟩;show bodyPostD Tryz.prog Tryz.f22 _ (Exit.panic broken) _ w1;refine leaves_cons (f:=55) (args:=#[.pointer (some ⟨W.heap.size,0,none⟩),.pointer (some ⟨W.heap.size+1,0,none⟩)]) (by simp) (by simp[go_sem]) ?_;refine(yU W.heap.size (W.heap.size+1) (by omega) _ 0 47 _ [] _ rf hE1).mono ?_;rintro e u' w'' ⟨rfl,rfl,rfl⟩;have hF2:PB aD.zero W.heap.size ((dG w1 W.heap.size aD.zero).setCell ⟨W.heap.size+1,0,none⟩ (.int .i64 1)):=(rf.storeAll aD.zero).other (a:=⟨W.heap.size+1,0,none⟩) (by simp) _;have hs:(dG w1 W.heap.size aD.zero).heap[W.heap.size+1]?=w1.heap[W.heap.size+1]?:=CB w1 aD.zero (by omega);have hpre:(dG w1 W.heap.size aD.zero).cell? ⟨W.heap.size+1,0,none⟩=some (.int .i64 0):=aJ _ _ 0 _ _ _ (hs.trans hE1);have hE2:=World.cell?_setCell_same _ ⟨W.heap.size+1,0,none⟩ (.int .i64 1) hpre;have hB2:Below W.heap.size W ((dG w1 W.heap.size aD.zero).setCell ⟨W.heap.size+1,0,none⟩ (.int .i64 1)):=(vW hB1 (aB _) aD.zero).setCell (p:=⟨W.heap.size+1,0,none⟩) (by simp) _;generalize (dG w1 W.heap.size aD.zero).setCell ⟨W.heap.size+1,0,none⟩ (.int .i64 1)=wF at hF2 hE2 hB2 ⊢;obtain⟨k0,k1,k2,k3,k4,k5,k6,k7,k8,k9,k10,k11⟩:=hF2.cell;have hpost:zB xs W (.returned (.tuple #[aD.zero.val,.int .i64 1])) wF:=⟨hB2,.inr ⟨hF,rfl⟩⟩;simp[Leaves,settle,results,Tryz.results22,go_sem,k0,k1,k2,k3,k4,k5,k6,k7,k8,k9,k10,k11,hE2];exact hpost
def fl:Bool->Int
 |true=>8
 |false=>0
def pV(_:Bool):Prop:=True
@[reducible] def jc{U : Bool}(_ : pV U): Bool := U
@[reducible] def ET{U : Bool}(_ : pV U): Int := fl U
theorem AL{U:Bool}(h:pV U):ET h=0∨ET h=8:=by cases U<;>simp[ET,fl]
@[reducible] def PB.pk{p : aD}{B : Nat}{W : World}(_ : PB p B W): aD := p
theorem Gt(U:Bool)(R:Nat)(x0 x4:Int)(r:List Int)(W:World)(hr:Rd R (x0::1::fl U::0::x4::r) W):
  Calls Tryz.prog 56 #[.pointer (some ⟨R,0,none⟩)] W λe w'=>jS R (x0::1::fl U::0::x4::r) W e w':=by
 have hu:pV U:=trivial;cases U<;>dsimp only[fl]at hr ⊢
 all_goals
  have hby:=hr.bytes;have hR:=hr.lt;go_enter Tryz.func56,Tryz.ntmps56;go_wp2_with fail;have hC0:=PB.new aD.zero W;have h1:=hr.alloc aD.zero.box;have hg0:=ku W aD.zero.box (some R);dsimp only[aD.box,aD.zero]at hC0 h1 hg0;refine(bG R _ _ _ h1).mono ?_;rintro e w1 ⟨rfl,hr1,hg1⟩;have rf:PB aD.zero W.heap.size w1:=PB.grown hC0 hg1 (by omega);have hW1:=ak hg0 hg1;clear hr h1 hg0 hg1 hC0;go_wp2_with fail;refine(bG R _ _ _ hr1).mono ?_;rintro e w2 ⟨rfl,hr2,hg2⟩;have hC2:=rf.grown hg2 (by omega);have hW2:=ak hW1 hg2;clear hr1 hg2 rf hW1;go_wp2_with fail;have hB:=PB.new ⟨x0,1,0,false,0,0,0,0,0,0,none,0,0,⟨#[]⟩⟩ w2;have Qb:W.heap.size<w2.heap.size:=hC2.lt;have qj:=hC2.alloc (aD.box ⟨x0,1,0,false,0,0,0,0,0,0,none,0,0,⟨#[]⟩⟩);have hr3:=hr2.alloc (aD.box ⟨x0,1,0,false,0,0,0,0,0,0,none,0,0,⟨#[]⟩⟩);have hW3:=ak hW2 (ku w2 (aD.box ⟨x0,1,0,false,0,0,0,0,0,0,none,0,0,⟨#[]⟩⟩) (some R));have J5:=hr2.lt;generalize J8:w2.heap.size=B at hB Qb J5 ⊢;clear J8;dsimp only[aD.box]at hB qj hr3 hW3;clear hr2 hC2 hW2;refine(bG R _ _ _ hr3).mono ?_;rintro e w4 ⟨rfl,hr4,hg4⟩;have hB4:=hB.grown hg4 (by omega);have yt:=qj.grown hg4 (by omega);have EO:=ak hW3 hg4;clear hr3 hg4 hB qj hW3;go_wp2_with(go_at_call 85;refine(require_ok _).mono ?_;rintro e w4 ⟨rfl,rfl⟩;obtain⟨_,_,_,c3,_,_,_,_,_,_,_,_⟩:=hB4.cell;have f3:=hB4.free 3);have uL:=hB4.set ⟨x0,1,0,jc hu,0,0,0,0,0,0,none,0,0,⟨#[]⟩⟩ 3 (.bool (jc hu)) rfl;have nD:=hr4.setCell (B:=B) (by omega) (i:=3) (.bool false) (.bool (jc hu)) (by simp) c3;have rY:=yt.other (a:=⟨B,3,none⟩) (by simp;omega) (.bool (jc hu));have sS:=bq EO (a:=⟨B,3,none⟩) (by simp;omega) (.bool (jc hu));dsimp only[jc]at uL nD rY sS;clear c3 f3 hr4 hB4 yt EO;generalize w4.setCell _ _=w5 at uL nD rY sS ⊢;refine(bG R _ _ _ nD).mono ?_;rintro e w6 ⟨rfl,uo,jB⟩;have Cf:=uL.grown jB (by omega);have gX:=rY.grown jB (by omega);have FM:=ak sS jB;clear nD jB uL rY sS;go_wp2_with(go_at_call 85;refine(require_ok _).mono ?_;rintro e w6 ⟨rfl,rfl⟩);refine(bG R _ _ _ uo).mono ?_;rintro e w7 ⟨rfl,zk,gQ⟩;have jq:=Cf.grown gQ (by omega);have gM:=gX.grown gQ (by omega);have Mx:=ak FM gQ;clear uo gQ Cf gX FM;go_wp2_with fail;obtain⟨_,c1,_,_,_,_,_,_,_,_,_,_⟩:=jq.cell;refine(wV B w7 c1).mono ?_;rintro e w8 ⟨rfl,hw8⟩;have iq:w8.heap[w7.heap.size]?=some (.cells #[.pointer (some ⟨B,4,none⟩),.pointer (some ⟨B,5,none⟩),.pointer (some ⟨B,6,none⟩),.pointer (some ⟨B,7,none⟩),.pointer (some ⟨B,8,none⟩)] 189 (0,0)):=by rw[hw8];exact bV w7 _
  have jQ:PB ⟨x0,1,0,jc hu,0,0,0,0,0,0,none,0,0,⟨#[]⟩⟩ B w8:=by rw[hw8];exact jq.alloc _
  have g_:PB aD.zero W.heap.size w8:=by rw[hw8];exact gM.alloc _
  have iO:Rd R r w8:=by rw[hw8];exact(zk.alloc _).drew
  have jF:W.grownBy w8 (some R):=by rw[hw8];exact uy (ak Mx (ku w7 _ _))
  have hBN:B<w7.heap.size:=jq.lt;generalize w7.heap.size=N at iq hBN ⊢;clear hw8 zk jq gM Mx c1;go_wp2_with fail;refine wp_loop_rounds 6 ?_;rw[rounds_succ];have Yr:=aJ w8 N 0 _ _ _ iq;simp only[List.getElem?_toArray,List.getElem?_cons_zero]at Yr;go_wp2_with fail;clear Yr;refine(dJ R _ _ iO).mono ?_;rintro e w9 (⟨a0,b0,e0,d0,r0,rfl,rfl,mY,fK,_⟩|⟨hshort,rfl,rfl⟩)
  case inr=>exact⟨rfl,jF,.inr ⟨fQ (by rw[show eZ 1 x4=20 from rfl];first|omega|(simp only[dZ];omega)),rfl⟩⟩
  have qY:=(fK.block N (iA.1 iq).1 (by simp;omega)).trans iq;have jG:=jQ.grown fK (by omega);have pO:=g_.grown fK (by omega);have pK:=ak jF fK;clear iO fK jQ g_ jF iq;obtain⟨_,_,_,_,c4,c5,c6,c7,c8,c9,_,_⟩:=jG.cell;dsimp only at c4 c5 c6 c7 c8 c9;have ff:=jG.free 4;have hpre:=c4;clear c5 c6 c7 c8 c9;go_wp2_with fail;have jQ:=jG.set ⟨x0,1,0,jc hu,(n4 a0 b0 e0 d0),0,0,0,0,0,none,0,0,⟨#[]⟩⟩ 4 (.int .u32 (n4 a0 b0 e0 d0)) rfl;have iO:=mY.setCell (B:=B) (by omega) (i:=4) (.int .u32 0) (.int .u32 (n4 a0 b0 e0 d0)) (by simp) hpre;have g_:=pO.other (a:=⟨B,4,none⟩) (by simp;omega) (.int .u32 (n4 a0 b0 e0 d0));have jF:=bq pK (a:=⟨B,4,none⟩) (by simp;omega) (.int .u32 (n4 a0 b0 e0 d0));have iq:=(lV w9 ⟨B,4,none⟩ (.int .u32 (n4 a0 b0 e0 d0)) N (by simp;omega)).trans qY;clear mY jG pO pK qY ff hpre c4;generalize w9.setCell _ _=w8 at jQ iO g_ jF iq ⊢;rw[rounds_succ];have pc1:=aJ w8 N 1 _ _ _ iq;simp only[List.getElem?_toArray,List.getElem?_cons_succ,List.getElem?_cons_zero]at pc1;go_wp2_with fail;clear pc1;refine(dJ R _ _ iO).mono ?_;rintro e w9 (⟨a1,b1,e1,d1,r1,rfl,rfl,mY,fK,_⟩|⟨hshort,rfl,rfl⟩)
  case inr=>exact⟨rfl,jF,.inr ⟨fQ (by rw[show eZ 1 x4=20 from rfl];first|omega|(simp only[dZ];omega)),rfl⟩⟩
  have qY:=(fK.block N (iA.1 iq).1 (by simp;omega)).trans iq;have jG:=jQ.grown fK (by omega);have pO:=g_.grown fK (by omega);have pK:=ak jF fK;clear iO fK jQ g_ jF iq;obtain⟨_,_,_,_,c4,c5,c6,c7,c8,c9,_,_⟩:=jG.cell;dsimp only at c4 c5 c6 c7 c8 c9;have ff:=jG.free 5;have hpre:=c5;clear c4 c6 c7 c8 c9;go_wp2_with fail;have jQ:=jG.set ⟨x0,1,0,jc hu,(n4 a0 b0 e0 d0),(n4 a1 b1 e1 d1),0,0,0,0,none,0,0,⟨#[]⟩⟩ 5 (.int .u32 (n4 a1 b1 e1 d1)) rfl;have iO:=mY.setCell (B:=B) (by omega) (i:=5) (.int .u32 0) (.int .u32 (n4 a1 b1 e1 d1)) (by simp) hpre;have g_:=pO.other (a:=⟨B,5,none⟩) (by simp;omega) (.int .u32 (n4 a1 b1 e1 d1));have jF:=bq pK (a:=⟨B,5,none⟩) (by simp;omega) (.int .u32 (n4 a1 b1 e1 d1));have iq:=(lV w9 ⟨B,5,none⟩ (.int .u32 (n4 a1 b1 e1 d1)) N (by simp;omega)).trans qY;clear mY jG pO pK qY ff hpre c5;generalize w9.setCell _ _=w8 at jQ iO g_ jF iq ⊢;rw[rounds_succ];have pc2:=aJ w8 N 2 _ _ _ iq;simp only[List.getElem?_toArray,List.getElem?_cons_succ,List.getElem?_cons_zero]at pc2;go_wp2_with fail;clear pc2;refine(dJ R _ _ iO).mono ?_;rintro e w9 (⟨a2,b2,e2,d2,r2,rfl,rfl,mY,fK,_⟩|⟨hshort,rfl,rfl⟩)
  case inr=>exact⟨rfl,jF,.inr ⟨fQ (by rw[show eZ 1 x4=20 from rfl];first|omega|(simp only[dZ];omega)),rfl⟩⟩
  have qY:=(fK.block N (iA.1 iq).1 (by simp;omega)).trans iq;have jG:=jQ.grown fK (by omega);have pO:=g_.grown fK (by omega);have pK:=ak jF fK;clear iO fK jQ g_ jF iq;obtain⟨_,_,_,_,c4,c5,c6,c7,c8,c9,_,_⟩:=jG.cell;dsimp only at c4 c5 c6 c7 c8 c9;have ff:=jG.free 6;have hpre:=c6;clear c4 c5 c7 c8 c9;go_wp2_with fail;have jQ:=jG.set ⟨x0,1,0,jc hu,(n4 a0 b0 e0 d0),(n4 a1 b1 e1 d1),(n4 a2 b2 e2 d2),0,0,0,none,0,0,⟨#[]⟩⟩ 6 (.int .u32 (n4 a2 b2 e2 d2)) rfl;have iO:=mY.setCell (B:=B) (by omega) (i:=6) (.int .u32 0) (.int .u32 (n4 a2 b2 e2 d2)) (by simp) hpre;have g_:=pO.other (a:=⟨B,6,none⟩) (by simp;omega) (.int .u32 (n4 a2 b2 e2 d2));have jF:=bq pK (a:=⟨B,6,none⟩) (by simp;omega) (.int .u32 (n4 a2 b2 e2 d2));have iq:=(lV w9 ⟨B,6,none⟩ (.int .u32 (n4 a2 b2 e2 d2)) N (by simp;omega)).trans qY;clear mY jG pO pK qY ff hpre c6;generalize w9.setCell _ _=w8 at jQ iO g_ jF iq ⊢;rw[rounds_succ];have pc3:=aJ w8 N 3 _ _ _ iq;simp only[List.getElem?_toArray,List.getElem?_cons_succ,List.getElem?_cons_zero]at pc3;go_wp2_with fail;clear pc3;refine(dJ R _ _ iO).mono ?_;rintro e w9 (⟨a3,b3,e3,d3,r3,rfl,rfl,mY,fK,_⟩|⟨hshort,rfl,rfl⟩)
  case inr=>exact⟨rfl,jF,.inr ⟨fQ (by rw[show eZ 1 x4=20 from rfl];first|omega|(simp only[dZ];omega)),rfl⟩⟩
  have qY:=(fK.block N (iA.1 iq).1 (by simp;omega)).trans iq;have jG:=jQ.grown fK (by omega);have pO:=g_.grown fK (by omega);have pK:=ak jF fK;clear iO fK jQ g_ jF iq;obtain⟨_,_,_,_,c4,c5,c6,c7,c8,c9,_,_⟩:=jG.cell;dsimp only at c4 c5 c6 c7 c8 c9;have ff:=jG.free 7;have hpre:=c7;clear c4 c5 c6 c8 c9;go_wp2_with fail;have jQ:=jG.set ⟨x0,1,0,jc hu,(n4 a0 b0 e0 d0),(n4 a1 b1 e1 d1),(n4 a2 b2 e2 d2),(n4 a3 b3 e3 d3),0,0,none,0,0,⟨#[]⟩⟩ 7 (.int .u32 (n4 a3 b3 e3 d3)) rfl;have iO:=mY.setCell (B:=B) (by omega) (i:=7) (.int .u32 0) (.int .u32 (n4 a3 b3 e3 d3)) (by simp) hpre;have g_:=pO.other (a:=⟨B,7,none⟩) (by simp;omega) (.int .u32 (n4 a3 b3 e3 d3));have jF:=bq pK (a:=⟨B,7,none⟩) (by simp;omega) (.int .u32 (n4 a3 b3 e3 d3));have iq:=(lV w9 ⟨B,7,none⟩ (.int .u32 (n4 a3 b3 e3 d3)) N (by simp;omega)).trans qY;clear mY jG pO pK qY ff hpre c7;generalize w9.setCell _ _=w8 at jQ iO g_ jF iq ⊢;rw[rounds_succ];have pc4:=aJ w8 N 4 _ _ _ iq;simp only[List.getElem?_toArray,List.getElem?_cons_succ,List.getElem?_cons_zero]at pc4;go_wp2_with fail;clear pc4;refine(dJ R _ _ iO).mono ?_;rintro e w9 (⟨a4,b4,e4,d4,r4,rfl,rfl,mY,fK,_⟩|⟨hshort,rfl,rfl⟩)
  case inr=>exact⟨rfl,jF,.inr ⟨fQ (by rw[show eZ 1 x4=20 from rfl];first|omega|(simp only[dZ];omega)),rfl⟩⟩
  have qY:=(fK.block N (iA.1 iq).1 (by simp;omega)).trans iq;have jG:=jQ.grown fK (by omega);have pO:=g_.grown fK (by omega);have pK:=ak jF fK;clear iO fK jQ g_ jF iq;obtain⟨_,_,_,_,c4,c5,c6,c7,c8,c9,_,_⟩:=jG.cell;dsimp only at c4 c5 c6 c7 c8 c9;have ff:=jG.free 8;have hpre:=c8;clear c4 c5 c6 c7 c9;go_wp2_with fail;have jQ:=jG.set ⟨x0,1,0,jc hu,(n4 a0 b0 e0 d0),(n4 a1 b1 e1 d1),(n4 a2 b2 e2 d2),(n4 a3 b3 e3 d3),(n4 a4 b4 e4 d4),0,none,0,0,⟨#[]⟩⟩ 8 (.int .u32 (n4 a4 b4 e4 d4)) rfl;have iO:=mY.setCell (B:=B) (by omega) (i:=8) (.int .u32 0) (.int .u32 (n4 a4 b4 e4 d4)) (by simp) hpre;have g_:=pO.other (a:=⟨B,8,none⟩) (by simp;omega) (.int .u32 (n4 a4 b4 e4 d4));have jF:=bq pK (a:=⟨B,8,none⟩) (by simp;omega) (.int .u32 (n4 a4 b4 e4 d4));have iq:=(lV w9 ⟨B,8,none⟩ (.int .u32 (n4 a4 b4 e4 d4)) N (by simp;omega)).trans qY;clear mY jG pO pK qY ff hpre c8;generalize w9.setCell _ _=w8 at jQ iO g_ jF iq ⊢;rw[rounds_succ];obtain⟨v,hv,hvf,hvb,hvs⟩:=iO;have hsh:∃a c,v=.slice a r4.length c:=by
   rcases hvs with⟨rfl,h⟩|⟨_,_,_,rfl,_⟩
   ·exact⟨none,0,by rw[h];rfl⟩
   ·exact⟨_,_,rfl⟩
  obtain⟨sa,sc,rfl⟩:=hsh;clear hvs hvb hvf iq;obtain⟨c0,c1,c2,c3,c4,c5,c6,c7,c8,c9,c10,c11⟩:=jQ.cell;dsimp only at c0 c1 c2 c3 c4 c5 c6 c7 c8 c9 c10 c11;have f2:=jQ.free 2;have hBx:=jQ.set ⟨x0,1,x4,jc hu,(n4 a0 b0 e0 d0),(n4 a1 b1 e1 d1),(n4 a2 b2 e2 d2),(n4 a3 b3 e3 d3),(n4 a4 b4 e4 d4),0,none,0,0,⟨#[]⟩⟩ 2 (.int .i64 x4) rfl;have Xx:=g_.other (a:=⟨B,2,none⟩) (by simp;omega) (.int .i64 x4);have EM:=bq jF (a:=⟨B,2,none⟩) (by simp;omega) (.int .i64 x4);by_cases hrest:r4=[]
  case neg=>
   have hl0:((r4.length:Int)==0)=false:=by
    rw[beq_eq_false_iff_ne];intro h;exact hrest (nU (by omega))
   go_wp2_with(go_at_call 85;refine(eH _).mono ?_;rintro e w9 ⟨rfl,Ao⟩;rw[Ao]);have hl1:0<r4.length:=List.length_pos_iff.2 hrest;refine⟨rfl,EM,.inr ⟨?_,rfl⟩⟩;exact fQ (by rw[show eZ 1 x4=20 from rfl];simp only[dZ];omega)
  subst hrest;have q0:=hby x0 (by simp);have q4:=hby x4 (by simp);have m0:=uh (hby a0 (by simp)) (hby b0 (by simp)) (hby e0 (by simp)) (hby d0 (by simp));have m1:=uh (hby a1 (by simp)) (hby b1 (by simp)) (hby e1 (by simp)) (hby d1 (by simp));have m2:=uh (hby a2 (by simp)) (hby b2 (by simp)) (hby e2 (by simp)) (hby d2 (by simp));have m3:=uh (hby a3 (by simp)) (hby b3 (by simp)) (hby e3 (by simp)) (hby d3 (by simp));have m4:=uh (hby a4 (by simp)) (hby b4 (by simp)) (hby e4 (by simp)) (hby d4 (by simp));have hwf:aD.Wf hBx.pk:=by dsimp only[PB.pk];constructor<;>first|(dsimp only;omega)|simp[ByteArray.size]
  have hpk:jd x0 1 (ET hu) x4 [a0,b0,e0,d0,a1,b1,e1,d1,a2,b2,e2,d2,a3,b3,e3,d3,a4,b4,e4,d4]=hBx.pk:=rfl;have pG:=wZ (x0:=x0) (x1:=1) (x2:=ET hu) (x4:=x4) (r:=[a0,b0,e0,d0,a1,b1,e1,d1,a2,b2,e2,d2,a3,b3,e3,d3,a4,b4,e4,d4]) (AL hu) rfl;rw[hpk]at pG;clear hby q0 q4 m0 m1 m2 m3 m4;cases hg:aD.eG hBx.pk
  ·go_wp2_with(first|(go_at_call 90;refine(dP hBx.pk hwf _).mono ?_;rintro e w9 ⟨rfl,nY⟩)|(go_at_call 85;refine(eH _).mono ?_;rintro e Y5 ⟨rfl,Ao⟩;rw[Ao]));exact⟨rfl,fV EM nY,.inr ⟨pG.trans hg,rfl⟩⟩
  ·go_wp2_with(first|(go_at_call 90;refine(dP hBx.pk hwf _).mono ?_;rintro e w9 ⟨rfl,nY⟩;have MI:=hBx.below nY;have zn:=Xx.below nY;obtain⟨y0,y1,y2,y3,y4,y5,y6,y7,y8,y9,uO,uN⟩:=MI.cell;obtain⟨k0,k1,k2,k3,k4,k5,k6,k7,k8,k9,k10,k11⟩:=zn.cell;have kf:=zn.free;dsimp only at y0 y1 y2 y3 y4 y5 y6 y7 y8 y9 uO uN;dsimp only[aD.zero]at k0 k1 k2 k3 k4 k5 k6 k7 k8 k9 k10 k11)|(go_at_call 85;refine(require_ok _).mono ?_;rintro e w9 ⟨rfl,rfl⟩));have pM:=zn.storeAll hBx.pk;have EN:=lM (fV EM nY) (C:=W.heap.size) (aB _) hBx.pk;clear y0 y1 y2 y3 y4 y5 y6 y7 y8 y9 uO uN k0 k1 k2 k3 k4 k5 k6 k7 k8 k9 k10 k11 kf MI zn;dsimp only[dG,PB.pk]at pM EN;generalize World.setCell _ _ _=wF at pM EN ⊢;obtain⟨y0,y1,y2,y3,y4,y5,y6,y7,y8,y9,uO,uN⟩:=pM.cell;dsimp only at y0 y1 y2 y3 y4 y5 y6 y7 y8 y9 uO uN;refine bodyPost_ret (v:=aD.val hBx.pk) (by simp[results,Tryz.results56,go_sem,y0,y1,y2,y3,y4,y5,y6,y7,y8,y9,uO,uN]) rfl ?_;exact⟨EN,.inl ⟨pG.trans hg,_,rfl,_,_,_,_,_,_,none,0,rfl,rfl,rfl,λj hj=>absurd hj (by simp[pF]),λb hb=>by cases hb⟩⟩
theorem Gs(U:Bool)(R:Nat)(x0 x4:Int)(r:List Int)(W:World)(hr:Rd R (x0::2::fl U::0::x4::r) W):
  Calls Tryz.prog 56 #[.pointer (some ⟨R,0,none⟩)] W λe w'=>jS R (x0::2::fl U::0::x4::r) W e w':=by
 have hu:pV U:=trivial;cases U<;>dsimp only[fl]at hr ⊢
 all_goals
  have hby:=hr.bytes;have hR:=hr.lt;go_enter Tryz.func56,Tryz.ntmps56;go_wp2_with fail;have hC0:=PB.new aD.zero W;have h1:=hr.alloc aD.zero.box;have hg0:=ku W aD.zero.box (some R);dsimp only[aD.box,aD.zero]at hC0 h1 hg0;refine(bG R _ _ _ h1).mono ?_;rintro e w1 ⟨rfl,hr1,hg1⟩;have rf:PB aD.zero W.heap.size w1:=PB.grown hC0 hg1 (by omega);have hW1:=ak hg0 hg1;clear hr h1 hg0 hg1 hC0;go_wp2_with fail;refine(bG R _ _ _ hr1).mono ?_;rintro e w2 ⟨rfl,hr2,hg2⟩;have hC2:=rf.grown hg2 (by omega);have hW2:=ak hW1 hg2;clear hr1 hg2 rf hW1;go_wp2_with fail;have hB:=PB.new ⟨x0,2,0,false,0,0,0,0,0,0,none,0,0,⟨#[]⟩⟩ w2;have Qb:W.heap.size<w2.heap.size:=hC2.lt;have qj:=hC2.alloc (aD.box ⟨x0,2,0,false,0,0,0,0,0,0,none,0,0,⟨#[]⟩⟩);have hr3:=hr2.alloc (aD.box ⟨x0,2,0,false,0,0,0,0,0,0,none,0,0,⟨#[]⟩⟩);have hW3:=ak hW2 (ku w2 (aD.box ⟨x0,2,0,false,0,0,0,0,0,0,none,0,0,⟨#[]⟩⟩) (some R));have J5:=hr2.lt;generalize J8:w2.heap.size=B at hB Qb J5 ⊢;clear J8;dsimp only[aD.box]at hB qj hr3 hW3;clear hr2 hC2 hW2;refine(bG R _ _ _ hr3).mono ?_;rintro e w4 ⟨rfl,hr4,hg4⟩;have hB4:=hB.grown hg4 (by omega);have yt:=qj.grown hg4 (by omega);have EO:=ak hW3 hg4;clear hr3 hg4 hB qj hW3;go_wp2_with(go_at_call 85;refine(require_ok _).mono ?_;rintro e w4 ⟨rfl,rfl⟩;obtain⟨_,_,_,c3,_,_,_,_,_,_,_,_⟩:=hB4.cell;have f3:=hB4.free 3);have uL:=hB4.set ⟨x0,2,0,jc hu,0,0,0,0,0,0,none,0,0,⟨#[]⟩⟩ 3 (.bool (jc hu)) rfl;have nD:=hr4.setCell (B:=B) (by omega) (i:=3) (.bool false) (.bool (jc hu)) (by simp) c3;have rY:=yt.other (a:=⟨B,3,none⟩) (by simp;omega) (.bool (jc hu));have sS:=bq EO (a:=⟨B,3,none⟩) (by simp;omega) (.bool (jc hu));dsimp only[jc]at uL nD rY sS;clear c3 f3 hr4 hB4 yt EO;generalize w4.setCell _ _=w5 at uL nD rY sS ⊢;refine(bG R _ _ _ nD).mono ?_;rintro e w6 ⟨rfl,uo,jB⟩;have Cf:=uL.grown jB (by omega);have gX:=rY.grown jB (by omega);have FM:=ak sS jB;clear nD jB uL rY sS;go_wp2_with(go_at_call 85;refine(require_ok _).mono ?_;rintro e w6 ⟨rfl,rfl⟩);refine(bG R _ _ _ uo).mono ?_;rintro e w7 ⟨rfl,zk,gQ⟩;have jq:=Cf.grown gQ (by omega);have gM:=gX.grown gQ (by omega);have Mx:=ak FM gQ;clear uo gQ Cf gX FM;go_wp2_with fail;obtain⟨_,c1,_,_,_,_,_,_,_,_,_,_⟩:=jq.cell;refine(wU B w7 c1).mono ?_;rintro e w8 ⟨rfl,hw8⟩;have iq:w8.heap[w7.heap.size]?=some (.cells #[.pointer (some ⟨B,5,none⟩),.pointer (some ⟨B,6,none⟩),.pointer (some ⟨B,7,none⟩),.pointer (some ⟨B,9,none⟩)] 189 (0,0)):=by rw[hw8];exact bV w7 _
  have jQ:PB ⟨x0,2,0,jc hu,0,0,0,0,0,0,none,0,0,⟨#[]⟩⟩ B w8:=by rw[hw8];exact jq.alloc _
  have g_:PB aD.zero W.heap.size w8:=by rw[hw8];exact gM.alloc _
  have iO:Rd R r w8:=by rw[hw8];exact(zk.alloc _).drew
  have jF:W.grownBy w8 (some R):=by rw[hw8];exact uy (ak Mx (ku w7 _ _))
  have hBN:B<w7.heap.size:=jq.lt;generalize w7.heap.size=N at iq hBN ⊢;clear hw8 zk jq gM Mx c1;go_wp2_with fail;refine wp_loop_rounds 5 ?_;rw[rounds_succ];have Yr:=aJ w8 N 0 _ _ _ iq;simp only[List.getElem?_toArray,List.getElem?_cons_zero]at Yr;go_wp2_with fail;clear Yr;refine(dJ R _ _ iO).mono ?_;rintro e w9 (⟨a0,b0,e0,d0,r0,rfl,rfl,mY,fK,_⟩|⟨hshort,rfl,rfl⟩)
  case inr=>exact⟨rfl,jF,.inr ⟨fQ (by rw[show eZ 2 x4=16 from rfl];first|omega|(simp only[dZ];omega)),rfl⟩⟩
  have qY:=(fK.block N (iA.1 iq).1 (by simp;omega)).trans iq;have jG:=jQ.grown fK (by omega);have pO:=g_.grown fK (by omega);have pK:=ak jF fK;clear iO fK jQ g_ jF iq;obtain⟨_,_,_,_,c4,c5,c6,c7,c8,c9,_,_⟩:=jG.cell;dsimp only at c4 c5 c6 c7 c8 c9;have ff:=jG.free 5;have hpre:=c5;clear c4 c6 c7 c8 c9;go_wp2_with fail;have jQ:=jG.set ⟨x0,2,0,jc hu,0,(n4 a0 b0 e0 d0),0,0,0,0,none,0,0,⟨#[]⟩⟩ 5 (.int .u32 (n4 a0 b0 e0 d0)) rfl;have iO:=mY.setCell (B:=B) (by omega) (i:=5) (.int .u32 0) (.int .u32 (n4 a0 b0 e0 d0)) (by simp) hpre;have g_:=pO.other (a:=⟨B,5,none⟩) (by simp;omega) (.int .u32 (n4 a0 b0 e0 d0));have jF:=bq pK (a:=⟨B,5,none⟩) (by simp;omega) (.int .u32 (n4 a0 b0 e0 d0));have iq:=(lV w9 ⟨B,5,none⟩ (.int .u32 (n4 a0 b0 e0 d0)) N (by simp;omega)).trans qY;clear mY jG pO pK qY ff hpre c5;generalize w9.setCell _ _=w8 at jQ iO g_ jF iq ⊢;rw[rounds_succ];have pc1:=aJ w8 N 1 _ _ _ iq;simp only[List.getElem?_toArray,List.getElem?_cons_succ,List.getElem?_cons_zero]at pc1;go_wp2_with fail;clear pc1;refine(dJ R _ _ iO).mono ?_;rintro e w9 (⟨a1,b1,e1,d1,r1,rfl,rfl,mY,fK,_⟩|⟨hshort,rfl,rfl⟩)
  case inr=>exact⟨rfl,jF,.inr ⟨fQ (by rw[show eZ 2 x4=16 from rfl];first|omega|(simp only[dZ];omega)),rfl⟩⟩
  have qY:=(fK.block N (iA.1 iq).1 (by simp;omega)).trans iq;have jG:=jQ.grown fK (by omega);have pO:=g_.grown fK (by omega);have pK:=ak jF fK;clear iO fK jQ g_ jF iq;obtain⟨_,_,_,_,c4,c5,c6,c7,c8,c9,_,_⟩:=jG.cell;dsimp only at c4 c5 c6 c7 c8 c9;have ff:=jG.free 6;have hpre:=c6;clear c4 c5 c7 c8 c9;go_wp2_with fail;have jQ:=jG.set ⟨x0,2,0,jc hu,0,(n4 a0 b0 e0 d0),(n4 a1 b1 e1 d1),0,0,0,none,0,0,⟨#[]⟩⟩ 6 (.int .u32 (n4 a1 b1 e1 d1)) rfl;have iO:=mY.setCell (B:=B) (by omega) (i:=6) (.int .u32 0) (.int .u32 (n4 a1 b1 e1 d1)) (by simp) hpre;have g_:=pO.other (a:=⟨B,6,none⟩) (by simp;omega) (.int .u32 (n4 a1 b1 e1 d1));have jF:=bq pK (a:=⟨B,6,none⟩) (by simp;omega) (.int .u32 (n4 a1 b1 e1 d1));have iq:=(lV w9 ⟨B,6,none⟩ (.int .u32 (n4 a1 b1 e1 d1)) N (by simp;omega)).trans qY;clear mY jG pO pK qY ff hpre c6;generalize w9.setCell _ _=w8 at jQ iO g_ jF iq ⊢;rw[rounds_succ];have pc2:=aJ w8 N 2 _ _ _ iq;simp only[List.getElem?_toArray,List.getElem?_cons_succ,List.getElem?_cons_zero]at pc2;go_wp2_with fail;clear pc2;refine(dJ R _ _ iO).mono ?_;rintro e w9 (⟨a2,b2,e2,d2,r2,rfl,rfl,mY,fK,_⟩|⟨hshort,rfl,rfl⟩)
  case inr=>exact⟨rfl,jF,.inr ⟨fQ (by rw[show eZ 2 x4=16 from rfl];first|omega|(simp only[dZ];omega)),rfl⟩⟩
  have qY:=(fK.block N (iA.1 iq).1 (by simp;omega)).trans iq;have jG:=jQ.grown fK (by omega);have pO:=g_.grown fK (by omega);have pK:=ak jF fK;clear iO fK jQ g_ jF iq;obtain⟨_,_,_,_,c4,c5,c6,c7,c8,c9,_,_⟩:=jG.cell;dsimp only at c4 c5 c6 c7 c8 c9;have ff:=jG.free 7;have hpre:=c7;clear c4 c5 c6 c8 c9;go_wp2_with fail;have jQ:=jG.set ⟨x0,2,0,jc hu,0,(n4 a0 b0 e0 d0),(n4 a1 b1 e1 d1),(n4 a2 b2 e2 d2),0,0,none,0,0,⟨#[]⟩⟩ 7 (.int .u32 (n4 a2 b2 e2 d2)) rfl;have iO:=mY.setCell (B:=B) (by omega) (i:=7) (.int .u32 0) (.int .u32 (n4 a2 b2 e2 d2)) (by simp) hpre;have g_:=pO.other (a:=⟨B,7,none⟩) (by simp;omega) (.int .u32 (n4 a2 b2 e2 d2));have jF:=bq pK (a:=⟨B,7,none⟩) (by simp;omega) (.int .u32 (n4 a2 b2 e2 d2));have iq:=(lV w9 ⟨B,7,none⟩ (.int .u32 (n4 a2 b2 e2 d2)) N (by simp;omega)).trans qY;clear mY jG pO pK qY ff hpre c7;generalize w9.setCell _ _=w8 at jQ iO g_ jF iq ⊢;rw[rounds_succ];have pc3:=aJ w8 N 3 _ _ _ iq;simp only[List.getElem?_toArray,List.getElem?_cons_succ,List.getElem?_cons_zero]at pc3;go_wp2_with fail;clear pc3;refine(dJ R _ _ iO).mono ?_;rintro e w9 (⟨a3,b3,e3,d3,r3,rfl,rfl,mY,fK,_⟩|⟨hshort,rfl,rfl⟩)
  case inr=>exact⟨rfl,jF,.inr ⟨fQ (by rw[show eZ 2 x4=16 from rfl];first|omega|(simp only[dZ];omega)),rfl⟩⟩
  have qY:=(fK.block N (iA.1 iq).1 (by simp;omega)).trans iq;have jG:=jQ.grown fK (by omega);have pO:=g_.grown fK (by omega);have pK:=ak jF fK;clear iO fK jQ g_ jF iq;obtain⟨_,_,_,_,c4,c5,c6,c7,c8,c9,_,_⟩:=jG.cell;dsimp only at c4 c5 c6 c7 c8 c9;have ff:=jG.free 9;have hpre:=c9;clear c4 c5 c6 c7 c8;go_wp2_with fail;have jQ:=jG.set ⟨x0,2,0,jc hu,0,(n4 a0 b0 e0 d0),(n4 a1 b1 e1 d1),(n4 a2 b2 e2 d2),0,(n4 a3 b3 e3 d3),none,0,0,⟨#[]⟩⟩ 9 (.int .u32 (n4 a3 b3 e3 d3)) rfl;have iO:=mY.setCell (B:=B) (by omega) (i:=9) (.int .u32 0) (.int .u32 (n4 a3 b3 e3 d3)) (by simp) hpre;have g_:=pO.other (a:=⟨B,9,none⟩) (by simp;omega) (.int .u32 (n4 a3 b3 e3 d3));have jF:=bq pK (a:=⟨B,9,none⟩) (by simp;omega) (.int .u32 (n4 a3 b3 e3 d3));have iq:=(lV w9 ⟨B,9,none⟩ (.int .u32 (n4 a3 b3 e3 d3)) N (by simp;omega)).trans qY;clear mY jG pO pK qY ff hpre c9;generalize w9.setCell _ _=w8 at jQ iO g_ jF iq ⊢;rw[rounds_succ];obtain⟨v,hv,hvf,hvb,hvs⟩:=iO;have hsh:∃a c,v=.slice a r3.length c:=by
   rcases hvs with⟨rfl,h⟩|⟨_,_,_,rfl,_⟩
   ·exact⟨none,0,by rw[h];rfl⟩
   ·exact⟨_,_,rfl⟩
  obtain⟨sa,sc,rfl⟩:=hsh;clear hvs hvb hvf iq;obtain⟨c0,c1,c2,c3,c4,c5,c6,c7,c8,c9,c10,c11⟩:=jQ.cell;dsimp only at c0 c1 c2 c3 c4 c5 c6 c7 c8 c9 c10 c11;have f2:=jQ.free 2;have hBx:=jQ.set ⟨x0,2,x4,jc hu,0,(n4 a0 b0 e0 d0),(n4 a1 b1 e1 d1),(n4 a2 b2 e2 d2),0,(n4 a3 b3 e3 d3),none,0,0,⟨#[]⟩⟩ 2 (.int .i64 x4) rfl;have Xx:=g_.other (a:=⟨B,2,none⟩) (by simp;omega) (.int .i64 x4);have EM:=bq jF (a:=⟨B,2,none⟩) (by simp;omega) (.int .i64 x4);by_cases hrest:r3=[]
  case neg=>
   have hl0:((r3.length:Int)==0)=false:=by
    rw[beq_eq_false_iff_ne];intro h;exact hrest (nU (by omega))
   go_wp2_with(go_at_call 85;refine(eH _).mono ?_;rintro e w9 ⟨rfl,Ao⟩;rw[Ao]);have hl1:0<r3.length:=List.length_pos_iff.2 hrest;refine⟨rfl,EM,.inr ⟨?_,rfl⟩⟩;exact fQ (by rw[show eZ 2 x4=16 from rfl];simp only[dZ];omega)
  subst hrest;have q0:=hby x0 (by simp);have q4:=hby x4 (by simp);have m0:=uh (hby a0 (by simp)) (hby b0 (by simp)) (hby e0 (by simp)) (hby d0 (by simp));have m1:=uh (hby a1 (by simp)) (hby b1 (by simp)) (hby e1 (by simp)) (hby d1 (by simp));have m2:=uh (hby a2 (by simp)) (hby b2 (by simp)) (hby e2 (by simp)) (hby d2 (by simp));have m3:=uh (hby a3 (by simp)) (hby b3 (by simp)) (hby e3 (by simp)) (hby d3 (by simp));have hwf:aD.Wf hBx.pk:=by dsimp only[PB.pk];constructor<;>first|(dsimp only;omega)|simp[ByteArray.size]
  have hpk:jd x0 2 (ET hu) x4 [a0,b0,e0,d0,a1,b1,e1,d1,a2,b2,e2,d2,a3,b3,e3,d3]=hBx.pk:=rfl;have pG:=wZ (x0:=x0) (x1:=2) (x2:=ET hu) (x4:=x4) (r:=[a0,b0,e0,d0,a1,b1,e1,d1,a2,b2,e2,d2,a3,b3,e3,d3]) (AL hu) rfl;rw[hpk]at pG;clear hby q0 q4 m0 m1 m2 m3;cases hg:aD.eG hBx.pk
  ·go_wp2_with(first|(go_at_call 90;refine(dP hBx.pk hwf _).mono ?_;rintro e w9 ⟨rfl,nY⟩)|(go_at_call 85;refine(eH _).mono ?_;rintro e Y5 ⟨rfl,Ao⟩;rw[Ao]));exact⟨rfl,fV EM nY,.inr ⟨pG.trans hg,rfl⟩⟩
  ·go_wp2_with(first|(go_at_call 90;refine(dP hBx.pk hwf _).mono ?_;rintro e w9 ⟨rfl,nY⟩;have MI:=hBx.below nY;have zn:=Xx.below nY;obtain⟨y0,y1,y2,y3,y4,y5,y6,y7,y8,y9,uO,uN⟩:=MI.cell;obtain⟨k0,k1,k2,k3,k4,k5,k6,k7,k8,k9,k10,k11⟩:=zn.cell;have kf:=zn.free;dsimp only at y0 y1 y2 y3 y4 y5 y6 y7 y8 y9 uO uN;dsimp only[aD.zero]at k0 k1 k2 k3 k4 k5 k6 k7 k8 k9 k10 k11)|(go_at_call 85;refine(require_ok _).mono ?_;rintro e w9 ⟨rfl,rfl⟩));have pM:=zn.storeAll hBx.pk;have EN:=lM (fV EM nY) (C:=W.heap.size) (aB _) hBx.pk;clear y0 y1 y2 y3 y4 y5 y6 y7 y8 y9 uO uN k0 k1 k2 k3 k4 k5 k6 k7 k8 k9 k10 k11 kf MI zn;dsimp only[dG,PB.pk]at pM EN;generalize World.setCell _ _ _=wF at pM EN ⊢;obtain⟨y0,y1,y2,y3,y4,y5,y6,y7,y8,y9,uO,uN⟩:=pM.cell;dsimp only at y0 y1 y2 y3 y4 y5 y6 y7 y8 y9 uO uN;refine bodyPost_ret (v:=aD.val hBx.pk) (by simp[results,Tryz.results56,go_sem,y0,y1,y2,y3,y4,y5,y6,y7,y8,y9,uO,uN]) rfl ?_;exact⟨EN,.inl ⟨pG.trans hg,_,rfl,_,_,_,_,_,_,none,0,rfl,rfl,rfl,λj hj=>absurd hj (by simp[pF]),λb hb=>by cases hb⟩⟩
end Go.Proofs.YtakaadcpaeiccabGreat
