/- Proved: for every int, lists of ints, ints and text, meshkeep.Arrives returns true and leaves its arguments as they were (the statement Rows.ArrivesSaid, with no condition of ours). -/
import Derived.Test.YtakaadcpaeiccabGreatRows
import Derived.Test.YtakaadcpaeiccabGreatV26
import Derived.ChangeMaps5
import Derived.Lib.SmallJoins
set_option maxRecDepth 100000
namespace Go.Proofs.YtakaadcpaeiccabGreat
open Go.ChangeShapes Go.WideShapes Go.ChangeAt Go.RowKit Go.Deep
theorem own:ownKnob Tryz.prog.godebug=none:=by kernel_rfl
theorem laidOut:laidOutB Tryz.prog=true:=by kernel_rfl
theorem rcI:Tryz.prog.cellsOf 3=1:=by kernel_rfl
theorem O5{α β:Type}(g:α->β)(L:List α):(L.flatMap λx=> [g x])=L.map g:=by
 induction L with
 |nil=>rfl
 |cons a L ih=>rw[List.flatMap_cons,ih];rfl
theorem open_ints{H:Type}{enc:TypeId×Value->H}{W:World}{fuel:Nat}{c:Value}{x:DataW H×List MemPlace}(h:DataW.trod enc Tryz.prog W 0 (λ_=>true) true fuel 44 [c]=some x):
  ∃(ao:Option Addr) (n cap:Nat) (L:List Int),c=.slice ao n cap∧L.length=n∧n<=maxLen∧gG W ao (L.map (Value.int .i64))∧∀x∈L,-9223372036854775808<=x∧x<=9223372036854775807:=by
 obtain⟨ao,n,cap,L,h1,h2,h3,h4,h5⟩:=N9 Tryz.underlying44 rcI (by decide) (λx:Int=> [.int .i64 x]) (λx=>-9223372036854775808<=x∧x<=9223372036854775807) (λ_=>rfl) (λn cs y hd hl=>by
  obtain⟨u,rfl⟩:∃u,cs=[u]:=by
   match cs,hl with
   | [u],_=>exact⟨u,rfl⟩
  obtain⟨a,e0,_,w1⟩:=DataW.trod_int Tryz.underlying3 hd;simp at e0;subst e0;exact⟨a,rfl,bounds_i64 w1⟩) h
 rw[O5]at h4;exact⟨ao,n,cap,L,h1,h2,h3,h4,h5⟩
theorem Ba(os:Os)(started:os.Started)(H:Type)(enc:TypeId×Value->H):
  ReturnsInHanded {} Tryz.checked os 4 .any (Rows.arrivesSpec.pre6 enc Tryz.prog Tryz.f4 Rows.arrivesRow.domain false) (Rows.arrivesSpec.post enc Tryz.prog Tryz.f4 false true false false):=by
 refine returnsInHanded_of_change (C:=Tryz.checked) own started (by kernel_rfl) Tryz.func4
  (ChangeSpec.witness6 (enc:=enc) (C:=Tryz.checked) false ⟨#[],#[.int .i64 0,.slice none 0 0,.slice none 0 0,.int .i64 0,.int .i64 0,.string ⟨#[]⟩],[]⟩ 8 (by kernel_rfl) (by kernel_rfl) (by kernel_rfl) (by kernel_rfl)) ?_
 intro W base args ds gs before hval0 hW _ _;have hval:∀(j:Nat) t v,Tryz.f4.params[j]?=some t->args[j]?=some v->Value.okWide Tryz.prog W .any base t v:=hval0;have hW':=hW;obtain⟨p,q,hA0,hV,rfl,_,_⟩:=hW;have hA:DataW.TrodAll enc Tryz.prog W 0 (λ_=>true) true Tryz.f4.params.toList args.toList ds p:=hA0;rw[Tryz.params4]at hA hval;obtain⟨v0,vs0,d0,ds0,p0,q0,hargs,rfl,rfl,h0,hA⟩:=trodAll_cons hA;obtain⟨v1,vs1,d1,ds1,p1,q1,rfl,rfl,rfl,h1,hA⟩:=trodAll_cons hA;obtain⟨v2,vs2,d2,ds2,p2,q2,rfl,rfl,rfl,h2,hA⟩:=trodAll_cons hA;obtain⟨v3,vs3,d3,ds3,p3,q3,rfl,rfl,rfl,h3,hA⟩:=trodAll_cons hA;obtain⟨v4,vs4,d4,ds4,p4,q4,rfl,rfl,rfl,h4,hA⟩:=trodAll_cons hA;obtain⟨v5,vs5,d5,ds5,p5,q5,rfl,rfl,rfl,h5,hA⟩:=trodAll_cons hA;obtain⟨rfl,rfl,rfl⟩:=trodAll_nil hA;obtain rfl:args=#[v0,v1,v2,v3,v4,v5]:=by cases args;simp_all
 obtain⟨rfl,rfl⟩:=trodVars_none hV;have h0k:=h0;have h1k:=h1;have h2k:=h2;have h3k:=h3;have h4k:=h4;have h5k:=h5;obtain⟨x,rfl,rfl,rfl,wx⟩:=open_int Tryz.underlying3 (hval 0 3 v0 rfl rfl) h0;obtain⟨a1,l1,adb,rfl⟩:=okWide_slice Tryz.underlying44 (hval 1 44 v1 rfl rfl);obtain⟨a2,l2,cap2,rfl⟩:=okWide_slice Tryz.underlying44 (hval 2 44 v2 rfl rfl);obtain⟨y,rfl,rfl,rfl,wy⟩:=open_int Tryz.underlying3 (hval 3 3 v3 rfl rfl) h3;obtain⟨z,rfl,rfl,rfl,wz⟩:=open_int Tryz.underlying3 (hval 4 3 v4 rfl rfl) h4;obtain⟨s,rfl,rfl,rfl,_⟩:=Go.ChangeMaps.open_string Tryz.underlying9 (hval 5 9 v5 rfl rfl) h5;obtain⟨fuel1,hf1⟩:=h1;obtain⟨fuel2,hf2⟩:=h2;obtain⟨ao,n,c,L,he1,hn,_,hL,hLb⟩:=open_ints hf1;cases he1;obtain⟨rF,n2,c2,O,he2,hn2,hm2,hO,hOb⟩:=open_ints hf2;cases he2;have bx:=bounds_i64 wx;have bY:=bounds_i64 wy;have bz:=bounds_i64 wz;clear hA0 hval0 hval;simp only[fw,List.nil_append]at hW';have hlt:∀x∈p1++p2,x.block<W.heap.size:=λx hx=>by simpa using hW'.lt x hx
 refine(I7 x bx a1 l1 adb L hn hLb a2 l2 cap2 O hn2 hOb (by unfold maxLen at hm2;omega) y bY z bz s W hL hO).mono λe W' ⟨he,hb⟩=> ?_;subst he;refine⟨_,rfl,_,_,_,[],p1++p2,[],hW',trodAll_mk1 (shut_bool Tryz.underlying4 _),?_,rfl,hb.frame _,λh=>by cases h⟩;have k0:DataW.Trod enc Tryz.prog W' 0 (λb=>decide (b<W.heap.size)) true 3 (.int .i64 x) _ []:=Below.trod laidOut (by kernel_rfl) (of_decide_eq_true (by kernel_rfl)) h0k hb (λx hx=>by cases hx);have k1:DataW.Trod enc Tryz.prog W' 0 (λb=>decide (b<W.heap.size)) true 44 (.slice a1 l1 adb) d1 p1:=Below.trod laidOut (by kernel_rfl) (of_decide_eq_true (by kernel_rfl)) h1k hb (λx hx=>hlt x (by simp[hx]));have k2:DataW.Trod enc Tryz.prog W' 0 (λb=>decide (b<W.heap.size)) true 44 (.slice a2 l2 cap2) d2 p2:=Below.trod laidOut (by kernel_rfl) (of_decide_eq_true (by kernel_rfl)) h2k hb (λx hx=>hlt x (by simp[hx]));have k3:DataW.Trod enc Tryz.prog W' 0 (λb=>decide (b<W.heap.size)) true 3 (.int .i64 y) _ []:=Below.trod laidOut (by kernel_rfl) (of_decide_eq_true (by kernel_rfl)) h3k hb (λx hx=>by cases hx);have k4:DataW.Trod enc Tryz.prog W' 0 (λb=>decide (b<W.heap.size)) true 3 (.int .i64 z) _ []:=Below.trod laidOut (by kernel_rfl) (of_decide_eq_true (by kernel_rfl)) h4k hb (λx hx=>by cases hx);have k5:DataW.Trod enc Tryz.prog W' 0 (λb=>decide (b<W.heap.size)) true 9 (.string s) _ []:=Below.trod laidOut (by kernel_rfl) (of_decide_eq_true (by kernel_rfl)) h5k hb (λx hx=>by cases hx);have hh:=trodAll_cons_mk k0 (trodAll_cons_mk k1 (trodAll_cons_mk k2 (trodAll_cons_mk k3 (trodAll_cons_mk k4 (trodAll_mk1 k5)))));simp only[fw,List.nil_append]at hh;exact hh
theorem arrives_holds:Rows.ArrivesSaid:=
 OpenClaim.holds_of_wide 4 Tryz.f4 rfl rfl rfl rfl rfl rfl rfl ⟨rfl,rfl,rfl,rfl,rfl⟩ rfl rfl rfl rfl rfl (by kernel_rfl) Tryz.func4 (by kernel_rfl)
  (of_decide_eq_true (by kernel_rfl)) (by unfold Func.isWrapper;rw[ay (of_decide_eq_false (by kernel_rfl))];exact⟨rfl,rfl⟩)
  (λos started H enc _=>Ba os started H enc)
#print axioms arrives_holds
end Go.Proofs.YtakaadcpaeiccabGreat
