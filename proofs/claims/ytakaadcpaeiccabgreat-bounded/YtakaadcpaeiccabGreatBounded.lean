/- Proved: for every int and every list of steps, meshkeep.Bounded returns true and leaves its arguments as they were (the statement Rows.BoundedSaid, with no condition of ours). -/
import Derived.Test.YtakaadcpaeiccabGreatRows
import Derived.Test.YtakaadcpaeiccabGreatB24
set_option maxRecDepth 100000
namespace Go.Proofs.YtakaadcpaeiccabGreat
open Go.ChangeShapes Go.WideShapes Go.ChangeAt Go.RowKit Go.Deep
theorem own:ownKnob Tryz.prog.godebug=none:=by kernel_rfl
theorem laidOut:laidOutB Tryz.prog=true:=by kernel_rfl
theorem zJ(os:Os)(started:os.Started)(H:Type)(enc:TypeId×Value->H):
  ReturnsInHanded {} Tryz.checked os 6 .any (Rows.boundedSpec.pre6 enc Tryz.prog Tryz.f6 Rows.boundedRow.domain false) (Rows.boundedSpec.post enc Tryz.prog Tryz.f6 false true false false):=by
 refine returnsInHanded_of_change (C:=Tryz.checked) own started (by kernel_rfl) Tryz.func6
  (ChangeSpec.witness6 (enc:=enc) (C:=Tryz.checked) false ⟨#[],#[.int .i64 0,.slice none 0 0],[]⟩ 8 (by kernel_rfl) (by kernel_rfl) (by kernel_rfl) (by kernel_rfl)) ?_
 intro W base args ds gs before hval0 hW _ _;have hval:∀(j:Nat) t v,Tryz.f6.params[j]?=some t->args[j]?=some v->Value.okWide Tryz.prog W .any base t v:=hval0;have hW':=hW;obtain⟨p,q,hA0,hV,rfl,_,_⟩:=hW;have hA:DataW.TrodAll enc Tryz.prog W 0 (λ_=>true) true Tryz.f6.params.toList args.toList ds p:=hA0;rw[Tryz.params6]at hA hval;obtain⟨v0,v1,d0,d1,p0,p1,rfl,rfl,rfl,h0,h1⟩:=trodAll_two hA;obtain⟨rfl,rfl⟩:=trodVars_none hV;have h0k:=h0;have h1k:=h1;obtain⟨x,rfl,rfl,rfl,wx⟩:=open_int Tryz.underlying3 (hval 0 3 v0 rfl rfl) h0;obtain⟨a1,l1,abq,rfl⟩:=okWide_slice Tryz.underlying22 (hval 1 22 v1 rfl rfl);obtain⟨fuel1,hf1⟩:=h1;obtain⟨ao,n,c,L,he1,hn,_,hL,_⟩:=Pb hf1;cases he1;have bx:=bounds_i64 wx;clear hA0 hval0;simp only[gX,List.nil_append]at hW';have hlt:∀x∈p1,x.block<W.heap.size:=λx hx=>by simpa using hW'.lt x hx
 refine(GD x bx a1 l1 abq L hn W hL).mono λe W' ⟨he,hb⟩=> ?_;subst he;refine⟨_,rfl,_,_,_,[],p1,[],hW',trodAll_mk1 (shut_bool Tryz.underlying4 _),?_,rfl,hb.frame _,λh=>by cases h⟩;have ha:DataW.Trod enc Tryz.prog W' 0 (λb=>decide (b<W.heap.size)) true 3 (.int .i64 x) _ []:=Below.trod laidOut (by kernel_rfl) (of_decide_eq_true (by kernel_rfl)) h0k hb (λx hx=>by cases hx);have hs:DataW.Trod enc Tryz.prog W' 0 (λb=>decide (b<W.heap.size)) true 22 (.slice a1 l1 abq) d1 p1:=Below.trod laidOut (by kernel_rfl) (of_decide_eq_true (by kernel_rfl)) h1k hb hlt;have hh:=trodAll_mk2 ha hs;simp only[List.nil_append]at hh;exact hh
theorem bounded_holds:Rows.BoundedSaid:=
 OpenClaim.holds_of_wide 6 Tryz.f6 rfl rfl rfl rfl rfl rfl rfl ⟨rfl,rfl,rfl,rfl,rfl⟩ rfl rfl rfl rfl rfl (by kernel_rfl) Tryz.func6 (by kernel_rfl)
  (of_decide_eq_true (by kernel_rfl)) (by unfold Func.isWrapper;rw[aD (of_decide_eq_false (by kernel_rfl))];exact⟨rfl,rfl⟩)
  (λos started H enc _=>zJ os started H enc)
#print axioms bounded_holds
end Go.Proofs.YtakaadcpaeiccabGreat
