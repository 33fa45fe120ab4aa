/- AutoJoins holds of the program as it landed: Both and Either give, for any two machines of at most 30 states and 8 letters, what the product of the two gives, made small. -/
import Derived.Test.YthcoppfiahnpoaaGreatRows
import Derived.Test.YthcoppfiahnpoaaGreatVj6
set_option maxRecDepth 100000
namespace Go.Proofs.YthcoppfiahnpoaaGreat
open Go Sym
open Go.ChangeShapes Go.WideShapes Go.ChangeAt
theorem own_knob : ownKnob Tryz.prog.godebug = none:=by kernel_rfl
theorem laid_out : laidOutB Tryz.prog = true:=by kernel_rfl
theorem rec_tMachine : Tryz.prog.readableRec 25 = true:=by kernel_rfl
theorem row_tMachine : (25 : TypeId) < Tryz.prog.types.size:=of_decide_eq_true (by kernel_rfl)
theorem light_of {H : Type} {P : Program} {ts : List TypeId} {ds : List (DataW H)} (h : (DataW.weightsEach P ts ds).all (· ≤ reachBytes) = true) {j : Nat} {t : TypeId} {d : DataW H} (ht : ts[j]? = some t) (hd : ds[j]? = some d) : Light P t d:=fun n hn=>by
 have:=List.all_eq_true.1 h _ (DataW.weights_mem_each ht hd n hn)
 exact (of_decide_eq_true this : n ≤ reachBytes)
end Go.Proofs.YthcoppfiahnpoaaGreat
namespace Go.Proofs.YthcoppfiahnpoaaGreat
open Go Sym
open Go.ChangeShapes Go.WideShapes Go.ChangeAt
end Go.Proofs.YthcoppfiahnpoaaGreat
namespace Go.Proofs.YthcoppfiahnpoaaGreat
open Go Sym
open Go.ChangeShapes Go.WideShapes Go.ChangeAt
end Go.Proofs.YthcoppfiahnpoaaGreat
namespace Go.Proofs.YthcoppfiahnpoaaGreat
open Go Sym
open Go.ChangeShapes Go.WideShapes Go.ChangeAt
theorem autoJoins_lifted (C : AwakeC) (JB : Jn.JoinC true 8) (JE : Jn.JoinC false 10) (os : Os) (started : os.Started) (H : Type) (enc : TypeId × Value → H) :
  ReturnsInHanded {} Tryz.checked os 3 .any (Rows.autoJoinsSpec.pre6 enc Tryz.prog Tryz.f3 Rows.autoJoinsRow.domain false) (Rows.autoJoinsSpec.post enc Tryz.prog Tryz.f3 false true false false):=by
 refine returnsInHanded_of_change_sized (C:=Tryz.checked) own_knob started (by kernel_rfl) Tryz.func3
  (ChangeSpec.witness6 (enc:=enc) (C:=Tryz.checked) false ⟨#[],#[.agg #[Vi 0,Vi 0,.slice none 0 0,.slice none 0 0],.agg #[Vi 0,Vi 0,.slice none 0 0,.slice none 0 0]],[]⟩ 8 (by kernel_rfl) (by kernel_rfl) (by kernel_rfl) (by kernel_rfl)) ?_
 intro W base args ds gs before hval0 hW hcnd hsz0 _
 have hsz : (DataW.weightsEach Tryz.prog (Tryz.f3.params.toList ++ Rows.autoJoinsSpec.plain.varTypes Tryz.prog) (ds ++ gs)).all (· ≤ reachBytes) = true:=hsz0
 have hW1 : DataW.Whole enc Tryz.prog Tryz.f3.params.toList Rows.autoJoinsSpec.vars false W args.toList ds gs before:=hW
 have hval : ∀ (j : Nat) t v,Tryz.f3.params[j]? = some t → args[j]? = some v → Value.okWide Tryz.prog W .any base t v:=hval0
 clear hsz0 hval0 hcnd
 obtain ⟨p,q,hA0,hV,rfl,hfz,hnd⟩:=hW
 have hA : DataW.TrodAll enc Tryz.prog W 0 (fun _=>true) true Tryz.f3.params.toList args.toList ds p:=hA0
 rw [Tryz.params3] at hA hsz hval
 obtain ⟨v0,vs0,d0,ds0,p0,q0,hargs,rfl,rfl,h0,r0⟩:=trodAll_cons hA
 obtain ⟨v1,vs1,d1,ds1,p1,q1,rfl,rfl,rfl,h1,r1⟩:=trodAll_cons r0
 obtain ⟨rfl,rfl,rfl⟩:=trodAll_nil r1
 obtain rfl : args = #[v0,v1]:=by cases args; simp_all
 obtain ⟨rfl,rfl⟩:=trodVars_none hV
 obtain ⟨L1,s1,n1,f1,vn1,ve1,rfl,hm1⟩:=open_machine h0 (light_of hsz (j:=0) rfl rfl)
 obtain ⟨L2,s2,n2,f2,vn2,ve2,rfl,hm2⟩:=open_machine h1 (light_of hsz (j:=1) rfl rfl)
 refine (autoJoins_any C JB JE L1 s1 L2 s2 vn1 ve1 vn2 ve2 n1 n2 f1 f2 W hm1 hm2).mono fun e W' ⟨he,hb⟩=>⟨_,he,?_⟩
 exact law_post hW1 rfl rfl (by kernel_rfl) Tryz.underlying4 laid_out (fun t ht=>by
  rw [Tryz.params3] at ht
  simp only [List.mem_cons,List.not_mem_nil,or_false] at ht
  rcases ht with rfl | rfl
  ·exact ⟨rec_tMachine,row_tMachine⟩
  ·exact ⟨rec_tMachine,row_tMachine⟩) hb
theorem autoJoins_holds (C : AwakeC) (JB : Jn.JoinC true 8) (JE : Jn.JoinC false 10) : Rows.AutoJoinsSaid:=
 OpenClaim.holds_of_wide 3 Tryz.f3 rfl rfl rfl rfl rfl rfl rfl ⟨rfl,rfl,rfl,rfl,rfl⟩ rfl rfl rfl rfl rfl (by kernel_rfl) Tryz.func3 (by kernel_rfl)
  (of_decide_eq_true (by kernel_rfl)) (by unfold Func.isWrapper; first | (rw [if_pos (by decide +kernel)]; kernel_rfl) | (rw [if_neg (by decide +kernel)]; exact ⟨rfl,rfl⟩))
  (fun os started H enc _=>autoJoins_lifted C JB JE os started H enc)
end Go.Proofs.YthcoppfiahnpoaaGreat
namespace Go.Proofs.YthcoppfiahnpoaaGreat
theorem autoJoins : Rows.AutoJoinsSaid:=autoJoins_holds awakeC Jn.aBoth_c Jn.aEither_c
end Go.Proofs.YthcoppfiahnpoaaGreat
