/- AutoDiffers holds of the program as it landed: two machines are told apart by the first of the shortest words, or told to be the same; for any machines of at most 30 states and 8 letters. -/
import Derived.Test.YthcoppfiahnpoaaRows
import Derived.Test.YthcoppfiahnpoaaVe6
set_option maxRecDepth 100000
namespace Go.Proofs.Ythcoppfiahnpoaa
open Go Sym
open Go.ChangeShapes Go.WideShapes Go.ChangeAt
theorem own_knob : ownKnob Try.prog.godebug = none := by kernel_rfl
theorem laid_out : laidOutB Try.prog = true := by kernel_rfl
theorem rec_tMachine : Try.prog.readableRec 25 = true := by kernel_rfl
theorem row_tMachine : (25 : TypeId) < Try.prog.types.size := of_decide_eq_true (by kernel_rfl)
theorem light_of {H : Type} {P : Program} {ts : List TypeId} {ds : List (DataW H)} (h : (DataW.weightsEach P ts ds).all (· ≤ reachBytes) = true) {j : Nat} {t : TypeId} {d : DataW H} (ht : ts[j]? = some t) (hd : ds[j]? = some d) : Light P t d := fun n hn => by
  have := List.all_eq_true.1 h _ (DataW.weights_mem_each ht hd n hn)
  exact (of_decide_eq_true this : n ≤ reachBytes)
end Go.Proofs.Ythcoppfiahnpoaa
namespace Go.Proofs.Ythcoppfiahnpoaa
open Go Sym
open Go.ChangeShapes Go.WideShapes Go.ChangeAt
end Go.Proofs.Ythcoppfiahnpoaa
namespace Go.Proofs.Ythcoppfiahnpoaa
open Go Sym
open Go.ChangeShapes Go.WideShapes Go.ChangeAt
theorem autoDiffers_lifted (C : AwakeC) (os : Os) (started : os.Started) (H : Type) (enc : TypeId × Value → H) :
    ReturnsInHanded {} Try.checked os 6 .any (Rows.autoDiffersSpec.pre6 enc Try.prog Try.f6 Rows.autoDiffersRow.domain false) (Rows.autoDiffersSpec.post enc Try.prog Try.f6 false true false false) := by
  refine returnsInHanded_of_change_sized (C := Try.checked) own_knob started (by kernel_rfl) Try.func6
    (ChangeSpec.witness6 (enc := enc) (C := Try.checked) false ⟨#[], #[.agg #[Vi 0, Vi 0, .slice none 0 0, .slice none 0 0], .agg #[Vi 0, Vi 0, .slice none 0 0, .slice none 0 0]], []⟩ 8 (by kernel_rfl) (by kernel_rfl) (by kernel_rfl) (by kernel_rfl)) ?_
  intro W base args ds gs before hval0 hW hcnd hsz0 _
  have hsz : (DataW.weightsEach Try.prog (Try.f6.params.toList ++ Rows.autoDiffersSpec.plain.varTypes Try.prog) (ds ++ gs)).all (· ≤ reachBytes) = true := hsz0
  have hW1 : DataW.Whole enc Try.prog Try.f6.params.toList Rows.autoDiffersSpec.vars false W args.toList ds gs before := hW
  clear hsz0 hval0 hcnd
  obtain ⟨p, q, hA0, hV, rfl, hfz, hnd⟩ := hW
  have hA : DataW.TrodAll enc Try.prog W 0 (fun _ => true) true Try.f6.params.toList args.toList ds p := hA0
  rw [Try.params6] at hA hsz
  obtain ⟨v0, vs0, d0, ds0, p0, q0, hargs, rfl, rfl, h0, r0⟩ := trodAll_cons hA
  obtain ⟨v1, vs1, d1, ds1, p1, q1, rfl, rfl, rfl, h1, r1⟩ := trodAll_cons r0
  obtain ⟨rfl, rfl, rfl⟩ := trodAll_nil r1
  obtain rfl : args = #[v0, v1] := by cases args; simp_all
  obtain ⟨rfl, rfl⟩ := trodVars_none hV
  obtain ⟨L1, s1, n1, f1, vn1, ve1, rfl, hm1⟩ := open_machine h0 (light_of hsz (j := 0) rfl rfl)
  obtain ⟨L2, s2, n2, f2, vn2, ve2, rfl, hm2⟩ := open_machine h1 (light_of hsz (j := 1) rfl rfl)
  refine (autoDiffers_any C L1 s1 L2 s2 vn1 ve1 vn2 ve2 n1 n2 f1 f2 W hm1 hm2).mono fun e W' ⟨he, hb⟩ => ⟨_, he, ?_⟩
  exact law_post hW1 rfl rfl (by kernel_rfl) Try.underlying4 laid_out (fun t ht => by
    rw [Try.params6] at ht
    simp only [List.mem_cons, List.not_mem_nil, or_false] at ht
    rcases ht with rfl | rfl <;> exact ⟨rec_tMachine, row_tMachine⟩) hb
theorem autoDiffers_holds (C : AwakeC) : Rows.AutoDiffersSaid :=
  OpenClaim.holds_of_wide 6 Try.f6 rfl rfl rfl rfl rfl rfl rfl ⟨rfl, rfl, rfl, rfl, rfl⟩ rfl rfl rfl rfl rfl (by kernel_rfl) Try.func6 (by kernel_rfl)
    (of_decide_eq_true (by kernel_rfl)) (by unfold Func.isWrapper; first | (rw [if_pos (by decide +kernel)]; kernel_rfl) | (rw [if_neg (by decide +kernel)]; exact ⟨rfl, rfl⟩))
    (fun os started H enc _ => autoDiffers_lifted C os started H enc)
end Go.Proofs.Ythcoppfiahnpoaa
namespace Go.Proofs.Ythcoppfiahnpoaa
theorem autoDiffers : Rows.AutoDiffersSaid := autoDiffers_holds awakeC
end Go.Proofs.Ythcoppfiahnpoaa
