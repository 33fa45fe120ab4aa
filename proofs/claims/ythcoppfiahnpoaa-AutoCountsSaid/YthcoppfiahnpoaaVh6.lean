/- AutoCounts holds of the program as it landed: words are counted as the specification does, those of both and of either are together those of the one and of the other, and a word is accepted by the machines of both and of either as the two accept it; for any machines of at most 30 states and 8 letters, any length, any words. -/
import Derived.Test.YthcoppfiahnpoaaRows
import Derived.Test.YthcoppfiahnpoaaVh5
set_option maxRecDepth 100000
namespace Go.Proofs.Ythcoppfiahnpoaa
open Go Sym
open Go.ChangeShapes Go.WideShapes Go.ChangeAt
theorem own_knob : ownKnob Try.prog.godebug = none := by kernel_rfl
theorem laid_out : laidOutB Try.prog = true := by kernel_rfl
theorem rec_tMachine : Try.prog.readableRec 25 = true := by kernel_rfl
theorem row_tMachine : (25 : TypeId) < Try.prog.types.size := of_decide_eq_true (by kernel_rfl)
theorem light_of {H : Type} {P : Program} {ts : List TypeId} {ds : List (DataW H)} (h : (DataW.weightsEach P ts ds).all (· ≤ reachBytes) = true) {j : Nat} {t : TypeId} {d : DataW H} (ht : ts[j]? = some t) (hd : ds[j]? = some d) : Light P t d := fun n hn => by
  have := List.all_eq_true.1 h _ (DataW.weights_mem_each ht hd n hn)
  exact (of_decide_eq_true this : n ≤ reachBytes)
theorem slice_cells {P : Program} {w : World} {r : Reach} {b : Nat} {t e : TypeId} {v : Value} (ht : P.underlying t = some (.slice e)) (h : Value.okWide P w r b t v) : v.cells.toList = [v] := by
  unfold Value.okWide at h
  rw [ht] at h
  simp only [Cell.okWide, ht, Cell.ok] at h
  cases v <;> first | rfl | exact h.elim
end Go.Proofs.Ythcoppfiahnpoaa
namespace Go.Proofs.Ythcoppfiahnpoaa
open Go Sym
open Go.ChangeShapes Go.WideShapes Go.ChangeAt
theorem rec_tRows : Try.prog.readableRec 22 = true := by kernel_rfl
theorem row_tRows : (22 : TypeId) < Try.prog.types.size := of_decide_eq_true (by kernel_rfl)
end Go.Proofs.Ythcoppfiahnpoaa
namespace Go.Proofs.Ythcoppfiahnpoaa
open Go Sym
open Go.ChangeShapes Go.WideShapes Go.ChangeAt
end Go.Proofs.Ythcoppfiahnpoaa
namespace Go.Proofs.Ythcoppfiahnpoaa
open Go Sym
open Go.ChangeShapes Go.WideShapes Go.ChangeAt
theorem int_cells {P : Program} {w : World} {r : Reach} {b : Nat} {t : TypeId} {k : IntKind} {v : Value} (ht : P.underlying t = some (.int k)) (h : Value.okWide P w r b t v) : v.cells.toList = [v] := by
  unfold Value.okWide at h
  rw [ht] at h
  simp only [Cell.okWide, ht, Cell.ok] at h
  cases v <;> first | rfl | exact h.elim
end Go.Proofs.Ythcoppfiahnpoaa
namespace Go.Proofs.Ythcoppfiahnpoaa
open Go Sym
open Go.ChangeShapes Go.WideShapes Go.ChangeAt
theorem rec_tInt : Try.prog.readableRec 3 = true := by kernel_rfl
theorem row_tInt : (3 : TypeId) < Try.prog.types.size := of_decide_eq_true (by kernel_rfl)
theorem autoCounts_lifted (C : AwakeC) (JB : Jn.JoinC true 32) (JE : Jn.JoinC false 33) (os : Os) (started : os.Started) (H : Type) (enc : TypeId × Value → H) :
    ReturnsInHanded {} Try.checked os 10 .any (Rows.autoCountsSpec.pre6 enc Try.prog Try.f10 Rows.autoCountsRow.domain false) (Rows.autoCountsSpec.post enc Try.prog Try.f10 false true false false) := by
  refine returnsInHanded_of_change_sized (C := Try.checked) own_knob started (by kernel_rfl) Try.func10
    (ChangeSpec.witness6 (enc := enc) (C := Try.checked) false ⟨#[], #[.agg #[Vi 0, Vi 0, .slice none 0 0, .slice none 0 0], .agg #[Vi 0, Vi 0, .slice none 0 0, .slice none 0 0], Vi 0, .slice none 0 0], []⟩ 8 (by kernel_rfl) (by kernel_rfl) (by kernel_rfl) (by kernel_rfl)) ?_
  intro W base args ds gs before hval0 hW hcnd hsz0 _
  have hsz : (DataW.weightsEach Try.prog (Try.f10.params.toList ++ Rows.autoCountsSpec.plain.varTypes Try.prog) (ds ++ gs)).all (· ≤ reachBytes) = true := hsz0
  have hW1 : DataW.Whole enc Try.prog Try.f10.params.toList Rows.autoCountsSpec.vars false W args.toList ds gs before := hW
  have hval : ∀ (j : Nat) t v, Try.f10.params[j]? = some t → args[j]? = some v → Value.okWide Try.prog W .any base t v := hval0
  clear hsz0 hval0 hcnd
  obtain ⟨p, q, hA0, hV, rfl, hfz, hnd⟩ := hW
  have hA : DataW.TrodAll enc Try.prog W 0 (fun _ => true) true Try.f10.params.toList args.toList ds p := hA0
  rw [Try.params10] at hA hsz hval
  obtain ⟨v0, vs0, d0, ds0, p0, q0, hargs, rfl, rfl, h0, r0⟩ := trodAll_cons hA
  obtain ⟨v1, vs1, d1, ds1, p1, q1, rfl, rfl, rfl, h1, r1⟩ := trodAll_cons r0
  obtain ⟨v2, vs2, d2, ds2, p2, q2, rfl, rfl, rfl, h2, r2⟩ := trodAll_cons r1
  obtain ⟨v3, vs3, d3, ds3, p3, q3, rfl, rfl, rfl, h3, r3⟩ := trodAll_cons r2
  obtain ⟨rfl, rfl, rfl⟩ := trodAll_nil r3
  obtain rfl : args = #[v0, v1, v2, v3] := by cases args; simp_all
  obtain ⟨rfl, rfl⟩ := trodVars_none hV
  obtain ⟨L1, s1, n1, f1, vn1, ve1, rfl, hm1⟩ := open_machine h0 (light_of hsz (j := 0) rfl rfl)
  obtain ⟨L2, s2, n2, f2, vn2, ve2, rfl, hm2⟩ := open_machine h1 (light_of hsz (j := 1) rfl rfl)
  obtain ⟨fu2, h2'⟩ := h2
  rw [int_cells Try.underlying3 (hval 2 3 v2 rfl rfl)] at h2'
  obtain ⟨len, rfl, hlen⟩ := open_i64 Try.underlying3 h2'
  obtain ⟨fu3, h3'⟩ := h3
  rw [slice_cells Try.underlying22 (hval 3 22 v3 rfl rfl)] at h3'
  obtain ⟨words, hwd, -, -, -⟩ := open_rows2 h3' (light_of hsz (j := 3) rfl rfl)
  refine (autoCounts_any C JB JE L1 s1 L2 s2 len vn1 ve1 vn2 ve2 v3 n1 n2 f1 f2 words W hm1 hm2 hlen hwd).mono fun e W' ⟨he, hb⟩ => ⟨_, he, ?_⟩
  exact law_post hW1 rfl rfl (by kernel_rfl) Try.underlying4 laid_out (fun t ht => by
    rw [Try.params10] at ht
    simp only [List.mem_cons, List.not_mem_nil, or_false] at ht
    rcases ht with rfl | rfl | rfl | rfl
    · exact ⟨rec_tMachine, row_tMachine⟩
    · exact ⟨rec_tMachine, row_tMachine⟩
    · exact ⟨rec_tInt, row_tInt⟩
    · exact ⟨rec_tRows, row_tRows⟩) hb
theorem autoCounts_holds (C : AwakeC) (JB : Jn.JoinC true 32) (JE : Jn.JoinC false 33) : Rows.AutoCountsSaid :=
  OpenClaim.holds_of_wide 10 Try.f10 rfl rfl rfl rfl rfl rfl rfl ⟨rfl, rfl, rfl, rfl, rfl⟩ rfl rfl rfl rfl rfl (by kernel_rfl) Try.func10 (by kernel_rfl)
    (of_decide_eq_true (by kernel_rfl)) (by unfold Func.isWrapper; first | (rw [if_pos (by decide +kernel)]; kernel_rfl) | (rw [if_neg (by decide +kernel)]; exact ⟨rfl, rfl⟩))
    (fun os started H enc _ => autoCounts_lifted C JB JE os started H enc)
end Go.Proofs.Ythcoppfiahnpoaa
namespace Go.Proofs.Ythcoppfiahnpoaa
theorem autoCounts : Rows.AutoCountsSaid := autoCounts_holds awakeC Jn.aBoth_c Jn.aEither_c
end Go.Proofs.Ythcoppfiahnpoaa
