/- AutoOne holds of the program as it landed: however a machine is written, its least one is the same, and Differ and Relate find the two the same; for any valid machine of at most 30 states and 8 letters. -/
import Derived.Test.YthcoppfiahnpoaaRows
import Derived.Test.YthcoppfiahnpoaaVg5
set_option maxRecDepth 100000
namespace Go.Proofs.Ythcoppfiahnpoaa
open Go Sym
open Go.ChangeShapes Go.WideShapes Go.ChangeAt
theorem own_knob : ownKnob Try.prog.godebug = none := by kernel_rfl
theorem laid_out : laidOutB Try.prog = true := by kernel_rfl
theorem rec_tMachine : Try.prog.readableRec 25 = true := by kernel_rfl
theorem row_tMachine : (25 : TypeId) < Try.prog.types.size := of_decide_eq_true (by kernel_rfl)
theorem light_of {H : Type} {P : Program} {ts : List TypeId} {ds : List (DataW H)} (h : (DataW.weightsEach P ts ds).all (· ≤ reachBytes) = true) {j : Nat} {t : TypeId} {d : DataW H} (ht : ts[j]? = some t) (hd : ds[j]? = some d) : Light P t d := fun n hn => by
  have := List.all_eq_true.1 h _ (DataW.weights_mem_each ht hd n hn)
  exact (of_decide_eq_true this : n ≤ reachBytes)
theorem slice_cells {P : Program} {w : World} {r : Reach} {b : Nat} {t e : TypeId} {v : Value} (ht : P.underlying t = some (.slice e)) (h : Value.okWide P w r b t v) : v.cells.toList = [v] := by
  unfold Value.okWide at h
  rw [ht] at h
  simp only [Cell.okWide, ht, Cell.ok] at h
  cases v <;> first | rfl | exact h.elim
end Go.Proofs.Ythcoppfiahnpoaa
namespace Go.Proofs.Ythcoppfiahnpoaa
open Go Sym
open Go.ChangeShapes Go.WideShapes Go.ChangeAt
end Go.Proofs.Ythcoppfiahnpoaa
namespace Go.Proofs.Ythcoppfiahnpoaa
open Go Sym
open Go.ChangeShapes Go.WideShapes Go.ChangeAt
end Go.Proofs.Ythcoppfiahnpoaa
namespace Go.Proofs.Ythcoppfiahnpoaa
open Go Sym
open Go.ChangeShapes Go.WideShapes Go.ChangeAt
theorem rec_tU8 : Try.prog.readableRec 5 = true := by kernel_rfl
theorem row_tU8 : (5 : TypeId) < Try.prog.types.size := of_decide_eq_true (by kernel_rfl)
theorem rec_tBools : Try.prog.readableRec 23 = true := by kernel_rfl
theorem row_tBools : (23 : TypeId) < Try.prog.types.size := of_decide_eq_true (by kernel_rfl)
theorem int_cells {P : Program} {w : World} {r : Reach} {b : Nat} {t : TypeId} {k : IntKind} {v : Value} (ht : P.underlying t = some (.int k)) (h : Value.okWide P w r b t v) : v.cells.toList = [v] := by
  unfold Value.okWide at h
  rw [ht] at h
  simp only [Cell.okWide, ht, Cell.ok] at h
  cases v <;> first | rfl | exact h.elim
theorem u8_wf {n : Int} (h : (Lit.int .u8 n).wf = true) : ∃ y : Nat, n = (y : Int) ∧ y ≤ 255 := by
  have : 0 ≤ n ∧ n ≤ 255 := by
    simp only [Lit.wf] at h
    rw [Bool.and_eq_true, decide_eq_true_eq, decide_eq_true_eq] at h
    exact h
  exact ⟨n.toNat, by omega, by omega⟩
theorem open_u8 {H : Type} {enc : TypeId × Value → H} {w : World} {fuel : Nat} {x : DataW H × List MemPlace} {v : Value} (h : DataW.trod enc Try.prog w 0 (fun _ => true) true fuel 5 [v] = some x) : ∃ y : Nat, v = .int .u8 (y : Int) ∧ y ≤ 255 := by
  obtain ⟨n, h1, _, h2⟩ := DataW.trod_int Try.underlying5 h
  obtain ⟨y, rfl, hy⟩ := u8_wf h2
  exact ⟨y, by simpa using h1, hy⟩
theorem autoOne_lifted (C : AwakeC) (os : Os) (started : os.Started) (H : Type) (enc : TypeId × Value → H) :
    ReturnsInHanded {} Try.checked os 5 .any (Rows.autoOneSpec.pre6 enc Try.prog Try.f5 Rows.autoOneRow.domain false) (Rows.autoOneSpec.post enc Try.prog Try.f5 false true false false) := by
  refine returnsInHanded_of_change_sized (C := Try.checked) own_knob started (by kernel_rfl) Try.func5
    (ChangeSpec.witness6 (enc := enc) (C := Try.checked) false ⟨#[], #[.agg #[Vi 0, Vi 0, .slice none 0 0, .slice none 0 0], .int .u8 0, .slice none 0 0], []⟩ 8 (by kernel_rfl) (by kernel_rfl) (by kernel_rfl) (by kernel_rfl)) ?_
  intro W base args ds gs before hval0 hW hcnd hsz0 _
  have hsz : (DataW.weightsEach Try.prog (Try.f5.params.toList ++ Rows.autoOneSpec.plain.varTypes Try.prog) (ds ++ gs)).all (· ≤ reachBytes) = true := hsz0
  have hW1 : DataW.Whole enc Try.prog Try.f5.params.toList Rows.autoOneSpec.vars false W args.toList ds gs before := hW
  have hval : ∀ (j : Nat) t v, Try.f5.params[j]? = some t → args[j]? = some v → Value.okWide Try.prog W .any base t v := hval0
  clear hsz0 hval0 hcnd
  obtain ⟨p, q, hA0, hV, rfl, hfz, hnd⟩ := hW
  have hA : DataW.TrodAll enc Try.prog W 0 (fun _ => true) true Try.f5.params.toList args.toList ds p := hA0
  rw [Try.params5] at hA hsz hval
  obtain ⟨v0, vs0, d0, ds0, p0, q0, hargs, rfl, rfl, h0, r0⟩ := trodAll_cons hA
  obtain ⟨v1, vs1, d1, ds1, p1, q1, rfl, rfl, rfl, h1, r1⟩ := trodAll_cons r0
  obtain ⟨v2, vs2, d2, ds2, p2, q2, rfl, rfl, rfl, h2, r2⟩ := trodAll_cons r1
  obtain ⟨rfl, rfl, rfl⟩ := trodAll_nil r2
  obtain rfl : args = #[v0, v1, v2] := by cases args; simp_all
  obtain ⟨rfl, rfl⟩ := trodVars_none hV
  obtain ⟨L, s, next, fin, vn, ve, rfl, hm⟩ := open_machine h0 (light_of hsz (j := 0) rfl rfl)
  obtain ⟨fu1, h1'⟩ := h1
  rw [int_cells Try.underlying5 (hval 1 5 v1 rfl rfl)] at h1'
  obtain ⟨y, rfl, hy⟩ := open_u8 h1'
  obtain ⟨fu2, h2'⟩ := h2
  rw [slice_cells Try.underlying23 (hval 2 23 v2 rfl rfl)] at h2'
  obtain ⟨cop, hcop, -, -⟩ := open_bools2 h2' (light_of hsz (j := 2) rfl rfl)
  refine (autoOne_any C L s y vn ve v2 next fin cop W hm hy hcop).mono fun e W' ⟨he, hb⟩ => ⟨_, he, ?_⟩
  exact law_post hW1 rfl rfl (by kernel_rfl) Try.underlying4 laid_out (fun t ht => by
    rw [Try.params5] at ht
    simp only [List.mem_cons, List.not_mem_nil, or_false] at ht
    rcases ht with rfl | rfl | rfl
    · exact ⟨rec_tMachine, row_tMachine⟩
    · exact ⟨rec_tU8, row_tU8⟩
    · exact ⟨rec_tBools, row_tBools⟩) hb
theorem autoOne_holds (C : AwakeC) : Rows.AutoOneSaid :=
  OpenClaim.holds_of_wide 5 Try.f5 rfl rfl rfl rfl rfl rfl rfl ⟨rfl, rfl, rfl, rfl, rfl⟩ rfl rfl rfl rfl rfl (by kernel_rfl) Try.func5 (by kernel_rfl)
    (of_decide_eq_true (by kernel_rfl)) (by unfold Func.isWrapper; first | (rw [if_pos (by decide +kernel)]; kernel_rfl) | (rw [if_neg (by decide +kernel)]; exact ⟨rfl, rfl⟩))
    (fun os started H enc _ => autoOne_lifted C os started H enc)
end Go.Proofs.Ythcoppfiahnpoaa
namespace Go.Proofs.Ythcoppfiahnpoaa
theorem autoOne : Rows.AutoOneSaid := autoOne_holds awakeC
end Go.Proofs.Ythcoppfiahnpoaa
