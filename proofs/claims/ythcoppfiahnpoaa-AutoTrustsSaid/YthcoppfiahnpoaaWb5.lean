/- AutoTrusts holds of the program as it landed: whatever pairs the checker takes, no word is accepted by one machine alone; for any machines of at most 30 states and 8 letters, and any pairs. -/
import Derived.Test.YthcoppfiahnpoaaRows
import Derived.Test.YthcoppfiahnpoaaWb4
set_option maxRecDepth 100000
namespace Go.Proofs.Ythcoppfiahnpoaa
open Go Sym
open Go.ChangeShapes Go.WideShapes Go.ChangeAt
theorem own_knob : ownKnob Try.prog.godebug = none := by kernel_rfl
theorem laid_out : laidOutB Try.prog = true := by kernel_rfl
theorem rec_tMachine : Try.prog.readableRec 25 = true := by kernel_rfl
theorem row_tMachine : (25 : TypeId) < Try.prog.types.size := of_decide_eq_true (by kernel_rfl)
theorem light_of {H : Type} {P : Program} {ts : List TypeId} {ds : List (DataW H)} (h : (DataW.weightsEach P ts ds).all (· ≤ reachBytes) = true) {j : Nat} {t : TypeId} {d : DataW H} (ht : ts[j]? = some t) (hd : ds[j]? = some d) : Light P t d := fun n hn => by
  have := List.all_eq_true.1 h _ (DataW.weights_mem_each ht hd n hn)
  exact (of_decide_eq_true this : n ≤ reachBytes)
theorem slice_cells {P : Program} {w : World} {r : Reach} {b : Nat} {t e : TypeId} {v : Value} (ht : P.underlying t = some (.slice e)) (h : Value.okWide P w r b t v) : v.cells.toList = [v] := by
  unfold Value.okWide at h
  rw [ht] at h
  simp only [Cell.okWide, ht, Cell.ok] at h
  cases v <;> first | rfl | exact h.elim
end Go.Proofs.Ythcoppfiahnpoaa
namespace Go.Proofs.Ythcoppfiahnpoaa
open Go Sym
open Go.ChangeShapes Go.WideShapes Go.ChangeAt
theorem rec_tPairs : Try.prog.readableRec 39 = true := by kernel_rfl
theorem rec_tRows : Try.prog.readableRec 22 = true := by kernel_rfl
theorem row_tPairs : (39 : TypeId) < Try.prog.types.size := of_decide_eq_true (by kernel_rfl)
theorem row_tRows : (22 : TypeId) < Try.prog.types.size := of_decide_eq_true (by kernel_rfl)
theorem cells_tPair : Try.prog.cellsOf 50 = 2 := by kernel_rfl
theorem open_pairs2 {H : Type} {enc : TypeId × Value → H} {w : World} {fuel : Nat} {x : DataW H × List MemPlace} {v : Value} (h : DataW.trod enc Try.prog w 0 (fun _ => true) true fuel 39 [v] = some x) : ∃ l : List (Int × Int), SlP w v l := by
  rcases Go.Deep.open_slice Try.underlying39 h with ⟨hcs, hx⟩ | ⟨a, len, cap, m, n, D, Pl, hcs, hb, hlc, hm, hmm, hx, hel⟩
  · obtain rfl : v = .slice none 0 0 := by simpa using hcs
    exact ⟨[], none, 0, 0, 0, rfl, fun h => by simp at h, Nat.le_refl _, by decide, fun i hi => by simp at hi⟩
  · obtain rfl : v = .slice (some a) len cap := by simpa using hcs
    simp only [if_true] at hmm
    subst hmm
    rw [cells_tPair] at hel
    have one : ∀ i, i < len → ∃ p : Int × Int, w.cell? (a.add (i * 2)) = some (Vi p.1) ∧ w.cell? ((a.add (i * 2)).add 1) = some (Vi p.2) ∧ I64 p.1 ∧ I64 p.2 := fun i hi => by
      obtain ⟨cs, h1, h2⟩ := hel i (by omega)
      obtain ⟨_, hlen, hcell⟩ := World.cells?_some h1
      match cs, hlen with
      | [u, u'], _ =>
        obtain ⟨xs, n', rfl, _, _, hxl, hfs⟩ := DataW.trod_struct Try.underlying50 h2
        have f0 : DataW.trod enc Try.prog w 0 (fun _ => true) true n' 3 ([u, u'].take (Try.prog.cellsOf 3)) = xs[0]? := hfs 0 _ rfl
        have f1 : DataW.trod enc Try.prog w 0 (fun _ => true) true n' 3 ([u'].take (Try.prog.cellsOf 3)) = xs[1]? := hfs 1 _ rfl
        rw [cells_tInt] at f0 f1
        match xs, hxl with
        | [x0, x1], _ =>
          replace f0 : DataW.trod enc Try.prog w 0 (fun _ => true) true n' 3 [u] = some x0 := f0
          replace f1 : DataW.trod enc Try.prog w 0 (fun _ => true) true n' 3 [u'] = some x1 := f1
          obtain ⟨p, rfl, hp⟩ := open_i64 Try.underlying3 f0
          obtain ⟨q, rfl, hq⟩ := open_i64 Try.underlying3 f1
          have c0 := hcell 0 (by omega)
          have c1 := hcell 1 (by omega)
          exact ⟨(p, q), by simpa [Addr.add] using c0, by simpa using c1, hp, hq⟩
    obtain ⟨l, rfl, hl⟩ := list_of len one
    have hmx : m ≤ 9223372036854775807 := by unfold maxLen at hm; exact hm
    rcases Nat.eq_zero_or_pos l.length with h0 | h0
    · exact ⟨l, some a, a.block, a.off, m, rfl, fun h => by omega, hlc, hmx, fun i hi => by omega⟩
    · have hsp : a.spot = none := by
        have := cell_spot (hl 0 h0).1
        simpa [Addr.add] using this
      have ha : a = ⟨a.block, a.off, none⟩ := by
        obtain ⟨b, o, s⟩ := a
        simp only at hsp
        rw [hsp]
      refine ⟨l, some a, a.block, a.off, m, rfl, fun _ => by rw [← ha], hlc, hmx, fun i hi => ?_⟩
      obtain ⟨h1, h2, h3, h4⟩ := hl i hi
      rw [add_spot hsp] at h1 h2
      refine ⟨⟨h1, ?_, trivial⟩, h3, h4⟩
      rw [add_spot rfl] at h2
      exact h2
theorem autoTrusts_lifted (C : AwakeC) (os : Os) (started : os.Started) (H : Type) (enc : TypeId × Value → H) :
    ReturnsInHanded {} Try.checked os 9 .any (Rows.autoTrustsSpec.pre6 enc Try.prog Try.f9 Rows.autoTrustsRow.domain false) (Rows.autoTrustsSpec.post enc Try.prog Try.f9 false true false false) := by
  refine returnsInHanded_of_change_sized (C := Try.checked) own_knob started (by kernel_rfl) Try.func9
    (ChangeSpec.witness6 (enc := enc) (C := Try.checked) false ⟨#[], #[.agg #[Vi 0, Vi 0, .slice none 0 0, .slice none 0 0], .agg #[Vi 0, Vi 0, .slice none 0 0, .slice none 0 0], .slice none 0 0, .slice none 0 0], []⟩ 8 (by kernel_rfl) (by kernel_rfl) (by kernel_rfl) (by kernel_rfl)) ?_
  intro W base args ds gs before hval0 hW hcnd hsz0 _
  have hsz : (DataW.weightsEach Try.prog (Try.f9.params.toList ++ Rows.autoTrustsSpec.plain.varTypes Try.prog) (ds ++ gs)).all (· ≤ reachBytes) = true := hsz0
  have hW1 : DataW.Whole enc Try.prog Try.f9.params.toList Rows.autoTrustsSpec.vars false W args.toList ds gs before := hW
  have hval : ∀ (j : Nat) t v, Try.f9.params[j]? = some t → args[j]? = some v → Value.okWide Try.prog W .any base t v := hval0
  clear hsz0 hval0 hcnd
  obtain ⟨p, q, hA0, hV, rfl, hfz, hnd⟩ := hW
  have hA : DataW.TrodAll enc Try.prog W 0 (fun _ => true) true Try.f9.params.toList args.toList ds p := hA0
  rw [Try.params9] at hA hsz hval
  obtain ⟨v0, vs0, d0, ds0, p0, q0, hargs, rfl, rfl, h0, r0⟩ := trodAll_cons hA
  obtain ⟨v1, vs1, d1, ds1, p1, q1, rfl, rfl, rfl, h1, r1⟩ := trodAll_cons r0
  obtain ⟨v2, vs2, d2, ds2, p2, q2, rfl, rfl, rfl, h2, r2⟩ := trodAll_cons r1
  obtain ⟨v3, vs3, d3, ds3, p3, q3, rfl, rfl, rfl, h3, r3⟩ := trodAll_cons r2
  obtain ⟨rfl, rfl, rfl⟩ := trodAll_nil r3
  obtain rfl : args = #[v0, v1, v2, v3] := by cases args; simp_all
  obtain ⟨rfl, rfl⟩ := trodVars_none hV
  obtain ⟨L1, s1, n1, f1, vn1, ve1, rfl, hm1⟩ := open_machine h0 (light_of hsz (j := 0) rfl rfl)
  obtain ⟨L2, s2, n2, f2, vn2, ve2, rfl, hm2⟩ := open_machine h1 (light_of hsz (j := 1) rfl rfl)
  obtain ⟨fu2, h2'⟩ := h2
  obtain ⟨fu3, h3'⟩ := h3
  rw [slice_cells Try.underlying39 (hval 2 39 v2 rfl rfl)] at h2'
  rw [slice_cells Try.underlying22 (hval 3 22 v3 rfl rfl)] at h3'
  obtain ⟨l, hl⟩ := open_pairs2 h2'
  obtain ⟨words, hwd, -, -, -⟩ := open_rows2 h3' (light_of hsz (j := 3) rfl rfl)
  refine (autoTrusts_any C L1 s1 L2 s2 vn1 ve1 vn2 ve2 v2 v3 n1 n2 f1 f2 l words W hm1 hm2 hl hwd).mono fun e W' ⟨he, hb⟩ => ⟨_, he, ?_⟩
  exact law_post hW1 rfl rfl (by kernel_rfl) Try.underlying4 laid_out (fun t ht => by
    rw [Try.params9] at ht
    simp only [List.mem_cons, List.not_mem_nil, or_false] at ht
    rcases ht with rfl | rfl | rfl | rfl
    · exact ⟨rec_tMachine, row_tMachine⟩
    · exact ⟨rec_tMachine, row_tMachine⟩
    · exact ⟨rec_tPairs, row_tPairs⟩
    · exact ⟨rec_tRows, row_tRows⟩) hb
theorem autoTrusts_holds (C : AwakeC) : Rows.AutoTrustsSaid :=
  OpenClaim.holds_of_wide 9 Try.f9 rfl rfl rfl rfl rfl rfl rfl ⟨rfl, rfl, rfl, rfl, rfl⟩ rfl rfl rfl rfl rfl (by kernel_rfl) Try.func9 (by kernel_rfl)
    (of_decide_eq_true (by kernel_rfl)) (by unfold Func.isWrapper; first | (rw [if_pos (by decide +kernel)]; kernel_rfl) | (rw [if_neg (by decide +kernel)]; exact ⟨rfl, rfl⟩))
    (fun os started H enc _ => autoTrusts_lifted C os started H enc)
end Go.Proofs.Ythcoppfiahnpoaa
namespace Go.Proofs.Ythcoppfiahnpoaa
theorem autoTrusts : Rows.AutoTrustsSaid := autoTrusts_holds awakeC
end Go.Proofs.Ythcoppfiahnpoaa
