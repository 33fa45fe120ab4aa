/- The statement AutoValid holds of the program as it landed: Valid and Accepts answer as the document says, at every input that the statement takes; no condition. -/
import Derived.Test.YthkabbgaikociaaRows
import Derived.Test.YthkabbgaikociaaBa1
import Derived.Test.YthkabbgaikociaaBa2
import Derived.Test.YthkabbgaikociaaBa3
import Derived.Test.YthkabbgaikociaaBa4
import Derived.Test.YthkabbgaikociaaBa5
import Derived.Test.YthkabbgaikociaaBa6
namespace Go.Proofs.Ythkabbgaikociaa
open Go Sym
theorem en_awake : enters Try.prog 12 = true := by kernel_rfl
theorem en_lValid : enters Try.prog 15 = true := by kernel_rfl
theorem MaIn.copy {w : World} {L s : Int} {next : List (List Int)} {fin : List Bool} {vn ve : Value} (h : MaIn w L s next fin vn ve) {w1 : World} (hb : RowKit.Below w.heap.size w w1) :
    Calls Try.prog 16 #[.agg #[.int .i64 L, .int .i64 s, vn, ve]] w1 fun e w' => ∃ vn' ve', e = .returned (.agg #[.int .i64 L, .int .i64 s, vn', ve']) ∧ OwnM w1.heap.size w' next fin vn' ve' ∧ RowKit.Below w1.heap.size w1 w' :=
  copy_any L s vn ve next fin w1 (h.ma.keep hb) (Nat.le_trans h.fb (by decide)) (fun r hr => Nat.le_trans (h.rb r hr) (by decide)) (Nat.le_trans h.nb (by decide))
set_option maxRecDepth 100000 in
theorem autoValid_any (C : AwakeC) (V : ValidC 15) (L s : Int) (vn ve vw : Value) (next : List (List Int)) (fin : List Bool) (word : List Int) (w : World) (hi : MaIn w L s next fin vn ve) (hw0 : PRowB w vw word) :
    Calls Try.prog 3 #[.agg #[.int .i64 L, .int .i64 s, vn, ve], vw] w fun e w' => e = .returned (.bool true) ∧ RowKit.Below w.heap.size w w' := by
  refine Sym.enter (args := [.agg #[.int .i64 L, .int .i64 s, vn, ve], vw]) Try.func3 rfl rfl rfl (fun a0 hS0 => ?_)
  obtain ⟨M, hM⟩ : ∃ M, M = w.heap.size := ⟨_, rfl⟩
  refine wp_seq (seq_cut [(1, vw), (2, .pointer (some ⟨M, 0, none⟩))] (· = w.alloc (.cells #[.int .i64 L, .int .i64 s, vn, ve] 25)) tab_ok hS0 ?_ (fun a wc hS hw => ?_))
  · subst hM
    refine o_new rfl rfl rfl (fun _ => rfl) ?_
    repeat (first | refine o_pure rfl rfl rfl (fun _ => rfl) ?_ | refine o_skip rfl rfl rfl ?_)
    exact o_nil ⟨⟨rfl, rfl, trivial⟩, rfl⟩
  have hB : RowKit.Below w.heap.size w wc := by rw [hw]; exact below_alloc _ _
  have hx : Box wc M L s vn ve := by rw [hw, hM]; exact Box.new _ _ _ _ _ _
  clear hw
  have hm := hi.ma.keep hB
  have hwd := hw0.1.keep hB
  obtain ⟨b10, hb10⟩ : ∃ b, decide ((8000 : Int) < next.length) = b := ⟨_, rfl⟩
  refine wp_seq (wp_seq (seq_cut [(1, vw), (2, .pointer (some ⟨M, 0, none⟩)), (10, .bool b10)] (· = wc) tab_ok hS ?_ (fun a w1 hS hw => ?_)))
  · obtain ⟨an, cn, hvn⟩ := hm.n.len
    repeat (first | refine o_pure rfl rfl rfl (fun _ => rfl) ?_ | refine o_skip rfl rfl rfl ?_)
    refine o_load rfl rfl rfl (fun _ => rfl) (hvn ▸ hx.c2) ?_
    repeat (first | refine o_pure rfl rfl rfl (fun _ => rfl) ?_ | refine o_skip rfl rfl rfl ?_)
    refine o_cmp rfl rfl rfl (fun _ => rfl) (hb10) ?_
    exact o_nil ⟨⟨rfl, rfl, rfl, trivial⟩, rfl⟩
  subst hw
  refine cond hS rfl (fun hT => ?_) (fun hF => ?_)
  · refine wp_seq (seq_cut [(4, .bool true)] (fun w' => RowKit.Below w1.heap.size w1 w') tab_ok hS ?_ (fun a w2 hS hw => ?_))
    · refine o_call rfl rfl rfl (fun _ => rfl) (en_awake) (awake_any C _) ?_
      rintro e w2 ⟨rfl, h2⟩
      refine ⟨_, rfl, ?_⟩
      repeat (first | refine o_pure rfl rfl rfl (fun _ => rfl) ?_ | refine o_skip rfl rfl rfl ?_)
      exact o_nil ⟨⟨rfl, trivial⟩, h2⟩
    refine wp_ret ?_
    repeat (first | refine then_ret ?_ | refine block_ret ?_)
    exact ret1 hS rfl rfl ⟨rfl, below_trans hB hw⟩
  refine wp_skip ?_
  refine wp_seq (seq_cut [(1, vw), (2, .pointer (some ⟨M, 0, none⟩)), (5, .int .i64 (validM L s next fin))] (fun w' => RowKit.Below w1.heap.size w1 w') tab_ok hS ?_ (fun a w2 hS hw2 => ?_))
  · refine o_loads (vs := [.int .i64 L, .int .i64 s, vn, ve]) rfl rfl rfl (fun _ => rfl) rfl (hx.cells) ?_
    refine o_call rfl rfl rfl (fun _ => rfl) (en_Valid) (valid_any L s vn ve next fin _ hm) ?_
    rintro e w2 ⟨rfl, h2⟩
    refine ⟨_, rfl, ?_⟩
    repeat (first | refine o_pure rfl rfl rfl (fun _ => rfl) ?_ | refine o_skip rfl rfl rfl ?_)
    exact o_nil ⟨⟨rfl, rfl, rfl, trivial⟩, h2⟩
  have hB2 := below_trans hB hw2
  refine wp_seq (seq_cut [(1, vw), (2, .pointer (some ⟨M, 0, none⟩)), (5, .int .i64 (validM L s next fin)), (6, .bool (acceptsM L s next fin word))] (fun w' => RowKit.Below w2.heap.size w2 w') tab_ok hS ?_ (fun a w3 hS hw3 => ?_))
  · refine o_loads (vs := [.int .i64 L, .int .i64 s, vn, ve]) rfl rfl rfl (fun _ => rfl) rfl ((hx.keep hw2).cells) ?_
    repeat (first | refine o_pure rfl rfl rfl (fun _ => rfl) ?_ | refine o_skip rfl rfl rfl ?_)
    refine o_call rfl rfl rfl (fun _ => rfl) (en_Accepts) (accepts_any L s vn ve vw next fin word _ (hm.keep hw2) (hwd.keep hw2).1) ?_
    rintro e w3 ⟨rfl, h3⟩
    refine ⟨_, rfl, ?_⟩
    repeat (first | refine o_pure rfl rfl rfl (fun _ => rfl) ?_ | refine o_skip rfl rfl rfl ?_)
    exact o_nil ⟨⟨rfl, rfl, rfl, rfl, trivial⟩, h3⟩
  have hB3 := below_trans hB2 hw3
  have hx3 := (hx.keep hw2).keep hw3
  refine wp_seq (seq_cut [(4, .bool true)] (fun w' => RowKit.Below w3.heap.size w3 w') tab_ok hS ?_ (fun a w4 hS hw4 => ?_))
  · refine o_loads (vs := [.int .i64 L, .int .i64 s, vn, ve]) rfl rfl rfl (fun _ => rfl) rfl (hx3.cells) ?_
    refine o_call rfl rfl rfl (fun _ => rfl) (en_Copy) (hi.copy hB3) ?_
    rintro e w4 ⟨vn4, ve4, rfl, hm4, h4⟩
    refine ⟨_, rfl, ?_⟩
    refine o_call rfl rfl rfl (fun _ => rfl) (en_lValid) (V L s vn4 ve4 next fin w4 (hm4.ma hi.ma.L hi.ma.s)) ?_
    rintro e w5 ⟨rfl, h5⟩
    refine ⟨_, rfl, ?_⟩
    have h45 := below_trans h4 h5
    repeat (first | refine o_pure rfl rfl rfl (fun _ => rfl) ?_ | refine o_skip rfl rfl rfl ?_)
    refine o_cmp rfl rfl rfl (fun _ => rfl) (decide_eq_true rfl) ?_
    repeat (first | refine o_pure rfl rfl rfl (fun _ => rfl) ?_ | refine o_skip rfl rfl rfl ?_)
    refine o_loads (vs := [.int .i64 L, .int .i64 s, vn, ve]) rfl rfl rfl (fun _ => rfl) rfl ((hx3.keep h45).cells) ?_
    refine o_call rfl rfl rfl (fun _ => rfl) (en_Copy) (hi.copy (below_trans hB3 h45)) ?_
    rintro e w6 ⟨vn6, ve6, rfl, hm6, h6⟩
    refine ⟨_, rfl, ?_⟩
    refine o_step rfl rfl rfl ?_
    refine Exists.intro [] (Exists.intro #[] (And.intro (And.intro rfl rfl) (And.intro (by decide) (And.intro (by simp [Instr.fill, madeCells]) ?_))))
    have h36 := below_trans h45 h6
    have hy := below_alloc w6 (.cells #[] 3)
    have hl := own_lit w6 w6.heap.size 3 (Nat.le_refl _)
    have hwd6 := (hw0.1.keep (below_trans (below_trans hB3 h36) hy))
    have ask := ask_of (e := ⟨3, .int .i64, 1, 8, .int .i64 0⟩) hl (src_of (f := Value.int .i64) hwd6.1 hwd6.2 (fun _ _ h => h.1)) rfl (fun _ => rfl) (by have := hw0.2; omega) (by show (0 + _) * 8 ≤ _; have := hw0.2; omega) hy.size
    obtain ⟨aw, bw, ow, cw, hvw, -⟩ := hw0.1.1
    subst hvw
    repeat (first | refine o_pure rfl rfl rfl (fun _ => rfl) ?_ | refine o_skip rfl rfl rfl ?_)
    refine o_step rfl rfl rfl ?_
    refine Exists.intro _ (Exists.intro _ (Exists.intro _ (Exists.intro _ (Exists.intro _ (And.intro (ask) (And.intro (fun _ h => h.symm) (And.intro (by decide) ?_)))))))
    rintro v' w7 hown hgr - -
    rw [Nat.zero_add, List.nil_append] at hown
    have h7 := below_of_grown hy hgr (fun q hq => by simp only [Value.ownBlock, Option.some.injEq] at hq; omega)
    have hI : ∀ x ∈ word, I64 x := fun x hx => by
      obtain ⟨i, hi', rfl⟩ := List.mem_iff_getElem.1 hx
      obtain ⟨_, _, _, _, _, _, _, _, g4⟩ := hw0.1.1
      obtain ⟨_, _, _, hI⟩ := g4 i hi'
      exact hI
    have hs7 := sl_own (P := PInt) (l := word) hown rfl (fun j hj => ⟨_, by simp [hj], rfl, hI _ (List.getElem_mem hj)⟩)
    obtain ⟨av, bv, ov, cv, hv', -⟩ := id hs7.1
    subst hv'
    refine o_call rfl rfl rfl (fun _ => rfl) (en_aAccepts) (C.accepts L s vn6 ve6 _ next fin word w7 ((hm6.ma hi.ma.L hi.ma.s).keep h7) hs7.1) ?_
    rintro e w8 ⟨rfl, h8⟩
    refine ⟨_, rfl, ?_⟩
    repeat (first | refine o_pure rfl rfl rfl (fun _ => rfl) ?_ | refine o_skip rfl rfl rfl ?_)
    refine o_cmp rfl rfl rfl (fun _ => rfl) (beq_self_eq_true _) ?_
    repeat (first | refine o_pure rfl rfl rfl (fun _ => rfl) ?_ | refine o_skip rfl rfl rfl ?_)
    refine o_call rfl rfl rfl (fun _ => rfl) (en_awake) (awake_any C _) ?_
    rintro e w9 ⟨rfl, h9⟩
    refine ⟨_, rfl, ?_⟩
    repeat (first | refine o_pure rfl rfl rfl (fun _ => rfl) ?_ | refine o_skip rfl rfl rfl ?_)
    exact o_nil ⟨⟨rfl, trivial⟩, below_trans (below_trans (below_trans h36 h7) h8) h9⟩
  refine wp_ret ?_
  repeat (first | refine then_ret ?_ | refine block_ret ?_)
  exact ret1 hS rfl rfl ⟨rfl, below_trans hB3 hw4⟩
end Go.Proofs.Ythkabbgaikociaa
namespace Go.Proofs.Ythkabbgaikociaa
open Go Sym
open Go.ChangeShapes Go.WideShapes Go.ChangeAt
theorem own_knob : ownKnob Try.prog.godebug = none := by kernel_rfl
theorem laid_out : laidOutB Try.prog = true := by kernel_rfl
theorem rec_tMachine : Try.prog.readableRec 25 = true := by kernel_rfl
theorem rec_tInts : Try.prog.readableRec 26 = true := by kernel_rfl
theorem row_tMachine : (25 : TypeId) < Try.prog.types.size := of_decide_eq_true (by kernel_rfl)
theorem row_tInts : (26 : TypeId) < Try.prog.types.size := of_decide_eq_true (by kernel_rfl)
theorem light_of {H : Type} {P : Program} {ts : List TypeId} {ds : List (DataW H)} (h : (DataW.weightsEach P ts ds).all (· ≤ reachBytes) = true) {j : Nat} {t : TypeId} {d : DataW H} (ht : ts[j]? = some t) (hd : ds[j]? = some d) : Light P t d := fun n hn => by
  have := List.all_eq_true.1 h _ (DataW.weights_mem_each ht hd n hn)
  exact (of_decide_eq_true this : n ≤ reachBytes)
theorem slice_cells {P : Program} {w : World} {r : Reach} {b : Nat} {t e : TypeId} {v : Value} (ht : P.underlying t = some (.slice e)) (h : Value.okWide P w r b t v) : v.cells.toList = [v] := by
  unfold Value.okWide at h
  rw [ht] at h
  simp only [Cell.okWide, ht, Cell.ok] at h
  cases v <;> first | rfl | exact h.elim
set_option maxRecDepth 100000 in
theorem autoValid_lifted (C : AwakeC) (V : ValidC 15) (os : Os) (started : os.Started) (H : Type) (enc : TypeId × Value → H) :
    ReturnsInHanded {} Try.checked os 3 .any (Rows.autoValidSpec.pre6 enc Try.prog Try.f3 Rows.autoValidRow.domain false) (Rows.autoValidSpec.post enc Try.prog Try.f3 false true false false) := by
  refine returnsInHanded_of_change_sized (C := Try.checked) own_knob started (by kernel_rfl) Try.func3
    (ChangeSpec.witness6 (enc := enc) (C := Try.checked) false ⟨#[], #[.agg #[.int .i64 0, .int .i64 0, .slice none 0 0, .slice none 0 0], .slice none 0 0], []⟩ 8 (by kernel_rfl) (by kernel_rfl) (by kernel_rfl) (by kernel_rfl)) ?_
  intro W base args ds gs before hval0 hW hcnd hsz0 _
  have hsz : (DataW.weightsEach Try.prog (Try.f3.params.toList ++ Rows.autoValidSpec.plain.varTypes Try.prog) (ds ++ gs)).all (· ≤ reachBytes) = true := hsz0
  have hW1 : DataW.Whole enc Try.prog Try.f3.params.toList Rows.autoValidSpec.vars false W args.toList ds gs before := hW
  have hval : ∀ (j : Nat) t v, Try.f3.params[j]? = some t → args[j]? = some v → Value.okWide Try.prog W .any base t v := hval0
  clear hsz0 hval0 hcnd
  obtain ⟨p, q, hA0, hV, rfl, hfz, hnd⟩ := hW
  have hA : DataW.TrodAll enc Try.prog W 0 (fun _ => true) true Try.f3.params.toList args.toList ds p := hA0
  rw [Try.params3] at hA hsz hval
  obtain ⟨v0, v1, d0, d1, p0, p1, rfl, rfl, rfl, h0, h1⟩ := trodAll_two hA
  obtain ⟨rfl, rfl⟩ := trodVars_none hV
  obtain ⟨L, s, next, fin, vn, ve, rfl, hm⟩ := open_machine h0 (light_of hsz (j := 0) rfl rfl)
  obtain ⟨fuel, h1'⟩ := h1
  have hv1 := slice_cells Try.underlying26 (hval 1 26 v1 rfl rfl)
  rw [hv1] at h1'
  obtain ⟨word, hwd⟩ := open_ints2 h1' (light_of hsz (j := 1) rfl rfl)
  refine (autoValid_any C V L s vn ve v1 next fin word W hm hwd).mono fun e W' ⟨he, hb⟩ => ⟨_, he, ?_⟩
  exact law_post hW1 rfl rfl (by kernel_rfl) Try.underlying4 laid_out (fun t ht => by
    rw [Try.params3] at ht
    simp only [List.mem_cons, List.not_mem_nil, or_false] at ht
    rcases ht with rfl | rfl
    · exact ⟨rec_tMachine, row_tMachine⟩
    · exact ⟨rec_tInts, row_tInts⟩) hb
theorem autoValid_holds (C : AwakeC) (V : ValidC 15) : Rows.AutoValidSaid :=
  OpenClaim.holds_of_wide 3 Try.f3 rfl rfl rfl rfl rfl rfl rfl ⟨rfl, rfl, rfl, rfl, rfl⟩ rfl rfl rfl rfl rfl (by kernel_rfl) Try.func3 (by kernel_rfl)
    (of_decide_eq_true (by kernel_rfl)) (by unfold Func.isWrapper; first | (rw [if_pos (by decide +kernel)]; kernel_rfl) | (rw [if_neg (by decide +kernel)]; exact ⟨rfl, rfl⟩))
    (fun os started H enc _ => autoValid_lifted C V os started H enc)
end Go.Proofs.Ythkabbgaikociaa
namespace Go.Proofs.Ythkabbgaikociaa
theorem autoValid : Rows.AutoValidSaid := autoValid_holds awakeC aValid_c
end Go.Proofs.Ythkabbgaikociaa
