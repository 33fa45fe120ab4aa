/- The statement AutoTrusts holds of the program as it landed: what Check and Relate trust is so, as the document says, at every input that the statement takes; no condition. -/
import Derived.Test.YthkabbgaikociaaRows
import Derived.Test.YthkabbgaikociaaBa1
import Derived.Test.YthkabbgaikociaaBa2
import Derived.Test.YthkabbgaikociaaBa3
import Derived.Test.YthkabbgaikociaaBa4
import Derived.Test.YthkabbgaikociaaBa5
import Derived.Test.YthkabbgaikociaaBa6
namespace Go.Proofs.Ythkabbgaikociaa
open Go Sym
theorem en_awake : enters Try.prog 12 = true := by kernel_rfl
theorem en_lValid : enters Try.prog 15 = true := by kernel_rfl
theorem MaIn.copy {w : World} {L s : Int} {next : List (List Int)} {fin : List Bool} {vn ve : Value} (h : MaIn w L s next fin vn ve) {w1 : World} (hb : RowKit.Below w.heap.size w w1) :
    Calls Try.prog 16 #[.agg #[.int .i64 L, .int .i64 s, vn, ve]] w1 fun e w' => ∃ vn' ve', e = .returned (.agg #[.int .i64 L, .int .i64 s, vn', ve']) ∧ OwnM w1.heap.size w' next fin vn' ve' ∧ RowKit.Below w1.heap.size w1 w' :=
  copy_any L s vn ve next fin w1 (h.ma.keep hb) (Nat.le_trans h.fb (by decide)) (fun r hr => Nat.le_trans (h.rb r hr) (by decide)) (Nat.le_trans h.nb (by decide))
set_option maxRecDepth 100000 in
theorem autoValid_any (C : AwakeC) (V : ValidC 15) (L s : Int) (vn ve vw : Value) (next : List (List Int)) (fin : List Bool) (word : List Int) (w : World) (hi : MaIn w L s next fin vn ve) (hw0 : PRowB w vw word) :
    Calls Try.prog 3 #[.agg #[.int .i64 L, .int .i64 s, vn, ve], vw] w fun e w' => e = .returned (.bool true) ∧ RowKit.Below w.heap.size w w' := by
  refine Sym.enter (args := [.agg #[.int .i64 L, .int .i64 s, vn, ve], vw]) Try.func3 rfl rfl rfl (fun a0 hS0 => ?_)
  obtain ⟨M, hM⟩ : ∃ M, M = w.heap.size := ⟨_, rfl⟩
  refine wp_seq (seq_cut [(1, vw), (2, .pointer (some ⟨M, 0, none⟩))] (· = w.alloc (.cells #[.int .i64 L, .int .i64 s, vn, ve] 25)) tab_ok hS0 ?_ (fun a wc hS hw => ?_))
  · subst hM
    refine o_new rfl rfl rfl (fun _ => rfl) ?_
    repeat (first | refine o_pure rfl rfl rfl (fun _ => rfl) ?_ | refine o_skip rfl rfl rfl ?_)
    exact o_nil ⟨⟨rfl, rfl, trivial⟩, rfl⟩
  have hB : RowKit.Below w.heap.size w wc := by rw [hw]; exact below_alloc _ _
  have hx : Box wc M L s vn ve := by rw [hw, hM]; exact Box.new _ _ _ _ _ _
  clear hw
  have hm := hi.ma.keep hB
  have hwd := hw0.1.keep hB
  obtain ⟨b10, hb10⟩ : ∃ b, decide ((8000 : Int) < next.length) = b := ⟨_, rfl⟩
  refine wp_seq (wp_seq (seq_cut [(1, vw), (2, .pointer (some ⟨M, 0, none⟩)), (10, .bool b10)] (· = wc) tab_ok hS ?_ (fun a w1 hS hw => ?_)))
  · obtain ⟨an, cn, hvn⟩ := hm.n.len
    repeat (first | refine o_pure rfl rfl rfl (fun _ => rfl) ?_ | refine o_skip rfl rfl rfl ?_)
    refine o_load rfl rfl rfl (fun _ => rfl) (hvn ▸ hx.c2) ?_
    repeat (first | refine o_pure rfl rfl rfl (fun _ => rfl) ?_ | refine o_skip rfl rfl rfl ?_)
    refine o_cmp rfl rfl rfl (fun _ => rfl) (hb10) ?_
    exact o_nil ⟨⟨rfl, rfl, rfl, trivial⟩, rfl⟩
  subst hw
  refine cond hS rfl (fun hT => ?_) (fun hF => ?_)
  · refine wp_seq (seq_cut [(4, .bool true)] (fun w' => RowKit.Below w1.heap.size w1 w') tab_ok hS ?_ (fun a w2 hS hw => ?_))
    · refine o_call rfl rfl rfl (fun _ => rfl) (en_awake) (awake_any C _) ?_
      rintro e w2 ⟨rfl, h2⟩
      refine ⟨_, rfl, ?_⟩
      repeat (first | refine o_pure rfl rfl rfl (fun _ => rfl) ?_ | refine o_skip rfl rfl rfl ?_)
      exact o_nil ⟨⟨rfl, trivial⟩, h2⟩
    refine wp_ret ?_
    repeat (first | refine then_ret ?_ | refine block_ret ?_)
    exact ret1 hS rfl rfl ⟨rfl, below_trans hB hw⟩
  refine wp_skip ?_
  refine wp_seq (seq_cut [(1, vw), (2, .pointer (some ⟨M, 0, none⟩)), (5, .int .i64 (validM L s next fin))] (fun w' => RowKit.Below w1.heap.size w1 w') tab_ok hS ?_ (fun a w2 hS hw2 => ?_))
  · refine o_loads (vs := [.int .i64 L, .int .i64 s, vn, ve]) rfl rfl rfl (fun _ => rfl) rfl (hx.cells) ?_
    refine o_call rfl rfl rfl (fun _ => rfl) (en_Valid) (valid_any L s vn ve next fin _ hm) ?_
    rintro e w2 ⟨rfl, h2⟩
    refine ⟨_, rfl, ?_⟩
    repeat (first | refine o_pure rfl rfl rfl (fun _ => rfl) ?_ | refine o_skip rfl rfl rfl ?_)
    exact o_nil ⟨⟨rfl, rfl, rfl, trivial⟩, h2⟩
  have hB2 := below_trans hB hw2
  refine wp_seq (seq_cut [(1, vw), (2, .pointer (some ⟨M, 0, none⟩)), (5, .int .i64 (validM L s next fin)), (6, .bool (acceptsM L s next fin word))] (fun w' => RowKit.Below w2.heap.size w2 w') tab_ok hS ?_ (fun a w3 hS hw3 => ?_))
  · refine o_loads (vs := [.int .i64 L, .int .i64 s, vn, ve]) rfl rfl rfl (fun _ => rfl) rfl ((hx.keep hw2).cells) ?_
    repeat (first | refine o_pure rfl rfl rfl (fun _ => rfl) ?_ | refine o_skip rfl rfl rfl ?_)
    refine o_call rfl rfl rfl (fun _ => rfl) (en_Accepts) (accepts_any L s vn ve vw next fin word _ (hm.keep hw2) (hwd.keep hw2).1) ?_
    rintro e w3 ⟨rfl, h3⟩
    refine ⟨_, rfl, ?_⟩
    repeat (first | refine o_pure rfl rfl rfl (fun _ => rfl) ?_ | refine o_skip rfl rfl rfl ?_)
    exact o_nil ⟨⟨rfl, rfl, rfl, rfl, trivial⟩, h3⟩
  have hB3 := below_trans hB2 hw3
  have hx3 := (hx.keep hw2).keep hw3
  refine wp_seq (seq_cut [(4, .bool true)] (fun w' => RowKit.Below w3.heap.size w3 w') tab_ok hS ?_ (fun a w4 hS hw4 => ?_))
  · refine o_loads (vs := [.int .i64 L, .int .i64 s, vn, ve]) rfl rfl rfl (fun _ => rfl) rfl (hx3.cells) ?_
    refine o_call rfl rfl rfl (fun _ => rfl) (en_Copy) (hi.copy hB3) ?_
    rintro e w4 ⟨vn4, ve4, rfl, hm4, h4⟩
    refine ⟨_, rfl, ?_⟩
    refine o_call rfl rfl rfl (fun _ => rfl) (en_lValid) (V L s vn4 ve4 next fin w4 (hm4.ma hi.ma.L hi.ma.s)) ?_
    rintro e w5 ⟨rfl, h5⟩
    refine ⟨_, rfl, ?_⟩
    have h45 := below_trans h4 h5
    repeat (first | refine o_pure rfl rfl rfl (fun _ => rfl) ?_ | refine o_skip rfl rfl rfl ?_)
    refine o_cmp rfl rfl rfl (fun _ => rfl) (decide_eq_true rfl) ?_
    repeat (first | refine o_pure rfl rfl rfl (fun _ => rfl) ?_ | refine o_skip rfl rfl rfl ?_)
    refine o_loads (vs := [.int .i64 L, .int .i64 s, vn, ve]) rfl rfl rfl (fun _ => rfl) rfl ((hx3.keep h45).cells) ?_
    refine o_call rfl rfl rfl (fun _ => rfl) (en_Copy) (hi.copy (below_trans hB3 h45)) ?_
    rintro e w6 ⟨vn6, ve6, rfl, hm6, h6⟩
    refine ⟨_, rfl, ?_⟩
    refine o_step rfl rfl rfl ?_
    refine Exists.intro [] (Exists.intro #[] (And.intro (And.intro rfl rfl) (And.intro (by decide) (And.intro (by simp [Instr.fill, madeCells]) ?_))))
    have h36 := below_trans h45 h6
    have hy := below_alloc w6 (.cells #[] 3)
    have hl := own_lit w6 w6.heap.size 3 (Nat.le_refl _)
    have hwd6 := (hw0.1.keep (below_trans (below_trans hB3 h36) hy))
    have ask := ask_of (e := ⟨3, .int .i64, 1, 8, .int .i64 0⟩) hl (src_of (f := Value.int .i64) hwd6.1 hwd6.2 (fun _ _ h => h.1)) rfl (fun _ => rfl) (by have := hw0.2; omega) (by show (0 + _) * 8 ≤ _; have := hw0.2; omega) hy.size
    obtain ⟨aw, bw, ow, cw, hvw, -⟩ := hw0.1.1
    subst hvw
    repeat (first | refine o_pure rfl rfl rfl (fun _ => rfl) ?_ | refine o_skip rfl rfl rfl ?_)
    refine o_step rfl rfl rfl ?_
    refine Exists.intro _ (Exists.intro _ (Exists.intro _ (Exists.intro _ (Exists.intro _ (And.intro (ask) (And.intro (fun _ h => h.symm) (And.intro (by decide) ?_)))))))
    rintro v' w7 hown hgr - -
    rw [Nat.zero_add, List.nil_append] at hown
    have h7 := below_of_grown hy hgr (fun q hq => by simp only [Value.ownBlock, Option.some.injEq] at hq; omega)
    have hI : ∀ x ∈ word, I64 x := fun x hx => by
      obtain ⟨i, hi', rfl⟩ := List.mem_iff_getElem.1 hx
      obtain ⟨_, _, _, _, _, _, _, _, g4⟩ := hw0.1.1
      obtain ⟨_, _, _, hI⟩ := g4 i hi'
      exact hI
    have hs7 := sl_own (P := PInt) (l := word) hown rfl (fun j hj => ⟨_, by simp [hj], rfl, hI _ (List.getElem_mem hj)⟩)
    obtain ⟨av, bv, ov, cv, hv', -⟩ := id hs7.1
    subst hv'
    refine o_call rfl rfl rfl (fun _ => rfl) (en_aAccepts) (C.accepts L s vn6 ve6 _ next fin word w7 ((hm6.ma hi.ma.L hi.ma.s).keep h7) hs7.1) ?_
    rintro e w8 ⟨rfl, h8⟩
    refine ⟨_, rfl, ?_⟩
    repeat (first | refine o_pure rfl rfl rfl (fun _ => rfl) ?_ | refine o_skip rfl rfl rfl ?_)
    refine o_cmp rfl rfl rfl (fun _ => rfl) (beq_self_eq_true _) ?_
    repeat (first | refine o_pure rfl rfl rfl (fun _ => rfl) ?_ | refine o_skip rfl rfl rfl ?_)
    refine o_call rfl rfl rfl (fun _ => rfl) (en_awake) (awake_any C _) ?_
    rintro e w9 ⟨rfl, h9⟩
    refine ⟨_, rfl, ?_⟩
    repeat (first | refine o_pure rfl rfl rfl (fun _ => rfl) ?_ | refine o_skip rfl rfl rfl ?_)
    exact o_nil ⟨⟨rfl, trivial⟩, below_trans (below_trans (below_trans h36 h7) h8) h9⟩
  refine wp_ret ?_
  repeat (first | refine then_ret ?_ | refine block_ret ?_)
  exact ret1 hS rfl rfl ⟨rfl, below_trans hB3 hw4⟩
end Go.Proofs.Ythkabbgaikociaa
namespace Go.Proofs.Ythkabbgaikociaa
open Go Sym
open Go.ChangeShapes Go.WideShapes Go.ChangeAt
theorem own_knob : ownKnob Try.prog.godebug = none := by kernel_rfl
theorem laid_out : laidOutB Try.prog = true := by kernel_rfl
theorem rec_tMachine : Try.prog.readableRec 25 = true := by kernel_rfl
theorem rec_tInts : Try.prog.readableRec 26 = true := by kernel_rfl
theorem row_tMachine : (25 : TypeId) < Try.prog.types.size := of_decide_eq_true (by kernel_rfl)
theorem row_tInts : (26 : TypeId) < Try.prog.types.size := of_decide_eq_true (by kernel_rfl)
theorem light_of {H : Type} {P : Program} {ts : List TypeId} {ds : List (DataW H)} (h : (DataW.weightsEach P ts ds).all (· ≤ reachBytes) = true) {j : Nat} {t : TypeId} {d : DataW H} (ht : ts[j]? = some t) (hd : ds[j]? = some d) : Light P t d := fun n hn => by
  have := List.all_eq_true.1 h _ (DataW.weights_mem_each ht hd n hn)
  exact (of_decide_eq_true this : n ≤ reachBytes)
theorem slice_cells {P : Program} {w : World} {r : Reach} {b : Nat} {t e : TypeId} {v : Value} (ht : P.underlying t = some (.slice e)) (h : Value.okWide P w r b t v) : v.cells.toList = [v] := by
  unfold Value.okWide at h
  rw [ht] at h
  simp only [Cell.okWide, ht, Cell.ok] at h
  cases v <;> first | rfl | exact h.elim
set_option maxRecDepth 100000 in
theorem autoValid_lifted (C : AwakeC) (V : ValidC 15) (os : Os) (started : os.Started) (H : Type) (enc : TypeId × Value → H) :
    ReturnsInHanded {} Try.checked os 3 .any (Rows.autoValidSpec.pre6 enc Try.prog Try.f3 Rows.autoValidRow.domain false) (Rows.autoValidSpec.post enc Try.prog Try.f3 false true false false) := by
  refine returnsInHanded_of_change_sized (C := Try.checked) own_knob started (by kernel_rfl) Try.func3
    (ChangeSpec.witness6 (enc := enc) (C := Try.checked) false ⟨#[], #[.agg #[.int .i64 0, .int .i64 0, .slice none 0 0, .slice none 0 0], .slice none 0 0], []⟩ 8 (by kernel_rfl) (by kernel_rfl) (by kernel_rfl) (by kernel_rfl)) ?_
  intro W base args ds gs before hval0 hW hcnd hsz0 _
  have hsz : (DataW.weightsEach Try.prog (Try.f3.params.toList ++ Rows.autoValidSpec.plain.varTypes Try.prog) (ds ++ gs)).all (· ≤ reachBytes) = true := hsz0
  have hW1 : DataW.Whole enc Try.prog Try.f3.params.toList Rows.autoValidSpec.vars false W args.toList ds gs before := hW
  have hval : ∀ (j : Nat) t v, Try.f3.params[j]? = some t → args[j]? = some v → Value.okWide Try.prog W .any base t v := hval0
  clear hsz0 hval0 hcnd
  obtain ⟨p, q, hA0, hV, rfl, hfz, hnd⟩ := hW
  have hA : DataW.TrodAll enc Try.prog W 0 (fun _ => true) true Try.f3.params.toList args.toList ds p := hA0
  rw [Try.params3] at hA hsz hval
  obtain ⟨v0, v1, d0, d1, p0, p1, rfl, rfl, rfl, h0, h1⟩ := trodAll_two hA
  obtain ⟨rfl, rfl⟩ := trodVars_none hV
  obtain ⟨L, s, next, fin, vn, ve, rfl, hm⟩ := open_machine h0 (light_of hsz (j := 0) rfl rfl)
  obtain ⟨fuel, h1'⟩ := h1
  have hv1 := slice_cells Try.underlying26 (hval 1 26 v1 rfl rfl)
  rw [hv1] at h1'
  obtain ⟨word, hwd⟩ := open_ints2 h1' (light_of hsz (j := 1) rfl rfl)
  refine (autoValid_any C V L s vn ve v1 next fin word W hm hwd).mono fun e W' ⟨he, hb⟩ => ⟨_, he, ?_⟩
  exact law_post hW1 rfl rfl (by kernel_rfl) Try.underlying4 laid_out (fun t ht => by
    rw [Try.params3] at ht
    simp only [List.mem_cons, List.not_mem_nil, or_false] at ht
    rcases ht with rfl | rfl
    · exact ⟨rec_tMachine, row_tMachine⟩
    · exact ⟨rec_tInts, row_tInts⟩) hb
theorem autoValid_holds (C : AwakeC) (V : ValidC 15) : Rows.AutoValidSaid :=
  OpenClaim.holds_of_wide 3 Try.f3 rfl rfl rfl rfl rfl rfl rfl ⟨rfl, rfl, rfl, rfl, rfl⟩ rfl rfl rfl rfl rfl (by kernel_rfl) Try.func3 (by kernel_rfl)
    (of_decide_eq_true (by kernel_rfl)) (by unfold Func.isWrapper; first | (rw [if_pos (by decide +kernel)]; kernel_rfl) | (rw [if_neg (by decide +kernel)]; exact ⟨rfl, rfl⟩))
    (fun os started H enc _ => autoValid_lifted C V os started H enc)
end Go.Proofs.Ythkabbgaikociaa
namespace Go.Proofs.Ythkabbgaikociaa
open Go Sym
theorem en_small' : enters Try.prog 18 = true := by kernel_rfl
theorem sl_row {w : World} {v : Value} {l : List (List Int)} (h : Sl w v l PRow) {i : Nat} (hi : i < l.length) : ∃ b o cn u, v = .slice (some ⟨b, o, none⟩) l.length cn ∧ w.cell? ⟨b, o + i, none⟩ = some u ∧ PRow w u l[i] := by
  obtain ⟨an, bn, on, cn, rfl, m1, m2, m3, m4⟩ := h
  obtain rfl := m1 (by omega)
  obtain ⟨u, hu, hpu⟩ := m4 i hi
  exact ⟨bn, on, cn, u, rfl, hu, hpu⟩
set_option maxRecDepth 100000 in
theorem autoTrusts_any (C : AwakeC) (L1 s1 L2 s2 : Int) (vn1 ve1 vn2 ve2 vp vw : Value) (n1 n2 : List (List Int)) (f1 f2 : List Bool) (l : List (Int × Int)) (words : List (List Int)) (w : World)
    (hi1 : MaIn w L1 s1 n1 f1 vn1 ve1) (hi2 : MaIn w L2 s2 n2 f2 vn2 ve2) (hl0 : SlP w vp l) (hw0 : Sl w vw words PRow) :
    Calls Try.prog 9 #[.agg #[.int .i64 L1, .int .i64 s1, vn1, ve1], .agg #[.int .i64 L2, .int .i64 s2, vn2, ve2], vp, vw] w fun e w' => e = .returned (.bool true) ∧ RowKit.Below w.heap.size w w' := by
  refine Sym.enter (args := [.agg #[.int .i64 L1, .int .i64 s1, vn1, ve1], .agg #[.int .i64 L2, .int .i64 s2, vn2, ve2], vp, vw]) Try.func9 rfl rfl rfl (fun a0 hS0 => ?_)
  obtain ⟨N, hN⟩ : ∃ N, N = (w.alloc (.cells #[.int .i64 L1, .int .i64 s1, vn1, ve1] 25)).heap.size := ⟨_, rfl⟩
  obtain ⟨M, hM⟩ : ∃ M, M = w.heap.size := ⟨_, rfl⟩
  refine wp_seq (seq_cut [(2, vp), (3, vw), (4, .pointer (some ⟨M, 0, none⟩)), (5, .pointer (some ⟨N, 0, none⟩))] (· = (w.alloc (.cells #[.int .i64 L1, .int .i64 s1, vn1, ve1] 25)).alloc (.cells #[.int .i64 L2, .int .i64 s2, vn2, ve2] 25)) tab_ok hS0 ?_ (fun a wc hS hw => ?_))
  · subst hN hM
    refine o_new rfl rfl rfl (fun _ => rfl) ?_
    refine o_new rfl rfl rfl (fun _ => rfl) ?_
    repeat (first | refine o_pure rfl rfl rfl (fun _ => rfl) ?_ | refine o_skip rfl rfl rfl ?_)
    exact o_nil ⟨⟨rfl, rfl, rfl, rfl, trivial⟩, rfl⟩
  have hB1 := below_alloc w (.cells #[.int .i64 L1, .int .i64 s1, vn1, ve1] 25)
  have hB2 := below_alloc (w.alloc (.cells #[.int .i64 L1, .int .i64 s1, vn1, ve1] 25)) (.cells #[.int .i64 L2, .int .i64 s2, vn2, ve2] 25)
  rw [← hw] at hB2
  have hx : Box wc M L1 s1 vn1 ve1 := by rw [hM]; exact (Box.new w L1 s1 vn1 ve1 25).keep hB2
  have hy : Box wc N L2 s2 vn2 ve2 := by rw [hw, hN]; exact Box.new _ _ _ _ _ _
  have hB := below_trans hB1 hB2
  clear hw hB1 hB2 hN hM
  have hm := hi1.ma.keep hB
  have hm2 := hi2.ma.keep hB
  replace hl0 := hl0.keep hB
  replace hw0 := hw0.keep hB (fun _ _ h => PRow.keep hB h)
  obtain ⟨gl, cl, hvp, -⟩ := hl0.len
  obtain ⟨b32, hb32⟩ : ∃ b, (!smallM L1 n1 f1 || (!smallM L2 n2 f2 || (decide ((1000 : Int) < l.length) || decide (checkM L1 s1 n1 f1 L2 s2 n2 f2 l ≠ 0)))) = b := ⟨_, rfl⟩
  refine wp_seq (wp_seq (seq_cut [(2, vp), (3, vw), (4, .pointer (some ⟨M, 0, none⟩)), (5, .pointer (some ⟨N, 0, none⟩)), (32, .bool b32)] (fun w' => RowKit.Below wc.heap.size wc w') tab_ok hS ?_ (fun a w1 hS hw => ?_)))
  · subst hvp
    refine o_loads (vs := [.int .i64 L1, .int .i64 s1, vn1, ve1]) rfl rfl rfl (fun _ => rfl) rfl (hx.cells) ?_
    refine o_call rfl rfl rfl (fun _ => rfl) (en_small') (small_any L1 s1 vn1 ve1 n1 f1 _ hm) ?_
    rintro e w1 ⟨rfl, h1⟩
    refine ⟨_, rfl, ?_⟩
    cases e1 : !smallM L1 n1 f1
    case true =>
      rw [e1, Bool.true_or] at hb32; subst hb32
      refine o_pure rfl rfl rfl (fun _ => rfl) ?_
      rw [e1]
      repeat (first | refine o_pure rfl rfl rfl (fun _ => rfl) ?_ | refine o_skip rfl rfl rfl ?_)
      exact o_nil ⟨⟨rfl, rfl, rfl, rfl, rfl, trivial⟩, h1⟩
    rw [e1, Bool.false_or] at hb32
    refine o_pure rfl rfl rfl (fun _ => rfl) ?_
    rw [e1]
    repeat (first | refine o_pure rfl rfl rfl (fun _ => rfl) ?_ | refine o_skip rfl rfl rfl ?_)
    refine o_loads (vs := [.int .i64 L2, .int .i64 s2, vn2, ve2]) rfl rfl rfl (fun _ => rfl) rfl ((hy.keep h1).cells) ?_
    refine o_call rfl rfl rfl (fun _ => rfl) (en_small') (small_any L2 s2 vn2 ve2 n2 f2 _ (hm2.keep h1)) ?_
    rintro e w2 ⟨rfl, h2⟩
    refine ⟨_, rfl, ?_⟩
    have h12 := below_trans h1 h2
    cases e2 : !smallM L2 n2 f2
    case true =>
      rw [e2, Bool.true_or] at hb32; subst hb32
      refine o_pure rfl rfl rfl (fun _ => rfl) ?_
      rw [e2]
      repeat (first | refine o_pure rfl rfl rfl (fun _ => rfl) ?_ | refine o_skip rfl rfl rfl ?_)
      exact o_nil ⟨⟨rfl, rfl, rfl, rfl, rfl, trivial⟩, h12⟩
    rw [e2, Bool.false_or] at hb32
    refine o_pure rfl rfl rfl (fun _ => rfl) ?_
    rw [e2]
    repeat (first | refine o_pure rfl rfl rfl (fun _ => rfl) ?_ | refine o_skip rfl rfl rfl ?_)
    cases e3 : decide ((1000 : Int) < l.length)
    case true =>
      rw [e3, Bool.true_or] at hb32; subst hb32
      refine o_cmp rfl rfl rfl (fun _ => rfl) (e3) ?_
      repeat (first | refine o_pure rfl rfl rfl (fun _ => rfl) ?_ | refine o_skip rfl rfl rfl ?_)
      exact o_nil ⟨⟨rfl, rfl, rfl, rfl, rfl, trivial⟩, h12⟩
    rw [e3, Bool.false_or] at hb32
    refine o_cmp rfl rfl rfl (fun _ => rfl) (e3) ?_
    repeat (first | refine o_pure rfl rfl rfl (fun _ => rfl) ?_ | refine o_skip rfl rfl rfl ?_)
    refine o_loads (vs := [.int .i64 L1, .int .i64 s1, vn1, ve1]) rfl rfl rfl (fun _ => rfl) rfl ((hx.keep h12).cells) ?_
    refine o_loads (vs := [.int .i64 L2, .int .i64 s2, vn2, ve2]) rfl rfl rfl (fun _ => rfl) rfl ((hy.keep h12).cells) ?_
    repeat (first | refine o_pure rfl rfl rfl (fun _ => rfl) ?_ | refine o_skip rfl rfl rfl ?_)
    refine o_call rfl rfl rfl (fun _ => rfl) (en_aCheck) (C.check L1 s1 L2 s2 vn1 ve1 vn2 ve2 _ n1 n2 f1 f2 l _ (hm.keep h12) (hm2.keep h12) (hl0.keep h12)) ?_
    rintro e w3 ⟨rfl, h3⟩
    refine ⟨_, rfl, ?_⟩
    refine o_cmp rfl rfl rfl (fun _ => rfl) (hb32) ?_
    repeat (first | refine o_pure rfl rfl rfl (fun _ => rfl) ?_ | refine o_skip rfl rfl rfl ?_)
    exact o_nil ⟨⟨rfl, rfl, rfl, rfl, rfl, trivial⟩, below_trans h12 h3⟩
  replace hB := below_trans hB hw
  replace hx := hx.keep hw
  replace hy := hy.keep hw
  replace hm := hm.keep hw
  replace hm2 := hm2.keep hw
  replace hl0 := hl0.keep hw
  replace hw0 := hw0.keep hw (fun _ _ h => PRow.keep hw h)
  clear hw
  refine cond hS rfl (fun hT => ?_) (fun hF => ?_)
  · refine wp_seq (seq_cut [(8, .bool true)] (fun w' => RowKit.Below w1.heap.size w1 w') tab_ok hS ?_ (fun a w2 hS hw => ?_))
    · refine o_call rfl rfl rfl (fun _ => rfl) (en_awake) (awake_any C _) ?_
      rintro e w2 ⟨rfl, h2⟩
      refine ⟨_, rfl, ?_⟩
      repeat (first | refine o_pure rfl rfl rfl (fun _ => rfl) ?_ | refine o_skip rfl rfl rfl ?_)
      exact o_nil ⟨⟨rfl, trivial⟩, h2⟩
    refine wp_ret ?_
    repeat (first | refine then_ret ?_ | refine block_ret ?_)
    exact ret1 hS rfl rfl ⟨rfl, below_trans hB hw⟩
  rw [hF] at hb32
  simp only [Bool.or_eq_false_iff, Bool.not_eq_false', decide_eq_false_iff_not, ne_eq, Decidable.not_not] at hb32
  obtain ⟨g1, g2, g3, g4⟩ := hb32
  have hs1 : n1.length ≤ 100 := by simp only [smallM, Bool.and_eq_true, decide_eq_true_eq] at g1; omega
  have hs2 : n2.length ≤ 100 := by simp only [smallM, Bool.and_eq_true, decide_eq_true_eq] at g2; omega
  obtain ⟨htwo, hal⟩ := check_sound g4
  refine wp_skip ?_
  refine wp_seq (seq_cut [(3, vw), (4, .pointer (some ⟨M, 0, none⟩)), (5, .pointer (some ⟨N, 0, none⟩)), (11, .int .i64 7)] (fun w' => RowKit.Below w1.heap.size w1 w') tab_ok hS ?_ (fun a w2 hS hw => ?_))
  · refine o_loads (vs := [.int .i64 L1, .int .i64 s1, vn1, ve1]) rfl rfl rfl (fun _ => rfl) rfl (hx.cells) ?_
    refine o_loads (vs := [.int .i64 L2, .int .i64 s2, vn2, ve2]) rfl rfl rfl (fun _ => rfl) rfl (hy.cells) ?_
    refine o_call rfl rfl rfl (fun _ => rfl) (en_aDiffer) (C.differ L1 s1 L2 s2 vn1 ve1 vn2 ve2 n1 n2 f1 f2 _ hm hm2 hs1 hs2) ?_
    rintro e w2 ⟨vd, word, b, r, rfl, _, _, h2, hI⟩
    obtain ⟨rfl, rfl, rfl⟩ := check_differ g4 hI
    refine ⟨_, rfl, ?_⟩
    repeat (first | refine o_pure rfl rfl rfl (fun _ => rfl) ?_ | refine o_skip rfl rfl rfl ?_)
    exact o_nil ⟨⟨rfl, rfl, rfl, rfl, trivial⟩, h2⟩
  replace hB := below_trans hB hw
  replace hx := hx.keep hw
  replace hy := hy.keep hw
  replace hm := hm.keep hw
  replace hm2 := hm2.keep hw
  replace hw0 := hw0.keep hw (fun _ _ h => PRow.keep hw h)
  clear hw hl0
  refine wp_seq (wp_seq (seq_cut [(3, vw), (4, .pointer (some ⟨M, 0, none⟩)), (5, .pointer (some ⟨N, 0, none⟩)), (42, .bool false)] (· = w2) tab_ok hS ?_ (fun a w3 hS hw => ?_)))
  · repeat (first | refine o_pure rfl rfl rfl (fun _ => rfl) ?_ | refine o_skip rfl rfl rfl ?_)
    refine o_cmp rfl rfl rfl (fun _ => rfl) (rfl) ?_
    exact o_nil ⟨⟨rfl, rfl, rfl, rfl, trivial⟩, rfl⟩
  subst hw
  refine cond hS rfl (fun hT => by cases hT) (fun _ => ?_)
  refine wp_skip ?_
  obtain ⟨gw, bw, ow, cw, rfl, gw1, gw2, gw3, gw4⟩ := id hw0
  clear gw4
  refine wp_seq (wp_seq (seq_cut [(3, .slice gw words.length cw), (4, .pointer (some ⟨M, 0, none⟩)), (5, .pointer (some ⟨N, 0, none⟩)), (12, .int .i64 0)] (· = w3) tab_ok hS ?_ (fun a w4 hS hw => ?_)))
  · repeat (first | refine o_pure rfl rfl rfl (fun _ => rfl) ?_ | refine o_skip rfl rfl rfl ?_)
    exact o_nil ⟨⟨rfl, rfl, rfl, rfl, trivial⟩, rfl⟩
  subst hw
  refine wp_block (loop0 hS (fun g E wr => ∃ i : Nat, i ≤ words.length ∧ g = words.length - i ∧ E = [(3, .slice gw words.length cw), (4, .pointer (some ⟨M, 0, none⟩)), (5, .pointer (some ⟨N, 0, none⟩)), (12, .int .i64 i)] ∧ RowKit.Below w4.heap.size w4 wr)
    words.length ⟨0, Nat.zero_le _, rfl, rfl, RowKit.Below.refl _ _⟩ ?_)
  rintro g E wr a1 ⟨i, hi, rfl, rfl, hK⟩ hS
  refine wp_seq (wp_seq (seq_cut [(3, .slice gw words.length cw), (4, .pointer (some ⟨M, 0, none⟩)), (5, .pointer (some ⟨N, 0, none⟩)), (12, .int .i64 i), (46, .bool (decide ((i : Int) < words.length)))] (· = wr) tab_ok hS ?_ (fun a w5 hS hw => ?_)))
  · repeat (first | refine o_pure rfl rfl rfl (fun _ => rfl) ?_ | refine o_skip rfl rfl rfl ?_)
    refine o_cmp rfl rfl rfl (fun _ => rfl) (rfl) ?_
    exact o_nil ⟨⟨rfl, rfl, rfl, rfl, rfl, trivial⟩, rfl⟩
  subst hw
  refine cond hS rfl (fun hT => ?_) (fun hF => ?_)
  case refine_2 =>
    refine wp_exit ?_
    repeat (first | refine then_exit ?_ | refine block_exit ?_ | refine block_other rfl ?_)
    refine wp_seq (seq_cut [(8, .bool true)] (fun w' => RowKit.Below w5.heap.size w5 w') tab_ok hS ?_ (fun a w6 hS hw => ?_))
    · refine o_call rfl rfl rfl (fun _ => rfl) (en_awake) (awake_any C _) ?_
      rintro e w6 ⟨rfl, h6⟩
      refine ⟨_, rfl, ?_⟩
      repeat (first | refine o_pure rfl rfl rfl (fun _ => rfl) ?_ | refine o_skip rfl rfl rfl ?_)
      exact o_nil ⟨⟨rfl, trivial⟩, h6⟩
    refine wp_ret ?_
    repeat (first | refine then_ret ?_ | refine block_ret ?_)
    exact ret1 hS rfl rfl ⟨rfl, below_trans (below_trans hB hK) hw⟩
  have hlt : i < words.length := by have := of_decide_eq_true hT; omega
  obtain ⟨b, o, cn, u, e, hu, hpu⟩ := sl_row (hw0.keep hK (fun _ _ h => PRow.keep hK h)) hlt
  simp only [Value.slice.injEq] at e
  obtain ⟨rfl, -, rfl⟩ := e
  refine wp_skip ?_
  refine wp_seq (wp_block ?_)
  refine wp_seq (quiet_cut [(3, .slice (some ⟨b, o, none⟩) words.length cw), (4, .pointer (some ⟨M, 0, none⟩)), (5, .pointer (some ⟨N, 0, none⟩)), (12, .int .i64 i), (61, .bool false)] tab_ok mixed (by kernel_rfl) hS ?_ (fun a w6 hS hw => ?_))
  · refine q_loads (vs := [.int .i64 L1, .int .i64 s1, vn1, ve1]) rfl rfl rfl (fun _ => rfl) rfl ((hx.keep hK).cells) ?_
    repeat (first | refine q_pure rfl rfl rfl (fun _ => rfl) ?_ | refine q_skip rfl rfl rfl ?_)
    refine q_ix rfl rfl rfl (fun _ => rfl) (rfl) (hlt) ?_
    refine q_load rfl rfl rfl (fun _ => rfl) (hu) ?_
    refine q_call (v := .bool (acceptsM L1 s1 n1 f1 words[i])) rfl rfl rfl (fun _ => rfl) (en_aAccepts) (fun w1 h1 => C.accepts L1 s1 vn1 ve1 u n1 f1 words[i] w1 ((hm.keep hK).keep h1) (hpu.keep h1).1) ?_
    refine q_loads (vs := [.int .i64 L2, .int .i64 s2, vn2, ve2]) rfl rfl rfl (fun _ => rfl) rfl ((hy.keep hK).cells) ?_
    repeat (first | refine q_pure rfl rfl rfl (fun _ => rfl) ?_ | refine q_skip rfl rfl rfl ?_)
    refine q_ix rfl rfl rfl (fun _ => rfl) (rfl) (hlt) ?_
    refine q_load rfl rfl rfl (fun _ => rfl) (hu) ?_
    refine q_call (v := .bool (acceptsM L2 s2 n2 f2 words[i])) rfl rfl rfl (fun _ => rfl) (en_aAccepts) (fun w1 h1 => C.accepts L2 s2 vn2 ve2 u n2 f2 words[i] w1 ((hm2.keep hK).keep h1) (hpu.keep h1).1) ?_
    refine q_cmp rfl rfl rfl (fun _ => rfl) (show (acceptsM L1 s1 n1 f1 words[i] != acceptsM L2 s2 n2 f2 words[i]) = false by rw [accepts_alike htwo hal, bne_self_eq_false]) ?_
    exact q_nil ⟨rfl, rfl, rfl, rfl, rfl, trivial⟩
  refine cond hS rfl (fun hT => by cases hT) (fun _ => ?_)
  refine wp_skip ?_
  refine block_normal ?_
  refine then_normal ?_
  refine seq_cut [(3, .slice (some ⟨b, o, none⟩) words.length cw), (4, .pointer (some ⟨M, 0, none⟩)), (5, .pointer (some ⟨N, 0, none⟩)), (12, .int .i64 ((i + 1 : Nat) : Int))] (· = w6) tab_ok hS ?_ (fun a w7 hS hw7 => ?_)
  · repeat (first | refine o_pure rfl rfl rfl (fun _ => rfl) ?_ | refine o_skip rfl rfl rfl ?_)
    refine o_num rfl rfl rfl (fun _ => rfl) (wrap_succ (by omega)) ?_
    repeat (first | refine o_pure rfl rfl rfl (fun _ => rfl) ?_ | refine o_skip rfl rfl rfl ?_)
    exact o_nil ⟨⟨rfl, rfl, rfl, rfl, trivial⟩, rfl⟩
  subst hw7
  exact ⟨words.length - (i + 1), _, by omega, ⟨i + 1, hlt, rfl, rfl, below_trans hK hw⟩, hS⟩
end Go.Proofs.Ythkabbgaikociaa
namespace Go.Proofs.Ythkabbgaikociaa
open Go Sym
open Go.ChangeShapes Go.WideShapes Go.ChangeAt
theorem rec_tPairs : Try.prog.readableRec 39 = true := by kernel_rfl
theorem rec_tRows : Try.prog.readableRec 22 = true := by kernel_rfl
theorem row_tPairs : (39 : TypeId) < Try.prog.types.size := of_decide_eq_true (by kernel_rfl)
theorem row_tRows : (22 : TypeId) < Try.prog.types.size := of_decide_eq_true (by kernel_rfl)
theorem cells_tPair : Try.prog.cellsOf 50 = 2 := by kernel_rfl
theorem open_pairs2 {H : Type} {enc : TypeId × Value → H} {w : World} {fuel : Nat} {x : DataW H × List MemPlace} {v : Value} (h : DataW.trod enc Try.prog w 0 (fun _ => true) true fuel 39 [v] = some x) : ∃ l : List (Int × Int), SlP w v l := by
  rcases Go.Deep.open_slice Try.underlying39 h with ⟨hcs, hx⟩ | ⟨a, len, cap, m, n, D, Pl, hcs, hb, hlc, hm, hmm, hx, hel⟩
  · obtain rfl : v = .slice none 0 0 := by simpa using hcs
    exact ⟨[], none, 0, 0, 0, rfl, fun h => by simp at h, Nat.le_refl _, by decide, fun i hi => by simp at hi⟩
  · obtain rfl : v = .slice (some a) len cap := by simpa using hcs
    simp only [if_true] at hmm
    subst hmm
    rw [cells_tPair] at hel
    have one : ∀ i, i < len → ∃ p : Int × Int, w.cell? (a.add (i * 2)) = some (.int .i64 p.1) ∧ w.cell? ((a.add (i * 2)).add 1) = some (.int .i64 p.2) ∧ I64 p.1 ∧ I64 p.2 := fun i hi => by
      obtain ⟨cs, h1, h2⟩ := hel i (by omega)
      obtain ⟨_, hlen, hcell⟩ := World.cells?_some h1
      match cs, hlen with
      | [u, u'], _ =>
        obtain ⟨xs, n', rfl, _, _, hxl, hfs⟩ := DataW.trod_struct Try.underlying50 h2
        have f0 : DataW.trod enc Try.prog w 0 (fun _ => true) true n' 3 ([u, u'].take (Try.prog.cellsOf 3)) = xs[0]? := hfs 0 _ rfl
        have f1 : DataW.trod enc Try.prog w 0 (fun _ => true) true n' 3 ([u'].take (Try.prog.cellsOf 3)) = xs[1]? := hfs 1 _ rfl
        rw [cells_tInt] at f0 f1
        match xs, hxl with
        | [x0, x1], _ =>
          replace f0 : DataW.trod enc Try.prog w 0 (fun _ => true) true n' 3 [u] = some x0 := f0
          replace f1 : DataW.trod enc Try.prog w 0 (fun _ => true) true n' 3 [u'] = some x1 := f1
          obtain ⟨p, rfl, hp⟩ := open_i64 Try.underlying3 f0
          obtain ⟨q, rfl, hq⟩ := open_i64 Try.underlying3 f1
          have c0 := hcell 0 (by omega)
          have c1 := hcell 1 (by omega)
          exact ⟨(p, q), by simpa [Addr.add] using c0, by simpa using c1, hp, hq⟩
    obtain ⟨l, rfl, hl⟩ := list_of len one
    have hmx : m ≤ 9223372036854775807 := by unfold maxLen at hm; exact hm
    rcases Nat.eq_zero_or_pos l.length with h0 | h0
    · exact ⟨l, some a, a.block, a.off, m, rfl, fun h => by omega, hlc, hmx, fun i hi => by omega⟩
    · have hsp : a.spot = none := by
        have := cell_spot (hl 0 h0).1
        simpa [Addr.add] using this
      have ha : a = ⟨a.block, a.off, none⟩ := by
        obtain ⟨b, o, s⟩ := a
        simp only at hsp
        rw [hsp]
      refine ⟨l, some a, a.block, a.off, m, rfl, fun _ => by rw [← ha], hlc, hmx, fun i hi => ?_⟩
      obtain ⟨h1, h2, h3, h4⟩ := hl i hi
      rw [add_spot hsp] at h1 h2
      refine ⟨⟨h1, ?_, trivial⟩, h3, h4⟩
      rw [add_spot rfl] at h2
      exact h2
set_option maxRecDepth 100000 in
theorem autoTrusts_lifted (C : AwakeC) (os : Os) (started : os.Started) (H : Type) (enc : TypeId × Value → H) :
    ReturnsInHanded {} Try.checked os 9 .any (Rows.autoTrustsSpec.pre6 enc Try.prog Try.f9 Rows.autoTrustsRow.domain false) (Rows.autoTrustsSpec.post enc Try.prog Try.f9 false true false false) := by
  refine returnsInHanded_of_change_sized (C := Try.checked) own_knob started (by kernel_rfl) Try.func9
    (ChangeSpec.witness6 (enc := enc) (C := Try.checked) false ⟨#[], #[.agg #[.int .i64 0, .int .i64 0, .slice none 0 0, .slice none 0 0], .agg #[.int .i64 0, .int .i64 0, .slice none 0 0, .slice none 0 0], .slice none 0 0, .slice none 0 0], []⟩ 8 (by kernel_rfl) (by kernel_rfl) (by kernel_rfl) (by kernel_rfl)) ?_
  intro W base args ds gs before hval0 hW hcnd hsz0 _
  have hsz : (DataW.weightsEach Try.prog (Try.f9.params.toList ++ Rows.autoTrustsSpec.plain.varTypes Try.prog) (ds ++ gs)).all (· ≤ reachBytes) = true := hsz0
  have hW1 : DataW.Whole enc Try.prog Try.f9.params.toList Rows.autoTrustsSpec.vars false W args.toList ds gs before := hW
  have hval : ∀ (j : Nat) t v, Try.f9.params[j]? = some t → args[j]? = some v → Value.okWide Try.prog W .any base t v := hval0
  clear hsz0 hval0 hcnd
  obtain ⟨p, q, hA0, hV, rfl, hfz, hnd⟩ := hW
  have hA : DataW.TrodAll enc Try.prog W 0 (fun _ => true) true Try.f9.params.toList args.toList ds p := hA0
  rw [Try.params9] at hA hsz hval
  obtain ⟨v0, vs0, d0, ds0, p0, q0, hargs, rfl, rfl, h0, r0⟩ := trodAll_cons hA
  obtain ⟨v1, vs1, d1, ds1, p1, q1, rfl, rfl, rfl, h1, r1⟩ := trodAll_cons r0
  obtain ⟨v2, vs2, d2, ds2, p2, q2, rfl, rfl, rfl, h2, r2⟩ := trodAll_cons r1
  obtain ⟨v3, vs3, d3, ds3, p3, q3, rfl, rfl, rfl, h3, r3⟩ := trodAll_cons r2
  obtain ⟨rfl, rfl, rfl⟩ := trodAll_nil r3
  obtain rfl : args = #[v0, v1, v2, v3] := by cases args; simp_all
  obtain ⟨rfl, rfl⟩ := trodVars_none hV
  obtain ⟨L1, s1, n1, f1, vn1, ve1, rfl, hm1⟩ := open_machine h0 (light_of hsz (j := 0) rfl rfl)
  obtain ⟨L2, s2, n2, f2, vn2, ve2, rfl, hm2⟩ := open_machine h1 (light_of hsz (j := 1) rfl rfl)
  obtain ⟨fu2, h2'⟩ := h2
  obtain ⟨fu3, h3'⟩ := h3
  rw [slice_cells Try.underlying39 (hval 2 39 v2 rfl rfl)] at h2'
  rw [slice_cells Try.underlying22 (hval 3 22 v3 rfl rfl)] at h3'
  obtain ⟨l, hl⟩ := open_pairs2 h2'
  obtain ⟨words, hwd, -, -, -⟩ := open_rows2 h3' (light_of hsz (j := 3) rfl rfl)
  refine (autoTrusts_any C L1 s1 L2 s2 vn1 ve1 vn2 ve2 v2 v3 n1 n2 f1 f2 l words W hm1 hm2 hl hwd).mono fun e W' ⟨he, hb⟩ => ⟨_, he, ?_⟩
  exact law_post hW1 rfl rfl (by kernel_rfl) Try.underlying4 laid_out (fun t ht => by
    rw [Try.params9] at ht
    simp only [List.mem_cons, List.not_mem_nil, or_false] at ht
    rcases ht with rfl | rfl | rfl | rfl
    · exact ⟨rec_tMachine, row_tMachine⟩
    · exact ⟨rec_tMachine, row_tMachine⟩
    · exact ⟨rec_tPairs, row_tPairs⟩
    · exact ⟨rec_tRows, row_tRows⟩) hb
theorem autoTrusts_holds (C : AwakeC) : Rows.AutoTrustsSaid :=
  OpenClaim.holds_of_wide 9 Try.f9 rfl rfl rfl rfl rfl rfl rfl ⟨rfl, rfl, rfl, rfl, rfl⟩ rfl rfl rfl rfl rfl (by kernel_rfl) Try.func9 (by kernel_rfl)
    (of_decide_eq_true (by kernel_rfl)) (by unfold Func.isWrapper; first | (rw [if_pos (by decide +kernel)]; kernel_rfl) | (rw [if_neg (by decide +kernel)]; exact ⟨rfl, rfl⟩))
    (fun os started H enc _ => autoTrusts_lifted C os started H enc)
end Go.Proofs.Ythkabbgaikociaa
namespace Go.Proofs.Ythkabbgaikociaa
theorem autoTrusts : Rows.AutoTrustsSaid := autoTrusts_holds awakeC
end Go.Proofs.Ythkabbgaikociaa
