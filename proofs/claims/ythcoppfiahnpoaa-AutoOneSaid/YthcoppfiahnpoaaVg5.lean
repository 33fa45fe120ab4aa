/- AutoOne holds of the program as it landed: however a machine is written, its least one is the same, and Differ and Relate find the two the same; for any valid machine of at most 30 states and 8 letters. -/
import Derived.Test.YthcoppfiahnpoaaVg4
set_option maxRecDepth 100000
namespace Go.Proofs.Ythcoppfiahnpoaa
open Go Sym
open Go.Sort (grow alloc_eq_grow grow_grow putRow putCells mapBlock onCells Holds SWO PermIn SortedIn flatK putRowK HoldsK)
theorem compare_eq (x y : Int) (w : World) : Calls Try.prog 89 #[Vi x, Vi y] w fun e w' => e = .returned (Vi (cmpI x y)) ∧ w' = w := by
  refine Sym.enter (args := [Vi x, Vi y]) Try.func89 rfl rfl rfl (fun a0 hS0 => ?_)
  refine wp_seq (seq_cut [(0, Vi x), (1, Vi y)] (· = w) tab_ok hS0 ?_ (fun a w1 hS hw => ?_))
  · repeat first|refine zP rfl ?_|refine zK rfl ?_
    exact o_nil ⟨⟨rfl, rfl, trivial⟩, rfl⟩
  subst hw
  refine wp_seq (seq_cut [(0, Vi x), (1, Vi y), (5, .bool false)] (· = w1) tab_ok hS ?_ (fun a w2 hS hw => ?_))
  · repeat first|refine zP rfl ?_|refine zK rfl ?_
    refine zF rfl (en_isNaN) (isNaN_any x w1) ?_
    rintro e w2 ⟨rfl, rfl⟩
    refine ⟨_, rfl, ?_⟩
    repeat first|refine zP rfl ?_|refine zK rfl ?_
    exact o_nil ⟨⟨rfl, rfl, rfl, trivial⟩, rfl⟩
  subst hw
  refine wp_seq (seq_cut [(0, Vi x), (1, Vi y), (5, .bool false), (6, .bool false)] (· = w2) tab_ok hS ?_ (fun a w3 hS hw => ?_))
  · repeat first|refine zP rfl ?_|refine zK rfl ?_
    refine zF rfl (en_isNaN) (isNaN_any y w2) ?_
    rintro e w2 ⟨rfl, rfl⟩
    refine ⟨_, rfl, ?_⟩
    repeat first|refine zP rfl ?_|refine zK rfl ?_
    exact o_nil ⟨⟨rfl, rfl, rfl, rfl, trivial⟩, rfl⟩
  subst hw
  refine wp_seq (wp_seq (seq_cut [(0, Vi x), (1, Vi y), (6, .bool false), (11, .bool false)] (· = w3) tab_ok hS ?_ (fun a w4 hS hw => ?_)))
  · repeat first|refine zP rfl ?_|refine zK rfl ?_
    exact o_nil ⟨⟨rfl, rfl, rfl, rfl, trivial⟩, rfl⟩
  subst hw
  refine cond hS rfl (fun hT => by cases hT) (fun hF => wp_skip ?_)
  refine wp_seq (wp_seq (seq_cut [(0, Vi x), (1, Vi y), (13, .bool false)] (· = w4) tab_ok hS ?_ (fun a w5 hS hw => ?_)))
  · repeat first|refine zP rfl ?_|refine zK rfl ?_
    exact o_nil ⟨⟨rfl, rfl, rfl, trivial⟩, rfl⟩
  subst hw
  refine cond hS rfl (fun hT => by cases hT) (fun hF => wp_skip ?_)
  refine wp_seq (wp_seq (seq_cut [(0, Vi x), (1, Vi y), (16, .bool (decide (x < y)))] (· = w5) tab_ok hS ?_ (fun a w6 hS hw => ?_)))
  · repeat first|refine zP rfl ?_|refine zK rfl ?_
    refine zC rfl (rfl) ?_
    repeat first|refine zP rfl ?_|refine zK rfl ?_
    exact o_nil ⟨⟨rfl, rfl, rfl, trivial⟩, rfl⟩
  subst hw
  refine cond hS rfl (fun hT => ?_) (fun hF => wp_skip ?_)
  · refine wp_seq (seq_cut [(4, Vi (-1))] (· = w6) tab_ok hS ?_ (fun a w7 hS hw => ?_))
    · repeat first|refine zP rfl ?_|refine zK rfl ?_
      exact o_nil ⟨⟨rfl, trivial⟩, rfl⟩
    subst hw
    refine wp_ret ?_
    repeat (first | refine then_ret ?_ | refine block_ret ?_)
    exact ret1 hS rfl rfl ⟨by rw [cmpI, if_pos (of_decide_eq_true hT)], rfl⟩
  have h1 := of_decide_eq_false hF
  refine wp_seq (wp_seq (seq_cut [(0, Vi x), (1, Vi y), (19, .bool (decide (y < x)))] (· = w6) tab_ok hS ?_ (fun a w7 hS hw => ?_)))
  · repeat first|refine zP rfl ?_|refine zK rfl ?_
    refine zC rfl (rfl) ?_
    repeat first|refine zP rfl ?_|refine zK rfl ?_
    exact o_nil ⟨⟨rfl, rfl, rfl, trivial⟩, rfl⟩
  subst hw
  refine cond hS rfl (fun hT => ?_) (fun hF => wp_skip ?_)
  · refine wp_seq (seq_cut [(4, Vi 1)] (· = w7) tab_ok hS ?_ (fun a w8 hS hw => ?_))
    · repeat first|refine zP rfl ?_|refine zK rfl ?_
      exact o_nil ⟨⟨rfl, trivial⟩, rfl⟩
    subst hw
    refine wp_ret ?_
    repeat (first | refine then_ret ?_ | refine block_ret ?_)
    exact ret1 hS rfl rfl ⟨by rw [cmpI, if_neg h1, if_pos (of_decide_eq_true hT)], rfl⟩
  refine wp_seq (seq_cut [(4, Vi 0)] (· = w7) tab_ok hS ?_ (fun a w8 hS hw => ?_))
  · repeat first|refine zP rfl ?_|refine zK rfl ?_
    exact o_nil ⟨⟨rfl, trivial⟩, rfl⟩
  subst hw
  refine wp_ret ?_
  repeat (first | refine then_ret ?_ | refine block_ret ?_)
  exact ret1 hS rfl rfl ⟨by rw [cmpI, if_neg h1, if_neg (of_decide_eq_false hF)], rfl⟩
theorem or_eq (v : Value) (l : List Int) (w : World) (hl : Sl w v l PInt) : Calls Try.prog 88 #[v] w fun e w' => e = .returned (Vi (orL l)) ∧ w' = w := by
  refine Sym.enter (args := [v]) Try.func88 rfl rfl rfl (fun a0 hS0 => ?_)
  obtain ⟨al, bl, ol, cl, rfl, h1, h2, h3, h4⟩ := hl
  refine wp_seq (seq_cut [(0, .slice al l.length cl)] (· = w) tab_ok hS0 ?_ (fun a w1 hS hw => ?_))
  · repeat first|refine zP rfl ?_|refine zK rfl ?_
    exact o_nil ⟨⟨rfl, trivial⟩, rfl⟩
  subst hw
  refine wp_seq (seq_cut [(0, .slice al l.length cl), (3, Vi 0)] (· = w1) tab_ok hS ?_ (fun a w2 hS hw => ?_))
  · repeat first|refine zP rfl ?_|refine zK rfl ?_
    exact o_nil ⟨⟨rfl, rfl, trivial⟩, rfl⟩
  subst hw
  refine wp_seq (wp_seq (seq_cut [(3, Vi 0), (6, .slice al l.length cl), (7, Vi l.length), (8, Vi (0 : Nat))] (· = w2) tab_ok hS ?_ (fun a w3 hS hw => ?_)))
  · repeat first|refine zP rfl ?_|refine zK rfl ?_
    exact o_nil ⟨⟨rfl, rfl, rfl, rfl, trivial⟩, rfl⟩
  subst hw
  refine wp_block (loop0 hS (fun γ E w' => ∃ i : Nat, i ≤ l.length ∧ γ = l.length - i ∧ E = [(3, Vi 0), (6, .slice al l.length cl), (7, Vi l.length), (8, Vi i)] ∧ w' = w3 ∧ ∀ j (h : j < l.length), j < i → l[j] = 0) l.length ⟨0, by omega, by omega, rfl, rfl, fun j _ hj => by omega⟩ ?_)
  clear hS
  rintro γ E w4 a ⟨i, hi, rfl, rfl, rfl, hz⟩ hS
  refine wp_seq (seq_cut [(3, Vi 0), (6, .slice al l.length cl), (7, Vi l.length), (8, Vi i), (9, .bool (decide (i < l.length)))] (· = w4) tab_ok hS ?_ (fun a w5 hS hw => ?_))
  · repeat first|refine zP rfl ?_|refine zK rfl ?_
    refine zC rfl (lt_nat _ _) ?_
    repeat first|refine zP rfl ?_|refine zK rfl ?_
    exact o_nil ⟨⟨rfl, rfl, rfl, rfl, rfl, trivial⟩, rfl⟩
  subst hw
  refine wp_seq (cond hS rfl (fun hT => wp_skip ?_) (fun hF => ?_))
  rotate_left
  · have hii : i = l.length := by have := of_decide_eq_false hF; omega
    refine wp_exit ?_
    repeat (first | refine then_exit ?_ | refine block_exit ?_ | refine block_other rfl ?_)
    refine wp_seq (seq_cut [(2, Vi 0)] (· = w5) tab_ok hS ?_ (fun a w6 hS hw => ?_))
    · repeat first|refine zP rfl ?_|refine zK rfl ?_
      exact o_nil ⟨⟨rfl, trivial⟩, rfl⟩
    subst hw
    refine wp_ret ?_
    repeat (first | refine then_ret ?_ | refine block_ret ?_)
    exact ret1 hS rfl rfl ⟨by rw [orL_drop i l hz, List.drop_eq_nil_of_le (by omega)]; rfl, rfl⟩
  have hii : i < l.length := of_decide_eq_true hT
  obtain rfl := h1 (by omega)
  obtain ⟨y, hy, rfl, -⟩ := h4 i hii
  have hor : orL l = if l[i] ≠ 0 then l[i] else orL (l.drop (i + 1)) := by
    rw [orL_drop i l hz, List.drop_eq_getElem_cons hii]; rfl
  refine wp_seq (wp_block (wp_seq (seq_cut [(3, Vi 0), (6, .slice (some ⟨bl, ol, none⟩) l.length cl), (7, Vi l.length), (8, Vi i), (5, Vi l[i])] (· = w5) tab_ok hS ?_ (fun a w6 hS hw => ?_))))
  · repeat first|refine zP rfl ?_|refine zK rfl ?_
    refine zI rfl (rfl) (hii) ?_
    refine zL rfl (hy) ?_
    repeat first|refine zP rfl ?_|refine zK rfl ?_
    exact o_nil ⟨⟨rfl, rfl, rfl, rfl, rfl, trivial⟩, rfl⟩
  subst hw
  refine wp_seq (seq_cut [(3, Vi 0), (6, .slice (some ⟨bl, ol, none⟩) l.length cl), (7, Vi l.length), (8, Vi i), (5, Vi l[i]), (14, .bool (decide (l[i] ≠ 0)))] (· = w6) tab_ok hS ?_ (fun a w7 hS hw => ?_))
  · repeat first|refine zP rfl ?_|refine zK rfl ?_
    refine zC rfl (rfl) ?_
    repeat first|refine zP rfl ?_|refine zK rfl ?_
    exact o_nil ⟨⟨rfl, rfl, rfl, rfl, rfl, rfl, trivial⟩, rfl⟩
  subst hw
  refine cond hS rfl (fun hT2 => ?_) (fun hF2 => wp_skip ?_)
  · refine wp_seq (seq_cut [(2, Vi l[i])] (· = w7) tab_ok hS ?_ (fun a w8 hS hw => ?_))
    · repeat first|refine zP rfl ?_|refine zK rfl ?_
      exact o_nil ⟨⟨rfl, trivial⟩, rfl⟩
    subst hw
    refine wp_ret ?_
    repeat (first | refine then_ret ?_ | refine block_ret ?_)
    exact ret1 hS rfl rfl ⟨by rw [hor, if_pos (of_decide_eq_true hT2)], rfl⟩
  have h0 := Decidable.not_not.1 (of_decide_eq_false hF2)
  refine block_normal ?_
  refine seq_cut [(3, Vi 0), (6, .slice (some ⟨bl, ol, none⟩) l.length cl), (7, Vi l.length), (8, Vi (i + 1 : Nat))] (· = w7) tab_ok hS ?_ (fun a w8 hS hw => ?_)
  · repeat first|refine zP rfl ?_|refine zK rfl ?_
    refine zN rfl (i64_add i 1 (by omega)) ?_
    repeat first|refine zP rfl ?_|refine zK rfl ?_
    exact o_nil ⟨⟨rfl, rfl, rfl, rfl, trivial⟩, rfl⟩
  subst hw
  refine ⟨l.length - (i + 1), _, by omega, ⟨i + 1, by omega, rfl, rfl, rfl, fun j hj hji => ?_⟩, hS⟩
  rcases Nat.lt_or_ge j i with h | h
  · exact hz j hj h
  · obtain rfl : j = i := by omega
    exact h0
set_option maxHeartbeats 2000000 in
theorem aorder_grow (p q c d : Int) (w : World) : Calls Try.prog 57 #[.agg #[Vi p, Vi q], .agg #[Vi c, Vi d]] w fun e w' => e = .returned (Vi (ordP p q c d)) ∧ ∃ k os', w' = grow (w.drewN k) os' := by
  refine Sym.enter (args := [.agg #[Vi p, Vi q], .agg #[Vi c, Vi d]]) Try.func57 rfl rfl rfl (fun a0 hS0 => ?_)
  obtain ⟨B, hBB⟩ : ∃ B, B = w.heap.size := ⟨_, rfl⟩
  refine wp_seq (seq_cut [(2, Vp B), (3, Vp (B + 1))] (· = (w.alloc (.cells #[Vi p, Vi q] 50)).alloc (.cells #[Vi c, Vi d] 50)) tab_ok hS0 ?_ (fun a w1 hS hw => ?_))
  · subst hBB
    refine zB rfl ?_
    refine zB rfl ?_
    rw [alloc_size]
    repeat first|refine zP rfl ?_|refine zK rfl ?_
    exact o_nil ⟨⟨rfl, rfl, trivial⟩, rfl⟩
  obtain ⟨-, hx, hz⟩ := pair_boxes hw
  rw [← hBB] at hx hz
  refine wp_seq (any_cut 13 [(4, Vi (ordP p q c d))] (fun w' => ∃ k os', w' = grow (w1.drewN k) os') mixed hS ?_ (fun a w2 hS hw2 => ?_))
  · have hy : RowKit.Below w1.drew.heap.size w1.drew w1.drew := RowKit.Below.refl _ _
    refine yT 0 tab_ok rfl (by kernel_rfl) hy rfl (rfl) ?_
    refine yL 1 tab_ok rfl (by kernel_rfl) hy rfl rfl (hx.c0) ?_
    refine yT 2 tab_ok rfl (by kernel_rfl) hy rfl (rfl) ?_
    refine yL 3 tab_ok rfl (by kernel_rfl) hy rfl rfl (hz.c0) ?_
    refine yT 5 tab_ok rfl (by kernel_rfl) hy rfl (rfl) ?_
    refine yL 6 tab_ok rfl (by kernel_rfl) hy rfl rfl (hx.c1) ?_
    refine yT 7 tab_ok rfl (by kernel_rfl) hy rfl (rfl) ?_
    refine yL 8 tab_ok rfl (by kernel_rfl) hy rfl rfl (hz.c1) ?_
    refine y_one 4 (by kernel_rfl) (y_op 4 tab_ok rfl rfl rfl rfl ?_)
    refine And.intro en_Compare ((compare_eq p c _).mono ?_)
    rintro e w2 ⟨rfl, rfl⟩
    refine ⟨_, rfl, ?_⟩
    refine And.intro (.inr hy) ?_
    refine y_one 9 (by kernel_rfl) (y_op 9 tab_ok rfl rfl rfl rfl ?_)
    refine And.intro en_Compare ((compare_eq q d _).mono ?_)
    rintro e w3 ⟨rfl, rfl⟩
    refine ⟨_, rfl, ?_⟩
    refine And.intro (.inr hy) ?_
    refine y_one 10 (by kernel_rfl) (y_op 10 tab_ok rfl rfl rfl rfl ?_)
    refine Exists.intro [(0, Vi (cmpI p c)), (1, Vi (cmpI q d))] (Exists.intro _ (And.intro (And.intro rfl rfl) (And.intro (by decide) (And.intro (fillI2 ..) ?_))))
    have hy3 := hy.alloc hy.size (.cells #[Vi (cmpI p c), Vi (cmpI q d)] 3)
    refine And.intro (.inr hy3) ?_
    have hs : Sl _ (Vs w1.drew.heap.size 2 2) [cmpI p c, cmpI q d] PInt := sl_lit w1.drew [cmpI p c, cmpI q d] 2 rfl (by
      intro x hx
      simp only [List.mem_cons, List.not_mem_nil, or_false] at hx
      rcases hx with rfl | rfl <;> exact cmpI_in _ _) (by simp)
    refine y_one 11 (by kernel_rfl) (y_op 11 tab_ok rfl rfl rfl rfl ?_)
    refine And.intro en_Or ((or_eq _ _ _ hs).mono ?_)
    rintro e w4 ⟨rfl, rfl⟩
    refine ⟨_, rfl, ?_⟩
    refine And.intro (.inr hy3) ?_
    refine yT 12 tab_ok rfl (by kernel_rfl) hy3 rfl (rfl) ?_
    exact y_end (by kernel_rfl) ⟨rfl, trivial⟩ ⟨1, _, by rw [alloc_eq_grow]; rfl⟩
  obtain ⟨k, os', hw2⟩ := hw2
  refine wp_ret ?_
  repeat (first | refine then_ret ?_ | refine block_ret ?_)
  exact ret1 hS rfl rfl ⟨rfl, k, _, by rw [hw2, hw, alloc_eq_grow, alloc_eq_grow, grow_grow]; exact grow_grow (w.drewN k) _ os'⟩
theorem en_SortFunc : enters Try.prog 56 = true := by kernel_rfl
def encP (x : Int × Int) : List Value := [Vi x.1, Vi x.2]
theorem flat_pairs (l : List (Int × Int)) : (flatK encP 2 l.toArray).toList = pairCells l := by
  refine List.ext_getElem (by simp [flatK, pairCells_len]) fun t h1 h2 => ?_
  have ht : t < l.length * 2 := by rw [pairCells_len] at h2; exact h2
  have hi : t / 2 < l.length := by omega
  obtain ⟨g1, g2⟩ := pairCells_get l (t / 2) hi
  have e : (flatK encP 2 l.toArray).toList[t] = (encP l[t / 2])[t % 2]! := by
    simp [flatK, hi]
  rw [e]
  rcases (show t % 2 = 0 ∨ t % 2 = 1 by omega) with h | h
  · rw [h]
    rw [show t / 2 * 2 = t by omega] at g1
    exact (List.getElem?_eq_some_iff.1 g1).2.symm
  · rw [h]
    rw [show t / 2 * 2 + 1 = t by omega] at g2
    exact (List.getElem?_eq_some_iff.1 g2).2.symm
theorem ordP_lt (x y : Int × Int) : ltOf (fun x y : Int × Int => ordP x.1 x.2 y.1 y.2) x y = true ↔ befP x y := by
  have := ordP_ge x.1 x.2 y.1 y.2
  unfold ltOf befP
  rw [decide_eq_true_eq]
  dsimp only
  omega
theorem swoP : SWO (ltOf fun x y : Int × Int => ordP x.1 x.2 y.1 y.2) where
  irrefl x := Bool.eq_false_iff.2 fun h => ((ordP_lt x x).1 h).irrefl
  trans x y z h1 h2 := (ordP_lt x z).2 (((ordP_lt x y).1 h1).trans ((ordP_lt y z).1 h2))
  ntrans x y z h1 h2 := Bool.eq_false_iff.2 fun h => by
    have h1 : ¬ befP x y := fun k => Bool.eq_false_iff.1 h1 ((ordP_lt x y).2 k)
    have h2 : ¬ befP y z := fun k => Bool.eq_false_iff.1 h2 ((ordP_lt y z).2 k)
    have h3 := (ordP_lt x z).1 h
    unfold befP at h1 h2 h3
    omega
theorem cmp_lays (blk off size : Nat) (w : World) : CmpLays Try.prog 57 #[] encP 2 (fun x y => ordP x.1 x.2 y.1 y.2) blk off size w :=
  fun _ _ _ _ x y => aorder_grow x.1 x.2 y.1 y.2 _
theorem pair_run : ∃ e, e = (⟨50, .struct [(0, 3), (1, 3)], 2, 16, .agg #[Vi 0, Vi 0]⟩ : TI) ∧ Tab.get tab 50 = some e := ⟨_, rfl, rfl⟩
theorem agg_pair (w : World) : (isAgg 50).run Try.prog w = .ok true w := by
  obtain ⟨e, he, hg⟩ := pair_run
  obtain ⟨h1, hok⟩ := Tab.get_ok tab_ok hg
  have := isAgg_run hok w
  rw [he] at this
  exact this
theorem size_pair (w : World) : (Go.sizeOf 50).run Try.prog w = .ok 2 w := by
  obtain ⟨e, he, hg⟩ := pair_run
  obtain ⟨h1, hok⟩ := Tab.get_ok tab_ok hg
  have := sizeOf_run hok w
  rw [he] at this
  exact this
theorem own_sorted {base e g n c m : Nat} {w : World} {xs : List Value} (hown : w.ownsRow base e 2 (Vs g n c) n xs) {F : Array Value} (hF : F.size = n * 2) (os : Array Obj) :
    w.grownBy (grow (putRow id (Go.Sort.ahead w m) g 0 F) os) (some g) ∧ (grow (putRow id (Go.Sort.ahead w m) g 0 F) os).ownsRow base e 2 (Vs g n c) n F.toList := by
  have hsz : (putRow id (Go.Sort.ahead w m) g 0 F).heap.size = w.heap.size := by simp [putRow, mapBlock, Go.Sort.ahead]
  rcases hown.2 with ⟨h', _⟩ | ⟨g', cap', cur, h', hb, hg, hnc, hcm, hcs, htake⟩
  · cases h'
  · simp only [Value.slice.injEq, Option.some.injEq, Addr.mk.injEq, and_true, true_and] at h'
    obtain ⟨rfl, rfl⟩ := h'
    have hlt : g < w.heap.size := (Array.getElem?_eq_some_iff.1 hg).1
    refine ⟨⟨rfl, rfl, rfl, by simp [grow, putRow, mapBlock, Go.Sort.ahead], fun k hk hne => ?_⟩, by rw [Array.length_toList, hF], .inr ⟨g, c, putCells id 0 F cur, rfl, hb, ?_, hnc, hcm, by simp [putCells, hcs], ?_⟩⟩
    · have hne' : ¬ g = k := fun e => hne (by rw [e])
      show ((w.heap.modify g (onCells (putCells id 0 F))) ++ os)[k]? = _
      rw [Array.getElem?_append_left (by simpa using hk), Array.getElem?_modify, if_neg hne']
    · show ((w.heap.modify g (onCells (putCells id 0 F))) ++ os)[g]? = _
      rw [Array.getElem?_append_left (by simpa using hlt), Array.getElem?_modify, if_pos rfl, hg]
      rfl
    · have hle : n * 2 ≤ cur.size := by rw [hcs]; exact Nat.mul_le_mul_right 2 hnc
      refine List.ext_getElem (by simp [putCells, hF]; omega) fun j h1 h2 => ?_
      have hj : j < F.size := by simpa using h2
      simp [putCells, hj]
theorem sort_pairs {base i : Nat} {w0 w : World} {l : List Ow} {v : Value} {xs : List (Int × Int)} (h : Hold base w0 w l) (hi : l[i]? = some (oP v xs)) (hlen : xs.length ≤ 1000000000) :
    Calls Try.prog 56 #[v, .func (.func 57) #[] #[]] w fun e w' => e = .returned (.tuple #[]) ∧ ∃ ys, ys.Perm xs ∧ ys.Pairwise (fun x y => ¬ befP y x) ∧ Hold base w0 w' (l.set i (oP v ys)) := by
  have hown := h.r.1 i _ hi
  rcases Nat.eq_zero_or_pos xs.length with h0 | h0
  · obtain rfl := List.length_eq_zero_iff.1 h0
    obtain ⟨g, c, rfl, -⟩ := h.r.any hi
    refine (AnyF.slices_SortFunc_none sortPairs g c _ w).mono ?_
    rintro e w' ⟨rfl, rfl⟩
    refine ⟨rfl, [], .refl _, .nil, ?_⟩
    obtain ⟨hil, hie⟩ := List.getElem?_eq_some_iff.1 hi
    refine h.cast ?_
    rw [← hie]
    exact (List.set_getElem_self hil).symm
  · obtain ⟨g, c, rfl, hc, -⟩ := h.r.nilOr hi h0
    have eg : ∀ args w, (callFunc 57 args).run Try.prog w = .ok (.enter 57 args) w := enters_of Try.func57 (by kernel_rfl) rfl
    have hsz : xs.toArray.size = xs.length := by simp
    have hlt := (hown.lt g rfl).2
    have hH : HoldsK encP 2 w g 0 xs.toArray := fun j hj => by
      have hj' : j < xs.length * 2 := by simpa [hsz] using hj
      rw [Nat.zero_add]
      refine ⟨?_, hown.frozenAt j⟩
      rw [World.ownsRow.cellAt hown j (by simpa using hj')]
      show (pairCells xs)[j]? = _
      rw [← flat_pairs]
      have hj2 : j < (flatK encP 2 xs.toArray).size := hj
      rw [getElem!_pos (flatK encP 2 xs.toArray) j hj2, Array.getElem?_toList, Array.getElem?_eq_getElem hj2]
      rfl
    have hcon := AnyQ.slices_SortFunc sortPairs 2 agg_pair size_pair encP (fun _ => rfl) (fun x v hv => by simp [encP] at hv; rcases hv with rfl | rfl <;> rfl) (fun x y => ordP x.1 x.2 y.1 y.2) swoP 57 #[] g 0 c xs.toArray w eg (cmp_lays g 0 xs.toArray.size w) hH hlt (by omega)
    rw [hsz] at hcon
    refine (show Calls Try.prog 56 #[Vs g xs.length c, .func (.func 57) #[] #[]] w _ from hcon).mono ?_
    rintro e w' ⟨rfl, d', n, os, hp, hs, rfl⟩
    obtain ⟨p1, -, p3⟩ := hp
    have hds : d'.size = xs.length := by rw [p1, hsz]
    have hperm : d'.toList.Perm xs := by
      have e1 : d'.extract 0 xs.length = d' := by rw [← hds]; simp
      have e2 : xs.toArray.extract 0 xs.length = xs.toArray := by rw [← hsz]; simp
      rw [e1, e2] at p3
      simpa using p3
    obtain ⟨g1, g2⟩ := own_sorted (m := n) (F := flatK encP 2 d') hown (by simp [flatK, hds]) os
    have hfl : (flatK encP 2 d').toList = pairCells d'.toList := by rw [← flat_pairs]
    rw [hfl] at g2
    refine ⟨rfl, d'.toList, hperm, ?_, ?_⟩
    · refine List.pairwise_iff_getElem.2 fun a b ha hb hab hbef => ?_
      have ha' : a < d'.size := by simpa using ha
      have hb' : b < d'.size := by simpa using hb
      have := hs a b (Nat.zero_le _) hab (by omega)
      rw [getElem!_pos d' a ha', getElem!_pos d' b hb'] at this
      exact Bool.eq_false_iff.1 this ((ordP_lt _ _).2 (by simpa using hbef))
    · have hl2 : d'.toList.length = xs.length := by simp [hds]
      have e : (⟨Vs g xs.length c, 50, 2, xs.length, pairCells d'.toList⟩ : Ow) = oP (Vs g xs.length c) d'.toList := by rw [oP, hl2]
      rw [← e]
      exact ⟨h.r.turn hi g1 g2 (.inl rfl), h.r.low hi h.b h.s g1, Nat.le_trans h.s g1.size⟩
end Go.Proofs.Ythcoppfiahnpoaa
namespace Go.Proofs.Ythcoppfiahnpoaa
open Go Sym
set_option maxHeartbeats 1000000 in
theorem relate1_any {b1 b2 : Nat} (L1 s1 L2 s2 p q l : Int) (vn1 ve1 vn2 ve2 : Value) (n1 n2 : List (List Int)) (w : World) (hx : Box w b1 L1 s1 vn1 ve1) (hz : Box w b2 L2 s2 vn2 ve2) (hn1 : Sl w vn1 n1 PRow) (hn2 : Sl w vn2 n2 PRow) (h1 : p < n1.length) (h2 : q < n2.length) (h3 : 0 ≤ p → 0 ≤ l ∧ l < (n1.getD p.toNat []).length) (h4 : 0 ≤ q → 0 ≤ l ∧ l < (n2.getD q.toNat []).length) :
    Calls Try.prog 52 #[.agg #[Vi p, Vi q], Vi l, Vp b1, Vp b2] w fun e w' => e = .returned (.agg #[Vi (stepM n1 p l), Vi (stepM n2 q l)]) ∧ RowKit.Below w.heap.size w w' := by
  refine Sym.enter (args := [.agg #[Vi p, Vi q], Vi l, Vp b1, Vp b2]) Try.func52 rfl rfl rfl (fun a0 hS0 => ?_)
  obtain ⟨B, hBB⟩ : ∃ B, B = w.heap.size := ⟨_, rfl⟩
  refine wp_seq (seq_cut [(1, Vi l), (2, Vp b1), (3, Vp b2), (4, Vp B), (6, Vp (B + 1))] (· = (w.alloc (.cells #[Vi p, Vi q] 50)).alloc (.cells #[Vi 0, Vi 0] 50)) tab_ok hS0 ?_ (fun a wc hS hw => ?_))
  · subst hBB
    refine zB rfl ?_
    repeat first|refine zP rfl ?_|refine zK rfl ?_
    refine zB rfl ?_
    rw [alloc_size]
    repeat first|refine zP rfl ?_|refine zK rfl ?_
    exact o_nil ⟨⟨rfl, rfl, rfl, rfl, rfl, trivial⟩, rfl⟩
  obtain ⟨hB, hp, -⟩ := pair_boxes hw
  have ho : OwnB wc (w.heap.size + 1) 50 [Vi 0, Vi 0] := by
    have := OwnB.new (w.alloc (.cells #[Vi p, Vi q] 50)) [Vi 0, Vi 0] 50
    rw [alloc_size] at this
    rw [hw]; exact this
  rw [← hBB] at hp ho
  clear hw
  replace hx := hx.keep hB
  replace hz := hz.keep hB
  replace hn1 := hn1.keep hB (fun _ _ h => PRow.keep hB h)
  replace hn2 := hn2.keep hB (fun _ _ h => PRow.keep hB h)
  refine wp_seq (seq_cut [(6, Vp (B + 1))] (fun w' => OwnB w' (B + 1) 50 [Vi (stepM n1 p l), Vi (stepM n2 q l)] ∧ RowKit.Below w.heap.size w w') tab_ok hS ?_ (fun a w2 hS hw => ?_))
  · refine zA ([Vi L1, Vi s1, vn1, ve1]) rfl rfl (hx.cells) ?_
    refine zA ([Vi L2, Vi s2, vn2, ve2]) rfl rfl (hz.cells) ?_
    refine zA ([Vi p, Vi q]) rfl rfl (hp.cells) ?_
    repeat first|refine zP rfl ?_|refine zK rfl ?_
    refine zF rfl (en_afollowBoth) (afollowBoth_any L1 s1 L2 s2 p q l vn1 ve1 vn2 ve2 n1 n2 wc hn1 hn2 h1 h2 h3 h4) ?_
    rintro e w3 ⟨rfl, k1⟩
    refine ⟨_, rfl, ?_⟩
    have ho2 := ho.keep k1 ho.lt
    obtain ⟨h5, h6⟩ := put_pair ho2 (below_trans hB k1) (by omega) (Vi (stepM n1 p l)) (Vi (stepM n2 q l))
    refine o_step0 rfl rfl (And.intro rfl (And.intro rfl (And.intro (own_cells2 ho2) ?_)))
    exact o_nil ⟨⟨rfl, trivial⟩, h5, h6⟩
  obtain ⟨h5, h6⟩ := hw
  refine wp_ret ?_
  repeat (first | refine then_ret ?_ | refine block_ret ?_)
  exact retc1 tab_ok hS rfl rfl rfl rfl (o := 0) (vs := [Vi (stepM n1 p l), Vi (stepM n2 q l)]) ⟨h5.cell (i := 0) rfl, h5.cell (i := 1) rfl, trivial⟩ rfl ⟨rfl, h6⟩
theorem shape_row {L s : Int} {nn : List (List Int)} {ff : List Bool} {x : Int} {c : Nat} (hs : Shape L s nn ff) (hx2 : x < nn.length) (hc : (c : Int) < L) : 0 ≤ x → (0 : Int) ≤ (c : Int) ∧ ((c : Int) < (nn.getD x.toNat []).length) := fun h0 => by
  obtain ⟨y, rfl⟩ : ∃ y : Nat, x = y := ⟨x.toNat, by omega⟩
  have hy : y < nn.length := by omega
  obtain ⟨g1, g2⟩ := hs.rows y hy
  have e1 : nn.getD y [] = nn[y] := by simp [List.getD_eq_getElem?_getD, hy]
  rw [Int.toNat_natCast, e1]
  omega
theorem slp_nil (w : World) : SlP w (.slice none 0 0) [] := ⟨none, 0, 0, 0, rfl, by simp, by simp, by omega, fun i hi => by simp at hi⟩
set_option maxHeartbeats 4000000 in
theorem aRelate_c : RelateC 24 := fun L1 s1 L2 s2 vn1 ve1 vn2 ve2 n1 n2 f1 f2 w hm hm2 hl1 hl2 => by
  refine Sym.enter (args := [.agg #[Vi L1, Vi s1, vn1, ve1], .agg #[Vi L2, Vi s2, vn2, ve2]]) Try.func24 rfl rfl rfl (fun a0 hS0 => ?_)
  obtain ⟨B, hBB⟩ : ∃ B, B = w.heap.size := ⟨_, rfl⟩
  refine wp_seq (seq_cut [(2, Vp B), (3, Vp (B + 1))] (· = (w.alloc (.cells #[Vi L1, Vi s1, vn1, ve1] 25)).alloc (.cells #[Vi L2, Vi s2, vn2, ve2] 25)) tab_ok hS0 ?_ (fun a wc hS hw => ?_))
  · subst hBB
    refine zB rfl ?_
    refine zB rfl ?_
    rw [alloc_size]
    repeat first|refine zP rfl ?_|refine zK rfl ?_
    exact o_nil ⟨⟨rfl, rfl, trivial⟩, rfl⟩
  obtain ⟨hB, hx, hz⟩ := box_two hw
  rw [← hBB] at hx hz
  clear hw
  replace hm := hm.keep hB
  replace hm2 := hm2.keep hB
  obtain ⟨z, hz'⟩ : ∃ z, z = twoM L1 s1 n1 f1 L2 s2 n2 f2 := ⟨_, rfl⟩
  refine wp_seq (wp_seq (seq_cut [(2, Vp B), (3, Vp (B + 1)), (6, Vi z)] (fun w' => RowKit.Below wc.heap.size wc w') tab_ok hS ?_ (fun a w2 hS hw => ?_)))
  · refine zA ([Vi L1, Vi s1, vn1, ve1]) rfl rfl (hx.cells) ?_
    refine zA ([Vi L2, Vi s2, vn2, ve2]) rfl rfl (hz.cells) ?_
    refine zF rfl (en_afit) (afit_any L1 s1 L2 s2 vn1 ve1 vn2 ve2 n1 n2 f1 f2 wc hm hm2) ?_
    rintro e w1 ⟨rfl, h1⟩
    refine ⟨_, rfl, ?_⟩
    subst hz'
    repeat first|refine zP rfl ?_|refine zK rfl ?_
    exact o_nil ⟨⟨rfl, rfl, rfl, trivial⟩, h1⟩
  replace hB := below_trans hB hw
  replace hx := hx.keep hw
  replace hz := hz.keep hw
  replace hm := hm.keep hw
  replace hm2 := hm2.keep hw
  clear hw
  refine wp_seq (seq_cut [(2, Vp B), (3, Vp (B + 1)), (6, Vi z), (15, .bool (decide (z ≠ 0)))] (· = w2) tab_ok hS ?_ (fun a w3 hS hw => ?_))
  · repeat first|refine zP rfl ?_|refine zK rfl ?_
    refine zC rfl (rfl) ?_
    repeat first|refine zP rfl ?_|refine zK rfl ?_
    exact o_nil ⟨⟨rfl, rfl, rfl, rfl, trivial⟩, rfl⟩
  subst hw
  refine cond hS rfl (fun hT => ?_) (fun hF => wp_skip ?_)
  · refine wp_seq (seq_cut [(4, .slice none 0 0), (5, Vi z)] (· = w3) tab_ok hS ?_ (fun a w4 hS hw => ?_))
    · repeat first|refine zP rfl ?_|refine zK rfl ?_
      exact o_nil ⟨⟨rfl, rfl, trivial⟩, rfl⟩
    subst hw
    refine wp_ret ?_
    repeat (first | refine then_ret ?_ | refine block_ret ?_)
    exact ret2 hS rfl rfl rfl ⟨_, [], z, rfl, slp_nil _, hB, .inl ⟨by rw [← hz']; exact of_decide_eq_true hT, hz', rfl⟩⟩
  have hz0 : z = 0 := Decidable.not_not.1 (of_decide_eq_false hF)
  have htw : twoM L1 s1 n1 f1 L2 s2 n2 f2 = 0 := hz'.symm.trans hz0
  obtain ⟨hv1, hv2, rfl⟩ := two_zero htw
  obtain ⟨hs1, hL1, hn1⟩ := shape_of_valid hv1
  obtain ⟨hs2, hL2, hn2⟩ := shape_of_valid hv2
  refine wp_seq (wp_seq (seq_cutx (α := Bool) (fun b => [(2, Vp B), (3, Vp (B + 1)), (20, .bool (!b))]) (fun b w' => (b = true ↔ Alike L1.toNat n1 f1 s1 n2 f2 s2) ∧ RowKit.Below w3.heap.size w3 w') tab_ok hS ?_ (fun b a w4 hS hw => ?_)))
  · refine zA ([Vi L1, Vi s1, vn1, ve1]) rfl rfl (hx.cells) ?_
    refine zA ([Vi L1, Vi s2, vn2, ve2]) rfl rfl (hz.cells) ?_
    refine zF rfl (en_asame) (asame_any L1 s1 s2 vn1 ve1 vn2 ve2 n1 n2 f1 f2 w3 hm hm2 hs1 hs2 hL1 hn1 hn2) ?_
    rintro e w1 ⟨b, rfl, hb, h1⟩
    refine ⟨_, rfl, ?_⟩
    repeat first|refine zP rfl ?_|refine zK rfl ?_
    exact o_nil ⟨b, ⟨rfl, rfl, rfl, trivial⟩, hb, h1⟩
  obtain ⟨hb, hw⟩ := hw
  replace hB := below_trans hB hw
  replace hx := hx.keep hw
  replace hz := hz.keep hw
  replace hm := hm.keep hw
  replace hm2 := hm2.keep hw
  clear hw
  refine cond hS rfl (fun hT => ?_) (fun hF2 => wp_skip ?_)
  · refine wp_seq (seq_cut [(4, .slice none 0 0), (5, Vi 8)] (· = w4) tab_ok hS ?_ (fun a w5 hS hw => ?_))
    · repeat first|refine zP rfl ?_|refine zK rfl ?_
      exact o_nil ⟨⟨rfl, rfl, trivial⟩, rfl⟩
    subst hw
    have hbf : b = false := by simpa using hT
    refine wp_ret ?_
    repeat (first | refine then_ret ?_ | refine block_ret ?_)
    exact ret2 hS rfl rfl rfl ⟨_, [], 8, rfl, slp_nil _, hB, .inr (.inl ⟨htw, fun h => (by rw [hb.2 h] at hbf; cases hbf), rfl, rfl⟩)⟩
  have hal : Alike L1.toNat n1 f1 s1 n2 f2 s2 := hb.1 (by simpa using hF2)
  obtain ⟨Ln, rfl⟩ : ∃ n : Nat, L1 = n := ⟨L1.toNat, by have := hs1.L0; omega⟩
  rw [Int.toNat_natCast] at hal
  obtain ⟨W, hW⟩ : ∃ W, W = n2.length + 1 := ⟨_, rfl⟩
  obtain ⟨n, hn⟩ : ∃ n, n = (n1.length + 1) * W := ⟨_, rfl⟩
  have hPI : PairsI Ln W n s1 n1 f1 s2 n2 f2 := ⟨hs1, hs2, hW, hn, by omega, by omega⟩
  have hnle : n ≤ 101 * 101 := by rw [hn]; exact Nat.mul_le_mul (by omega) (by omega)
  have hs : inR W n (s1, s2) := hPI.mk' hs1.s1 hs1.s2 hs2.s1 hs2.s2
  refine wp_seq (seq_cutx (α := Nat) (fun fb => [(2, Vp B), (3, Vp (B + 1)), (7, Vp fb)]) (fun fb w' => FindP w4.heap.size w4 w' fb W n (FS.none n) []) tab_ok hS ?_ (fun fb a w5 hS h => ?_))
  · refine zF rfl (en_anowhere) (anowhere_any w4) ?_
    rintro e w5 ⟨rfl, k1⟩
    refine ⟨_, rfl, ?_⟩
    refine zF rfl (en_newFinderP) (newFinderP_any ((Hold.start w4).below k1) W n) ?_
    rintro e w6 ⟨fb, rfl, k2⟩
    refine ⟨_, rfl, ?_⟩
    repeat first|refine zP rfl ?_|refine zK rfl ?_
    exact o_nil ⟨fb, ⟨rfl, rfl, rfl, trivial⟩, k2⟩
  have K := fun w' (h : RowKit.Below w4.heap.size w4 w') => And.intro (hx.keep h) (And.intro (hz.keep h) (And.intro (hm.keep h) (hm2.keep h)))
  refine wp_seq (seq_cut [(2, Vp B), (3, Vp (B + 1)), (7, Vp fb), (8, .func (.func 52) #[] #[Vp B, Vp (B + 1)])] (· = w5) tab_ok hS ?_ (fun a w6 hS hw => ?_))
  · repeat first|refine zP rfl ?_|refine zK rfl ?_
    exact o_nil ⟨⟨rfl, rfl, rfl, rfl, trivial⟩, rfl⟩
  subst hw
  obtain ⟨F, hF3⟩ : ∃ F, foundM (cdP W (s1, s2)) (relN Ln W n n1 n2) Ln = F := ⟨_, rfl⟩
  have hs0 := cdP_lt hs
  have hFo : Found (cdP W (s1, s2)) (relN Ln W n n1 n2) Ln F := by
    rw [← hF3]
    exact foundM_found2 hPI.shape hs0.1 (by rw [PairsI.len]; exact hs0.2)
  have hr : ∀ r : Int, 0 ≤ r → r < n → ∀ c, c < Ln → -1 ≤ tgtM (relN Ln W n n1 n2) r c ∧ tgtM (relN Ln W n n1 n2) r c < n := fun r h1 h2 c hc => by
    have := tgt_range hPI.shape r h1 (by rw [PairsI.len]; exact h2) c (by rw [Int.toNat_natCast]; exact hc)
    rwa [PairsI.len] at this
  refine wp_seq (wp_seq (any_cut 7 [(7, Vp fb), (10, .bool true)] (fun w' => ∃ (mb : Nat) (vf : Value) (xs : List (Int × Int)) (rest : List Ow), Hold w4.heap.size w4 w' (findX 83 fb [Vi (-1), Vi (-1)] mb vf :: oP vf xs :: rest) ∧ F.rows = xs.map (fun x => (plc W x.1 x.2 : Int)) ∧ (∀ x ∈ xs, inR W n x)) mixed hS ?_ (fun a w7 hS h => ?_)))
  · have hwB : RowKit.Below w4.heap.size w4 w6 := by
      obtain ⟨mb, vf, xs, h, -⟩ := h
      exact h.b
    obtain ⟨hx, hz, hm, hm2⟩ := K _ hwB
    have hy : RowKit.Below w6.drew.heap.size w6.drew w6.drew := RowKit.Below.refl _ _
    have hd : RowKit.Below w6.heap.size w6 w6.drew := (RowKit.Below.refl _ _).drew
    refine yT 0 tab_ok rfl (by kernel_rfl) hy rfl (rfl) ?_
    refine yT 1 tab_ok rfl (by kernel_rfl) hy rfl (Exists.intro ([Vi Ln, Vi s1, vn1, ve1]) (And.intro rfl (And.intro (hx.cells) rfl))) ?_
    refine yT 2 tab_ok rfl (by kernel_rfl) hy rfl (Exists.intro ([Vi Ln, Vi s2, vn2, ve2]) (And.intro rfl (And.intro (hz.cells) rfl))) ?_
    refine yT 4 tab_ok rfl (by kernel_rfl) hy rfl (rfl) ?_
    refine yL 5 tab_ok rfl (by kernel_rfl) hy rfl rfl (hx.c0) ?_
    refine yT 6 tab_ok rfl (by kernel_rfl) hy rfl (rfl) ?_
    refine y_one 3 (by kernel_rfl) (y_op 3 tab_ok rfl rfl rfl rfl ?_)
    refine And.intro en_astarts ((astarts_any (Ln : Int) s1 (Ln : Int) s2 vn1 ve1 vn2 ve2 _).mono ?_)
    rintro e w7 ⟨rfl, k1⟩
    refine ⟨_, rfl, ?_⟩
    refine And.intro (.inr k1) ?_
    have h7 := (h.below hd).below k1
    refine y_one 7 (by kernel_rfl) (y_op 7 tab_ok rfl rfl rfl rfl ?_)
    have hsr := searchP_any (x0 := (s1, s2)) (L := Ln) (lim := 20000) (S := 52) (caps := #[Vp B, Vp (B + 1)]) (next := relN Ln W n n1 n2) (F := F) h7 (by omega) PairsI.len hs (by omega) (by omega) (by omega) hr en_relate1
      (fun y c w8 hyr hc hw8 => by
        obtain ⟨hx8, hz8, hm8, hm28⟩ := K _ hw8.b
        obtain ⟨r1, r2⟩ := hPI.rng hyr
        exact (relate1_any (Ln : Int) s1 (Ln : Int) s2 y.1 y.2 (c : Int) vn1 ve1 vn2 ve2 n1 n2 w8 hx8 hz8 hm8.n hm28.n r1 r2 (shape_row hs1 r1 (by omega)) (shape_row hs2 r2 (by omega))).mono (fun e w9 h9 => ⟨step2 n1 n2 y c, hPI.stepR hyr hc, h9.1, hPI.tgt hyr hc, h9.2⟩)) hF3
    refine And.intro en_searchP (hsr.mono ?_)
    rintro e w8 ⟨vn, vs, rfl, -, -, mb, vf, xs, h8, hrs, -, -, hin⟩
    refine ⟨_, rfl, ?_⟩
    refine And.intro (.inl (by kernel_rfl)) ?_
    refine yG 8 tab_ok rfl (by kernel_rfl) (.inl (by kernel_rfl)) rfl rfl ?_
    refine yG 9 tab_ok rfl (by kernel_rfl) (.inl (by kernel_rfl)) rfl rfl ?_
    refine yG 10 tab_ok rfl (by kernel_rfl) (.inl (by kernel_rfl)) rfl rfl ?_
    refine yG 11 tab_ok rfl (by kernel_rfl) (.inl (by kernel_rfl)) rfl rfl ?_
    refine yG 12 tab_ok rfl (by kernel_rfl) (.inl (by kernel_rfl)) rfl rfl ?_
    exact y_end (by kernel_rfl) ⟨rfl, rfl, trivial⟩ ⟨mb, vf, xs, _, h8, hrs, hin⟩
  obtain ⟨mb, vf, xs, rest, h, hrs, hin⟩ := h
  have hcap := hFo.inn.ok.cap
  rw [PairsI.len] at hcap
  have hxl : F.rows.length = xs.length := by rw [hrs, List.length_map]
  refine wp_seq (seq_cut [(7, Vp fb), (36, .bool false)] (· = w7) tab_ok hS ?_ (fun a w8 hS hw => ?_))
  · repeat first|refine zP rfl ?_|refine zK rfl ?_
    exact o_nil ⟨⟨rfl, rfl, trivial⟩, rfl⟩
  subst hw
  refine cond hS rfl (fun hT => by cases hT) (fun _ => wp_skip ?_)
  refine wp_seq (seq_cutx (α := List (Int × Int)) (fun _ => [(7, Vp fb)]) (fun ys w' => ys.Perm xs ∧ ys.Pairwise (fun x y => ¬ befP y x) ∧ Hold w4.heap.size w4 w' (findX 83 fb [Vi (-1), Vi (-1)] mb vf :: oP vf ys :: rest)) tab_ok hS ?_ (fun ys a w9 hS hw => ?_))
  · obtain ⟨gf, nf, cf, rfl⟩ : ∃ g n c, vf = .slice g n c := by
      obtain ⟨g, c, e, -⟩ := h.r.any (i := 1) rfl
      exact ⟨_, _, _, e⟩
    repeat first|refine zP rfl ?_|refine zK rfl ?_
    refine zL rfl (h.r.xcell (i := 0) rfl (j := 3) rfl) ?_
    refine zF rfl (en_SortFunc) (sort_pairs h (i := 1) rfl (by omega)) ?_
    rintro e w9 ⟨rfl, ys, hp, hso, h9⟩
    refine ⟨_, rfl, ?_⟩
    repeat first|refine zP rfl ?_|refine zK rfl ?_
    exact o_nil ⟨ys, ⟨rfl, trivial⟩, hp, hso, h9⟩
  obtain ⟨hp, hso, h⟩ := hw
  refine wp_seq (seq_cut [(4, vf), (5, Vi 0)] (· = w9) tab_ok hS ?_ (fun a w10 hS hw => ?_))
  · repeat first|refine zP rfl ?_|refine zK rfl ?_
    refine zL rfl (h.r.xcell (i := 0) rfl (j := 3) rfl) ?_
    repeat first|refine zP rfl ?_|refine zK rfl ?_
    exact o_nil ⟨⟨rfl, rfl, trivial⟩, rfl⟩
  subst hw
  have hrel := hPI.rel hF3 hFo hrs hin hp hso
  have hsl := ownP_slp (l := ys) (h.r.1 1 _ rfl) rfl (fun x hx => by
    have := hin x (hp.mem_iff.1 hx)
    unfold I64; omega)
  refine wp_ret ?_
  repeat (first | refine then_ret ?_ | refine block_ret ?_)
  exact ret2 hS rfl rfl rfl ⟨vf, ys, 0, rfl, hsl, below_trans hB h.b, .inr (.inr ⟨htw, by rw [Int.toNat_natCast]; exact hal, rfl, by rw [Int.toNat_natCast]; exact hrel⟩)⟩
theorem aDiffer_c : DifferC 23 := fun L1 s1 L2 s2 vn1 ve1 vn2 ve2 n1 n2 f1 f2 w hm hm2 _ _ => aDiffer_any L1 s1 L2 s2 vn1 ve1 vn2 ve2 n1 n2 f1 f2 w hm hm2
theorem awakeC : AwakeC := ⟨aLeast_c, aDiffer_c, aRelate_c, aCheck_c, aCount_c, aAccepts_c⟩
end Go.Proofs.Ythcoppfiahnpoaa
