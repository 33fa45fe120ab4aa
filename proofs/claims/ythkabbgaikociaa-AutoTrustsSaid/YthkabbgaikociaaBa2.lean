/- Layer 3: the walks that its statements lean on, part 2. -/
import Derived.WalkSmall
import Derived.Laws.OwnMore
import Derived.Test.YthkabbgaikociaaBa1
namespace Go.Proofs.Ythkabbgaikociaa
open Go Sym
def Sl (w : World) (v : Value) {α : Type} (l : List α) (P : World → Value → α → Prop) : Prop :=
  ∃ a b o cap, v = .slice a l.length cap ∧ (0 < l.length → a = some ⟨b, o, none⟩) ∧ l.length ≤ cap ∧ cap ≤ 9223372036854775807 ∧ ∀ i (h : i < l.length), ∃ x, w.cell? ⟨b, o + i, none⟩ = some x ∧ P w x l[i]
def I64 (n : Int) : Prop := -9223372036854775808 ≤ n ∧ n ≤ 9223372036854775807
def PInt (_ : World) (v : Value) (n : Int) : Prop := v = .int .i64 n ∧ I64 n
def PBool (_ : World) (v : Value) (n : Bool) : Prop := v = .bool n
def Ok (v : Value) : Prop := (v = .slice none 0 0 ∨ ∃ ad c, v = .slice (some ad) 0 c) ∨ ∃ b o n c, v = .slice (some ⟨b, o, none⟩) n c
def PRow (w : World) (v : Value) (l : List Int) : Prop := Sl w v l PInt ∧ Ok v
theorem keep {w w' : World} (h : RowKit.Below w.heap.size w w') {x : Addr} {u : Value} (hx : w.cell? x = some u) : w'.cell? x = some u := below_cell h x u hx
theorem Sl.keep {w w' : World} (hb : RowKit.Below w.heap.size w w') {v : Value} {α : Type} {l : List α} {P : World → Value → α → Prop} (hP : ∀ x y, P w x y → P w' x y) (h : Sl w v l P) : Sl w' v l P := by
  obtain ⟨a, b, o, cap, rfl, h1, h2, h3, h4⟩ := h
  exact ⟨a, b, o, cap, rfl, h1, h2, h3, fun i hi => let ⟨x, hx, hp⟩ := h4 i hi; ⟨x, Ythkabbgaikociaa.keep hb hx, hP _ _ hp⟩⟩
theorem PRow.keep {w w' : World} (hb : RowKit.Below w.heap.size w w') {v : Value} {l : List Int} (h : PRow w v l) : PRow w' v l := ⟨Sl.keep hb (fun _ _ h => h) h.1, h.2⟩
theorem cell_alloc_new {w : World} {cs : Array Value} {T : TypeId} {i : Nat} {v : Value} (h : cs[i]? = some v) : (w.alloc (.cells cs T)).cell? ⟨w.heap.size, i, none⟩ = some v := by
  unfold World.cell?
  rw [show (w.alloc (.cells cs T)).heap = w.heap.push (.cells cs T) from rfl]
  simp [h]
theorem below_alloc (w : World) (o : Obj) : RowKit.Below w.heap.size w (w.alloc o) := (RowKit.Below.refl _ _).alloc (Nat.le_refl _) _
set_option maxRecDepth 100000 in
theorem step_any (L s : Int) (vn ve : Value) (next : List (List Int)) (st l : Int) (w : World) (hn : Sl w vn next PRow) (h1 : st < next.length) (h2 : 0 ≤ st → 0 ≤ l ∧ l < (next.getD st.toNat []).length) :
    Calls Try.prog 36 #[.agg #[.int .i64 L, .int .i64 s, vn, ve], .int .i64 st, .int .i64 l] w fun e w' => e = .returned (.int .i64 (stepM next st l)) ∧ RowKit.Below w.heap.size w w' := by
  refine Sym.enter (args := [.agg #[.int .i64 L, .int .i64 s, vn, ve], .int .i64 st, .int .i64 l]) Try.func36 rfl rfl rfl (fun a0 hS0 => ?_)
  refine wp_seq (seq_cut [(1, .int .i64 st), (2, .int .i64 l), (3, .pointer (some ⟨w.heap.size, 0, none⟩))] (· = w.alloc (.cells #[.int .i64 L, .int .i64 s, vn, ve] 25)) tab_ok hS0 ?_ (fun a wc hS hw => ?_))
  · refine o_new rfl rfl rfl (fun _ => rfl) ?_
    repeat (first | refine o_pure rfl rfl rfl (fun _ => rfl) ?_ | refine o_skip rfl rfl rfl ?_)
    exact o_nil ⟨⟨rfl, rfl, rfl, trivial⟩, rfl⟩
  have hB : RowKit.Below w.heap.size w wc := by rw [hw]; exact below_alloc _ _
  have c2 : wc.cell? ⟨w.heap.size, 2, none⟩ = some vn := by rw [hw]; exact cell_alloc_new rfl
  clear hw
  refine wp_seq (wp_seq (seq_cut [(1, .int .i64 st), (2, .int .i64 l), (3, .pointer (some ⟨w.heap.size, 0, none⟩)), (8, .bool (decide (st < 0)))] (· = wc) tab_ok hS ?_ (fun a w2 hS hw => ?_)))
  · repeat (first | refine o_pure rfl rfl rfl (fun _ => rfl) ?_ | refine o_skip rfl rfl rfl ?_)
    refine o_cmp rfl rfl rfl (fun _ => rfl) (rfl) ?_
    exact o_nil ⟨⟨rfl, rfl, rfl, rfl, trivial⟩, rfl⟩
  subst hw
  refine cond hS rfl (fun hlt => ?_) (fun hge => ?_)
  · refine wp_seq (seq_cut [(6, .int .i64 (-1))] (· = w2) tab_ok hS ?_ (fun a w3 hS hw => ?_))
    · repeat (first | refine o_pure rfl rfl rfl (fun _ => rfl) ?_ | refine o_skip rfl rfl rfl ?_)
      exact o_nil ⟨⟨rfl, trivial⟩, rfl⟩
    subst hw
    have : st < 0 := of_decide_eq_true hlt
    refine wp_ret ?_
    repeat (first | refine then_ret ?_ | refine block_ret ?_)
    refine ret1 hS rfl rfl ⟨by rw [stepM, if_pos this], hB⟩
  · have hge : ¬ st < 0 := of_decide_eq_false hge
    obtain ⟨k, rfl⟩ := Int.eq_ofNat_of_zero_le (Int.not_lt.1 hge)
    obtain ⟨h3, h4⟩ := h2 (by omega)
    obtain ⟨j, rfl⟩ := Int.eq_ofNat_of_zero_le h3
    have hk : k < next.length := by omega
    obtain ⟨an, b, o, cap, rfl, ha, hc1, hc2, hc⟩ := hn
    obtain rfl := ha (by omega)
    obtain ⟨x, hx, hr⟩ := hc k hk
    have hrow : next.getD (k : Int).toNat [] = next[k] := by simp [List.getD_eq_getElem?_getD, hk]
    rw [hrow] at h4
    obtain ⟨ar, br, orr, cr, rfl, har, hr1, hr2, hr3⟩ := hr.1
    obtain rfl := har (by omega)
    have hj : j < (next[k]).length := by omega
    obtain ⟨y, hy, rfl, hy2⟩ := hr3 j hj
    refine wp_skip ?_
    refine wp_seq (seq_cut [(6, .int .i64 (next[k][j]))] (· = w2) tab_ok hS ?_ (fun a w3 hS hw => ?_))
    · repeat (first | refine o_pure rfl rfl rfl (fun _ => rfl) ?_ | refine o_skip rfl rfl rfl ?_)
      refine o_load rfl rfl rfl (fun _ => rfl) (c2) ?_
      repeat (first | refine o_pure rfl rfl rfl (fun _ => rfl) ?_ | refine o_skip rfl rfl rfl ?_)
      refine o_ix rfl rfl rfl (fun _ => rfl) (rfl) (hk) ?_
      refine o_load rfl rfl rfl (fun _ => rfl) (keep hB hx) ?_
      repeat (first | refine o_pure rfl rfl rfl (fun _ => rfl) ?_ | refine o_skip rfl rfl rfl ?_)
      refine o_ix rfl rfl rfl (fun _ => rfl) (rfl) (hj) ?_
      refine o_load rfl rfl rfl (fun _ => rfl) (keep hB hy) ?_
      repeat (first | refine o_pure rfl rfl rfl (fun _ => rfl) ?_ | refine o_skip rfl rfl rfl ?_)
      exact o_nil ⟨⟨rfl, trivial⟩, rfl⟩
    subst hw
    have hk0 : ¬ (k : Int) < 0 := by omega
    refine wp_ret ?_
    repeat (first | refine then_ret ?_ | refine block_ret ?_)
    refine ret1 hS rfl rfl ⟨by simp [stepM, hk, hj, hk0], hB⟩
theorem below_trans {w w1 w2 : World} (h1 : RowKit.Below w.heap.size w w1) (h2 : RowKit.Below w1.heap.size w1 w2) : RowKit.Below w.heap.size w w2 := h1.trans (h2.mono h1.size)
theorem all_take_succ {α : Type} (l : List α) (p : α → Bool) (k : Nat) (h : k < l.length) : (l.take (k + 1)).all p = ((l.take k).all p && p l[k]) := by
  rw [List.take_succ_eq_append_getElem h, List.all_append]
  simp
theorem all_of_take {α : Type} {l : List α} {p : α → Bool} {k : Nat} (h : k < l.length) (hp : p l[k] = false) : l.all p = false := by
  rw [List.all_eq_false]
  exact ⟨l[k], List.getElem_mem h, by simp [hp]⟩
set_option maxRecDepth 100000 in
theorem shaped_any (L s : Int) (vn ve : Value) (next : List (List Int)) (fin : List Bool) (w : World) (hn : Sl w vn next PRow) (he : Sl w ve fin PBool) (hL : I64 L) :
    Calls Try.prog 35 #[.agg #[.int .i64 L, .int .i64 s, vn, ve]] w fun e w' => e = .returned (.bool (shapedM L s next fin)) ∧ RowKit.Below w.heap.size w w' := by
  refine Sym.enter (args := [.agg #[.int .i64 L, .int .i64 s, vn, ve]]) Try.func35 rfl rfl rfl (fun a0 hS0 => ?_)
  refine wp_seq (seq_cut [(1, .pointer (some ⟨w.heap.size, 0, none⟩))] (· = w.alloc (.cells #[.int .i64 L, .int .i64 s, vn, ve] 25)) tab_ok hS0 ?_ (fun a wc hS hw => ?_))
  · refine o_new rfl rfl rfl (fun _ => rfl) ?_
    repeat (first | refine o_pure rfl rfl rfl (fun _ => rfl) ?_ | refine o_skip rfl rfl rfl ?_)
    exact o_nil ⟨⟨rfl, trivial⟩, rfl⟩
  have hB : RowKit.Below w.heap.size w wc := by rw [hw]; exact below_alloc _ _
  have c0 : wc.cell? ⟨w.heap.size, 0, none⟩ = some (.int .i64 L) := by rw [hw]; exact cell_alloc_new rfl
  have c1 : wc.cell? ⟨w.heap.size, 1, none⟩ = some (.int .i64 s) := by rw [hw]; exact cell_alloc_new rfl
  have c2 : wc.cell? ⟨w.heap.size, 2, none⟩ = some vn := by rw [hw]; exact cell_alloc_new rfl
  have c3 : wc.cell? ⟨w.heap.size, 3, none⟩ = some ve := by rw [hw]; exact cell_alloc_new rfl
  clear hw
  replace hn := hn.keep hB (fun _ _ h => PRow.keep hB h)
  replace he := he.keep hB (fun _ _ h => h)
  obtain ⟨an, bn, on, cn, rfl, hna, hn1, hn2, hn3⟩ := hn
  obtain ⟨ae, be, oe, ce, rfl, hea, he1, he2, he3⟩ := he
  refine wp_seq (seq_cut [(1, .pointer (some ⟨w.heap.size, 0, none⟩)), (3, .int .i64 next.length)] (· = wc) tab_ok hS ?_ (fun a w' hS hw => ?_))
  · repeat (first | refine o_pure rfl rfl rfl (fun _ => rfl) ?_ | refine o_skip rfl rfl rfl ?_)
    refine o_load rfl rfl rfl (fun _ => rfl) (c2) ?_
    repeat (first | refine o_pure rfl rfl rfl (fun _ => rfl) ?_ | refine o_skip rfl rfl rfl ?_)
    exact o_nil ⟨⟨rfl, rfl, trivial⟩, rfl⟩
  subst hw
  obtain ⟨hb, hhb⟩ : ∃ hb, headBad L s next.length fin.length = hb := ⟨_, rfl⟩
  refine wp_seq (wp_seq (seq_cut [(1, .pointer (some ⟨w.heap.size, 0, none⟩)), (3, .int .i64 next.length), (42, .bool hb)] (· = w') tab_ok hS ?_ (fun a w2 hS hw => ?_)))
  · repeat (first | refine o_pure rfl rfl rfl (fun _ => rfl) ?_ | refine o_skip rfl rfl rfl ?_)
    refine o_load rfl rfl rfl (fun _ => rfl) (c0) ?_
    cases h1 : decide (L < 0)
    case true =>
      refine o_cmp rfl rfl rfl (fun _ => rfl) (h1) ?_
      repeat (first | refine o_pure rfl rfl rfl (fun _ => rfl) ?_ | refine o_skip rfl rfl rfl ?_)
      obtain rfl : hb = true := by rw [← hhb]; unfold headBad; simp only [h1]; simp
      exact o_nil ⟨⟨rfl, rfl, rfl, trivial⟩, rfl⟩
    refine o_cmp rfl rfl rfl (fun _ => rfl) (h1) ?_
    repeat (first | refine o_pure rfl rfl rfl (fun _ => rfl) ?_ | refine o_skip rfl rfl rfl ?_)
    refine o_load rfl rfl rfl (fun _ => rfl) (c3) ?_
    repeat (first | refine o_pure rfl rfl rfl (fun _ => rfl) ?_ | refine o_skip rfl rfl rfl ?_)
    cases h2 : decide ((fin.length : Int) ≠ (next.length : Int))
    case true =>
      refine o_cmp rfl rfl rfl (fun _ => rfl) (h2) ?_
      repeat (first | refine o_pure rfl rfl rfl (fun _ => rfl) ?_ | refine o_skip rfl rfl rfl ?_)
      obtain rfl : hb = true := by rw [← hhb]; unfold headBad; simp only [h2]; simp
      exact o_nil ⟨⟨rfl, rfl, rfl, trivial⟩, rfl⟩
    refine o_cmp rfl rfl rfl (fun _ => rfl) (h2) ?_
    repeat (first | refine o_pure rfl rfl rfl (fun _ => rfl) ?_ | refine o_skip rfl rfl rfl ?_)
    cases h3 : decide ((next.length : Int) = 0)
    case true =>
      have h5 : decide (0 < (next.length : Int)) = false := by
        have := of_decide_eq_true h3
        exact decide_eq_false (by omega)
      refine o_cmp rfl rfl rfl (fun _ => rfl) (h3) ?_
      repeat (first | refine o_pure rfl rfl rfl (fun _ => rfl) ?_ | refine o_skip rfl rfl rfl ?_)
      refine o_load rfl rfl rfl (fun _ => rfl) (c1) ?_
      cases h4 : decide (s ≠ -1)
      case true =>
        refine o_cmp rfl rfl rfl (fun _ => rfl) (h4) ?_
        repeat (first | refine o_pure rfl rfl rfl (fun _ => rfl) ?_ | refine o_skip rfl rfl rfl ?_)
        obtain rfl : hb = true := by rw [← hhb]; unfold headBad; simp only [h3, h4]; simp
        exact o_nil ⟨⟨rfl, rfl, rfl, trivial⟩, rfl⟩
      refine o_cmp rfl rfl rfl (fun _ => rfl) (h4) ?_
      repeat (first | refine o_pure rfl rfl rfl (fun _ => rfl) ?_ | refine o_skip rfl rfl rfl ?_)
      refine o_cmp rfl rfl rfl (fun _ => rfl) (h5) ?_
      repeat (first | refine o_pure rfl rfl rfl (fun _ => rfl) ?_ | refine o_skip rfl rfl rfl ?_)
      obtain rfl : hb = false := by rw [← hhb]; unfold headBad; simp only [h1, h2, h4, h5]; simp
      exact o_nil ⟨⟨rfl, rfl, rfl, trivial⟩, rfl⟩
    have h5 : decide (0 < (next.length : Int)) = true := by
      have := of_decide_eq_false h3
      exact decide_eq_true (by omega)
    refine o_cmp rfl rfl rfl (fun _ => rfl) (h3) ?_
    repeat (first | refine o_pure rfl rfl rfl (fun _ => rfl) ?_ | refine o_skip rfl rfl rfl ?_)
    refine o_cmp rfl rfl rfl (fun _ => rfl) (h5) ?_
    repeat (first | refine o_pure rfl rfl rfl (fun _ => rfl) ?_ | refine o_skip rfl rfl rfl ?_)
    refine o_load rfl rfl rfl (fun _ => rfl) (c1) ?_
    cases h6 : decide (s < 0)
    case true =>
      refine o_cmp rfl rfl rfl (fun _ => rfl) (h6) ?_
      repeat (first | refine o_pure rfl rfl rfl (fun _ => rfl) ?_ | refine o_skip rfl rfl rfl ?_)
      obtain rfl : hb = true := by rw [← hhb]; unfold headBad; simp only [h5, h6]; simp
      exact o_nil ⟨⟨rfl, rfl, rfl, trivial⟩, rfl⟩
    refine o_cmp rfl rfl rfl (fun _ => rfl) (h6) ?_
    repeat (first | refine o_pure rfl rfl rfl (fun _ => rfl) ?_ | refine o_skip rfl rfl rfl ?_)
    refine o_load rfl rfl rfl (fun _ => rfl) (c1) ?_
    repeat (first | refine o_pure rfl rfl rfl (fun _ => rfl) ?_ | refine o_skip rfl rfl rfl ?_)
    cases h7 : decide ((next.length : Int) ≤ s)
    case true =>
      refine o_cmp rfl rfl rfl (fun _ => rfl) (h7) ?_
      repeat (first | refine o_pure rfl rfl rfl (fun _ => rfl) ?_ | refine o_skip rfl rfl rfl ?_)
      obtain rfl : hb = true := by rw [← hhb]; unfold headBad; simp only [h5, h7]; simp
      exact o_nil ⟨⟨rfl, rfl, rfl, trivial⟩, rfl⟩
    case false =>
      refine o_cmp rfl rfl rfl (fun _ => rfl) (h7) ?_
      repeat (first | refine o_pure rfl rfl rfl (fun _ => rfl) ?_ | refine o_skip rfl rfl rfl ?_)
      obtain rfl : hb = false := by rw [← hhb]; unfold headBad; simp only [h1, h2, h3, h5, h6, h7]; simp
      exact o_nil ⟨⟨rfl, rfl, rfl, trivial⟩, rfl⟩
  subst hw
  clear c3 c1
  refine cond hS rfl (fun hbt => ?_) (fun hbf => ?_)
  · refine wp_seq (seq_cut [(2, .bool false)] (· = w2) tab_ok hS ?_ (fun a w3 hS hw => ?_))
    · repeat (first | refine o_pure rfl rfl rfl (fun _ => rfl) ?_ | refine o_skip rfl rfl rfl ?_)
      exact o_nil ⟨⟨rfl, trivial⟩, rfl⟩
    subst hw
    refine wp_ret ?_
    repeat (first | refine then_ret ?_ | refine block_ret ?_)
    refine ret1 hS rfl rfl ⟨?_, hB⟩
    rw [shapedM, hhb, hbt]; rfl
  refine wp_skip ?_
  subst hbf
  refine wp_seq (wp_seq (seq_cut [(1, .pointer (some ⟨w.heap.size, 0, none⟩)), (3, .int .i64 next.length), (4, .int .i64 0)] (· = w2) tab_ok hS ?_ (fun a w3 hS hw => ?_)))
  · repeat (first | refine o_pure rfl rfl rfl (fun _ => rfl) ?_ | refine o_skip rfl rfl rfl ?_)
    exact o_nil ⟨⟨rfl, rfl, rfl, trivial⟩, rfl⟩
  subst hw
  refine wp_block (loop0 hS (fun g E wr => ∃ k : Nat, k ≤ next.length ∧ g = next.length - k ∧ E = [(1, .pointer (some ⟨w.heap.size, 0, none⟩)), (3, .int .i64 next.length), (4, .int .i64 k)] ∧ RowKit.Below w3.heap.size w3 wr ∧ (next.take k).all (rowOk next.length L) = true)
    next.length ⟨0, Nat.zero_le _, rfl, rfl, RowKit.Below.refl _ _, rfl⟩ ?_)
  rintro g E wr a1 ⟨k, hk, rfl, rfl, hK, hall⟩ hS1
  refine wp_seq (wp_seq (seq_cut [(1, .pointer (some ⟨w.heap.size, 0, none⟩)), (3, .int .i64 next.length), (4, .int .i64 k), (45, .bool (decide ((k : Int) < next.length)))] (· = wr) tab_ok hS1 ?_ (fun a w4 hS hw => ?_)))
  · repeat (first | refine o_pure rfl rfl rfl (fun _ => rfl) ?_ | refine o_skip rfl rfl rfl ?_)
    refine o_cmp rfl rfl rfl (fun _ => rfl) (rfl) ?_
    repeat (first | refine o_pure rfl rfl rfl (fun _ => rfl) ?_ | refine o_skip rfl rfl rfl ?_)
    exact o_nil ⟨⟨rfl, rfl, rfl, rfl, trivial⟩, rfl⟩
  subst hw
  refine cond hS rfl (fun hlt => ?_) (fun hge => ?_)
  case refine_2 =>
    refine wp_exit ?_
    repeat (first | refine then_exit ?_ | refine block_exit ?_ | refine block_other rfl ?_)
    have hge := of_decide_eq_false hge
    refine wp_seq (seq_cut [(2, .bool true)] (· = w4) tab_ok hS ?_ (fun a w3 hS hw => ?_))
    · repeat (first | refine o_pure rfl rfl rfl (fun _ => rfl) ?_ | refine o_skip rfl rfl rfl ?_)
      exact o_nil ⟨⟨rfl, trivial⟩, rfl⟩
    subst hw
    refine wp_ret ?_
    repeat (first | refine then_ret ?_ | refine block_ret ?_)
    refine ret1 hS rfl rfl ⟨?_, below_trans hB hK⟩
    rw [List.take_of_length_le (by omega)] at hall
    rw [shapedM, hhb, hall]; rfl
  have hlt : k < next.length := by have := of_decide_eq_true hlt; omega
  obtain rfl := hna (by omega)
  obtain ⟨x, hx, hr⟩ := hn3 k hlt
  have hr := hr.keep hK
  have hx := keep hK hx
  have d0 := keep hK c0
  have d2 := keep hK c2
  obtain ⟨ar, br, orr, cr, rfl, har, hr1, hr2, hr3⟩ := hr.1
  refine wp_skip ?_
  refine wp_seq (wp_block ?_)
  refine wp_seq (wp_seq (quiet_cut [(1, .pointer (some ⟨w.heap.size, 0, none⟩)), (3, .int .i64 next.length), (4, .int .i64 k), (56, .bool (decide ((next[k].length : Int) ≠ L)))] tab_ok mixed (by kernel_rfl) hS ?_ (fun a w5 hS hw => ?_)))
  · repeat (first | refine q_pure rfl rfl rfl (fun _ => rfl) ?_ | refine q_skip rfl rfl rfl ?_)
    refine q_load rfl rfl rfl (fun _ => rfl) (d2) ?_
    repeat (first | refine q_pure rfl rfl rfl (fun _ => rfl) ?_ | refine q_skip rfl rfl rfl ?_)
    refine q_ix rfl rfl rfl (fun _ => rfl) (rfl) (hlt) ?_
    refine q_load rfl rfl rfl (fun _ => rfl) (hx) ?_
    repeat (first | refine q_pure rfl rfl rfl (fun _ => rfl) ?_ | refine q_skip rfl rfl rfl ?_)
    refine q_load rfl rfl rfl (fun _ => rfl) (d0) ?_
    refine q_cmp rfl rfl rfl (fun _ => rfl) (rfl) ?_
    repeat (first | refine q_pure rfl rfl rfl (fun _ => rfl) ?_ | refine q_skip rfl rfl rfl ?_)
    exact q_nil ⟨rfl, rfl, rfl, rfl, trivial⟩
  replace hK := below_trans hK hw
  refine cond hS rfl (fun hT => ?_) (fun hF => ?_)
  · refine wp_seq (seq_cut [(2, .bool false)] (· = w5) tab_ok hS ?_ (fun a w3 hS hw => ?_))
    · repeat (first | refine o_pure rfl rfl rfl (fun _ => rfl) ?_ | refine o_skip rfl rfl rfl ?_)
      exact o_nil ⟨⟨rfl, trivial⟩, rfl⟩
    subst hw
    refine wp_ret ?_
    repeat (first | refine then_ret ?_ | refine block_ret ?_)
    refine ret1 hS rfl rfl ⟨?_, below_trans hB hK⟩
    have hT := of_decide_eq_true hT
    rw [shapedM, all_of_take hlt (by simp [rowOk, hT])]; simp
  have hF := of_decide_eq_false hF
  have hF : (next[k].length : Int) = L := by omega
  subst hF
  refine wp_skip ?_
  refine wp_seq (seq_cut [(1, .pointer (some ⟨w.heap.size, 0, none⟩)), (3, .int .i64 next.length), (4, .int .i64 k), (5, .int .i64 0)] (· = w5) tab_ok hS ?_ (fun a w6 hS hw6 => ?_))
  · repeat (first | refine o_pure rfl rfl rfl (fun _ => rfl) ?_ | refine o_skip rfl rfl rfl ?_)
    exact o_nil ⟨⟨rfl, rfl, rfl, rfl, trivial⟩, rfl⟩
  subst hw6
  replace hx := keep hw hx
  replace d0 := keep hw d0
  replace d2 := keep hw d2
  replace hr3 : ∀ (i : Nat) (h : i < next[k].length), ∃ x, w6.cell? ⟨br, orr + i, none⟩ = some x ∧ PInt w6 x next[k][i] := fun i h => let ⟨x, h1, h2⟩ := hr3 i h; ⟨x, keep hw h1, h2⟩
  refine wp_block (loop0 hS (fun g E wr => ∃ j : Nat, j ≤ next[k].length ∧ g = next[k].length - j ∧ E = [(1, .pointer (some ⟨w.heap.size, 0, none⟩)), (3, .int .i64 next.length), (4, .int .i64 k), (5, .int .i64 j)] ∧ wr = w6 ∧ (next[k].take j).all (fun x => decide (-1 ≤ x) && decide (x < next.length)) = true)
    next[k].length ⟨0, Nat.zero_le _, rfl, rfl, rfl, rfl⟩ ?_)
  rintro g E wr a2 ⟨j, hj, rfl, rfl, rfl, hall2⟩ hS2
  refine wp_seq (wp_seq (seq_cut [(1, .pointer (some ⟨w.heap.size, 0, none⟩)), (3, .int .i64 next.length), (4, .int .i64 k), (5, .int .i64 j), (60, .bool (decide ((j : Int) < next[k].length)))] (· = wr) tab_ok hS2 ?_ (fun a w7 hS hw7 => ?_)))
  · repeat (first | refine o_pure rfl rfl rfl (fun _ => rfl) ?_ | refine o_skip rfl rfl rfl ?_)
    refine o_load rfl rfl rfl (fun _ => rfl) (d0) ?_
    refine o_cmp rfl rfl rfl (fun _ => rfl) (rfl) ?_
    repeat (first | refine o_pure rfl rfl rfl (fun _ => rfl) ?_ | refine o_skip rfl rfl rfl ?_)
    exact o_nil ⟨⟨rfl, rfl, rfl, rfl, rfl, trivial⟩, rfl⟩
  subst hw7
  refine cond hS rfl (fun hlt2 => ?_) (fun hge2 => ?_)
  case refine_2 =>
    refine wp_exit ?_
    repeat (first | refine then_exit ?_ | refine block_exit ?_ | refine block_other rfl ?_)
    have hge2 := of_decide_eq_false hge2
    refine block_normal ?_
    refine then_normal ?_
    refine seq_cut [(1, .pointer (some ⟨w.heap.size, 0, none⟩)), (3, .int .i64 next.length), (4, .int .i64 ((k + 1 : Nat) : Int))] (· = w7) tab_ok hS ?_ (fun a w8 hS hw8 => ?_)
    · repeat (first | refine o_pure rfl rfl rfl (fun _ => rfl) ?_ | refine o_skip rfl rfl rfl ?_)
      refine o_num rfl rfl rfl (fun _ => rfl) (wrap_succ (by omega)) ?_
      repeat (first | refine o_pure rfl rfl rfl (fun _ => rfl) ?_ | refine o_skip rfl rfl rfl ?_)
      exact o_nil ⟨⟨rfl, rfl, rfl, trivial⟩, rfl⟩
    subst hw8
    refine ⟨next.length - (k + 1), [(1, .pointer (some ⟨w.heap.size, 0, none⟩)), (3, .int .i64 next.length), (4, .int .i64 ((k + 1 : Nat) : Int))], by omega, ⟨k + 1, by omega, rfl, rfl, hK, ?_⟩, hS⟩
    rw [List.take_of_length_le (by omega)] at hall2
    rw [all_take_succ _ _ _ hlt, hall, rowOk, hall2]
    simp
  have hlt2 : j < next[k].length := by have := of_decide_eq_true hlt2; omega
  obtain rfl := har (by omega)
  obtain ⟨y, hy, rfl, hyb⟩ := hr3 j hlt2
  refine wp_skip ?_
  refine wp_seq (wp_block ?_)
  obtain ⟨hb3, hhb3⟩ : ∃ b, (decide (next[k][j] < -1) || decide ((next.length : Int) ≤ next[k][j])) = b := ⟨_, rfl⟩
  refine wp_seq (seq_cut [(1, .pointer (some ⟨w.heap.size, 0, none⟩)), (3, .int .i64 next.length), (4, .int .i64 k), (5, .int .i64 j), (83, .bool hb3)] (· = w7) tab_ok hS ?_ (fun a w8 hS hw8 => ?_))
  · repeat (first | refine o_pure rfl rfl rfl (fun _ => rfl) ?_ | refine o_skip rfl rfl rfl ?_)
    refine o_load rfl rfl rfl (fun _ => rfl) (d2) ?_
    repeat (first | refine o_pure rfl rfl rfl (fun _ => rfl) ?_ | refine o_skip rfl rfl rfl ?_)
    refine o_ix rfl rfl rfl (fun _ => rfl) (rfl) (hlt) ?_
    refine o_load rfl rfl rfl (fun _ => rfl) (hx) ?_
    repeat (first | refine o_pure rfl rfl rfl (fun _ => rfl) ?_ | refine o_skip rfl rfl rfl ?_)
    refine o_ix rfl rfl rfl (fun _ => rfl) (rfl) (hlt2) ?_
    refine o_load rfl rfl rfl (fun _ => rfl) (hy) ?_
    cases e1 : decide (next[k][j] < -1)
    case true =>
      rw [e1] at hhb3
      refine o_cmp rfl rfl rfl (fun _ => rfl) (e1) ?_
      repeat (first | refine o_pure rfl rfl rfl (fun _ => rfl) ?_ | refine o_skip rfl rfl rfl ?_)
      subst hhb3
      exact o_nil ⟨⟨rfl, rfl, rfl, rfl, rfl, trivial⟩, rfl⟩
    case false =>
      rw [e1, Bool.false_or] at hhb3
      refine o_cmp rfl rfl rfl (fun _ => rfl) (e1) ?_
      repeat (first | refine o_pure rfl rfl rfl (fun _ => rfl) ?_ | refine o_skip rfl rfl rfl ?_)
      refine o_load rfl rfl rfl (fun _ => rfl) (d2) ?_
      repeat (first | refine o_pure rfl rfl rfl (fun _ => rfl) ?_ | refine o_skip rfl rfl rfl ?_)
      refine o_ix rfl rfl rfl (fun _ => rfl) (rfl) (hlt) ?_
      refine o_load rfl rfl rfl (fun _ => rfl) (hx) ?_
      repeat (first | refine o_pure rfl rfl rfl (fun _ => rfl) ?_ | refine o_skip rfl rfl rfl ?_)
      refine o_ix rfl rfl rfl (fun _ => rfl) (rfl) (hlt2) ?_
      refine o_load rfl rfl rfl (fun _ => rfl) (hy) ?_
      repeat (first | refine o_pure rfl rfl rfl (fun _ => rfl) ?_ | refine o_skip rfl rfl rfl ?_)
      refine o_cmp rfl rfl rfl (fun _ => rfl) (hhb3) ?_
      repeat (first | refine o_pure rfl rfl rfl (fun _ => rfl) ?_ | refine o_skip rfl rfl rfl ?_)
      exact o_nil ⟨⟨rfl, rfl, rfl, rfl, rfl, trivial⟩, rfl⟩
  subst hw8
  refine cond hS rfl (fun hT => ?_) (fun hF => ?_)
  · refine wp_seq (seq_cut [(2, .bool false)] (· = w8) tab_ok hS ?_ (fun a w3 hS hw => ?_))
    · repeat (first | refine o_pure rfl rfl rfl (fun _ => rfl) ?_ | refine o_skip rfl rfl rfl ?_)
      exact o_nil ⟨⟨rfl, trivial⟩, rfl⟩
    subst hw
    refine wp_ret ?_
    repeat (first | refine then_ret ?_ | refine block_ret ?_)
    refine ret1 hS rfl rfl ⟨?_, below_trans hB hK⟩
    subst hT
    have hbad : rowOk next.length (next[k].length : Int) next[k] = false := by
      rw [rowOk, all_of_take hlt2 (p := fun (x : Int) => decide (-1 ≤ x) && decide (x < next.length))]
      · simp
      · simp only [Bool.or_eq_true, decide_eq_true_eq] at hhb3
        simp only [Bool.and_eq_false_iff, decide_eq_false_iff_not]
        omega
    rw [shapedM, all_of_take hlt hbad]; simp
  refine wp_skip ?_
  refine block_normal ?_
  refine then_normal ?_
  subst hF
  refine seq_cut [(1, .pointer (some ⟨w.heap.size, 0, none⟩)), (3, .int .i64 next.length), (4, .int .i64 k), (5, .int .i64 ((j + 1 : Nat) : Int))] (· = w8) tab_ok hS ?_ (fun a w9 hS hw9 => ?_)
  · repeat (first | refine o_pure rfl rfl rfl (fun _ => rfl) ?_ | refine o_skip rfl rfl rfl ?_)
    refine o_num rfl rfl rfl (fun _ => rfl) (wrap_succ (by omega)) ?_
    repeat (first | refine o_pure rfl rfl rfl (fun _ => rfl) ?_ | refine o_skip rfl rfl rfl ?_)
    exact o_nil ⟨⟨rfl, rfl, rfl, rfl, trivial⟩, rfl⟩
  subst hw9
  refine ⟨next[k].length - (j + 1), _, by omega, ⟨j + 1, by omega, rfl, rfl, rfl, ?_⟩, hS⟩
  rw [all_take_succ _ _ _ hlt2, hall2]
  simp only [Bool.or_eq_false_iff, decide_eq_false_iff_not] at hhb3
  simp only [Bool.true_and, Bool.and_eq_true, decide_eq_true_eq]
  omega
end Go.Proofs.Ythkabbgaikociaa
namespace Go.Proofs.Ythkabbgaikociaa
open Go Sym
theorem en_Valid : enters Try.prog 13 = true := by kernel_rfl
theorem en_Accepts : enters Try.prog 14 = true := by kernel_rfl
theorem en_shaped : enters Try.prog 35 = true := by kernel_rfl
theorem en_step : enters Try.prog 36 = true := by kernel_rfl
theorem en_ends : enters Try.prog 37 = true := by kernel_rfl
structure Ma (w : World) (L s : Int) (next : List (List Int)) (fin : List Bool) (vn ve : Value) : Prop where
  n : Sl w vn next PRow
  e : Sl w ve fin PBool
  L : I64 L
  s : I64 s
  okn : Ok vn
  oke : Ok ve
theorem Ma.keep {w w' : World} (hb : RowKit.Below w.heap.size w w') {L s : Int} {next : List (List Int)} {fin : List Bool} {vn ve : Value} (h : Ma w L s next fin vn ve) : Ma w' L s next fin vn ve :=
  ⟨h.n.keep hb (fun _ _ h => PRow.keep hb h), h.e.keep hb (fun _ _ h => h), h.L, h.s, h.okn, h.oke⟩
structure Box (w : World) (B : Nat) (L s : Int) (vn ve : Value) : Prop where
  c0 : w.cell? ⟨B, 0, none⟩ = some (.int .i64 L)
  c1 : w.cell? ⟨B, 1, none⟩ = some (.int .i64 s)
  c2 : w.cell? ⟨B, 2, none⟩ = some vn
  c3 : w.cell? ⟨B, 3, none⟩ = some ve
theorem Box.keep {w w' : World} (hb : RowKit.Below w.heap.size w w') {B : Nat} {L s : Int} {vn ve : Value} (h : Box w B L s vn ve) : Box w' B L s vn ve :=
  ⟨Ythkabbgaikociaa.keep hb h.c0, Ythkabbgaikociaa.keep hb h.c1, Ythkabbgaikociaa.keep hb h.c2, Ythkabbgaikociaa.keep hb h.c3⟩
theorem Box.new (w : World) (L s : Int) (vn ve : Value) (T : TypeId) : Box (w.alloc (.cells #[.int .i64 L, .int .i64 s, vn, ve] T)) w.heap.size L s vn ve :=
  ⟨cell_alloc_new rfl, cell_alloc_new rfl, cell_alloc_new rfl, cell_alloc_new rfl⟩
theorem Box.cells {w : World} {B : Nat} {L s : Int} {vn ve : Value} (h : Box w B L s vn ve) : cellsAt w.cell? B 0 [.int .i64 L, .int .i64 s, vn, ve] := ⟨h.c0, h.c1, h.c2, h.c3, trivial⟩
theorem Sl.len {w : World} {v : Value} {α : Type} {l : List α} {P : World → Value → α → Prop} (h : Sl w v l P) : ∃ a cap, v = .slice a l.length cap := by
  obtain ⟨a, b, o, cap, rfl, _⟩ := h; exact ⟨a, cap, rfl⟩
theorem Sl.lt {w : World} {v : Value} {α : Type} {l : List α} {P : World → Value → α → Prop} (h : Sl w v l P) : l.length ≤ 9223372036854775807 := by
  obtain ⟨a, b, o, cap, rfl, _, h1, h2, _⟩ := h; omega
set_option maxRecDepth 100000 in
theorem valid_any (L s : Int) (vn ve : Value) (next : List (List Int)) (fin : List Bool) (w : World) (hm : Ma w L s next fin vn ve) :
    Calls Try.prog 13 #[.agg #[.int .i64 L, .int .i64 s, vn, ve]] w fun e w' => e = .returned (.int .i64 (validM L s next fin)) ∧ RowKit.Below w.heap.size w w' := by
  refine Sym.enter (args := [.agg #[.int .i64 L, .int .i64 s, vn, ve]]) Try.func13 rfl rfl rfl (fun a0 hS0 => ?_)
  refine wp_seq (seq_cut [(1, .pointer (some ⟨w.heap.size, 0, none⟩))] (· = w.alloc (.cells #[.int .i64 L, .int .i64 s, vn, ve] 25)) tab_ok hS0 ?_ (fun a wc hS hw => ?_))
  · refine o_new rfl rfl rfl (fun _ => rfl) ?_
    repeat (first | refine o_pure rfl rfl rfl (fun _ => rfl) ?_ | refine o_skip rfl rfl rfl ?_)
    exact o_nil ⟨⟨rfl, trivial⟩, rfl⟩
  have hB : RowKit.Below w.heap.size w wc := by rw [hw]; exact below_alloc _ _
  have hx : Box wc w.heap.size L s vn ve := by rw [hw]; exact Box.new _ _ _ _ _ _
  clear hw
  replace hm := hm.keep hB
  obtain ⟨hb, hhb⟩ : ∃ b, (!shapedM L s next fin) = b := ⟨_, rfl⟩
  refine wp_seq (wp_seq (seq_cut [(1, .pointer (some ⟨w.heap.size, 0, none⟩)), (5, .bool hb)] (fun w' => RowKit.Below wc.heap.size wc w') tab_ok hS ?_ (fun a w2 hS hw => ?_)))
  · refine o_loads (vs := [.int .i64 L, .int .i64 s, vn, ve]) rfl rfl rfl (fun _ => rfl) rfl (hx.cells) ?_
    refine o_call rfl rfl rfl (fun _ => rfl) (en_shaped) (shaped_any L s vn ve next fin _ hm.n hm.e hm.L) ?_
    rintro e w1 ⟨rfl, h1⟩
    refine ⟨_, rfl, ?_⟩
    subst hhb
    repeat (first | refine o_pure rfl rfl rfl (fun _ => rfl) ?_ | refine o_skip rfl rfl rfl ?_)
    exact o_nil ⟨⟨rfl, rfl, trivial⟩, h1⟩
  replace hB := below_trans hB hw
  replace hx := hx.keep hw
  replace hm := hm.keep hw
  refine cond hS rfl (fun hT => ?_) (fun hF => ?_)
  · refine wp_seq (seq_cut [(2, .int .i64 1)] (· = w2) tab_ok hS ?_ (fun a w3 hS hw => ?_))
    · repeat (first | refine o_pure rfl rfl rfl (fun _ => rfl) ?_ | refine o_skip rfl rfl rfl ?_)
      exact o_nil ⟨⟨rfl, trivial⟩, rfl⟩
    subst hw
    refine wp_ret ?_
    repeat (first | refine then_ret ?_ | refine block_ret ?_)
    refine ret1 hS rfl rfl ⟨by rw [validM, hhb, hT], hB⟩
  subst hF
  refine wp_skip ?_
  obtain ⟨hb2, hhb2⟩ : ∃ b, (decide (300 < L) || decide (4000 < (next.length : Int))) = b := ⟨_, rfl⟩
  obtain ⟨an, cn, hvn⟩ := hm.n.len
  refine wp_seq (wp_seq (seq_cut [(14, .bool hb2)] (· = w2) tab_ok hS ?_ (fun a w3 hS hw => ?_)))
  · repeat (first | refine o_pure rfl rfl rfl (fun _ => rfl) ?_ | refine o_skip rfl rfl rfl ?_)
    refine o_load rfl rfl rfl (fun _ => rfl) (hx.c0) ?_
    cases e1 : decide (300 < L)
    case true =>
      rw [e1] at hhb2; subst hhb2
      refine o_cmp rfl rfl rfl (fun _ => rfl) (e1) ?_
      repeat (first | refine o_pure rfl rfl rfl (fun _ => rfl) ?_ | refine o_skip rfl rfl rfl ?_)
      exact o_nil ⟨⟨rfl, trivial⟩, rfl⟩
    case false =>
      rw [e1, Bool.false_or] at hhb2
      refine o_cmp rfl rfl rfl (fun _ => rfl) (e1) ?_
      repeat (first | refine o_pure rfl rfl rfl (fun _ => rfl) ?_ | refine o_skip rfl rfl rfl ?_)
      refine o_load rfl rfl rfl (fun _ => rfl) (hvn ▸ hx.c2) ?_
      repeat (first | refine o_pure rfl rfl rfl (fun _ => rfl) ?_ | refine o_skip rfl rfl rfl ?_)
      refine o_cmp rfl rfl rfl (fun _ => rfl) (hhb2) ?_
      repeat (first | refine o_pure rfl rfl rfl (fun _ => rfl) ?_ | refine o_skip rfl rfl rfl ?_)
      exact o_nil ⟨⟨rfl, trivial⟩, rfl⟩
  subst hw
  refine cond hS rfl (fun hT => ?_) (fun hF => ?_)
  · refine wp_seq (seq_cut [(2, .int .i64 5)] (· = w3) tab_ok hS ?_ (fun a w4 hS hw => ?_))
    · repeat (first | refine o_pure rfl rfl rfl (fun _ => rfl) ?_ | refine o_skip rfl rfl rfl ?_)
      exact o_nil ⟨⟨rfl, trivial⟩, rfl⟩
    subst hw
    refine wp_ret ?_
    repeat (first | refine then_ret ?_ | refine block_ret ?_)
    refine ret1 hS rfl rfl ⟨by rw [validM, hhb, hhb2, hT], hB⟩
  refine wp_skip ?_
  refine wp_seq (seq_cut [(2, .int .i64 0)] (· = w3) tab_ok hS ?_ (fun a w4 hS hw => ?_))
  · repeat (first | refine o_pure rfl rfl rfl (fun _ => rfl) ?_ | refine o_skip rfl rfl rfl ?_)
    exact o_nil ⟨⟨rfl, trivial⟩, rfl⟩
  subst hw
  refine wp_ret ?_
  repeat (first | refine then_ret ?_ | refine block_ret ?_)
  refine ret1 hS rfl rfl ⟨by rw [validM, hhb, hhb2, hF], hB⟩
set_option maxRecDepth 100000 in
theorem ends_any (L s : Int) (vn ve : Value) (fin : List Bool) (st : Int) (w : World) (he : Sl w ve fin PBool) (h1 : st < fin.length) :
    Calls Try.prog 37 #[.agg #[.int .i64 L, .int .i64 s, vn, ve], .int .i64 st] w fun e w' => e = .returned (.bool (endsM fin st)) ∧ RowKit.Below w.heap.size w w' := by
  refine Sym.enter (args := [.agg #[.int .i64 L, .int .i64 s, vn, ve], .int .i64 st]) Try.func37 rfl rfl rfl (fun a0 hS0 => ?_)
  refine wp_seq (seq_cut [(1, .int .i64 st), (2, .pointer (some ⟨w.heap.size, 0, none⟩))] (· = w.alloc (.cells #[.int .i64 L, .int .i64 s, vn, ve] 25)) tab_ok hS0 ?_ (fun a wc hS hw => ?_))
  · refine o_new rfl rfl rfl (fun _ => rfl) ?_
    repeat (first | refine o_pure rfl rfl rfl (fun _ => rfl) ?_ | refine o_skip rfl rfl rfl ?_)
    exact o_nil ⟨⟨rfl, rfl, trivial⟩, rfl⟩
  have hB : RowKit.Below w.heap.size w wc := by rw [hw]; exact below_alloc _ _
  have hx : Box wc w.heap.size L s vn ve := by rw [hw]; exact Box.new _ _ _ _ _ _
  clear hw
  replace he := he.keep hB (fun _ _ h => h)
  obtain ⟨hb, hhb⟩ : ∃ b, endsM fin st = b := ⟨_, rfl⟩
  refine wp_seq (seq_cut [(4, .bool hb)] (· = wc) tab_ok hS ?_ (fun a w2 hS hw => ?_))
  · repeat (first | refine o_pure rfl rfl rfl (fun _ => rfl) ?_ | refine o_skip rfl rfl rfl ?_)
    cases e1 : decide (0 ≤ st)
    case false =>
      obtain rfl : hb = false := by rw [← hhb, endsM, e1]; rfl
      refine o_cmp rfl rfl rfl (fun _ => rfl) (e1) ?_
      repeat (first | refine o_pure rfl rfl rfl (fun _ => rfl) ?_ | refine o_skip rfl rfl rfl ?_)
      exact o_nil ⟨⟨rfl, trivial⟩, rfl⟩
    case true =>
      obtain ⟨k, rfl⟩ := Int.eq_ofNat_of_zero_le (of_decide_eq_true e1)
      obtain ⟨ae, be, oe, ce, rfl, hea, he1, he2, he3⟩ := he
      have hk : k < fin.length := by omega
      obtain rfl := hea (by omega)
      obtain ⟨y, hy, rfl⟩ := he3 k hk
      obtain rfl : hb = fin[k] := by rw [← hhb]; simp [endsM, hk]
      refine o_cmp rfl rfl rfl (fun _ => rfl) (e1) ?_
      repeat (first | refine o_pure rfl rfl rfl (fun _ => rfl) ?_ | refine o_skip rfl rfl rfl ?_)
      refine o_load rfl rfl rfl (fun _ => rfl) (hx.c3) ?_
      repeat (first | refine o_pure rfl rfl rfl (fun _ => rfl) ?_ | refine o_skip rfl rfl rfl ?_)
      refine o_ix rfl rfl rfl (fun _ => rfl) (rfl) (hk) ?_
      refine o_load rfl rfl rfl (fun _ => rfl) (hy) ?_
      repeat (first | refine o_pure rfl rfl rfl (fun _ => rfl) ?_ | refine o_skip rfl rfl rfl ?_)
      exact o_nil ⟨⟨rfl, trivial⟩, rfl⟩
  subst hw
  refine wp_ret ?_
  repeat (first | refine then_ret ?_ | refine block_ret ?_)
  refine ret1 hS rfl rfl ⟨by rw [hhb], hB⟩
end Go.Proofs.Ythkabbgaikociaa
namespace Go.Proofs.Ythkabbgaikociaa
open Go Sym
set_option maxRecDepth 100000 in
theorem accepts_any (L s : Int) (vn ve vw : Value) (next : List (List Int)) (fin : List Bool) (word : List Int) (w : World) (hm : Ma w L s next fin vn ve) (hw0 : Sl w vw word PInt) :
    Calls Try.prog 14 #[.agg #[.int .i64 L, .int .i64 s, vn, ve], vw] w fun e w' => e = .returned (.bool (acceptsM L s next fin word)) ∧ RowKit.Below w.heap.size w w' := by
  refine Sym.enter (args := [.agg #[.int .i64 L, .int .i64 s, vn, ve], vw]) Try.func14 rfl rfl rfl (fun a0 hS0 => ?_)
  refine wp_seq (seq_cut [(1, vw), (2, .pointer (some ⟨w.heap.size, 0, none⟩))] (· = w.alloc (.cells #[.int .i64 L, .int .i64 s, vn, ve] 25)) tab_ok hS0 ?_ (fun a wc hS hw => ?_))
  · refine o_new rfl rfl rfl (fun _ => rfl) ?_
    repeat (first | refine o_pure rfl rfl rfl (fun _ => rfl) ?_ | refine o_skip rfl rfl rfl ?_)
    exact o_nil ⟨⟨rfl, rfl, trivial⟩, rfl⟩
  have hB : RowKit.Below w.heap.size w wc := by rw [hw]; exact below_alloc _ _
  have hx : Box wc w.heap.size L s vn ve := by rw [hw]; exact Box.new _ _ _ _ _ _
  clear hw
  replace hm := hm.keep hB
  replace hw0 := hw0.keep hB (fun _ _ h => h)
  refine wp_seq (wp_seq (seq_cut [(1, vw), (2, .pointer (some ⟨w.heap.size, 0, none⟩)), (9, .bool (decide (validM L s next fin ≠ 0)))] (fun w' => RowKit.Below wc.heap.size wc w') tab_ok hS ?_ (fun a w2 hS hw => ?_)))
  · refine o_loads (vs := [.int .i64 L, .int .i64 s, vn, ve]) rfl rfl rfl (fun _ => rfl) rfl (hx.cells) ?_
    refine o_call rfl rfl rfl (fun _ => rfl) (en_Valid) (valid_any L s vn ve next fin _ hm) ?_
    rintro e w1 ⟨rfl, h1⟩
    refine ⟨_, rfl, ?_⟩
    refine o_cmp rfl rfl rfl (fun _ => rfl) (rfl) ?_
    repeat (first | refine o_pure rfl rfl rfl (fun _ => rfl) ?_ | refine o_skip rfl rfl rfl ?_)
    exact o_nil ⟨⟨rfl, rfl, rfl, trivial⟩, h1⟩
  replace hB := below_trans hB hw
  replace hx := hx.keep hw
  replace hm := hm.keep hw
  replace hw0 := hw0.keep hw (fun _ _ h => h)
  refine cond hS rfl (fun hT => ?_) (fun hF => ?_)
  · refine wp_seq (seq_cut [(4, .bool false)] (· = w2) tab_ok hS ?_ (fun a w3 hS hw => ?_))
    · repeat (first | refine o_pure rfl rfl rfl (fun _ => rfl) ?_ | refine o_skip rfl rfl rfl ?_)
      exact o_nil ⟨⟨rfl, trivial⟩, rfl⟩
    subst hw
    refine wp_ret ?_
    repeat (first | refine then_ret ?_ | refine block_ret ?_)
    refine ret1 hS rfl rfl ⟨by rw [acceptsM, hT], hB⟩
  have hsh := (shape_of_valid (by simpa using hF)).1
  have hacc : acceptsM L s next fin word = goM L next fin s word := by rw [acceptsM, hF]
  refine wp_skip ?_
  obtain ⟨aw, bw, ow, cw, rfl, hwa, hw1, hw2, hw3⟩ := hw0
  refine wp_seq (seq_cut [(1, .slice aw word.length cw), (2, .pointer (some ⟨w.heap.size, 0, none⟩)), (5, .int .i64 s)] (· = w2) tab_ok hS ?_ (fun a w3 hS hw => ?_))
  · repeat (first | refine o_pure rfl rfl rfl (fun _ => rfl) ?_ | refine o_skip rfl rfl rfl ?_)
    refine o_load rfl rfl rfl (fun _ => rfl) (hx.c1) ?_
    repeat (first | refine o_pure rfl rfl rfl (fun _ => rfl) ?_ | refine o_skip rfl rfl rfl ?_)
    exact o_nil ⟨⟨rfl, rfl, rfl, trivial⟩, rfl⟩
  subst hw
  refine wp_seq (wp_seq (seq_cut [(1, .slice aw word.length cw), (2, .pointer (some ⟨w.heap.size, 0, none⟩)), (5, .int .i64 s), (6, .int .i64 0)] (· = w3) tab_ok hS ?_ (fun a w4 hS hw => ?_)))
  · repeat (first | refine o_pure rfl rfl rfl (fun _ => rfl) ?_ | refine o_skip rfl rfl rfl ?_)
    exact o_nil ⟨⟨rfl, rfl, rfl, rfl, trivial⟩, rfl⟩
  subst hw
  refine wp_block (loop0 hS (fun g E wr => ∃ (k : Nat) (st : Int), k ≤ word.length ∧ g = word.length - k ∧ E = [(1, .slice aw word.length cw), (2, .pointer (some ⟨w.heap.size, 0, none⟩)), (5, .int .i64 st), (6, .int .i64 k)] ∧ RowKit.Below w4.heap.size w4 wr ∧ -1 ≤ st ∧ st < next.length ∧ goM L next fin s word = goM L next fin st (word.drop k))
    word.length ⟨0, s, Nat.zero_le _, rfl, rfl, RowKit.Below.refl _ _, hsh.s1, hsh.s2, rfl⟩ ?_)
  rintro g E wr a1 ⟨k, st, hk, rfl, rfl, hK, hst1, hst2, hgo⟩ hS
  replace hx := hx.keep hK
  replace hm := hm.keep hK
  obtain ⟨hb, hhb⟩ : ∃ b, (decide ((k : Int) < word.length) && decide (0 ≤ st)) = b := ⟨_, rfl⟩
  refine wp_seq (wp_seq (seq_cut [(1, .slice aw word.length cw), (2, .pointer (some ⟨w.heap.size, 0, none⟩)), (5, .int .i64 st), (6, .int .i64 k), (19, .bool hb)] (· = wr) tab_ok hS ?_ (fun a w5 hS hw => ?_)))
  · repeat (first | refine o_pure rfl rfl rfl (fun _ => rfl) ?_ | refine o_skip rfl rfl rfl ?_)
    cases e1 : decide ((k : Int) < word.length)
    case false =>
      rw [e1, Bool.false_and] at hhb; subst hhb
      refine o_cmp rfl rfl rfl (fun _ => rfl) (e1) ?_
      repeat (first | refine o_pure rfl rfl rfl (fun _ => rfl) ?_ | refine o_skip rfl rfl rfl ?_)
      exact o_nil ⟨⟨rfl, rfl, rfl, rfl, rfl, trivial⟩, rfl⟩
    case true =>
      rw [e1, Bool.true_and] at hhb
      refine o_cmp rfl rfl rfl (fun _ => rfl) (e1) ?_
      repeat (first | refine o_pure rfl rfl rfl (fun _ => rfl) ?_ | refine o_skip rfl rfl rfl ?_)
      refine o_cmp rfl rfl rfl (fun _ => rfl) (hhb) ?_
      repeat (first | refine o_pure rfl rfl rfl (fun _ => rfl) ?_ | refine o_skip rfl rfl rfl ?_)
      exact o_nil ⟨⟨rfl, rfl, rfl, rfl, rfl, trivial⟩, rfl⟩
  subst hw
  refine cond hS rfl (fun hT => ?_) (fun hF => ?_)
  case refine_2 =>
    refine wp_exit ?_
    repeat (first | refine then_exit ?_ | refine block_exit ?_ | refine block_other rfl ?_)
    refine wp_seq (seq_cut [(4, .bool (endsM fin st))] (fun w' => RowKit.Below w5.heap.size w5 w') tab_ok hS ?_ (fun a w6 hS hw => ?_))
    · refine o_loads (vs := [.int .i64 L, .int .i64 s, vn, ve]) rfl rfl rfl (fun _ => rfl) rfl (hx.cells) ?_
      repeat (first | refine o_pure rfl rfl rfl (fun _ => rfl) ?_ | refine o_skip rfl rfl rfl ?_)
      refine o_call rfl rfl rfl (fun _ => rfl) (en_ends) (ends_any L s vn ve fin st _ hm.e (by rw [hsh.fin]; exact hst2)) ?_
      rintro e w1 ⟨rfl, h1⟩
      refine ⟨_, rfl, ?_⟩
      repeat (first | refine o_pure rfl rfl rfl (fun _ => rfl) ?_ | refine o_skip rfl rfl rfl ?_)
      exact o_nil ⟨⟨rfl, trivial⟩, h1⟩
    have hres : goM L next fin st (word.drop k) = endsM fin st := by
      subst hF
      rw [Bool.and_eq_false_iff, decide_eq_false_iff_not, decide_eq_false_iff_not] at hhb
      by_cases hlt : k < word.length
      · rw [List.drop_eq_getElem_cons hlt, goM, decide_eq_false (by omega)]
      · rw [List.drop_of_length_le (by omega), goM]
    refine wp_ret ?_
    repeat (first | refine then_ret ?_ | refine block_ret ?_)
    refine ret1 hS rfl rfl ⟨by rw [hacc, hgo, hres], below_trans hB (below_trans hK hw)⟩
  subst hT
  rw [Bool.and_eq_true, decide_eq_true_eq, decide_eq_true_eq] at hhb
  obtain ⟨hlt, hst0⟩ := hhb
  have hlt : k < word.length := by omega
  obtain rfl := hwa (by omega)
  obtain ⟨x, hxc, rfl, hxb⟩ := hw3 k hlt
  have hxc := keep hK hxc
  refine wp_skip ?_
  refine wp_seq (wp_block ?_)
  obtain ⟨hb3, hhb3⟩ : ∃ b, (decide (word[k] < 0) || decide (L ≤ word[k])) = b := ⟨_, rfl⟩
  refine wp_seq (wp_seq (quiet_cut [(1, .slice (some ⟨bw, ow, none⟩) word.length cw), (2, .pointer (some ⟨w.heap.size, 0, none⟩)), (5, .int .i64 st), (6, .int .i64 k), (35, .bool hb3)] tab_ok mixed (by kernel_rfl) hS ?_ (fun a w6 hS hw => ?_)))
  · repeat (first | refine q_pure rfl rfl rfl (fun _ => rfl) ?_ | refine q_skip rfl rfl rfl ?_)
    refine q_ix rfl rfl rfl (fun _ => rfl) (rfl) (hlt) ?_
    refine q_load rfl rfl rfl (fun _ => rfl) (hxc) ?_
    cases e1 : decide (word[k] < 0)
    case true =>
      rw [e1, Bool.true_or] at hhb3; subst hhb3
      refine q_cmp rfl rfl rfl (fun _ => rfl) (e1) ?_
      repeat (first | refine q_pure rfl rfl rfl (fun _ => rfl) ?_ | refine q_skip rfl rfl rfl ?_)
      exact q_nil ⟨rfl, rfl, rfl, rfl, rfl, trivial⟩
    case false =>
      rw [e1, Bool.false_or] at hhb3
      refine q_cmp rfl rfl rfl (fun _ => rfl) (e1) ?_
      repeat (first | refine q_pure rfl rfl rfl (fun _ => rfl) ?_ | refine q_skip rfl rfl rfl ?_)
      refine q_ix rfl rfl rfl (fun _ => rfl) (rfl) (hlt) ?_
      refine q_load rfl rfl rfl (fun _ => rfl) (hxc) ?_
      repeat (first | refine q_pure rfl rfl rfl (fun _ => rfl) ?_ | refine q_skip rfl rfl rfl ?_)
      refine q_load rfl rfl rfl (fun _ => rfl) (hx.c0) ?_
      refine q_cmp rfl rfl rfl (fun _ => rfl) (hhb3) ?_
      repeat (first | refine q_pure rfl rfl rfl (fun _ => rfl) ?_ | refine q_skip rfl rfl rfl ?_)
      exact q_nil ⟨rfl, rfl, rfl, rfl, rfl, trivial⟩
  replace hx := hx.keep hw
  replace hm := hm.keep hw
  have hxc := keep hw hxc
  have hK2 := below_trans hK hw
  have hdrop := List.drop_eq_getElem_cons hlt
  refine cond hS rfl (fun hT => ?_) (fun hF => ?_)
  · refine wp_seq (seq_cut [(4, .bool false)] (· = w6) tab_ok hS ?_ (fun a w7 hS hw => ?_))
    · repeat (first | refine o_pure rfl rfl rfl (fun _ => rfl) ?_ | refine o_skip rfl rfl rfl ?_)
      exact o_nil ⟨⟨rfl, trivial⟩, rfl⟩
    subst hw
    refine wp_ret ?_
    repeat (first | refine then_ret ?_ | refine block_ret ?_)
    refine ret1 hS rfl rfl ⟨by rw [hacc, hgo, hdrop, goM, decide_eq_true hst0, hhb3, hT], below_trans hB hK2⟩
  subst hF
  have hin : 0 ≤ word[k] ∧ word[k] < L := by
    rw [Bool.or_eq_false_iff, decide_eq_false_iff_not, decide_eq_false_iff_not] at hhb3
    omega
  have hrange := stepM_range hsh hst2 hin.1 hin.2
  refine wp_skip ?_
  refine quiet_cut [(1, .slice (some ⟨bw, ow, none⟩) word.length cw), (2, .pointer (some ⟨w.heap.size, 0, none⟩)), (5, .int .i64 (stepM next st word[k])), (6, .int .i64 k)] tab_ok mixed (by kernel_rfl) hS ?_ (fun a w7 hS hw7 => ?_)
  · have hlen : (word[k] : Int) < ((next.getD st.toNat []).length : Int) := by
      obtain ⟨q, rfl⟩ := Int.eq_ofNat_of_zero_le hst0
      have hq : q < next.length := by omega
      have := (hsh.rows q hq).1
      simp [List.getD_eq_getElem?_getD, hq]
      omega
    refine q_loads (vs := [.int .i64 L, .int .i64 s, vn, ve]) rfl rfl rfl (fun _ => rfl) rfl (hx.cells) ?_
    repeat (first | refine q_pure rfl rfl rfl (fun _ => rfl) ?_ | refine q_skip rfl rfl rfl ?_)
    refine q_ix rfl rfl rfl (fun _ => rfl) (rfl) (hlt) ?_
    refine q_load rfl rfl rfl (fun _ => rfl) (hxc) ?_
    refine q_call (v := .int .i64 (stepM next st word[k])) rfl rfl rfl (fun _ => rfl) (en_step) (fun w1 h1 => step_any L s vn ve next st word[k] w1 (hm.keep h1).n hst2 (fun _ => ⟨hin.1, hlen⟩)) ?_
    repeat (first | refine q_pure rfl rfl rfl (fun _ => rfl) ?_ | refine q_skip rfl rfl rfl ?_)
    exact q_nil ⟨rfl, rfl, rfl, rfl, trivial⟩
  have hK3 := below_trans hK2 hw7
  refine block_normal ?_
  refine then_normal ?_
  refine seq_cut [(1, .slice (some ⟨bw, ow, none⟩) word.length cw), (2, .pointer (some ⟨w.heap.size, 0, none⟩)), (5, .int .i64 (stepM next st word[k])), (6, .int .i64 ((k + 1 : Nat) : Int))] (· = w7) tab_ok hS ?_ (fun a w8 hS hw8 => ?_)
  · repeat (first | refine o_pure rfl rfl rfl (fun _ => rfl) ?_ | refine o_skip rfl rfl rfl ?_)
    refine o_num rfl rfl rfl (fun _ => rfl) (wrap_succ (by omega)) ?_
    repeat (first | refine o_pure rfl rfl rfl (fun _ => rfl) ?_ | refine o_skip rfl rfl rfl ?_)
    exact o_nil ⟨⟨rfl, rfl, rfl, rfl, trivial⟩, rfl⟩
  subst hw8
  refine ⟨word.length - (k + 1), _, by omega, ⟨k + 1, stepM next st word[k], by omega, rfl, rfl, hK3, hrange.1, hrange.2, ?_⟩, hS⟩
  rw [hgo, hdrop, goM, decide_eq_true hst0, hhb3]
end Go.Proofs.Ythkabbgaikociaa
namespace Go.Proofs.Ythkabbgaikociaa
open Go Sym
def OwnB (w : World) (b : Nat) (T : TypeId) (vs : List Value) : Prop := w.heap[b]? = some (.cells vs.toArray T (0, 0))
section
variable {w : World} {b : Nat} {T : TypeId} {vs : List Value}
theorem OwnB.lt (h : OwnB w b T vs) : b < w.heap.size := (Array.getElem?_eq_some_iff.1 h).1
theorem OwnB.cell (h : OwnB w b T vs) {i : Nat} {v : Value} (hv : vs[i]? = some v) : w.cell? ⟨b, i, none⟩ = some v := by
  unfold World.cell?
  rw [show w.heap[(⟨b, i, none⟩ : Addr).block]? = _ from h]
  simpa using hv
theorem OwnB.free (h : OwnB w b T vs) (i : Nat) : w.frozen? ⟨b, i, none⟩ = false := by
  unfold World.frozen?
  rw [show w.heap[(⟨b, i, none⟩ : Addr).block]? = _ from h]
  simp
theorem OwnB.kept {w' : World} {row : Option Nat} (h : OwnB w b T vs) (hg : w.grownBy w' row) (hne : some b ≠ row) : OwnB w' b T vs := (hg.block b h.lt hne).trans h
theorem OwnB.new (w : World) (vs : List Value) (T : TypeId) : OwnB (w.alloc (.cells vs.toArray T)) w.heap.size T vs := heap_alloc_new w _
theorem heap_setCell_same {w : World} (b i : Nat) (v : Value) {cs : Array Value} {T : TypeId} {fr : Nat × Nat} (h : w.heap[b]? = some (.cells cs T fr)) : (w.setCell ⟨b, i, none⟩ v).heap[b]? = some (.cells (cs.setIfInBounds i v) T fr) := by
  simp [World.setCell, Array.getElem?_modify, h]
theorem OwnB.set (h : OwnB w b T vs) (i : Nat) (v : Value) : OwnB (w.setCell ⟨b, i, none⟩ v) b T (vs.set i v) := by
  have := heap_setCell_same b i v h
  unfold OwnB
  rw [this]
  simp
theorem grown_set (w : World) (b i : Nat) (v : Value) : w.grownBy (w.setCell ⟨b, i, none⟩ v) (some b) :=
  ⟨rfl, rfl, rfl, by simp [World.setCell], fun k _ hk => RowKit.Below.heap_setCell _ _ _ _ (fun e => hk (by rw [e]))⟩
theorem grown_trans {a c : World} {row : Option Nat} (h : w.grownBy a row) (k : a.grownBy c row) : w.grownBy c row :=
  ⟨k.os.trans h.os, k.tape.trans h.tape, k.output.trans h.output, Nat.le_trans h.size k.size, fun i hi hr => (k.block i (Nat.lt_of_lt_of_le hi h.size) hr).trans (h.block i hi hr)⟩
theorem grown_sets (b : Nat) : ∀ (vs : List Value) (o : Nat) (w : World), w.grownBy (w.setCells b o vs) (some b)
  | [], _, _ => ⟨rfl, rfl, rfl, Nat.le_refl _, fun _ _ _ => rfl⟩
  | v :: r, o, w => grown_trans (grown_set w b o v) (grown_sets b r (o + 1) _)
theorem sets_heap (b : Nat) {T : TypeId} {fr : Nat × Nat} : ∀ (vs : List Value) (o : Nat) (w : World) (cs : List Value), w.heap[b]? = some (.cells cs.toArray T fr) → o + vs.length ≤ cs.length →
    (w.setCells b o vs).heap[b]? = some (.cells (cs.take o ++ vs ++ cs.drop (o + vs.length)).toArray T fr)
  | [], o, w, cs, h, _ => by simp [World.setCells, h]
  | v :: r, o, w, cs, h, hl => by
    have h1 := heap_setCell_same b o v h
    rw [show cs.toArray.setIfInBounds o v = (cs.set o v).toArray from by simp] at h1
    simp only [List.length_cons] at hl
    rw [World.setCells, sets_heap b r (o + 1) _ _ h1 (by simp; omega)]
    congr 2
    have e1 : (cs.set o v).take (o + 1) = cs.take o ++ [v] := by
      rw [List.take_succ_eq_append_getElem (by simp; omega)]
      have e3 : (cs.set o v).take o = cs.take o := by
        apply List.ext_getElem?
        intro j
        rw [List.getElem?_take, List.getElem?_take]
        split
        · rw [List.getElem?_set_ne (by omega)]
        · rfl
      rw [e3]
      simp
    have e2 : (cs.set o v).drop (o + 1 + r.length) = cs.drop (o + 1 + r.length) := List.drop_set_of_lt (by omega)
    rw [e1, e2]
    simp [List.length_cons, Nat.add_comm, Nat.add_left_comm]
theorem OwnB.sets (h : OwnB w b T vs) {us : List Value} (hl : us.length = vs.length) : OwnB (w.setCells b 0 us) b T us := by
  have := sets_heap b us 0 w vs h (by omega)
  unfold OwnB
  rw [this]
  simp [hl]
end
section
variable {w : World}
theorem own_ne {b1 b2 e1 e2 s1 s2 n1 n2 : Nat} {v u : Value} {xs ys : List Value} (h : w.ownsRow b1 e1 s1 v n1 xs) (k : w.ownsRow b2 e2 s2 u n2 ys) (he : e1 ≠ e2) : u.ownBlock = none ∨ u.ownBlock ≠ v.ownBlock := by
  rcases k.2 with ⟨rfl, _⟩ | ⟨g, cap, cur, rfl, _, hg, _⟩
  · exact .inl rfl
  · rcases h.2 with ⟨rfl, _⟩ | ⟨g', cap', cur', rfl, _, hg', _⟩
    · exact .inr (by simp [Value.ownBlock])
    · refine .inr (fun e => he ?_)
      simp only [Value.ownBlock, Option.some.injEq] at e
      subst e
      rw [hg'] at hg
      simp only [Option.some.injEq, Obj.cells.injEq] at hg
      exact hg.2.1
theorem own_neB {b1 e1 s1 n1 b e2 : Nat} {v : Value} {xs vs : List Value} (h : w.ownsRow b1 e1 s1 v n1 xs) (k : OwnB w b e2 vs) (he : e1 ≠ e2) : some b ≠ v.ownBlock := by
  rcases h.2 with ⟨rfl, _⟩ | ⟨g', cap', cur', rfl, _, hg', _⟩
  · simp [Value.ownBlock]
  · intro e
    simp only [Value.ownBlock, Option.some.injEq] at e
    subst e
    unfold OwnB at k
    rw [hg'] at k
    simp only [Option.some.injEq, Obj.cells.injEq] at k
    exact he k.2.1
theorem sl_own {base e n : Nat} {v : Value} {xs : List Value} {α : Type} {l : List α} {P : World → Value → α → Prop} (h : w.ownsRow base e 1 v n xs) (hn : n = l.length)
    (hP : ∀ i (hi : i < l.length), ∃ x, xs[i]? = some x ∧ P w x l[i]) : Sl w v l P ∧ Ok v := by
  subst hn
  rcases h.2 with ⟨rfl, h0⟩ | ⟨g, cap, cur, rfl, _, hg, h1, h2, _⟩
  · refine ⟨⟨none, 0, 0, 0, by rw [h0], by omega, by omega, by omega, fun i hi => by omega⟩, .inl (.inl rfl)⟩
  · refine ⟨⟨some ⟨g, 0, none⟩, g, 0, cap, rfl, fun _ => rfl, h1, by unfold maxLen at h2; omega, fun i hi => ?_⟩, .inr ⟨g, 0, _, cap, rfl⟩⟩
    obtain ⟨x, hx, hp⟩ := hP i hi
    refine ⟨x, ?_, hp⟩
    have := h.cells (g := g) rfl i x hx
    rw [Nat.zero_add]
    unfold Addr.add at this
    split at this
    · rename_i h0; subst h0; exact this
    · simpa using this
theorem src_of {v : Value} {α : Type} {l : List α} {P : World → Value → α → Prop} {f : α → Value} (h : Sl w v l P) (hok : Ok v) (hf : ∀ x y, P w x y → x = f y) :
    ((v = .slice none 0 0 ∨ ∃ ad c, v = .slice (some ad) 0 c) ∧ l.length = 0 ∧ l.map f = []) ∨ ∃ b o c, v = .slice (some ⟨b, o, none⟩) l.length c ∧ cellsAt w.cell? b o (l.map f) := by
  obtain ⟨a, b, o, cap, rfl, h1, h2, h3, h4⟩ := h
  have hcells : cellsAt w.cell? b o (l.map f) := by
    have : ∀ (l : List α) (o : Nat), (∀ i (h : i < l.length), ∃ x, w.cell? ⟨b, o + i, none⟩ = some x ∧ P w x l[i]) → cellsAt w.cell? b o (l.map f) := by
      intro l
      induction l with
      | nil => intro o _; exact trivial
      | cons y r ih =>
        intro o hc
        refine ⟨?_, ih (o + 1) (fun i hi => ?_)⟩
        · obtain ⟨x, hx, hp⟩ := hc 0 (by simp)
          rw [← hf x y hp]; simpa using hx
        · obtain ⟨x, hx, hp⟩ := hc (i + 1) (by simp; omega)
          exact ⟨x, by rw [show o + 1 + i = o + (i + 1) by omega]; exact hx, by simpa using hp⟩
    exact this l o h4
  rcases hok with (h0 | ⟨ad, c', h0⟩) | ⟨b', o', n', c', h0⟩
  · simp only [Value.slice.injEq] at h0
    obtain ⟨rfl, hl, rfl⟩ := h0
    refine .inl ⟨.inl (by rw [hl]), hl, by simp [List.eq_nil_of_length_eq_zero hl]⟩
  · simp only [Value.slice.injEq] at h0
    obtain ⟨rfl, hl, rfl⟩ := h0
    refine .inl ⟨.inr ⟨ad, _, by rw [hl]⟩, hl, by simp [List.eq_nil_of_length_eq_zero hl]⟩
  · simp only [Value.slice.injEq] at h0
    obtain ⟨rfl, hl, rfl⟩ := h0
    rcases Nat.eq_zero_or_pos l.length with hz | hz
    · exact .inr ⟨b', o', _, rfl, by simp [List.eq_nil_of_length_eq_zero hz, cellsAt]⟩
    · have := h1 hz
      simp only [Option.some.injEq, Addr.mk.injEq] at this
      obtain ⟨rfl, rfl, _⟩ := this
      exact .inr ⟨_, _, _, rfl, hcells⟩
theorem own_lit (w : World) (base e : Nat) (hb : base ≤ w.heap.size) : (w.alloc (.cells #[] e)).ownsRow base e 1 (.slice (some ⟨w.heap.size, 0, none⟩) 0 0) 0 [] :=
  World.ownsRow_made w #[] 0 hb (by simp [maxLen]) (by simp)
end
end Go.Proofs.Ythkabbgaikociaa
namespace Go.Proofs.Ythkabbgaikociaa
open Go Sym
theorem below_drew (w : World) : RowKit.Below w.heap.size w w.drew := (RowKit.Below.refl _ _).drew
theorem below_of_grown {w0 w w' : World} {row : Option Nat} (h : RowKit.Below w0.heap.size w0 w) (hg : w.grownBy w' row) (hr : ∀ k, row = some k → w0.heap.size ≤ k) : RowKit.Below w0.heap.size w0 w' := h.grown hg h.size hr
structure CopyI (base : Nat) (w : World) (b3 : Nat) (L s : Int) (rows : List (List Int)) (fin : List Bool) : Prop where
  b : base ≤ b3
  mem : ∃ vn ve us, OwnB w b3 25 [.int .i64 L, .int .i64 s, vn, ve] ∧ w.ownsRow base 4 1 ve fin.length (fin.map .bool) ∧ w.ownsRow base 26 1 vn rows.length us ∧
    us.length = rows.length ∧ ∀ i (h : i < rows.length), ∃ u, us[i]? = some u ∧ w.ownsRow base 3 1 u rows[i].length (rows[i].map (Value.int .i64)) ∧ ∀ x ∈ rows[i], I64 x
theorem copy_fin {base : Nat} {w0 w3 : World} {b3 : Nat} {L s : Int} {v' : Value} {fin : List Bool} (h : RowKit.Below w0.heap.size w0 w3) (hb : base ≤ b3) (hb3 : w0.heap.size ≤ b3) (ho : OwnB w3 b3 25 [.int .i64 0, .int .i64 0, .slice none 0 0, .slice none 0 0])
    (hv : w3.ownsRow base 4 1 v' fin.length (fin.map .bool)) : RowKit.Below w0.heap.size w0 (w3.setCells b3 0 [.int .i64 L, .int .i64 s, .slice none 0 0, v']) ∧ CopyI base (w3.setCells b3 0 [.int .i64 L, .int .i64 s, .slice none 0 0, v']) b3 L s [] fin := by
  have hg := grown_sets b3 [.int .i64 L, .int .i64 s, .slice none 0 0, v'] 0 w3
  refine ⟨below_of_grown h hg (fun k hk => by cases hk; exact hb3), hb, _, _, [], ho.sets rfl, hv.kept hg ?_, World.ownsRow_nil _ _ _ _, rfl, fun i hi => by simp at hi⟩
  rcases Option.eq_none_or_eq_some v'.ownBlock with h0 | ⟨k, hk⟩
  · exact .inl h0
  · refine .inr (fun e => own_neB hv ho (by decide) e.symm)
theorem ask_of {w : World} {e : TI} {v src : Value} {n base : Nat} {xs : List Value} {α : Type} {l : List α} {f : α → Value} (hown : w.ownsRow base e.t e.size v n xs)
    (hs : ((src = .slice none 0 0 ∨ ∃ ad c, src = .slice (some ad) 0 c) ∧ l.length = 0 ∧ l.map f = []) ∨ ∃ b o c, src = .slice (some ⟨b, o, none⟩) l.length c ∧ cellsAt w.cell? b o (l.map f)) (h1 : e.size = 1) (hone : ∀ x, (f x).oneCell' = true)
    (hf : n + l.length ≤ 9223372036854775807) (hb : (n + l.length) * e.bytes ≤ 140737488355328) (hbase : base ≤ w.heap.size) : AppAsk w e v n xs src l.length (l.map f) base :=
  ⟨hown, hs, by simp [h1], fun u hu => by obtain ⟨x, _, rfl⟩ := List.mem_map.1 hu; exact hone x, hf, hb, hbase⟩
theorem drew_size (w : World) : w.drew.heap.size = w.heap.size := rfl
theorem own_cells4 {w : World} {b : Nat} {T : TypeId} {v0 v1 v2 v3 : Value} (h : OwnB w b T [v0, v1, v2, v3]) : ∀ j, j < 4 → (w.cell? ⟨b, 0 + j, none⟩).isSome = true ∧ w.frozen? ⟨b, 0 + j, none⟩ = false := fun j hj => by
  rw [Nat.zero_add]
  refine ⟨?_, h.free j⟩
  have : [v0, v1, v2, v3][j]? = some ([v0, v1, v2, v3][j]) := List.getElem?_eq_getElem (by simpa using hj)
  rw [h.cell this]; rfl
theorem grown_alloc (w : World) (o : Obj) : w.grownBy (w.alloc o) none :=
  World.grownBy_alloc w o none
theorem undrew {n : Nat} {w w1 : World} (h : RowKit.Below n w.drew w1) : RowKit.Below n w w1 := ⟨h.os, h.tape, h.output, h.size, h.block⟩
set_option maxRecDepth 100000 in
set_option maxHeartbeats 1000000 in
theorem copy_r1 {base : Nat} {w : World} {B N : Nat} {L s : Int} {vn ve : Value} {fin : List Bool} (he : Sl w ve fin PBool) (oke : Ok ve) (hx : Box w B L s vn ve) (hb : base ≤ w.heap.size) (hfin : fin.length ≤ 140737488355328)
    {Q : Exit → Act → World → Prop} {a : Act} {ops : Array Oper} {id : Nat} (hops : Sym.regionOf Try.f16.body 1 = some (id, ops))
    (hS : St Try.f16.ntmps a [(1, .pointer (some ⟨B, 0, none⟩)), (2, .pointer (some ⟨N, 0, none⟩))])
    (hq : ∀ b3 a' w', St Try.f16.ntmps a' [(1, .pointer (some ⟨B, 0, none⟩)), (2, .pointer (some ⟨N, 0, none⟩)), (3, .pointer (some ⟨b3, 0, none⟩))] → RowKit.Below w.heap.size w w' ∧ CopyI base w' b3 L s [] fin → Q .normal a' w') : (Code.region id ops true).wp Try.prog Q a w := by
  cases hops
  refine any_cutx (α := Nat) 10 (fun b3 => [(1, .pointer (some ⟨B, 0, none⟩)), (2, .pointer (some ⟨N, 0, none⟩)), (3, .pointer (some ⟨b3, 0, none⟩))]) (fun b3 w' => RowKit.Below w.heap.size w w' ∧ CopyI base w' b3 L s [] fin) mixed hS ?_ hq
  have hy : RowKit.Below w.drew.heap.size w.drew w.drew := RowKit.Below.refl _ _
  have hsrc := fun w1 (h : RowKit.Below w.drew.heap.size w.drew w1) => src_of (f := Value.bool) (he.keep (w := w) (show RowKit.Below w.heap.size w w1 from ⟨h.os, h.tape, h.output, h.size, h.block⟩) (fun _ _ h => h)) oke (fun _ _ h => h)
  have hb' : base ≤ w.drew.heap.size := hb
  obtain ⟨ae, ce, rfl⟩ := he.len
  refine y_take 0 tab_ok rfl (by kernel_rfl) (by kernel_rfl) (by kernel_rfl) rfl (by kernel_rfl) rfl hy rfl rfl rfl (rfl) ?_
  refine y_take 1 tab_ok rfl (by kernel_rfl) (by kernel_rfl) (by kernel_rfl) rfl (by kernel_rfl) rfl hy rfl rfl rfl (Exists.intro _ (And.intro (hx.c0) rfl)) ?_
  refine y_take 2 tab_ok rfl (by kernel_rfl) (by kernel_rfl) (by kernel_rfl) rfl (by kernel_rfl) rfl hy rfl rfl rfl (rfl) ?_
  refine y_take 3 tab_ok rfl (by kernel_rfl) (by kernel_rfl) (by kernel_rfl) rfl (by kernel_rfl) rfl hy rfl rfl rfl (Exists.intro _ (And.intro (hx.c1) rfl)) ?_
  refine y_take 5 tab_ok rfl (by kernel_rfl) (by kernel_rfl) (by kernel_rfl) rfl (by kernel_rfl) rfl hy rfl rfl rfl (rfl) ?_
  refine y_take 6 tab_ok rfl (by kernel_rfl) (by kernel_rfl) (by kernel_rfl) rfl (by kernel_rfl) rfl hy rfl rfl rfl (Exists.intro _ (And.intro (hx.c3) rfl)) ?_
  refine y_two 4 9 (by kernel_rfl) (y_op 4 tab_ok rfl rfl rfl rfl ?_) (y_op 9 tab_ok rfl rfl rfl rfl ?_)
  ·
    refine Exists.intro [] (Exists.intro #[] (And.intro (And.intro rfl rfl) (And.intro (by decide) (And.intro (by simp [Instr.fill, madeCells]) ?_))))
    have hy1 := hy.alloc (Nat.le_refl _) (.cells #[] 4)
    refine And.intro (.inr hy1) ?_
    have ask := ask_of (e := ⟨4, .bool, 1, 1, .bool false⟩) (own_lit w.drew base 4 hb') (hsrc _ hy1) rfl (fun _ => rfl) (by omega) (by simp only [Nat.mul_one]; omega) (Nat.le_trans hb' (by simp))
    refine y_two 7 9 (by kernel_rfl) (y_op 7 tab_ok rfl rfl rfl rfl ?_) (y_op 9 tab_ok rfl rfl rfl rfl ?_)
    ·
      refine Exists.intro _ (Exists.intro _ (Exists.intro _ (Exists.intro _ (Exists.intro _ (And.intro (ask) (And.intro (fun _ h => h.symm) (And.intro (by decide) ?_)))))))
      rintro v' w2 hown hgr - -
      have hy2 : RowKit.Below w.drew.heap.size w.drew w2 := below_of_grown hy1 hgr (fun k hk => by cases hk; exact Nat.le_refl _)
      rw [Nat.zero_add, List.nil_append] at hown
      refine And.intro (.inr hy2) ?_
      obtain ⟨g, n, c, hv⟩ : ∃ g n c, v' = .slice g n c := by rcases hown.2 with ⟨h, _⟩ | ⟨_, _, _, h, _⟩ <;> exact ⟨_, _, _, h⟩
      subst hv
      refine y_take 8 tab_ok rfl (by kernel_rfl) (by kernel_rfl) (by kernel_rfl) rfl (by kernel_rfl) rfl hy2 rfl rfl rfl (rfl) ?_
      refine y_one 9 (by kernel_rfl) (y_op 9 tab_ok rfl rfl rfl rfl ?_)
      have hy3 := hy2.alloc hy2.size (.cells #[.int .i64 0, .int .i64 0, .slice none 0 0, .slice none 0 0] 25)
      refine And.intro (.inr hy3) ?_
      refine y_one 10 (by kernel_rfl) (y_op0 10 tab_ok rfl rfl rfl ?_)
      have ho := OwnB.new w2 [.int .i64 0, .int .i64 0, .slice none 0 0, .slice none 0 0] 25
      refine And.intro rfl (And.intro rfl (And.intro (own_cells4 ho) (And.intro (.inl (by kernel_rfl)) ?_)))
      exact y_endx _ (by kernel_rfl) ⟨rfl, rfl, rfl, trivial⟩ (copy_fin (w0 := w) (undrew hy3) (Nat.le_trans hb hy2.size) hy2.size ho (hown.alloc _))
    ·
      have hy2 := hy1.alloc hy1.size (.cells #[.int .i64 0, .int .i64 0, .slice none 0 0, .slice none 0 0] 25)
      refine And.intro (.inr hy2) ?_
      have ho := OwnB.new (w.drew.alloc (.cells #[] 4)) [.int .i64 0, .int .i64 0, .slice none 0 0, .slice none 0 0] 25
      have ask := ask_of (e := ⟨4, .bool, 1, 1, .bool false⟩) ((own_lit w.drew base 4 hb').alloc (.cells #[.int .i64 0, .int .i64 0, .slice none 0 0, .slice none 0 0] 25)) (hsrc _ hy2) rfl (fun _ => rfl) (by omega) (by simp only [Nat.mul_one]; omega) (Nat.le_trans hb' hy2.size)
      refine y_one 7 (by kernel_rfl) (y_op 7 tab_ok rfl rfl rfl rfl ?_)
      refine Exists.intro _ (Exists.intro _ (Exists.intro _ (Exists.intro _ (Exists.intro _ (And.intro (ask) (And.intro (fun _ h => h.symm) (And.intro (by decide) ?_)))))))
      rintro v' w2 hown hgr - -
      have hy3 : RowKit.Below w.drew.heap.size w.drew w2 := below_of_grown hy2 hgr (fun k hk => by cases hk; exact Nat.le_refl _)
      rw [Nat.zero_add, List.nil_append] at hown
      refine And.intro (.inr hy3) ?_
      obtain ⟨g, n, c, hv⟩ : ∃ g n c, v' = .slice g n c := by rcases hown.2 with ⟨h, _⟩ | ⟨_, _, _, h, _⟩ <;> exact ⟨_, _, _, h⟩
      subst hv
      have ho' := ho.kept hgr (own_neB ((own_lit w.drew base 4 hb').alloc (.cells #[.int .i64 0, .int .i64 0, .slice none 0 0, .slice none 0 0] 25)) ho (by decide))
      refine y_take 8 tab_ok rfl (by kernel_rfl) (by kernel_rfl) (by kernel_rfl) rfl (by kernel_rfl) rfl hy3 rfl rfl rfl (rfl) ?_
      refine y_one 10 (by kernel_rfl) (y_op0 10 tab_ok rfl rfl rfl ?_)
      refine And.intro rfl (And.intro rfl (And.intro (own_cells4 ho') (And.intro (.inl (by kernel_rfl)) ?_)))
      exact y_endx _ (by kernel_rfl) ⟨rfl, rfl, rfl, trivial⟩ (copy_fin (w0 := w) (undrew hy3) (Nat.le_trans hb hy1.size) hy1.size ho' hown)
  ·
    have hy1 := hy.alloc (Nat.le_refl _) (.cells #[.int .i64 0, .int .i64 0, .slice none 0 0, .slice none 0 0] 25)
    refine And.intro (.inr hy1) ?_
    have ho := OwnB.new w.drew [.int .i64 0, .int .i64 0, .slice none 0 0, .slice none 0 0] 25
    refine y_one 4 (by kernel_rfl) (y_op 4 tab_ok rfl rfl rfl rfl ?_)
    refine Exists.intro [] (Exists.intro #[] (And.intro (And.intro rfl rfl) (And.intro (by decide) (And.intro (by simp [Instr.fill, madeCells]) ?_))))
    have hy2 := hy1.alloc hy1.size (.cells #[] 4)
    refine And.intro (.inr hy2) ?_
    have hl := own_lit (w.drew.alloc (.cells #[.int .i64 0, .int .i64 0, .slice none 0 0, .slice none 0 0] 25)) base 4 (Nat.le_trans hb' hy1.size)
    have ho2 : OwnB _ _ _ _ := ho.kept (row := none) (grown_alloc _ (.cells #[] 4)) (by simp)
    have ask := ask_of (e := ⟨4, .bool, 1, 1, .bool false⟩) hl (hsrc _ hy2) rfl (fun _ => rfl) (by omega) (by simp only [Nat.mul_one]; omega) (Nat.le_trans (Nat.le_trans hb' hy1.size) (by simp))
    refine y_one 7 (by kernel_rfl) (y_op 7 tab_ok rfl rfl rfl rfl ?_)
    refine Exists.intro _ (Exists.intro _ (Exists.intro _ (Exists.intro _ (Exists.intro _ (And.intro (ask) (And.intro (fun _ h => h.symm) (And.intro (by decide) ?_)))))))
    rintro v' w2 hown hgr - -
    have hy3 : RowKit.Below w.drew.heap.size w.drew w2 := below_of_grown hy2 hgr (fun k hk => by cases hk; exact hy1.size)
    rw [Nat.zero_add, List.nil_append] at hown
    refine And.intro (.inr hy3) ?_
    obtain ⟨g, n, c, hv⟩ : ∃ g n c, v' = .slice g n c := by rcases hown.2 with ⟨h, _⟩ | ⟨_, _, _, h, _⟩ <;> exact ⟨_, _, _, h⟩
    subst hv
    have ho' := ho2.kept hgr (own_neB hl ho2 (by decide))
    refine y_take 8 tab_ok rfl (by kernel_rfl) (by kernel_rfl) (by kernel_rfl) rfl (by kernel_rfl) rfl hy3 rfl rfl rfl (rfl) ?_
    refine y_one 10 (by kernel_rfl) (y_op0 10 tab_ok rfl rfl rfl ?_)
    refine And.intro rfl (And.intro rfl (And.intro (own_cells4 ho') (And.intro (.inl (by kernel_rfl)) ?_)))
    exact y_endx _ (by kernel_rfl) ⟨rfl, rfl, rfl, trivial⟩ (copy_fin (w0 := w) (undrew hy3) hb (Nat.le_refl _) ho' hown)
theorem fill1 (g : Option Addr) (n c : Nat) (z : Value) : Instr.fill (fun i => some (i * 1, 1)) (madeCells #[z] 1) [(0, .slice g n c)] = some #[.slice g n c] := by
  have h : (Value.slice g n c).cells = #[.slice g n c] := rfl
  simp [Instr.fill, madeCells, h, Array.range, Array.foldl]
  rfl
theorem fillI (k : IntKind) (a : Int) (z : Value) : Instr.fill (fun i => some (i * 1, 1)) (madeCells #[z] 1) [(0, .int k a)] = some #[.int k a] := by
  have h : (Value.int k a).cells = #[.int k a] := rfl
  simp [Instr.fill, madeCells, h, Array.range, Array.foldl]
  rfl
theorem own_nb {w : World} {base e s n : Nat} {v : Value} {xs : List Value} (h : w.ownsRow base e s v n xs) {k : Nat} (hk : w.heap.size ≤ k) : v.ownBlock = none ∨ v.ownBlock ≠ some k := by
  rcases Option.eq_none_or_eq_some v.ownBlock with h0 | ⟨j, hj⟩
  · exact .inl h0
  · refine .inr (fun e => ?_)
    have := (h.lt j hj).2
    rw [hj] at e
    simp only [Option.some.injEq] at e
    omega
set_option maxRecDepth 100000 in
set_option maxHeartbeats 1000000 in
theorem copy_r5 {base : Nat} {w0 w : World} {B N b3 k : Nat} {L s : Int} {vn ve : Value} {next : List (List Int)} {fin : List Bool} (h0 : RowKit.Below w0.heap.size w0 w) (hb : base = w0.heap.size)
    (hn : Sl w vn next PRow) (hx : Box w B L s vn ve) (hC : CopyI base w b3 L s (next.take k) fin) (hb3 : w0.heap.size ≤ b3) (hk : k < next.length) (hrow : ∀ r ∈ next, r.length * 8 ≤ 140737488355328) (hnx : next.length * 24 ≤ 140737488355328)
    {Q : Exit → Act → World → Prop} {a : Act} {ops : Array Oper} {id : Nat} (hops : Sym.regionOf Try.f16.body 5 = some (id, ops))
    (hS : St Try.f16.ntmps a [(1, .pointer (some ⟨B, 0, none⟩)), (2, .pointer (some ⟨N, 0, none⟩)), (3, .pointer (some ⟨b3, 0, none⟩)), (4, .int .i64 k)])
    (hq : ∀ a' w', St Try.f16.ntmps a' [(1, .pointer (some ⟨B, 0, none⟩)), (2, .pointer (some ⟨N, 0, none⟩)), (3, .pointer (some ⟨b3, 0, none⟩)), (4, .int .i64 k)] → RowKit.Below w0.heap.size w0 w' ∧ CopyI base w' b3 L s (next.take (k + 1)) fin → Q .normal a' w') : (Code.region id ops true).wp Try.prog Q a w := by
  cases hops
  refine any_cut 10 [(1, .pointer (some ⟨B, 0, none⟩)), (2, .pointer (some ⟨N, 0, none⟩)), (3, .pointer (some ⟨b3, 0, none⟩)), (4, .int .i64 k)] (fun w' => RowKit.Below w0.heap.size w0 w' ∧ CopyI base w' b3 L s (next.take (k + 1)) fin) mixed hS ?_ hq
  have hy : RowKit.Below w.drew.heap.size w.drew w.drew := RowKit.Below.refl _ _
  have hbb : w0.heap.size ≤ base := by omega
  replace hb : base ≤ w0.heap.size := by omega
  obtain ⟨vn', ve', us, ho, hve, hvn, hlu, hus⟩ := hC.mem
  have hbw : w0.heap.size ≤ w.heap.size := h0.size
  obtain ⟨an, bn, on, cn, rfl, ha1, ha2, ha3, ha4⟩ := hn
  obtain ⟨u, hu, hpu, oku⟩ := ha4 k hk
  have hsrc := fun w1 (h : RowKit.Below w.drew.heap.size w.drew w1) => src_of (f := Value.int .i64) (hpu.keep (w := w) (show RowKit.Below w.heap.size w w1 from ⟨h.os, h.tape, h.output, h.size, h.block⟩) (fun _ _ h => h)) oku (fun _ _ h => h.1)
  have hI : ∀ x ∈ next[k], I64 x := by
    obtain ⟨_, _, _, _, _, _, _, _, h4⟩ := hpu
    intro x hx
    obtain ⟨i, hi, rfl⟩ := List.getElem_of_mem hx
    obtain ⟨_, _, h5⟩ := h4 i hi
    exact h5.2
  obtain ⟨ar, cr, rfl⟩ := hpu.len
  obtain rfl := ha1 (by omega)
  obtain ⟨gn, nn, cc, hvn'⟩ : ∃ g n c, vn' = .slice g n c := by rcases hvn.2 with ⟨h, _⟩ | ⟨_, _, _, h, _⟩ <;> exact ⟨_, _, _, h⟩
  subst hvn'
  refine y_take 0 tab_ok rfl (by kernel_rfl) (by kernel_rfl) (by kernel_rfl) rfl (by kernel_rfl) rfl hy rfl rfl rfl (rfl) ?_
  refine y_take 1 tab_ok rfl (by kernel_rfl) (by kernel_rfl) (by kernel_rfl) rfl (by kernel_rfl) rfl hy rfl rfl rfl (Exists.intro _ (And.intro (ho.cell (i := 2) rfl) rfl)) ?_
  refine y_take 3 tab_ok rfl (by kernel_rfl) (by kernel_rfl) (by kernel_rfl) rfl (by kernel_rfl) rfl hy rfl rfl rfl (rfl) ?_
  refine y_take 4 tab_ok rfl (by kernel_rfl) (by kernel_rfl) (by kernel_rfl) rfl (by kernel_rfl) rfl hy rfl rfl rfl (Exists.intro _ (And.intro (hx.c2) rfl)) ?_
  refine y_take 5 tab_ok rfl (by kernel_rfl) (by kernel_rfl) (by kernel_rfl) rfl (by kernel_rfl) rfl hy rfl rfl rfl (rfl) ?_
  refine y_take 6 tab_ok rfl (by kernel_rfl) (by kernel_rfl) (by kernel_rfl) rfl (by kernel_rfl) rfl hy rfl rfl rfl (Exists.intro _ (And.intro (rfl) (And.intro (hk) rfl))) ?_
  refine y_take 7 tab_ok rfl (by kernel_rfl) (by kernel_rfl) (by kernel_rfl) rfl (by kernel_rfl) rfl hy rfl rfl rfl (Exists.intro _ (And.intro (hu) rfl)) ?_
  refine y_one 2 (by kernel_rfl) (y_op 2 tab_ok rfl rfl rfl rfl ?_)
  refine Exists.intro [] (Exists.intro #[] (And.intro (And.intro rfl rfl) (And.intro (by decide) (And.intro (by simp [Instr.fill, madeCells]) ?_))))
  have hy1 := hy.alloc (Nat.le_refl _) (.cells #[] 3)
  refine And.intro (.inr hy1) ?_
  have hl := own_lit w.drew base 3 (Nat.le_trans hb hbw)
  have h8 := hrow _ (List.getElem_mem hk)
  have ask := ask_of (e := ⟨3, .int .i64, 1, 8, .int .i64 0⟩) hl (hsrc _ hy1) rfl (fun _ => rfl) (by omega) (by show (0 + _) * 8 ≤ _; omega) (Nat.le_trans (Nat.le_trans hb hbw) hy1.size)
  refine y_one 8 (by kernel_rfl) (y_op 8 tab_ok rfl rfl rfl rfl ?_)
  refine Exists.intro _ (Exists.intro _ (Exists.intro _ (Exists.intro _ (Exists.intro _ (And.intro (ask) (And.intro (fun _ h => h.symm) (And.intro (by decide) ?_)))))))
  rintro v' w2 hown hgr - -
  have hy2 : RowKit.Below w.drew.heap.size w.drew w2 := below_of_grown hy1 hgr (fun k hk => by cases hk; exact Nat.le_refl _)
  rw [Nat.zero_add, List.nil_append] at hown
  refine And.intro (.inr hy2) ?_
  obtain ⟨g, n, c, hv⟩ : ∃ g n c, v' = .slice g n c := by rcases hown.2 with ⟨h, _⟩ | ⟨_, _, _, h, _⟩ <;> exact ⟨_, _, _, h⟩
  subst hv
  refine y_one 9 (by kernel_rfl) (y_op 9 tab_ok rfl rfl rfl rfl ?_)
  refine Exists.intro [(0, .slice g n c)] (Exists.intro #[.slice g n c] (And.intro (And.intro rfl rfl) (And.intro (by decide) (And.intro (fill1 _ _ _ _) ?_))))
  have hy3 := hy2.alloc hy2.size (.cells #[.slice g n c] 26)
  refine And.intro (.inr hy3) ?_
  refine y_one 10 (by kernel_rfl) (y_op 10 tab_ok rfl rfl rfl rfl ?_)
  have hvn3 := ((hvn.drew.alloc (.cells #[] 3)).kept hgr (own_nb hvn.drew (Nat.le_refl _))).alloc (.cells #[.slice g n c] 26)
  have hve3 := ((hve.drew.alloc (.cells #[] 3)).kept hgr (own_nb hve.drew (Nat.le_refl _))).alloc (.cells #[.slice g n c] 26)
  have hu3 : ∀ u q xs, w.ownsRow base 3 1 u q xs → ((w2.alloc (.cells #[.slice g n c] 26)).ownsRow base 3 1 u q xs) := fun u q xs h => ((h.drew.alloc (.cells #[] 3)).kept hgr (own_nb h.drew (Nat.le_refl _))).alloc (.cells #[.slice g n c] 26)
  have hown3 := hown.alloc (.cells #[.slice g n c] 26)
  have hkk : (next.take k).length = k := by simp; omega
  have ask2 : AppAsk (w2.alloc (.cells #[.slice g n c] 26)) ⟨26, .slice 3, 1, 24, .slice none 0 0⟩ (.slice gn nn cc) (next.take k).length us (.slice (some ⟨w2.heap.size, 0, none⟩) 1 1) 1 [.slice g n c] base :=
    ⟨hvn3, .inr ⟨_, 0, _, rfl, cell_alloc_new rfl, trivial⟩, rfl, (by simp [Value.oneCell']), (by rw [hkk]; omega), (by rw [hkk]; show (k + 1) * 24 ≤ _; omega), Nat.le_trans (Nat.le_trans hb hbw) hy3.size⟩
  refine Exists.intro _ (Exists.intro _ (Exists.intro _ (Exists.intro _ (Exists.intro _ (And.intro (ask2) (And.intro (fun _ h => h.symm) (And.intro (by decide) ?_)))))))
  rintro v' w4 hown4 hgr4 - -
  refine And.intro (.inl (by kernel_rfl)) ?_
  refine y_one 11 (by kernel_rfl) (y_op 11 tab_ok rfl rfl rfl rfl ?_)
  refine And.intro (.inl (by kernel_rfl)) ?_
  refine y_one 12 (by kernel_rfl) (y_op0 12 tab_ok rfl rfl rfl ?_)
  have ho3 : OwnB (w2.alloc (.cells #[.slice g n c] 26)) b3 25 [.int .i64 L, .int .i64 s, .slice gn nn cc, ve'] := by
    have e1 : OwnB (w.drew.alloc (.cells #[] 3)) b3 25 _ := OwnB.kept (w := w.drew) ho (grown_alloc _ _) (by simp)
    exact (e1.kept hgr (by have := ho.lt; have hs : w.drew.heap.size = w.heap.size := rfl; simp only [Value.ownBlock, ne_eq, Option.some.injEq]; omega)).kept (row := none) (grown_alloc _ _) (by simp)
  have ho4 := ho3.kept hgr4 (own_neB hvn3 ho3 (by decide))
  have hve4 := hve3.kept hgr4 (own_ne hvn3 hve3 (by decide))
  have hu4 : ∀ u q xs, w.ownsRow base 3 1 u q xs → w4.ownsRow base 3 1 u q xs := fun u q xs h => (hu3 u q xs h).kept hgr4 (own_ne hvn3 (hu3 u q xs h) (by decide))
  have hown4' := hown3.kept hgr4 (own_ne hvn3 hown3 (by decide))
  obtain ⟨g4, n4, c4, hv4⟩ : ∃ g n c, v' = .slice g n c := by rcases hown4.2 with ⟨h, _⟩ | ⟨_, _, _, h, _⟩ <;> exact ⟨_, _, _, h⟩
  subst hv4
  refine And.intro rfl (And.intro rfl (And.intro ⟨_, ho4.cell (i := 2) rfl⟩ (And.intro (ho4.free 2) (And.intro (.inl (by kernel_rfl)) ?_))))
  refine y_end (by kernel_rfl) ⟨rfl, rfl, rfl, rfl, trivial⟩ (show RowKit.Below w0.heap.size w0 (w4.setCell ⟨b3, 2, none⟩ (.slice g4 n4 c4)) ∧ CopyI base (w4.setCell ⟨b3, 2, none⟩ (.slice g4 n4 c4)) b3 L s (next.take (k + 1)) fin from ⟨?_, ?_⟩)
  · have e1 : RowKit.Below w0.heap.size w0 (w2.alloc (.cells #[.slice g n c] 26)) := below_trans h0 (undrew hy3)
    have e2 := below_of_grown e1 hgr4 (fun q hq => Nat.le_trans hbb (hvn3.lt q hq).1)
    exact below_of_grown e2 (grown_set _ b3 2 _) (fun q hq => by cases hq; exact hb3)
  · have hg5 := grown_set w4 b3 2 (.slice g4 n4 c4)
    have hnb : ∀ {e q : Nat} {v : Value} {xs : List Value}, w4.ownsRow base e 1 v q xs → e ≠ 25 → v.ownBlock = none ∨ v.ownBlock ≠ some b3 := fun h he => .inr (fun hh => own_neB h ho4 he hh.symm)
    refine ⟨hC.b, _, _, us ++ [.slice g n c], ho4.set 2 _, hve4.kept hg5 (hnb hve4 (by decide)), ?_, ?_, ?_⟩
    · have := hown4.kept hg5 (hnb hown4 (by decide))
      rw [hkk] at this
      simpa [hkk, List.length_take, Nat.min_eq_left (show k + 1 ≤ next.length by omega)] using this
    · simp only [List.length_append, hlu, List.length_take, List.length_cons, List.length_nil]; omega
    · intro i hi
      have hi' : i < k + 1 := by simp only [List.length_take] at hi; omega
      rcases Nat.lt_or_ge i k with hlt | hge
      · obtain ⟨u, hu1, hu2, hu3⟩ := hus i (by omega)
        refine ⟨u, ?_, ?_, ?_⟩
        · rw [List.getElem?_append_left (by omega)]; exact hu1
        · have e1 := (hu4 _ _ _ hu2).kept hg5 (hnb (hu4 _ _ _ hu2) (by decide))
          simpa using e1
        · simpa using hu3
      · obtain rfl : i = k := by omega
        refine ⟨.slice g n c, ?_, ?_, ?_⟩
        · rw [List.getElem?_append_right (by omega)]; simp [hlu, hkk]
        · have e1 := hown4'.kept hg5 (hnb hown4' (by decide))
          simpa using e1
        · simpa using hI
theorem own_mono {w : World} {base base' e s n : Nat} {v : Value} {xs : List Value} (h : w.ownsRow base e s v n xs) (hb : base' ≤ base) : w.ownsRow base' e s v n xs :=
  ⟨h.1, h.2.imp id (fun ⟨g, c, k, h1, h2, h3⟩ => ⟨g, c, k, h1, Nat.le_trans hb h2, h3⟩)⟩
theorem own_form {w : World} {base e s n : Nat} {v : Value} {xs : List Value} (h : w.ownsRow base e s v n xs) : ∃ g m c, v = .slice g m c := by
  rcases h.2 with ⟨h, _⟩ | ⟨_, _, _, h, _⟩ <;> exact ⟨_, _, _, h⟩
structure OwnM (base : Nat) (w : World) (next : List (List Int)) (fin : List Bool) (vn ve : Value) : Prop where
  e : w.ownsRow base 4 1 ve fin.length (fin.map .bool)
  n : ∃ us, us.length = next.length ∧ w.ownsRow base 26 1 vn next.length us ∧ ∀ i (h : i < next.length), ∃ u, us[i]? = some u ∧ w.ownsRow base 3 1 u next[i].length (next[i].map (Value.int .i64)) ∧ ∀ x ∈ next[i], I64 x
theorem OwnM.ma {base : Nat} {w : World} {L s : Int} {next : List (List Int)} {fin : List Bool} {vn ve : Value} (h : OwnM base w next fin vn ve) (hL : I64 L) (hs : I64 s) : Ma w L s next fin vn ve := by
  obtain ⟨us, hl, hn, hu⟩ := h.n
  have he := sl_own (P := PBool) (l := fin) h.e rfl (fun i hi => ⟨_, by simp [hi], rfl⟩)
  have hn' := sl_own (P := PRow) (l := next) hn rfl (fun i hi => by
    obtain ⟨u, hu1, hu2, hu3⟩ := hu i hi
    refine ⟨u, hu1, ?_⟩
    exact sl_own (P := PInt) hu2 rfl (fun j hj => ⟨_, by simp [hj], rfl, hu3 _ (List.getElem_mem hj)⟩))
  exact ⟨hn'.1, he.1, hL, hs, hn'.2, he.2⟩
theorem OwnB.keep {w w' : World} {n b : Nat} {T : TypeId} {vs : List Value} (h : OwnB w b T vs) (hb : RowKit.Below n w w') (hn : b < n) : OwnB w' b T vs := (hb.block b hn).trans h
set_option maxRecDepth 100000 in
theorem copy_any (L s : Int) (vn ve : Value) (next : List (List Int)) (fin : List Bool) (w : World) (hm : Ma w L s next fin vn ve) (hfin : fin.length ≤ 140737488355328) (hrow : ∀ r ∈ next, r.length * 8 ≤ 140737488355328) (hnx : next.length * 24 ≤ 140737488355328) :
    Calls Try.prog 16 #[.agg #[.int .i64 L, .int .i64 s, vn, ve]] w fun e w' => ∃ vn' ve', e = .returned (.agg #[.int .i64 L, .int .i64 s, vn', ve']) ∧ OwnM w.heap.size w' next fin vn' ve' ∧ RowKit.Below w.heap.size w w' := by
  refine Sym.enter (args := [.agg #[.int .i64 L, .int .i64 s, vn, ve]]) Try.func16 rfl rfl rfl (fun a0 hS0 => ?_)
  obtain ⟨N, hN⟩ : ∃ N, N = (w.alloc (.cells #[.int .i64 L, .int .i64 s, vn, ve] 25)).heap.size := ⟨_, rfl⟩
  refine wp_seq (seq_cut [(1, .pointer (some ⟨w.heap.size, 0, none⟩)), (2, .pointer (some ⟨N, 0, none⟩))] (· = (w.alloc (.cells #[.int .i64 L, .int .i64 s, vn, ve] 25)).alloc (.cells #[.int .i64 0, .int .i64 0, .slice none 0 0, .slice none 0 0] 25)) tab_ok hS0 ?_ (fun a wc hS hw => ?_))
  · subst hN
    refine o_new rfl rfl rfl (fun _ => rfl) ?_
    refine o_new rfl rfl rfl (fun _ => rfl) ?_
    exact o_nil ⟨⟨rfl, rfl, trivial⟩, rfl⟩
  have hB1 := below_alloc w (.cells #[.int .i64 L, .int .i64 s, vn, ve] 25)
  have hB2 := below_alloc (w.alloc (.cells #[.int .i64 L, .int .i64 s, vn, ve] 25)) (.cells #[.int .i64 0, .int .i64 0, .slice none 0 0, .slice none 0 0] 25)
  rw [← hw] at hB2
  have hB := below_trans hB1 hB2
  have hx : Box wc w.heap.size L s vn ve := (Box.new w L s vn ve 25).keep hB2
  have hoN : OwnB wc N 25 [.int .i64 0, .int .i64 0, .slice none 0 0, .slice none 0 0] := by rw [hw, hN]; exact OwnB.new _ _ _
  have hNw : w.heap.size ≤ N := by rw [hN]; exact (below_alloc w _).size
  clear hw hB1 hB2 hN
  replace hm := hm.keep hB
  refine wp_seq (copy_r1 (base := wc.heap.size) hm.e hm.oke hx (Nat.le_refl _) hfin (by rfl) hS ?_)
  rintro b3 a w2 hS ⟨hK, hC⟩
  refine wp_seq (wp_seq (seq_cut [(1, .pointer (some ⟨w.heap.size, 0, none⟩)), (2, .pointer (some ⟨N, 0, none⟩)), (3, .pointer (some ⟨b3, 0, none⟩)), (4, .int .i64 0)] (· = w2) tab_ok hS ?_ (fun a w3 hS hw => ?_)))
  · repeat (first | refine o_pure rfl rfl rfl (fun _ => rfl) ?_ | refine o_skip rfl rfl rfl ?_)
    exact o_nil ⟨⟨rfl, rfl, rfl, rfl, trivial⟩, rfl⟩
  subst hw
  refine wp_block (loop0 hS (fun g E wr => ∃ k : Nat, k ≤ next.length ∧ g = next.length - k ∧ E = [(1, .pointer (some ⟨w.heap.size, 0, none⟩)), (2, .pointer (some ⟨N, 0, none⟩)), (3, .pointer (some ⟨b3, 0, none⟩)), (4, .int .i64 k)] ∧ RowKit.Below wc.heap.size wc wr ∧ CopyI wc.heap.size wr b3 L s (next.take k) fin)
    next.length ⟨0, Nat.zero_le _, rfl, rfl, hK, by rw [List.take_zero]; exact hC⟩ ?_)
  clear hK hC
  rintro g E wr a1 ⟨k, hk, rfl, rfl, hK, hC⟩ hS
  replace hx := hx.keep hK
  replace hm := hm.keep hK
  obtain ⟨an, cn, hvn⟩ := hm.n.len
  subst hvn
  obtain ⟨hb, hhb⟩ : ∃ b, decide ((k : Int) < next.length) = b := ⟨_, rfl⟩
  refine wp_seq (wp_seq (seq_cut [(1, .pointer (some ⟨w.heap.size, 0, none⟩)), (2, .pointer (some ⟨N, 0, none⟩)), (3, .pointer (some ⟨b3, 0, none⟩)), (4, .int .i64 k), (18, .bool hb)] (· = wr) tab_ok hS ?_ (fun a w5 hS hw => ?_)))
  · repeat (first | refine o_pure rfl rfl rfl (fun _ => rfl) ?_ | refine o_skip rfl rfl rfl ?_)
    refine o_load rfl rfl rfl (fun _ => rfl) (hx.c2) ?_
    repeat (first | refine o_pure rfl rfl rfl (fun _ => rfl) ?_ | refine o_skip rfl rfl rfl ?_)
    refine o_cmp rfl rfl rfl (fun _ => rfl) (hhb) ?_
    repeat (first | refine o_pure rfl rfl rfl (fun _ => rfl) ?_ | refine o_skip rfl rfl rfl ?_)
    exact o_nil ⟨⟨rfl, rfl, rfl, rfl, rfl, trivial⟩, rfl⟩
  subst hw
  refine cond hS rfl (fun hT => ?_) (fun hF => ?_)
  case refine_2 =>
    refine wp_exit ?_
    repeat (first | refine then_exit ?_ | refine block_exit ?_ | refine block_other rfl ?_)
    obtain ⟨vn', ve', us, ho, hve, hvn, hlu, hus⟩ := hC.mem
    have hoN' := hoN.keep hK hoN.lt
    obtain rfl : k = next.length := by
      subst hF
      rw [decide_eq_false_iff_not] at hhb
      omega
    rw [List.take_length] at hC hvn hlu hus
    refine wp_seq (seq_cut [(2, .pointer (some ⟨N, 0, none⟩))] (· = w5.setCells N 0 [.int .i64 L, .int .i64 s, vn', ve']) tab_ok hS ?_ (fun a w6 hS hw => ?_))
    · refine o_loads (vs := [.int .i64 L, .int .i64 s, vn', ve']) rfl rfl rfl (fun _ => rfl) rfl (⟨ho.cell (i := 0) rfl, ho.cell (i := 1) rfl, ho.cell (i := 2) rfl, ho.cell (i := 3) rfl, trivial⟩) ?_
      refine o_step0 rfl rfl (And.intro rfl (And.intro ?_ (And.intro (own_cells4 hoN') ?_)))
      · obtain ⟨_, _, _, rfl⟩ := own_form hve
        obtain ⟨_, _, _, rfl⟩ := own_form hvn
        rfl
      exact o_nil ⟨⟨rfl, trivial⟩, rfl⟩
    subst hw
    have hg := grown_sets N [.int .i64 L, .int .i64 s, vn', ve'] 0 w5
    have hnb : ∀ {e q : Nat} {v : Value} {xs : List Value}, w5.ownsRow wc.heap.size e 1 v q xs → e ≠ 25 → v.ownBlock = none ∨ v.ownBlock ≠ some N := fun h he => .inr (fun hh => own_neB h hoN' he hh.symm)
    have hm5 : OwnM w.heap.size (w5.setCells N 0 [.int .i64 L, .int .i64 s, vn', ve']) next fin vn' ve' :=
      ⟨own_mono (hve.kept hg (hnb hve (by decide))) hB.size, us, hlu, own_mono (hvn.kept hg (hnb hvn (by decide))) hB.size, fun i hi => by
        obtain ⟨u, h1, h2, h3⟩ := hus i hi
        exact ⟨u, h1, own_mono (h2.kept hg (hnb h2 (by decide))) hB.size, h3⟩⟩
    have hoF : OwnB (w5.setCells N 0 [.int .i64 L, .int .i64 s, vn', ve']) N 25 [.int .i64 L, .int .i64 s, vn', ve'] := hoN'.sets rfl
    refine wp_ret ?_
    repeat (first | refine then_ret ?_ | refine block_ret ?_)
    refine retc1 tab_ok hS rfl rfl rfl rfl (o := 0) (vs := [.int .i64 L, .int .i64 s, vn', ve']) ⟨hoF.cell (i := 0) rfl, hoF.cell (i := 1) rfl, hoF.cell (i := 2) rfl, hoF.cell (i := 3) rfl, trivial⟩ rfl ⟨vn', ve', rfl, hm5, ?_⟩
    exact below_of_grown (below_trans hB hK) hg (fun q hq => by cases hq; exact hNw)
  subst hT
  rw [decide_eq_true_eq] at hhb
  have hlt : k < next.length := by omega
  refine wp_skip ?_
  refine wp_seq (wp_block ?_)
  refine copy_r5 hK rfl hm.n hx hC hC.b hlt hrow hnx (by rfl) (hS.sub ⟨rfl, rfl, rfl, rfl, trivial⟩) ?_
  rintro a w6 hS ⟨hK, hC⟩
  refine block_normal ?_
  refine then_normal ?_
  refine seq_cut [(1, .pointer (some ⟨w.heap.size, 0, none⟩)), (2, .pointer (some ⟨N, 0, none⟩)), (3, .pointer (some ⟨b3, 0, none⟩)), (4, .int .i64 ((k + 1 : Nat) : Int))] (· = w6) tab_ok hS ?_ (fun a w8 hS hw8 => ?_)
  · repeat (first | refine o_pure rfl rfl rfl (fun _ => rfl) ?_ | refine o_skip rfl rfl rfl ?_)
    refine o_num rfl rfl rfl (fun _ => rfl) (wrap_succ (by omega)) ?_
    repeat (first | refine o_pure rfl rfl rfl (fun _ => rfl) ?_ | refine o_skip rfl rfl rfl ?_)
    exact o_nil ⟨⟨rfl, rfl, rfl, rfl, trivial⟩, rfl⟩
  subst hw8
  exact ⟨next.length - (k + 1), _, by omega, ⟨k + 1, by omega, rfl, rfl, hK, hC⟩, hS⟩
end Go.Proofs.Ythkabbgaikociaa
namespace Go.Proofs.Ythkabbgaikociaa
open Go Sym
abbrev ints (l : List Int) : List Value := l.map (Value.int .i64)
abbrev bools (l : List Bool) : List Value := l.map Value.bool
structure Ow where
  v : Value
  e : Nat
  s : Nat
  n : Nat
  xs : List Value
def Ow.ok (base : Nat) (w : World) (o : Ow) : Prop := w.ownsRow base o.e o.s o.v o.n o.xs
def apart (a b : Value) : Prop := a.ownBlock = none ∨ a.ownBlock ≠ b.ownBlock
theorem apart.symm {a b : Value} (h : apart a b) : apart b a := by
  unfold apart at *
  rcases h with h | h
  · cases hb : b.ownBlock with
    | none => exact .inl rfl
    | some k => exact .inr (by rw [h]; simp)
  · exact .inr fun e => h e.symm
def Rows (base : Nat) (w : World) (l : List Ow) : Prop := (∀ (i : Nat) (o : Ow), l[i]? = some o → o.ok base w) ∧ ∀ (i j : Nat) (a b : Ow), i ≠ j → l[i]? = some a → l[j]? = some b → apart a.v b.v
abbrev oI (v : Value) (l : List Int) : Ow := ⟨v, 3, 1, l.length, ints l⟩
abbrev oB (v : Value) (l : List Bool) : Ow := ⟨v, 4, 1, l.length, bools l⟩
section
variable {base : Nat} {w w' : World} {l : List Ow}
theorem Rows.nil (base : Nat) (w : World) : Rows base w [] := ⟨fun i o h => by simp at h, fun i j a b _ h => by simp at h⟩
theorem Rows.turn (h : Rows base w l) {i : Nat} {o o' : Ow} (hi : l[i]? = some o) (hg : w.grownBy w' o.v.ownBlock) (ho : o'.ok base w') (hat : o'.v.ownBlock = o.v.ownBlock ∨ ∃ k, o'.v.ownBlock = some k ∧ w.heap.size ≤ k) : Rows base w' (l.set i o') := by
  obtain ⟨h1, h2⟩ := h
  have hil := (List.getElem?_eq_some_iff.1 hi).1
  have new : ∀ (j : Nat) (b : Ow), i ≠ j → l[j]? = some b → apart o'.v b.v := fun j b hij hb => by
    rcases hat with e | ⟨k, e, hk⟩
    · have := h2 i j o b hij hi hb
      unfold apart at *
      rw [e]; exact this
    · refine .inr fun e2 => ?_
      have := ((h1 j b hb).lt k (by rw [← e2, e])).2
      omega
  refine ⟨fun k a ha => ?_, fun p q a b hpq ha hb => ?_⟩
  · rw [List.getElem?_set] at ha
    split at ha
    · rename_i e
      subst e
      simp only [Option.some.injEq] at ha
      rw [← ha]; exact ho
    · rename_i e
      exact (h1 k a ha).kept hg (h2 k i a o (fun e2 => e e2.symm) ha hi)
  · rw [List.getElem?_set] at ha hb
    split at ha
    · rename_i e
      subst e
      simp only [Option.some.injEq] at ha
      rw [if_neg hpq] at hb
      rw [← ha]; exact new q b hpq hb
    · rename_i e
      split at hb
      · rename_i e2
        subst e2
        simp only [Option.some.injEq] at hb
        rw [← hb]; exact (new p a e ha).symm
      · exact h2 p q a b hpq ha hb
theorem Rows.kept (h : Rows base w l) (hg : w.grownBy w' none) : Rows base w' l := ⟨fun i o ho => (h.1 i o ho).kept hg (by cases o.v.ownBlock <;> simp), h.2⟩
theorem Rows.keptLow (h : Rows base w l) {row : Option Nat} (hg : w.grownBy w' row) (hr : ∀ k, row = some k → k < base) : Rows base w' l := ⟨fun i o ho => (h.1 i o ho).kept hg (by
  cases hb : o.v.ownBlock with
  | none => exact .inl rfl
  | some k =>
    refine .inr fun e => ?_
    have h1 := hr k e.symm
    have h2 := ((h.1 i o ho).lt k hb).1
    omega), h.2⟩
theorem grown_below (h : RowKit.Below w.heap.size w w') : w.grownBy w' none := ⟨h.os, h.tape, h.output, h.size, fun q hq _ => h.block q hq⟩
theorem Rows.below (h : Rows base w l) (hb : RowKit.Below w.heap.size w w') : Rows base w' l := h.kept (grown_below hb)
theorem Rows.new (h : Rows base w l) (hg : w.grownBy w' none) {o : Ow} (ho : o.ok base w') (hat : o.v.ownBlock = none ∨ ∃ k, o.v.ownBlock = some k ∧ w.heap.size ≤ k) : Rows base w' (o :: l) := by
  have hk := h.kept hg
  have new : ∀ (j : Nat) (b : Ow), l[j]? = some b → apart o.v b.v := fun j b hb => by
    rcases hat with e | ⟨k, e, hk⟩
    · exact .inl e
    · refine .inr fun e2 => ?_
      have := ((h.1 j b hb).lt k (by rw [← e2, e])).2
      omega
  refine ⟨fun i a ha => ?_, fun i j a b hij ha hb => ?_⟩
  · cases i with
    | zero => simp only [List.getElem?_cons_zero, Option.some.injEq] at ha; rw [← ha]; exact ho
    | succ i => exact hk.1 i a (by simpa using ha)
  · cases i with
    | zero =>
      cases j with
      | zero => exact (hij rfl).elim
      | succ j =>
        simp only [List.getElem?_cons_zero, Option.some.injEq] at ha
        rw [← ha]; exact new j b (by simpa using hb)
    | succ i =>
      cases j with
      | zero =>
        simp only [List.getElem?_cons_zero, Option.some.injEq] at hb
        rw [← hb]; exact (new i a (by simpa using ha)).symm
      | succ j => exact hk.2 i j a b (fun e => hij (by rw [e])) (by simpa using ha) (by simpa using hb)
theorem Rows.alloc (h : Rows base w l) (o : Obj) : Rows base (w.alloc o) l := h.kept (World.grownBy_alloc w o none)
theorem Rows.erase (h : Rows base w l) (i : Nat) : Rows base w (l.eraseIdx i) := by
  refine ⟨fun k o ho => ?_, fun p q a b hpq ha hb => ?_⟩
  · rw [List.getElem?_eraseIdx] at ho
    split at ho
    · exact h.1 _ _ ho
    · exact h.1 _ _ ho
  · rw [List.getElem?_eraseIdx] at ha hb
    split at ha <;> split at hb
    · exact h.2 _ _ _ _ hpq ha hb
    · exact h.2 _ _ _ _ (by omega) ha hb
    · exact h.2 _ _ _ _ (by omega) ha hb
    · exact h.2 _ _ _ _ (by omega) ha hb
theorem Rows.tail {o : Ow} (h : Rows base w (o :: l)) : Rows base w l := h.erase 0
theorem Rows.cons2 {a b : Ow} (h : Rows base w (a :: b :: l)) : Rows base w (b :: a :: l) := by
  let f : Nat → Nat := fun i => match i with | 0 => 1 | 1 => 0 | n + 2 => n + 2
  have hf : ∀ i o, (b :: a :: l)[i]? = some o → (a :: b :: l)[f i]? = some o := fun i o ho => by
    match i, ho with
    | 0, ho => exact ho
    | 1, ho => exact ho
    | n + 2, ho => exact ho
  have inj : ∀ i j, i ≠ j → f i ≠ f j := fun i j hij => by
    match i, j, hij with
    | 0, 0, h => exact (h rfl).elim
    | 0, 1, _ => simp [f]
    | 0, n + 2, _ => simp [f]
    | 1, 0, _ => simp [f]
    | 1, 1, h => exact (h rfl).elim
    | 1, n + 2, _ => simp [f]
    | m + 2, 0, _ => simp [f]
    | m + 2, 1, _ => simp [f]
    | m + 2, n + 2, h => simp only [f]; omega
  exact ⟨fun i o ho => h.1 (f i) o (hf i o ho), fun i j x y hij hx hy => h.2 (f i) (f j) x y (inj i j hij) (hf i x hx) (hf j y hy)⟩
theorem Rows.mono {base' : Nat} (h : Rows base w l) (hb : base' ≤ base) : Rows base' w l := ⟨fun i o ho => own_mono (h.1 i o ho) hb, h.2⟩
theorem Rows.lt (h : Rows base w l) {i : Nat} {o : Ow} (hi : l[i]? = some o) {k : Nat} (hk : o.v.ownBlock = some k) : base ≤ k ∧ k < w.heap.size := (h.1 i o hi).lt k hk
theorem Rows.low (h : Rows base w l) {i : Nat} {o : Ow} (hi : l[i]? = some o) {w0 : World} (hB : RowKit.Below base w0 w) (hs : base ≤ w.heap.size) (hg : w.grownBy w' o.v.ownBlock) : RowKit.Below base w0 w' :=
  ⟨hg.os.trans hB.os, hg.tape.trans hB.tape, hg.output.trans hB.output, Nat.le_trans hB.size hg.size, fun k hk => by
    refine (hg.block k (Nat.lt_of_lt_of_le hk hs) (fun e => ?_)).trans (hB.block k hk)
    have := (h.lt hi e.symm).1
    omega⟩
theorem Rows.cellI (h : Rows base w l) {i g n c : Nat} {xs : List Int} (hi : l[i]? = some (oI (.slice (some ⟨g, 0, none⟩) n c) xs)) {j : Nat} (hj : j < xs.length) : w.cell? ⟨g, 0 + j, none⟩ = some (.int .i64 xs[j]) := by
  have := h.1 i _ hi
  have hn : n = xs.length := by
    rcases this.2 with ⟨e, _⟩ | ⟨_, _, _, e, _⟩
    · cases e
    · simp only [Value.slice.injEq] at e; exact e.2.1
  subst hn
  rw [Nat.zero_add, World.ownsRow.cellAt this j (by simpa using hj)]
  simp [hj]
theorem Rows.len (h : Rows base w l) {i g n n' c e s : Nat} {xs : List Value} (hi : l[i]? = some ⟨.slice (some ⟨g, 0, none⟩) n c, e, s, n', xs⟩) : n = n' := by
  rcases (h.1 i _ hi).2 with ⟨e, _⟩ | ⟨_, _, _, e, _⟩
  · cases e
  · simp only [Value.slice.injEq] at e; exact e.2.1
theorem Rows.freeI (h : Rows base w l) {i g n n' c e s : Nat} {xs : List Value} (hi : l[i]? = some ⟨.slice (some ⟨g, 0, none⟩) n c, e, s, n', xs⟩) (j : Nat) : w.frozen? ⟨g, 0 + j, none⟩ = false := by
  obtain rfl := h.len hi
  rw [Nat.zero_add]; exact World.ownsRow.frozenAt (h.1 i _ hi) j
theorem Rows.storeI (h : Rows base w l) {i g n c : Nat} {xs : List Int} (hi : l[i]? = some (oI (.slice (some ⟨g, 0, none⟩) n c) xs)) (j : Nat) (x : Int) :
    Rows base (w.setCell ⟨g, 0 + j, none⟩ (.int .i64 x)) (l.set i (oI (.slice (some ⟨g, 0, none⟩) n c) (xs.set j x))) ∧ w.grownBy (w.setCell ⟨g, 0 + j, none⟩ (.int .i64 x)) (some g) := by
  obtain rfl := h.len hi
  rw [Nat.zero_add]
  obtain ⟨h1, h2⟩ := World.ownsRow.stored (h.1 i _ hi) j (.int .i64 x)
  refine ⟨h.turn hi h2 ?_ (.inl rfl), h2⟩
  show World.ownsRow _ base _ 1 _ (xs.set j x).length (ints (xs.set j x))
  rw [List.length_set, show ints (xs.set j x) = (ints xs).set j (.int .i64 x) from List.map_set ..]
  exact h1
theorem Rows.makeI (h : Rows base w l) (hb : base ≤ w.heap.size) {n : Nat} (hn : n ≤ 9223372036854775807) : Rows base (w.alloc (.cells (madeCells #[.int .i64 0] n) 3)) (oI (.slice (some ⟨w.heap.size, 0, none⟩) n n) (List.replicate n 0) :: l) := by
  refine h.new (World.grownBy_alloc w _ none) ?_ (.inr ⟨_, rfl, Nat.le_refl _⟩)
  have h1 := World.ownsRow_lit (base := base) (e := 3) (size := 1) w (madeCells #[.int .i64 0] n) n hb (by unfold maxLen; exact hn) (by simp [madeCells])
  rw [toList_madeCells_one] at h1
  simpa [ints, Ow.ok] using h1
theorem Rows.litI (h : Rows base w l) (hb : base ≤ w.heap.size) : Rows base (w.alloc (.cells #[] 3)) (oI (.slice (some ⟨w.heap.size, 0, none⟩) 0 0) [] :: l) :=
  h.new (World.grownBy_alloc w _ none) (own_lit w base 3 hb) (.inr ⟨_, rfl, Nat.le_refl _⟩)
theorem Rows.appI {w2 : World} (h : Rows base w l) {i : Nat} {v v' : Value} {xs : List Int} {x : Int} (hi : l[i]? = some (oI v xs)) (hown : w2.ownsRow base 3 1 v' (xs.length + 1) (ints xs ++ [.int .i64 x])) (hgr : w.grownBy w2 v.ownBlock) (hat : v'.ownBlock = v.ownBlock ∨ v'.ownBlock = some w.heap.size) :
    Rows base w2 (l.set i (oI v' (xs ++ [x]))) := by
  refine h.turn hi hgr ?_ (hat.imp id fun e => ⟨_, e, Nat.le_refl _⟩)
  show World.ownsRow _ base _ 1 _ (xs ++ [x]).length (ints (xs ++ [x]))
  rw [List.length_append, show ints (xs ++ [x]) = ints xs ++ [.int .i64 x] by simp]
  exact hown
theorem Rows.slI (h : Rows base w l) {i : Nat} {v : Value} {xs : List Int} (hi : l[i]? = some (oI v xs)) (hx : ∀ x ∈ xs, I64 x) : Sl w v xs PInt ∧ Ok v :=
  sl_own (P := PInt) (h.1 i _ hi) rfl fun j hj => ⟨_, by simp [hj], rfl, hx _ (List.getElem_mem hj)⟩
theorem Rows.form (h : Rows base w l) {i : Nat} {v : Value} {e s n : Nat} {xs : List Value} (hi : l[i]? = some ⟨v, e, s, n, xs⟩) : v = .slice none 0 0 ∧ n = 0 ∨ ∃ g c, v = .slice (some ⟨g, 0, none⟩) n c ∧ n ≤ c ∧ c ≤ 9223372036854775807 := by
  rcases (h.1 i _ hi).2 with ⟨e, h0⟩ | ⟨g, cap, cur, e, _, hg, h1, h2, _⟩
  · exact .inl ⟨e, h0⟩
  · exact .inr ⟨g, cap, e, h1, h2⟩
theorem Rows.cellB (h : Rows base w l) {i g n c : Nat} {xs : List Bool} (hi : l[i]? = some (oB (.slice (some ⟨g, 0, none⟩) n c) xs)) {j : Nat} (hj : j < xs.length) : w.cell? ⟨g, 0 + j, none⟩ = some (.bool xs[j]) := by
  have := h.1 i _ hi
  have hn : n = xs.length := by
    rcases this.2 with ⟨e, _⟩ | ⟨_, _, _, e, _⟩
    · cases e
    · simp only [Value.slice.injEq] at e; exact e.2.1
  subst hn
  rw [Nat.zero_add, World.ownsRow.cellAt this j (by simpa using hj)]
  simp [hj]
theorem Rows.storeB (h : Rows base w l) {i g n c : Nat} {xs : List Bool} (hi : l[i]? = some (oB (.slice (some ⟨g, 0, none⟩) n c) xs)) (j : Nat) (x : Bool) :
    Rows base (w.setCell ⟨g, 0 + j, none⟩ (.bool x)) (l.set i (oB (.slice (some ⟨g, 0, none⟩) n c) (xs.set j x))) ∧ w.grownBy (w.setCell ⟨g, 0 + j, none⟩ (.bool x)) (some g) := by
  obtain rfl := h.len hi
  rw [Nat.zero_add]
  obtain ⟨h1, h2⟩ := World.ownsRow.stored (h.1 i _ hi) j (.bool x)
  refine ⟨h.turn hi h2 ?_ (.inl rfl), h2⟩
  show World.ownsRow _ base _ 1 _ (xs.set j x).length (bools (xs.set j x))
  rw [List.length_set, show bools (xs.set j x) = (bools xs).set j (.bool x) from List.map_set ..]
  exact h1
theorem Rows.makeB (h : Rows base w l) (hb : base ≤ w.heap.size) {n : Nat} (hn : n ≤ 9223372036854775807) : Rows base (w.alloc (.cells (madeCells #[.bool false] n) 4)) (oB (.slice (some ⟨w.heap.size, 0, none⟩) n n) (List.replicate n false) :: l) := by
  refine h.new (World.grownBy_alloc w _ none) ?_ (.inr ⟨_, rfl, Nat.le_refl _⟩)
  have h1 := World.ownsRow_lit (base := base) (e := 4) (size := 1) w (madeCells #[.bool false] n) n hb (by unfold maxLen; exact hn) (by simp [madeCells])
  rw [toList_madeCells_one] at h1
  simpa [bools, Ow.ok] using h1
theorem Rows.slB (h : Rows base w l) {i : Nat} {v : Value} {xs : List Bool} (hi : l[i]? = some (oB v xs)) : Sl w v xs PBool ∧ Ok v :=
  sl_own (P := PBool) (h.1 i _ hi) rfl fun j hj => ⟨_, by simp [hj], rfl⟩
end
theorem Ma.cell {w : World} {L s : Int} {next : List (List Int)} {fin : List Bool} {vn ve : Value} (hm : Ma w L s next fin vn ve) {i : Nat} (hi : i < next.length) :
    ∃ b o cn, vn = .slice (some ⟨b, o, none⟩) next.length cn ∧ ∃ ar cr, w.cell? ⟨b, o + i, none⟩ = some (.slice ar next[i].length cr) ∧ (∀ c (hc : c < next[i].length), ∃ br orr, ar = some ⟨br, orr, none⟩ ∧ w.cell? ⟨br, orr + c, none⟩ = some (.int .i64 next[i][c])) := by
  obtain ⟨an, bn, on, cn, rfl, m1, m2, m3, m4⟩ := hm.n
  obtain rfl := m1 (by omega)
  obtain ⟨u, hu, hpu, -⟩ := m4 i hi
  obtain ⟨au, bu, ou, cu, rfl, u1, u2, u3, u4⟩ := hpu
  refine ⟨bn, on, cn, rfl, au, cu, hu, fun c hc => ?_⟩
  obtain rfl := u1 (by omega)
  obtain ⟨y, hy, rfl, -⟩ := u4 c hc
  exact ⟨bu, ou, rfl, hy⟩
theorem tgt_get {next : List (List Int)} {i c : Nat} (hi : i < next.length) (hc : c < next[i].length) : tgtM next i c = next[i][c] := by
  simp [tgtM, List.getD_eq_getElem?_getD, hi, hc]
theorem Ma.end {w : World} {L s : Int} {next : List (List Int)} {fin : List Bool} {vn ve : Value} (hm : Ma w L s next fin vn ve) {i : Nat} (hi : i < fin.length) :
    ∃ b o ce, ve = .slice (some ⟨b, o, none⟩) fin.length ce ∧ w.cell? ⟨b, o + i, none⟩ = some (.bool fin[i]) := by
  obtain ⟨ae, be, oe, ce, rfl, hea, he1, he2, he3⟩ := hm.e
  obtain rfl := hea (by omega)
  obtain ⟨y, hy, rfl⟩ := he3 i hi
  exact ⟨be, oe, ce, rfl, hy⟩
end Go.Proofs.Ythkabbgaikociaa
namespace Go.Proofs.Ythkabbgaikociaa
abbrev gt (l : List Nat) (i : Nat) : Nat := l.getD i 0
theorem gt_set (l : List Nat) (i v j : Nat) : gt (l.set i v) j = if i = j ∧ i < l.length then v else gt l j := by
  simp only [gt, List.getD_eq_getElem?_getD, List.getElem?_set]
  split
  · rename_i h
    subst h
    split
    · simp [*]
    · rename_i h2
      simp [h2]
  · rename_i h
    simp [h]
theorem gt_app (l k : List Nat) (j : Nat) : gt (l ++ k) j = if j < l.length then gt l j else gt k (j - l.length) := by
  simp only [gt, List.getD_eq_getElem?_getD, List.getElem?_append]
  split <;> rfl
structure Blk where
  first : Nat
  size : Nat
  marked : Nat
  parent : Nat
abbrev gb (l : List Blk) (i : Nat) : Blk := l.getD i ⟨0, 0, 0, 0⟩
theorem gb_set (l : List Blk) (i : Nat) (v : Blk) (j : Nat) : gb (l.set i v) j = if i = j ∧ i < l.length then v else gb l j := by
  simp only [gb, List.getD_eq_getElem?_getD, List.getElem?_set]
  split
  · rename_i h
    subst h
    split
    · simp [*]
    · rename_i h2
      simp [h2]
  · rename_i h
    simp [h]
theorem gb_app (l : List Blk) (v : Blk) (j : Nat) : gb (l ++ [v]) j = if j < l.length then gb l j else if j = l.length then v else ⟨0, 0, 0, 0⟩ := by
  simp only [gb, List.getD_eq_getElem?_getD, List.getElem?_append]
  split
  · rfl
  · split
    · rename_i h; simp [h]
    · rename_i h1 h2
      rw [List.getElem?_eq_none (by simp; omega)]
      rfl
structure Pt where
  st : List Nat
  pl : List Nat
  bl : List Nat
  bs : List Blk
  cs : List Nat
  ml : List Nat
structure PI (p : Pt) (N : Nat) (todo : List Nat) : Prop where
  st : p.st.length = N
  pl : p.pl.length = N
  bl : p.bl.length = N
  sp : ∀ i, i < N → gt p.st i < N ∧ gt p.pl (gt p.st i) = i
  ps : ∀ s, s < N → gt p.pl s < N ∧ gt p.st (gt p.pl s) = s
  ib : ∀ s, s < N → gt p.bl s < p.bs.length
  inn : ∀ s, s < N → (gb p.bs (gt p.bl s)).first ≤ gt p.pl s ∧ gt p.pl s < (gb p.bs (gt p.bl s)).first + (gb p.bs (gt p.bl s)).size
  bd : ∀ b, b < p.bs.length → 0 < (gb p.bs b).size ∧ (gb p.bs b).marked ≤ (gb p.bs b).size ∧ (gb p.bs b).first + (gb p.bs b).size ≤ N
  own : ∀ b, b < p.bs.length → ∀ i, (gb p.bs b).first ≤ i → i < (gb p.bs b).first + (gb p.bs b).size → gt p.bl (gt p.st i) = b
  tm : ∀ b, b ∈ todo ↔ b < p.bs.length ∧ 0 < (gb p.bs b).marked
  nd : todo.Nodup
def Pt.M (p : Pt) (s : Nat) : Prop := gt p.pl s < (gb p.bs (gt p.bl s)).first + (gb p.bs (gt p.bl s)).marked
def Pt.mark (p : Pt) (s : Nat) : Pt :=
  let own := gt p.bl s
  let b := gb p.bs own
  let to := b.first + b.marked
  let fr := gt p.pl s
  let ot := gt p.st to
  { p with ml := if b.marked = 0 then p.ml ++ [own] else p.ml, st := (p.st.set to s).set fr ot, pl := (p.pl.set s to).set ot fr, bs := p.bs.set own ⟨b.first, b.size, b.marked + 1, b.parent⟩ }
theorem PI.to {p : Pt} {N : Nat} (h : PI p N p.ml) {s : Nat} (hs : s < N) (hm : ¬ p.M s) : (gb p.bs (gt p.bl s)).first + (gb p.bs (gt p.bl s)).marked < N ∧ (gb p.bs (gt p.bl s)).marked < (gb p.bs (gt p.bl s)).size := by
  unfold Pt.M at hm
  have h1 := h.inn s hs
  have h2 := h.bd _ (h.ib s hs)
  omega
theorem mark_ok {p : Pt} {N : Nat} (h : PI p N p.ml) {s : Nat} (hs : s < N) (hm : ¬ p.M s) : PI (p.mark s) N (p.mark s).ml ∧ (∀ t, t < N → ((p.mark s).M t ↔ p.M t ∨ t = s)) := by
  have ht := h.to hs hm
  have hb := h.ib s hs
  obtain ⟨own, hown⟩ : ∃ own, gt p.bl s = own := ⟨_, rfl⟩
  obtain ⟨b, hbb⟩ : ∃ b, gb p.bs own = b := ⟨_, rfl⟩
  obtain ⟨to, hto⟩ : ∃ to, b.first + b.marked = to := ⟨_, rfl⟩
  obtain ⟨fr, hfr⟩ : ∃ fr, gt p.pl s = fr := ⟨_, rfl⟩
  obtain ⟨ot, hot⟩ : ∃ ot, gt p.st to = ot := ⟨_, rfl⟩
  have hmk : p.mark s = { p with ml := if b.marked = 0 then p.ml ++ [own] else p.ml, st := (p.st.set to s).set fr ot, pl := (p.pl.set s to).set ot fr, bs := p.bs.set own ⟨b.first, b.size, b.marked + 1, b.parent⟩ } := by
    simp only [Pt.mark, hown, hbb, hto, hfr, hot]
  rw [hown, hbb] at ht
  rw [hown] at hb
  have hps := h.ps s hs
  rw [hfr] at hps
  have hinn := h.inn s hs
  rw [hown, hbb, hfr] at hinn
  have hbd := h.bd own hb
  rw [hbb] at hbd
  have hM : ¬ fr < to := by
    unfold Pt.M at hm
    rw [hown, hbb, hfr, hto] at hm
    exact hm
  have hspt := h.sp to (by omega)
  rw [hot] at hspt
  have hoto : gt p.bl ot = own := by rw [← hot]; exact h.own own hb to (by rw [hbb]; omega) (by rw [hbb]; omega)
  rw [hmk]
  have gst : ∀ i, i < N → gt ((p.st.set to s).set fr ot) i = if fr = i then ot else if to = i then s else gt p.st i := fun i hi => by
    rw [gt_set, gt_set, List.length_set, h.st]
    have : fr < N := hps.1
    have : to < N := by omega
    simp only [*, and_true]
  have gpl : ∀ t, t < N → gt ((p.pl.set s to).set ot fr) t = if ot = t then fr else if s = t then to else gt p.pl t := fun i hi => by
    rw [gt_set, gt_set, List.length_set, h.pl]
    have := hspt.1
    simp only [*, and_true]
  have gbs : ∀ c, gb (p.bs.set own ⟨b.first, b.size, b.marked + 1, b.parent⟩) c = if own = c then ⟨b.first, b.size, b.marked + 1, b.parent⟩ else gb p.bs c := fun c => by
    rw [gb_set]
    simp only [hb, and_true]
  have hsz : ∀ c, (gb (p.bs.set own ⟨b.first, b.size, b.marked + 1, b.parent⟩) c).first = (gb p.bs c).first ∧ (gb (p.bs.set own ⟨b.first, b.size, b.marked + 1, b.parent⟩) c).size = (gb p.bs c).size := fun c => by
    rw [gbs]
    split
    · rename_i e; subst e; rw [hbb]; exact ⟨rfl, rfl⟩
    · exact ⟨rfl, rfl⟩
  have inj : ∀ i j, i < N → j < N → gt p.st i = gt p.st j → i = j := fun i j hi hj e => by rw [← (h.sp i hi).2, e, (h.sp j hj).2]
  have injp : ∀ i j, i < N → j < N → gt p.pl i = gt p.pl j → i = j := fun i j hi hj e => by rw [← (h.ps i hi).2, e, (h.ps j hj).2]
  have inn2 : ∀ t, t < N → (gb p.bs (gt p.bl t)).first ≤ gt ((p.pl.set s to).set ot fr) t ∧ gt ((p.pl.set s to).set ot fr) t < (gb p.bs (gt p.bl t)).first + (gb p.bs (gt p.bl t)).size := fun t htN => by
    rw [gpl t htN]
    split
    · rename_i e; subst e; rw [hoto, hbb]; omega
    · split
      · rename_i e; subst e; rw [hown, hbb]; omega
      · exact h.inn t htN
  refine ⟨⟨by simp [h.st], by simp [h.pl], h.bl, fun i hi => ?_, fun t htN => ?_, fun t htN => by simpa using h.ib t htN, fun t htN => ?_, fun c hc => ?_, fun c hc i h1 h2 => ?_, fun c => ?_, ?_⟩, fun t htN => ?_⟩
  · show gt ((p.st.set to s).set fr ot) i < N ∧ gt ((p.pl.set s to).set ot fr) (gt ((p.st.set to s).set fr ot) i) = i
    rw [gst i hi]
    split
    · rename_i e
      refine ⟨hspt.1, ?_⟩
      rw [gpl _ hspt.1, if_pos rfl]; exact e
    · rename_i e1
      split
      · rename_i e
        refine ⟨hs, ?_⟩
        rw [gpl _ hs]
        split
        · rename_i e2
          have : gt p.st to = gt p.st fr := by rw [hot, hps.2, e2]
          have := inj _ _ (by omega) hps.1 this
          omega
        · rw [if_pos rfl]; exact e
      · rename_i e2
        have hsp := h.sp i hi
        refine ⟨hsp.1, ?_⟩
        rw [gpl _ hsp.1, if_neg, if_neg]
        · exact hsp.2
        · intro e3
          apply e1
          rw [← hfr, e3]; exact hsp.2
        · intro e3
          apply e2
          have := hspt.2
          rw [e3, hsp.2] at this
          omega
  · show gt ((p.pl.set s to).set ot fr) t < N ∧ gt ((p.st.set to s).set fr ot) (gt ((p.pl.set s to).set ot fr) t) = t
    rw [gpl t htN]
    split
    · rename_i e
      refine ⟨hps.1, ?_⟩
      rw [gst _ hps.1, if_pos rfl]; exact e
    · rename_i e1
      split
      · rename_i e
        refine ⟨by omega, ?_⟩
        rw [gst _ (by omega)]
        split
        · rename_i e2
          have : gt p.st to = s := by rw [← e2]; exact hps.2
          exact (e1 (by rw [← hot, this]; exact e)).elim
        · rw [if_pos rfl]; exact e
      · rename_i e2
        have hp := h.ps t htN
        refine ⟨hp.1, ?_⟩
        rw [gst _ hp.1, if_neg, if_neg]
        · exact hp.2
        · intro e3
          apply e1
          rw [← hot, e3]; exact hp.2
        · intro e3
          apply e2
          have := hps.2
          rw [e3, hp.2] at this
          omega
  · show (gb (p.bs.set own _) (gt p.bl t)).first ≤ gt ((p.pl.set s to).set ot fr) t ∧ _ < (gb (p.bs.set own _) (gt p.bl t)).first + (gb (p.bs.set own _) (gt p.bl t)).size
    rw [(hsz _).1, (hsz _).2]
    exact inn2 t htN
  · show 0 < (gb (p.bs.set own _) c).size ∧ (gb (p.bs.set own _) c).marked ≤ (gb (p.bs.set own _) c).size ∧ (gb (p.bs.set own _) c).first + (gb (p.bs.set own _) c).size ≤ N
    have hc' : c < p.bs.length := by simpa using hc
    rw [gbs]
    split
    · simp only; omega
    · exact h.bd c hc'
  · have hc' : c < p.bs.length := by simpa using hc
    have h1 : (gb p.bs c).first ≤ i := by rw [← (hsz c).1]; exact h1
    have h2 : i < (gb p.bs c).first + (gb p.bs c).size := by rw [← (hsz c).1, ← (hsz c).2]; exact h2
    have hcN := h.bd c hc'
    show gt p.bl (gt ((p.st.set to s).set fr ot) i) = c
    rw [gst i (by omega)]
    split
    · rename_i e
      have := h.own c hc' i h1 h2
      rw [← e, hps.2, hown] at this
      rw [hoto]; exact this
    · split
      · rename_i e
        have := h.own c hc' i h1 h2
        rw [← e, hot, hoto] at this
        rw [hown]; exact this
      · exact h.own c hc' i h1 h2
  · show c ∈ (if b.marked = 0 then p.ml ++ [own] else p.ml) ↔ c < (p.bs.set own _).length ∧ 0 < (gb (p.bs.set own _) c).marked
    rw [gbs, List.length_set]
    have htm := h.tm c
    split
    · rename_i hz
      rw [List.mem_append, List.mem_singleton]
      split
      · rename_i e; subst e; simp [hb]
      · rename_i e
        rw [htm]
        constructor
        · rintro (h | h)
          · exact h
          · exact (e h.symm).elim
        · exact .inl
    · rename_i hz
      rw [htm]
      split
      · rename_i e; subst e
        rw [hbb]
        simp only [hb, true_and]
        omega
      · rfl
  · show (if b.marked = 0 then p.ml ++ [own] else p.ml).Nodup
    split
    · rename_i hz
      rw [List.nodup_append]
      refine ⟨h.nd, by simp, fun x hx y hy e => ?_⟩
      rw [List.mem_singleton] at hy
      have := (h.tm x).1 hx
      rw [e, hy, hbb] at this
      omega
    · exact h.nd
  · show gt ((p.pl.set s to).set ot fr) t < (gb (p.bs.set own _) (gt p.bl t)).first + (gb (p.bs.set own _) (gt p.bl t)).marked ↔ gt p.pl t < (gb p.bs (gt p.bl t)).first + (gb p.bs (gt p.bl t)).marked ∨ t = s
    rw [gpl t htN, gbs]
    by_cases e1 : ot = t
    · subst e1
      rw [if_pos rfl, hoto, if_pos rfl, hbb]
      show fr < b.first + (b.marked + 1) ↔ _
      have h3 : gt p.pl ot = to := hspt.2
      constructor
      · intro hlt
        have e : fr = to := by omega
        refine .inr ?_
        rw [← hot, ← e]; exact hps.2
      · rintro (h4 | h4)
        · omega
        · rw [h4, hfr] at h3; omega
    · rw [if_neg e1]
      by_cases e2 : s = t
      · subst e2
        rw [if_pos rfl, hown, if_pos rfl]
        simp
        omega
      · rw [if_neg e2]
        have hne : gt p.pl t ≠ to := fun e => e1 (by rw [← hot, ← e]; exact (h.ps t htN).2)
        by_cases e3 : own = gt p.bl t
        · rw [if_pos e3, ← e3, hbb]
          show gt p.pl t < b.first + (b.marked + 1) ↔ _
          constructor
          · intro h4; exact .inl (by omega)
          · rintro (h4 | h4)
            · omega
            · exact (e2 h4.symm).elim
        · rw [if_neg e3]
          constructor
          · exact .inl
          · rintro (h4 | h4)
            · exact h4
            · exact (e2 h4.symm).elim
end Go.Proofs.Ythkabbgaikociaa
namespace Go.Proofs.Ythkabbgaikociaa
def relabel (st : List Nat) (nb : Nat) : List Nat → Nat → Nat → List Nat
  | bl, _, 0 => bl
  | bl, i, k + 1 => relabel st nb (bl.set (gt st i) nb) (i + 1) k
theorem relabel_len (st : List Nat) (nb : Nat) : ∀ (k i : Nat) (bl : List Nat), (relabel st nb bl i k).length = bl.length
  | 0, _, _ => rfl
  | k + 1, i, bl => by rw [relabel, relabel_len st nb k]; simp
theorem relabel_get {st pl : List Nat} {N : Nat} (nb : Nat) (hsp : ∀ i, i < N → gt st i < N ∧ gt pl (gt st i) = i) (hps : ∀ s, s < N → gt pl s < N ∧ gt st (gt pl s) = s) :
    ∀ (k i : Nat) (bl : List Nat), bl.length = N → i + k ≤ N → ∀ t, t < N → gt (relabel st nb bl i k) t = if i ≤ gt pl t ∧ gt pl t < i + k then nb else gt bl t
  | 0, i, bl, _, _, t, _ => by rw [relabel, if_neg (by omega)]
  | k + 1, i, bl, hb, hk, t, ht => by
    rw [relabel, relabel_get nb hsp hps k (i + 1) _ (by simpa using hb) (by omega) t ht, gt_set]
    have h1 := hsp i (by omega)
    have h2 := hps t ht
    by_cases e : gt st i = t
    · have : gt pl t = i := by rw [← e]; exact h1.2
      rw [this, if_neg (by omega), if_pos (by omega), if_pos (by omega)]
    · have hne : gt pl t ≠ i := fun e2 => e (by rw [← e2]; exact h2.2)
      by_cases h3 : i + 1 ≤ gt pl t ∧ gt pl t < i + 1 + k
      · rw [if_pos h3, if_pos (by omega)]
      · rw [if_neg h3, if_neg (fun h => e h.1), if_neg (by omega)]
def Pt.low (p : Pt) : Nat := gt p.cs (p.cs.length - 1)
def Pt.splitOne (p : Pt) (old : Nat) : Pt :=
  let b := gb p.bs old
  if b.marked = b.size then { p with bs := p.bs.set old ⟨b.first, b.size, 0, b.parent⟩ }
  else { p with bs := p.bs.set old ⟨b.first + b.marked, b.size - b.marked, 0, b.parent⟩ ++ [⟨b.first, b.marked, 0, if p.low ≤ old then b.parent else old⟩], bl := relabel p.st p.bs.length p.bl b.first b.marked }
def Pt.split (p : Pt) : Pt := { p.ml.foldl Pt.splitOne p with ml := [] }
def Pt.base (p : Pt) (b : Nat) : Nat := if p.low ≤ b then (gb p.bs b).parent else b
structure PH (p q : Pt) (N : Nat) : Prop where
  cs : q.cs = p.cs
  len : p.bs.length ≤ q.bs.length
  par : ∀ b, b < p.bs.length → (gb q.bs b).parent = (gb p.bs b).parent
  base : ∀ s, s < N → q.base (gt q.bl s) = p.base (gt p.bl s)
  low : ∀ b, b < q.bs.length → p.low ≤ b → b < p.bs.length ∨ ∃ c, c < p.bs.length ∧ (gb q.bs b).parent = p.base c
theorem PH.refl (p : Pt) (N : Nat) : PH p p N := ⟨rfl, Nat.le_refl _, fun _ _ => rfl, fun _ _ => rfl, fun _ h _ => .inl h⟩
theorem PH.trans {p q r : Pt} {N : Nat} (hpl : p.low ≤ p.bs.length) (h : PH p q N) (k : PH q r N) : PH p r N := by
  have hl : q.low = p.low := by unfold Pt.low; rw [h.cs]
  have bb : ∀ c, c < q.bs.length → (∃ c', c' < p.bs.length ∧ q.base c = p.base c') := fun c hc => by
    by_cases hlow : p.low ≤ c
    · rcases h.low c hc hlow with h1 | ⟨c', h1, h2⟩
      · refine ⟨c, h1, ?_⟩
        unfold Pt.base; rw [hl, if_pos hlow, if_pos hlow, h.par c h1]
      · refine ⟨c', h1, ?_⟩
        rw [← h2]; unfold Pt.base; rw [hl, if_pos hlow]
    · by_cases h1 : c < p.bs.length
      · refine ⟨c, h1, ?_⟩
        unfold Pt.base; rw [hl, if_neg hlow, if_neg hlow]
      · omega
  refine ⟨k.cs.trans h.cs, Nat.le_trans h.len k.len, fun b hb => (k.par b (Nat.lt_of_lt_of_le hb h.len)).trans (h.par b hb), fun s hs => (k.base s hs).trans (h.base s hs), fun b hb hlow => ?_⟩
  rcases k.low b hb (by rw [hl]; exact hlow) with h1 | ⟨c, h1, h2⟩
  · rcases h.low b h1 hlow with h3 | ⟨c, h3, h4⟩
    · exact .inl h3
    · exact .inr ⟨c, h3, by rw [k.par b h1]; exact h4⟩
  · obtain ⟨c', h3, h4⟩ := bb c h1
    exact .inr ⟨c', h3, by rw [h2, h4]⟩
theorem splitOne_ok {p : Pt} {N old : Nat} {r : List Nat} (hlow : p.low ≤ p.bs.length) (h : PI p N (old :: r)) :
    PI (p.splitOne old) N r ∧ (∀ s, s < N → ((p.splitOne old).M s ↔ p.M s ∧ gt p.bl s ≠ old)) ∧ (∀ s t, s < N → t < N → (gt (p.splitOne old).bl s = gt (p.splitOne old).bl t ↔ gt p.bl s = gt p.bl t ∧ (gt p.bl s = old → (p.M s ↔ p.M t)))) ∧ PH p (p.splitOne old) N := by
  obtain ⟨b, hb⟩ : ∃ b, gb p.bs old = b := ⟨_, rfl⟩
  have ho := (h.tm old).1 (by simp)
  rw [hb] at ho
  obtain ⟨hol, hm0⟩ := ho
  have hbd := h.bd old hol
  rw [hb] at hbd
  have hnd := h.nd
  rw [List.nodup_cons] at hnd
  have htm : ∀ c, c ∈ r ↔ (c < p.bs.length ∧ 0 < (gb p.bs c).marked) ∧ c ≠ old := fun c => by
    rw [← h.tm c, List.mem_cons]
    constructor
    · intro hc
      exact ⟨.inr hc, fun e => hnd.1 (by rw [← e]; exact hc)⟩
    · rintro ⟨h1 | h1, h2⟩
      · exact (h2 h1).elim
      · exact h1
  by_cases hall : b.marked = b.size
  ·
    have hp : p.splitOne old = { p with bs := p.bs.set old ⟨b.first, b.size, 0, b.parent⟩ } := by simp only [Pt.splitOne, hb, if_pos hall]
    rw [hp]
    have g : ∀ c, gb (p.bs.set old ⟨b.first, b.size, 0, b.parent⟩) c = if old = c then ⟨b.first, b.size, 0, b.parent⟩ else gb p.bs c := fun c => by rw [gb_set]; simp only [hol, and_true]
    have gf : ∀ c, (gb (p.bs.set old ⟨b.first, b.size, 0, b.parent⟩) c).first = (gb p.bs c).first ∧ (gb (p.bs.set old ⟨b.first, b.size, 0, b.parent⟩) c).size = (gb p.bs c).size ∧ (gb (p.bs.set old ⟨b.first, b.size, 0, b.parent⟩) c).parent = (gb p.bs c).parent := fun c => by
      rw [g]
      split
      · rename_i e; subst e; rw [hb]; exact ⟨rfl, rfl, rfl⟩
      · exact ⟨rfl, rfl, rfl⟩
    refine ⟨⟨h.st, h.pl, h.bl, h.sp, h.ps, fun s hs => by simpa using h.ib s hs, fun s hs => ?_, fun c hc => ?_, fun c hc i h1 h2 => ?_, fun c => ?_, hnd.2⟩, fun s hs => ?_, fun s t hs ht => ?_, ⟨rfl, by simp, fun c hc => (gf c).2.2, fun s hs => ?_, fun c hc _ => .inl (by simpa using hc)⟩⟩
    · show (gb (p.bs.set old _) (gt p.bl s)).first ≤ gt p.pl s ∧ gt p.pl s < (gb (p.bs.set old _) (gt p.bl s)).first + (gb (p.bs.set old _) (gt p.bl s)).size
      rw [(gf _).1, (gf _).2.1]; exact h.inn s hs
    · show 0 < (gb (p.bs.set old _) c).size ∧ (gb (p.bs.set old _) c).marked ≤ (gb (p.bs.set old _) c).size ∧ (gb (p.bs.set old _) c).first + (gb (p.bs.set old _) c).size ≤ N
      have hc' : c < p.bs.length := by simpa using hc
      rw [g]
      split
      · simp only; omega
      · exact h.bd c hc'
    · have hc' : c < p.bs.length := by simpa using hc
      exact h.own c hc' i (by rw [← (gf c).1]; exact h1) (by rw [← (gf c).1, ← (gf c).2.1]; exact h2)
    · show c ∈ r ↔ c < (p.bs.set old _).length ∧ 0 < (gb (p.bs.set old _) c).marked
      rw [htm, g, List.length_set]
      by_cases e : old = c
      · subst e; simp
      · rw [if_neg e]
        simp only [ne_eq, Ne.symm e, not_false_eq_true, and_true]
    · show gt p.pl s < (gb (p.bs.set old _) (gt p.bl s)).first + (gb (p.bs.set old _) (gt p.bl s)).marked ↔ gt p.pl s < (gb p.bs (gt p.bl s)).first + (gb p.bs (gt p.bl s)).marked ∧ gt p.bl s ≠ old
      rw [g]
      have := h.inn s hs
      by_cases e : old = gt p.bl s
      · rw [if_pos e]
        rw [← e, hb] at this
        simp only [Nat.add_zero]
        constructor
        · intro h1; omega
        · intro h1; exact (h1.2 e.symm).elim
      · rw [if_neg e]
        simp only [ne_eq, Ne.symm e, not_false_eq_true, and_true]
    · show gt p.bl s = gt p.bl t ↔ _
      constructor
      · intro e
        refine ⟨e, fun e2 => ?_⟩
        have h1 := h.inn s hs
        have h2 := h.inn t ht
        unfold Pt.M
        rw [← e] at h2 ⊢
        rw [e2, hb] at h1 h2 ⊢
        constructor <;> intro _ <;> omega
      · exact fun h => h.1
    · show (if p.low ≤ gt p.bl s then (gb (p.bs.set old _) (gt p.bl s)).parent else gt p.bl s) = p.base (gt p.bl s)
      rw [(gf _).2.2]; rfl
  ·
    obtain ⟨par, hpar⟩ : ∃ par, (if p.low ≤ old then b.parent else old) = par := ⟨_, rfl⟩
    have hp : p.splitOne old = { p with bs := p.bs.set old ⟨b.first + b.marked, b.size - b.marked, 0, b.parent⟩ ++ [⟨b.first, b.marked, 0, par⟩], bl := relabel p.st p.bs.length p.bl b.first b.marked } := by simp only [Pt.splitOne, hb, if_neg hall, hpar]
    rw [hp]
    have g : ∀ c, gb (p.bs.set old ⟨b.first + b.marked, b.size - b.marked, 0, b.parent⟩ ++ [⟨b.first, b.marked, 0, par⟩]) c =
        if c < p.bs.length then (if old = c then ⟨b.first + b.marked, b.size - b.marked, 0, b.parent⟩ else gb p.bs c) else if c = p.bs.length then ⟨b.first, b.marked, 0, par⟩ else ⟨0, 0, 0, 0⟩ := fun c => by
      rw [gb_app, List.length_set, gb_set]; simp only [hol, and_true]
    have gpar : ∀ c, c < p.bs.length → (gb (p.bs.set old ⟨b.first + b.marked, b.size - b.marked, 0, b.parent⟩ ++ [⟨b.first, b.marked, 0, par⟩]) c).parent = (gb p.bs c).parent := fun c hc => by
      rw [g, if_pos hc]
      split
      · rename_i e; subst e; rw [hb]
      · rfl
    have gbl : ∀ t, t < N → gt (relabel p.st p.bs.length p.bl b.first b.marked) t = if b.first ≤ gt p.pl t ∧ gt p.pl t < b.first + b.marked then p.bs.length else gt p.bl t :=
      relabel_get p.bs.length h.sp h.ps b.marked b.first p.bl h.bl (by omega)
    have inold : ∀ t, t < N → b.first ≤ gt p.pl t ∧ gt p.pl t < b.first + b.size → gt p.bl t = old := fun t ht hr => by
      have := h.own old hol (gt p.pl t) (by rw [hb]; exact hr.1) (by rw [hb]; exact hr.2)
      rw [(h.ps t ht).2] at this; exact this
    have oldin : ∀ t, t < N → gt p.bl t = old → b.first ≤ gt p.pl t ∧ gt p.pl t < b.first + b.size := fun t ht e => by
      have := h.inn t ht
      rw [e, hb] at this; exact this
    have hpk : (⟨b.first, b.size, b.marked, b.parent⟩ : Blk) = b := rfl
    have cases3 : ∀ t, t < N → (gt p.bl t = old ∧ p.M t ∧ (b.first ≤ gt p.pl t ∧ gt p.pl t < b.first + b.marked) ∧ gt (relabel p.st p.bs.length p.bl b.first b.marked) t = p.bs.length) ∨
        (gt p.bl t = old ∧ ¬ p.M t ∧ (b.first + b.marked ≤ gt p.pl t ∧ gt p.pl t < b.first + b.size) ∧ gt (relabel p.st p.bs.length p.bl b.first b.marked) t = old) ∨
        (gt p.bl t ≠ old ∧ gt (relabel p.st p.bs.length p.bl b.first b.marked) t = gt p.bl t) := fun t ht => by
      by_cases e : gt p.bl t = old
      · have h1 := oldin t ht e
        have hM : p.M t ↔ gt p.pl t < b.first + b.marked := by unfold Pt.M; rw [e, hb]
        rw [gbl t ht]
        by_cases h2 : gt p.pl t < b.first + b.marked
        · exact .inl ⟨e, hM.2 h2, ⟨h1.1, h2⟩, if_pos ⟨h1.1, h2⟩⟩
        · exact .inr (.inl ⟨e, fun h => h2 (hM.1 h), ⟨by omega, h1.2⟩, by rw [if_neg (fun h => h2 h.2)]; exact e⟩)
      · refine .inr (.inr ⟨e, ?_⟩)
        rw [gbl t ht, if_neg (fun h3 => e (inold t ht ⟨h3.1, by omega⟩))]
    refine ⟨⟨h.st, h.pl, ?_, h.sp, h.ps, fun s hs => ?_, fun s hs => ?_, fun c hc => ?_, fun c hc i h1 h2 => ?_, fun c => ?_, hnd.2⟩, fun s hs => ?_, fun s t hs ht => ?_, ⟨rfl, by simp, gpar, fun s hs => ?_, fun c hc hlc => ?_⟩⟩
    · show (relabel _ _ _ _ _).length = N
      rw [relabel_len]; exact h.bl
    · show gt (relabel p.st p.bs.length p.bl b.first b.marked) s < (p.bs.set old _ ++ [_]).length
      simp only [List.length_append, List.length_set, List.length_cons, List.length_nil]
      have := h.ib s hs
      rcases cases3 s hs with ⟨_, _, _, e⟩ | ⟨_, _, _, e⟩ | ⟨_, e⟩ <;> rw [e] <;> omega
    · show (gb (p.bs.set old _ ++ [_]) (gt (relabel p.st p.bs.length p.bl b.first b.marked) s)).first ≤ gt p.pl s ∧ gt p.pl s < (gb (p.bs.set old _ ++ [_]) (gt (relabel p.st p.bs.length p.bl b.first b.marked) s)).first + (gb (p.bs.set old _ ++ [_]) (gt (relabel p.st p.bs.length p.bl b.first b.marked) s)).size
      have hib := h.ib s hs
      rcases cases3 s hs with ⟨_, _, hr, e⟩ | ⟨_, _, hr, e⟩ | ⟨hn, e⟩
      · rw [e, g, if_neg (by omega), if_pos rfl]; exact hr
      · rw [e, g, if_pos hol, if_pos rfl]; simp only; omega
      · rw [e, g, if_pos hib, if_neg (Ne.symm hn)]; exact h.inn s hs
    · show 0 < (gb (p.bs.set old _ ++ [_]) c).size ∧ (gb (p.bs.set old _ ++ [_]) c).marked ≤ (gb (p.bs.set old _ ++ [_]) c).size ∧ (gb (p.bs.set old _ ++ [_]) c).first + (gb (p.bs.set old _ ++ [_]) c).size ≤ N
      have hc : c < p.bs.length + 1 := by simpa using hc
      rw [g]
      split
      · split
        · simp only; omega
        · exact h.bd c (by assumption)
      · rw [if_pos (by omega)]; simp only; omega
    · show gt (relabel p.st p.bs.length p.bl b.first b.marked) (gt p.st i) = c
      replace hc : c < p.bs.length + 1 := by simpa using hc
      replace h1 : (gb (p.bs.set old _ ++ [_]) c).first ≤ i := h1
      replace h2 : i < (gb (p.bs.set old _ ++ [_]) c).first + (gb (p.bs.set old _ ++ [_]) c).size := h2
      rw [g] at h1 h2
      split at h1
      · rename_i hcl
        rw [if_pos hcl] at h2
        split at h1
        · rename_i e
          rw [if_pos e] at h2
          simp only at h1 h2
          have hs := h.sp i (by omega)
          rw [gbl _ hs.1, hs.2, if_neg (by omega)]
          rw [← e]
          exact h.own old hol i (by rw [hb]; omega) (by rw [hb]; omega)
        · rename_i e
          rw [if_neg e] at h2
          have hcb := h.bd c hcl
          have hs := h.sp i (by omega)
          have hoc := h.own c hcl i h1 h2
          rw [gbl _ hs.1, hs.2, if_neg, hoc]
          intro h3
          have := inold _ hs.1 (by rw [hs.2]; omega)
          rw [hoc] at this
          exact e this.symm
      · rename_i hcl
        have e : c = p.bs.length := by omega
        rw [if_neg hcl, if_pos e] at h2
        rw [if_pos e] at h1
        simp only at h1 h2
        have hs := h.sp i (by omega)
        rw [gbl _ hs.1, hs.2, if_pos ⟨h1, h2⟩, e]
    · show c ∈ r ↔ c < (p.bs.set old _ ++ [_]).length ∧ 0 < (gb (p.bs.set old _ ++ [_]) c).marked
      rw [htm, g]
      simp only [List.length_append, List.length_set, List.length_cons, List.length_nil]
      by_cases e1 : c < p.bs.length
      · rw [if_pos e1]
        by_cases e : old = c
        · subst e; simp
        · rw [if_neg e]
          have : c ≠ old := Ne.symm e
          constructor
          · rintro ⟨⟨_, h2⟩, _⟩; exact ⟨by omega, h2⟩
          · rintro ⟨_, h2⟩; exact ⟨⟨e1, h2⟩, this⟩
      · rw [if_neg e1]
        constructor
        · rintro ⟨⟨h2, _⟩, _⟩; exact (e1 h2).elim
        · rintro ⟨_, h2⟩
          split at h2
          · simp at h2
          · simp at h2
    · show gt p.pl s < (gb (p.bs.set old _ ++ [_]) (gt (relabel p.st p.bs.length p.bl b.first b.marked) s)).first + (gb (p.bs.set old _ ++ [_]) (gt (relabel p.st p.bs.length p.bl b.first b.marked) s)).marked ↔ p.M s ∧ gt p.bl s ≠ old
      have hib := h.ib s hs
      rcases cases3 s hs with ⟨ho, _, hr, e⟩ | ⟨ho, _, hr, e⟩ | ⟨hn, e⟩
      · rw [e, g, if_neg (by omega), if_pos rfl]
        simp only [Nat.add_zero]
        constructor
        · intro h1; omega
        · intro h1; exact (h1.2 ho).elim
      · rw [e, g, if_pos hol, if_pos rfl]
        simp only [Nat.add_zero]
        constructor
        · intro h1; omega
        · intro h1; exact (h1.2 ho).elim
      · rw [e, g, if_pos hib, if_neg (Ne.symm hn)]
        exact ⟨fun h => ⟨h, hn⟩, fun h => h.1⟩
    · show gt (relabel p.st p.bs.length p.bl b.first b.marked) s = gt (relabel p.st p.bs.length p.bl b.first b.marked) t ↔ _
      have h1 := h.ib s hs
      have h2 := h.ib t ht
      rcases cases3 s hs with ⟨ho, hm, _, e⟩ | ⟨ho, hm, _, e⟩ | ⟨hn, e⟩ <;> rcases cases3 t ht with ⟨ho', hm', _, e'⟩ | ⟨ho', hm', _, e'⟩ | ⟨hn', e'⟩ <;> rw [e, e']
      · exact ⟨fun _ => ⟨ho.trans ho'.symm, fun _ => ⟨fun _ => hm', fun _ => hm⟩⟩, fun _ => rfl⟩
      · exact ⟨fun h3 => by omega, fun h3 => (hm' ((h3.2 ho).1 hm)).elim⟩
      · exact ⟨fun h3 => by omega, fun h3 => (hn' (h3.1.symm.trans ho)).elim⟩
      · exact ⟨fun h3 => by omega, fun h3 => (hm ((h3.2 ho).2 hm')).elim⟩
      · exact ⟨fun _ => ⟨ho.trans ho'.symm, fun _ => ⟨fun h => (hm h).elim, fun h => (hm' h).elim⟩⟩, fun _ => rfl⟩
      · exact ⟨fun h3 => (hn' h3.symm).elim, fun h3 => (hn' (h3.1.symm.trans ho)).elim⟩
      · exact ⟨fun h3 => by omega, fun h3 => (hn (h3.1.trans ho')).elim⟩
      · exact ⟨fun h3 => (hn h3).elim, fun h3 => (hn (h3.1.trans ho')).elim⟩
      · exact ⟨fun h3 => ⟨h3, fun h4 => (hn h4).elim⟩, fun h3 => h3.1⟩
    · show (if p.low ≤ gt (relabel p.st p.bs.length p.bl b.first b.marked) s then (gb (p.bs.set old _ ++ [_]) (gt (relabel p.st p.bs.length p.bl b.first b.marked) s)).parent else gt (relabel p.st p.bs.length p.bl b.first b.marked) s) = p.base (gt p.bl s)
      have hib := h.ib s hs
      rcases cases3 s hs with ⟨ho, _, hr, e⟩ | ⟨ho, _, hr, e⟩ | ⟨hn, e⟩
      · rw [e, if_pos hlow, g, if_neg (by omega), if_pos rfl, ho]
        show par = p.base old
        rw [← hpar]; unfold Pt.base; rw [hb]
      · rw [e, ho, gpar old hol]; rfl
      · rw [e, gpar _ hib]; rfl
    · have hc : c < p.bs.length + 1 := by simpa using hc
      by_cases e : c < p.bs.length
      · exact .inl e
      · refine .inr ⟨old, hol, ?_⟩
        show (gb (p.bs.set old _ ++ [_]) c).parent = _
        rw [g, if_neg e, if_pos (by omega)]
        show par = _
        rw [← hpar]; unfold Pt.base; rw [hb]
theorem fold_ok {N : Nat} : ∀ (todo : List Nat) (p : Pt), p.low ≤ p.bs.length → PI p N todo → PI (todo.foldl Pt.splitOne p) N [] ∧
    (∀ s t, s < N → t < N → (gt (todo.foldl Pt.splitOne p).bl s = gt (todo.foldl Pt.splitOne p).bl t ↔ gt p.bl s = gt p.bl t ∧ (p.M s ↔ p.M t))) ∧ PH p (todo.foldl Pt.splitOne p) N
  | [], p, _, h => by
    have hM : ∀ s, s < N → ¬ p.M s := fun s hs hm => by
      have h1 := h.ib s hs
      have h2 := (h.tm (gt p.bl s))
      have h3 := h.inn s hs
      unfold Pt.M at hm
      have := h2.2 ⟨h1, by omega⟩
      cases this
    exact ⟨h, fun s t hs ht => ⟨fun e => ⟨e, fun h => (hM s hs h).elim, fun h => (hM t ht h).elim⟩, fun e => e.1⟩, PH.refl _ _⟩
  | old :: r, p, hl, h => by
    obtain ⟨h1, h2, h3, h4⟩ := splitOne_ok hl h
    have hl' : (p.splitOne old).low ≤ (p.splitOne old).bs.length := by
      have : (p.splitOne old).low = p.low := by unfold Pt.low; rw [h4.cs]
      rw [this]; exact Nat.le_trans hl h4.len
    obtain ⟨k1, k2, k3⟩ := fold_ok r (p.splitOne old) hl' h1
    refine ⟨k1, fun s t hs ht => ?_, h4.trans hl k3⟩
    rw [List.foldl_cons, k2 s t hs ht, h3 s t hs ht, h2 s hs, h2 t ht]
    constructor
    · rintro ⟨⟨e, e2⟩, e3⟩
      refine ⟨e, ?_⟩
      by_cases ho : gt p.bl s = old
      · exact e2 ho
      · have ho' : gt p.bl t ≠ old := fun h => ho (e.trans h)
        exact ⟨fun h => (e3.1 ⟨h, ho⟩).1, fun h => (e3.2 ⟨h, ho'⟩).1⟩
    · rintro ⟨e, e3⟩
      refine ⟨⟨e, fun _ => e3⟩, ?_⟩
      rw [e3, e]
theorem PI.ml {p : Pt} {N : Nat} {todo ml : List Nat} (h : PI p N todo) : PI { p with ml := ml } N todo := ⟨h.st, h.pl, h.bl, h.sp, h.ps, h.ib, h.inn, h.bd, h.own, h.tm, h.nd⟩
theorem split_ok {p : Pt} {N : Nat} (hl : p.low ≤ p.bs.length) (h : PI p N p.ml) : PI p.split N p.split.ml ∧ (∀ s t, s < N → t < N → (gt p.split.bl s = gt p.split.bl t ↔ gt p.bl s = gt p.bl t ∧ (p.M s ↔ p.M t))) ∧ PH p p.split N ∧ p.split.ml = [] := by
  obtain ⟨h1, h2, h3⟩ := fold_ok p.ml p hl h
  exact ⟨h1.ml, h2, ⟨h3.cs, h3.len, h3.par, h3.base, h3.low⟩, rfl⟩
theorem unmarked {p : Pt} {N : Nat} (h : PI p N []) (s : Nat) (hs : s < N) : ¬ p.M s := fun hm => by
  have h1 := h.ib s hs
  have h3 := h.inn s hs
  unfold Pt.M at hm
  have := (h.tm (gt p.bl s)).2 ⟨h1, by omega⟩
  cases this
end Go.Proofs.Ythkabbgaikociaa
namespace Go.Proofs.Ythkabbgaikociaa
structure Mk (p0 p : Pt) (N : Nat) (X : Nat → Prop) : Prop where
  pi : PI p N p.ml
  bl : p.bl = p0.bl
  cs : p.cs = p0.cs
  len : p.bs.length = p0.bs.length
  fs : ∀ b, (gb p.bs b).first = (gb p0.bs b).first ∧ (gb p.bs b).size = (gb p0.bs b).size ∧ (gb p.bs b).parent = (gb p0.bs b).parent
  m : ∀ s, s < N → (p.M s ↔ X s)
theorem Mk.start {p : Pt} {N : Nat} (h : PI p N p.ml) (h0 : p.ml = []) : Mk p p N (fun _ => False) :=
  ⟨h, rfl, rfl, rfl, fun _ => ⟨rfl, rfl, rfl⟩, fun s hs => ⟨fun hm => unmarked (by rw [h0] at h; exact h) s hs hm, False.elim⟩⟩
theorem Mk.step {p0 p : Pt} {N : Nat} {X : Nat → Prop} (h : Mk p0 p N X) {s : Nat} (hs : s < N) (hx : ¬ X s) : Mk p0 (p.mark s) N (fun t => X t ∨ t = s) := by
  obtain ⟨h1, h2⟩ := mark_ok h.pi hs (fun hm => hx ((h.m s hs).1 hm))
  refine ⟨h1, h.bl, h.cs, by simpa [Pt.mark] using h.len, fun b => ?_, fun t ht => by rw [h2 t ht, h.m t ht]⟩
  have := h.fs b
  simp only [Pt.mark]
  rw [gb_set]
  split
  · rename_i e
    rw [← e.1] at this ⊢
    exact this
  · exact this
theorem Mk.imp {p0 p : Pt} {N : Nat} {X Y : Nat → Prop} (h : Mk p0 p N X) (hxy : ∀ s, s < N → (X s ↔ Y s)) : Mk p0 p N Y := ⟨h.pi, h.bl, h.cs, h.len, h.fs, fun s hs => (h.m s hs).trans (hxy s hs)⟩
theorem Mk.ph {p0 p : Pt} {N : Nat} {X : Nat → Prop} (h : Mk p0 p N X) : PH p0 p N := by
  have hl : p.low = p0.low := by unfold Pt.low; rw [h.cs]
  exact ⟨h.cs, Nat.le_of_eq h.len.symm, fun b _ => (h.fs b).2.2, fun s _ => by unfold Pt.base; rw [hl, (h.fs _).2.2, h.bl], fun b hb _ => .inl (by rw [← h.len]; exact hb)⟩
theorem Mk.split {p0 p : Pt} {N : Nat} {X : Nat → Prop} (hl : p0.low ≤ p0.bs.length) (h : Mk p0 p N X) : PI p.split N p.split.ml ∧ p.split.ml = [] ∧ PH p0 p.split N ∧
    ∀ s t, s < N → t < N → (gt p.split.bl s = gt p.split.bl t ↔ gt p0.bl s = gt p0.bl t ∧ (X s ↔ X t)) := by
  have hl' : p.low ≤ p.bs.length := by
    have : p.low = p0.low := by unfold Pt.low; rw [h.cs]
    rw [this, h.len]; exact hl
  obtain ⟨h1, h2, h3, h4⟩ := split_ok hl' h.pi
  exact ⟨h1, h4, h.ph.trans hl h3, fun s t hs ht => by rw [h2 s t hs ht, h.bl, h.m s hs, h.m t ht]⟩
section
variable (N L : Nat) (dl : Nat → Nat → Nat) (en : Nat → Bool)
def rnG (s : Nat) (w : List Nat) : Nat := w.foldl dl s
def EqG (k s t : Nat) : Prop := ∀ w, Word L w → w.length < k → en (rnG dl s w) = en (rnG dl t w)
end
section
variable {N L : Nat} {dl : Nat → Nat → Nat} {en : Nat → Bool}
theorem EqG.zero (s t : Nat) : EqG L dl en 0 s t := fun _ _ h => by omega
theorem EqG.mono {j k s t : Nat} (h : EqG L dl en k s t) (hj : j ≤ k) : EqG L dl en j s t := fun w hw hl => h w hw (by omega)
theorem EqG.one {s t : Nat} : EqG L dl en 1 s t ↔ en s = en t :=
  ⟨fun h => h [] (Word.nil _) (by simp), fun h w _ hl => by
    have : w = [] := by cases w with
      | nil => rfl
      | cons c r => simp at hl
    subst this; exact h⟩
theorem EqG.succ {k s t : Nat} : EqG L dl en (k + 1) s t ↔ en s = en t ∧ ∀ c, c < L → EqG L dl en k (dl s c) (dl t c) :=
  ⟨fun h => ⟨EqG.one.1 (h.mono (by omega)), fun c hc w hw hl => h (c :: w) (Word.cons hc hw) (by simpa using hl)⟩, fun h w hw hl => by
    cases w with
    | nil => exact h.1
    | cons c w => exact h.2 c hw.head w hw.tail (by simpa using hl)⟩
theorem EqG.stable {k : Nat} (hdl : ∀ s c, s < N → c < L → dl s c < N) (h : ∀ s t, s < N → t < N → EqG L dl en k s t → EqG L dl en (k + 1) s t) :
    ∀ j s t, s < N → t < N → EqG L dl en k s t → EqG L dl en (k + j) s t
  | 0, s, t, hs, ht, e => e
  | j + 1, s, t, hs, ht, e => by
    have h1 := EqG.succ.1 (h s t hs ht e)
    show EqG L dl en (k + j + 1) s t
    exact EqG.succ.2 ⟨h1.1, fun c hc => EqG.stable hdl h j _ _ (hdl s c hs hc) (hdl t c ht hc) (h1.2 c hc)⟩
end
def upB (bs : List Blk) (c b : Nat) : Nat := if c ≤ b then (gb bs b).parent else b
structure Lev (L : Nat) (dl : Nat → Nat → Nat) (en : Nat → Bool) (p : Pt) (N : Nat) (lev : Nat → Nat → Nat) (R : Nat) : Prop where
  cs : p.cs.length = R + 1
  mono : ∀ r, r < R → gt p.cs r ≤ gt p.cs (r + 1)
  top : gt p.cs R ≤ p.bs.length
  lt : ∀ r, r ≤ R → ∀ s, s < N → lev r s < gt p.cs r
  dn : ∀ r, r < R → ∀ s, s < N → lev r s = upB p.bs (gt p.cs r) (lev (r + 1) s)
  par : ∀ r, r < R → ∀ b, gt p.cs r ≤ b → b < gt p.cs (r + 1) → (gb p.bs b).parent < gt p.cs r
  parT : ∀ b, gt p.cs R ≤ b → b < p.bs.length → (gb p.bs b).parent < gt p.cs R
  cur : ∀ s, s < N → upB p.bs (gt p.cs R) (gt p.bl s) = lev R s
  sem : ∀ r, r ≤ R → ∀ s t, s < N → t < N → (lev r s = lev r t ↔ EqG L dl en r s t)
section
variable {N L R : Nat} {dl : Nat → Nat → Nat} {en : Nat → Bool} {p q : Pt} {lev : Nat → Nat → Nat}
theorem Lev.low (h : Lev L dl en p N lev R) : p.low = gt p.cs R := by unfold Pt.low; rw [h.cs]; rfl
theorem Lev.lowLe (h : Lev L dl en p N lev R) : p.low ≤ p.bs.length := by rw [h.low]; exact h.top
theorem Lev.monoLe (h : Lev L dl en p N lev R) : ∀ j r, r + j ≤ R → gt p.cs r ≤ gt p.cs (r + j)
  | 0, r, _ => Nat.le_refl _
  | j + 1, r, hr => Nat.le_trans (h.monoLe j r (by omega)) (h.mono (r + j) (by omega))
theorem Lev.csLe (h : Lev L dl en p N lev R) {r : Nat} (hr : r ≤ R) : gt p.cs r ≤ p.bs.length := by
  have := h.monoLe (R - r) r (by omega)
  rw [show r + (R - r) = R by omega] at this
  exact Nat.le_trans this h.top
theorem Lev.keep (h : Lev L dl en p N lev R) (k : PH p q N) : Lev L dl en q N lev R := by
  have hl : q.low = p.low := by unfold Pt.low; rw [k.cs]
  have hlow := h.low
  have up : ∀ c b, b < p.bs.length → upB q.bs c b = upB p.bs c b := fun c b hb => by unfold upB; rw [k.par b hb]
  refine ⟨by rw [k.cs]; exact h.cs, by rw [k.cs]; exact h.mono, by rw [k.cs]; exact Nat.le_trans h.top k.len, by rw [k.cs]; exact h.lt, fun r hr s hs => ?_, fun r hr b h1 h2 => ?_, fun b h1 h2 => ?_, fun s hs => ?_, h.sem⟩
  · rw [k.cs, up _ _ (Nat.lt_of_lt_of_le (h.lt (r + 1) (by omega) s hs) (h.csLe (by omega)))]
    exact h.dn r hr s hs
  · rw [k.cs] at h1 h2 ⊢
    rw [k.par b (Nat.lt_of_lt_of_le h2 (h.csLe (by omega)))]
    exact h.par r hr b h1 h2
  · rw [k.cs] at h1 ⊢
    have hb : ∀ c, c < p.bs.length → p.base c < gt p.cs R := fun c hc => by
      unfold Pt.base
      rw [hlow]
      split
      · rename_i e; exact h.parT c e hc
      · omega
    rcases k.low b h2 (by rw [hlow]; exact h1) with h3 | ⟨c, h3, h4⟩
    · rw [k.par b h3]; exact h.parT b h1 h3
    · rw [h4]; exact hb c h3
  · have e1 : upB q.bs (gt q.cs R) (gt q.bl s) = q.base (gt q.bl s) := by unfold Pt.base upB; rw [hl, hlow, k.cs]
    have e2 : upB p.bs (gt p.cs R) (gt p.bl s) = p.base (gt p.bl s) := by unfold Pt.base upB; rw [hlow]
    rw [e1, k.base s hs, ← e2]; exact h.cur s hs
def Pt.endR (p : Pt) : Pt := { p with cs := p.cs ++ [p.bs.length] }
theorem gt_snoc {l : List Nat} {v r : Nat} (h : r < l.length) : gt (l ++ [v]) r = gt l r := by rw [gt_app, if_pos h]
theorem gt_snoc' {l : List Nat} {v : Nat} : gt (l ++ [v]) l.length = v := by rw [gt_app, if_neg (by omega)]; simp
theorem Lev.endR (h : Lev L dl en p N lev R) (hib : ∀ s, s < N → gt p.bl s < p.bs.length) (hsem : ∀ s t, s < N → t < N → (gt p.bl s = gt p.bl t ↔ EqG L dl en (R + 1) s t)) :
    Lev L dl en p.endR N (fun r s => if r ≤ R then lev r s else gt p.bl s) (R + 1) ∧ gt p.endR.cs (R + 1) = p.bs.length ∧ gt p.endR.cs R = gt p.cs R := by
  have hc := h.cs
  have g1 : ∀ r, r ≤ R → gt p.endR.cs r = gt p.cs r := fun r hr => gt_snoc (by omega)
  have g2 : gt p.endR.cs (R + 1) = p.bs.length := by
    show gt (p.cs ++ [p.bs.length]) (R + 1) = _
    rw [← hc]; exact gt_snoc'
  refine ⟨⟨by simp [Pt.endR, hc], fun r hr => ?_, by rw [g2]; exact Nat.le_refl _, fun r hr s hs => ?_, fun r hr s hs => ?_, fun r hr b h1 h2 => ?_, fun b h1 h2 => ?_, fun s hs => ?_, fun r hr s t hs' ht' => ?_⟩, g2, g1 R (Nat.le_refl _)⟩
  · rw [g1 r (by omega)]
    by_cases e : r = R
    · subst e; rw [g2]; exact h.top
    · rw [g1 (r + 1) (by omega)]; exact h.mono r (by omega)
  · by_cases e : r ≤ R
    · simp only [if_pos e]; rw [g1 r e]; exact h.lt r e s hs
    · simp only [if_neg e]
      rw [show r = R + 1 by omega, g2]; exact hib s hs
  · have e0 : r ≤ R := by omega
    simp only [if_pos e0]
    rw [g1 r e0]
    by_cases e : r = R
    · subst e
      rw [if_neg (by omega)]
      exact (h.cur s hs).symm
    · rw [if_pos (by omega)]
      exact h.dn r (by omega) s hs
  · rw [g1 r (by omega)] at h1 ⊢
    by_cases e : r = R
    · subst e
      rw [g2] at h2
      exact h.parT b h1 h2
    · rw [g1 (r + 1) (by omega)] at h2
      exact h.par r (by omega) b h1 h2
  · rw [g2] at h1
    have h2 : b < p.bs.length := h2
    omega
  · rw [g2]
    simp only [if_neg (show ¬ R + 1 ≤ R by omega)]
    unfold upB
    exact if_neg (Nat.not_le.2 (hib s hs))
  · by_cases e : r ≤ R
    · simp only [if_pos e]; exact h.sem r e s t hs' ht'
    · simp only [if_neg e]
      rw [show r = R + 1 by omega]; exact hsem s t hs' ht'
def Tells (p : Pt) (R : Nat) (B : List Nat) : Prop := ∀ x y, x < gt p.cs R → y < gt p.cs R → x ≠ y → upB p.bs (gt p.cs (R - 1)) x = upB p.bs (gt p.cs (R - 1)) y → x ∈ B ∨ y ∈ B
theorem round_sem {B : List Nat} (hdl : ∀ s c, s < N → c < L → dl s c < N) (h : Lev L dl en p N lev R) (hR : 0 < R) (hB : Tells p R B) {s t : Nat} (hs : s < N) (ht : t < N) :
    (lev R s = lev R t ∧ ∀ b ∈ B, ∀ c, c < L → (lev R (dl s c) = b ↔ lev R (dl t c) = b)) ↔ EqG L dl en (R + 1) s t := by
  constructor
  · rintro ⟨h1, h2⟩
    have e1 := (h.sem R (Nat.le_refl _) s t hs ht).1 h1
    refine EqG.succ.2 ⟨EqG.one.1 (e1.mono (by omega)), fun c hc => ?_⟩
    have hs' := hdl s c hs hc
    have ht' := hdl t c ht hc
    refine (h.sem R (Nat.le_refl _) _ _ hs' ht').1 ?_
    refine Decidable.byContradiction fun hne => ?_
    obtain ⟨k, rfl⟩ : ∃ k, R = k + 1 := ⟨R - 1, by omega⟩
    have e2 := (h.sem k (by omega) _ _ hs' ht').2 ((EqG.succ.1 e1).2 c hc)
    rw [h.dn k (by omega) _ hs', h.dn k (by omega) _ ht'] at e2
    rcases hB _ _ (h.lt _ (Nat.le_refl _) _ hs') (h.lt _ (Nat.le_refl _) _ ht') hne e2 with hb | hb
    · exact hne ((h2 _ hb c hc).1 rfl).symm
    · exact hne ((h2 _ hb c hc).2 rfl)
  · intro e
    refine ⟨(h.sem R (Nat.le_refl _) s t hs ht).2 (e.mono (by omega)), fun b _ c hc => ?_⟩
    have := (h.sem R (Nat.le_refl _) _ _ (hdl s c hs hc) (hdl t c ht hc)).2 ((EqG.succ.1 e).2 c hc)
    rw [this]
theorem Lev.still (h : Lev L dl en p N lev (R + 1)) (hdl : ∀ s c, s < N → c < L → dl s c < N) (he : gt p.cs (R + 1) = gt p.cs R) {s t : Nat} (hs : s < N) (ht : t < N) :
    lev (R + 1) s = lev (R + 1) t ↔ ∀ w, Word L w → en (rnG dl s w) = en (rnG dl t w) := by
  have same : ∀ s, s < N → lev R s = lev (R + 1) s := fun s hs => by
    have h1 := h.dn R (by omega) s hs
    have h2 := h.lt (R + 1) (Nat.le_refl _) s hs
    unfold upB at h1
    rw [if_neg (by omega)] at h1
    exact h1
  have st : ∀ s t, s < N → t < N → EqG L dl en R s t → EqG L dl en (R + 1) s t := fun s t hs ht e => by
    rw [← h.sem _ (by omega) s t hs ht, same s hs, same t ht] at e
    exact (h.sem _ (Nat.le_refl _) s t hs ht).1 e
  constructor
  · intro e w hw
    have e1 := (h.sem R (by omega) s t hs ht).1 (by rw [same s hs, same t ht]; exact e)
    exact EqG.stable hdl st (w.length + 1) s t hs ht e1 w hw (by omega)
  · intro e
    exact (h.sem _ (Nat.le_refl _) s t hs ht).2 fun w hw _ => e w hw
theorem Lev.start (hp : p.cs = [1]) (hb : p.bs.length = 1) (hbl : ∀ s, s < N → gt p.bl s = 0) : Lev L dl en p N (fun _ _ => 0) 0 :=
  ⟨by rw [hp]; rfl, fun r hr => by omega, by rw [hp, hb]; exact Nat.le_refl _, fun r hr s hs => by rw [show r = 0 by omega, hp]; exact Nat.zero_lt_one, fun r hr => by omega, fun r hr => by omega,
    fun b h1 h2 => by rw [hp] at h1; have : 1 ≤ b := h1; omega, fun s hs => by
      unfold upB
      rw [hbl s hs, hp, if_neg (by decide)], fun r hr s t _ _ => by
      rw [show r = 0 by omega]
      exact ⟨fun _ => EqG.zero _ _, fun _ => rfl⟩⟩
theorem PI.few {todo : List Nat} (h : PI p N todo) : p.bs.length ≤ N := by
  have inj : ∀ b c, b < p.bs.length → c < p.bs.length → gt p.st (gb p.bs b).first = gt p.st (gb p.bs c).first → b = c := fun b c hb hc e => by
    have h1 := h.own b hb (gb p.bs b).first (Nat.le_refl _) (by have := h.bd b hb; omega)
    have h2 := h.own c hc (gb p.bs c).first (Nat.le_refl _) (by have := h.bd c hc; omega)
    rw [← h1, e, h2]
  have hn : ((List.range p.bs.length).map fun b => gt p.st (gb p.bs b).first).Nodup := by
    rw [List.nodup_iff_pairwise_ne, List.pairwise_map]
    refine List.Pairwise.imp_of_mem ?_ (List.nodup_iff_pairwise_ne.1 List.nodup_range)
    intro a b ha hb hab e
    exact hab (inj a b (List.mem_range.1 ha) (List.mem_range.1 hb) e)
  have hsub : ((List.range p.bs.length).map fun b => gt p.st (gb p.bs b).first) ⊆ List.range N := fun x hx => by
    obtain ⟨b, hb, rfl⟩ := List.mem_map.1 hx
    have hb := List.mem_range.1 hb
    have := h.bd b hb
    exact List.mem_range.2 (h.sp _ (by omega)).1
  have := hn.length_le_of_subset hsub
  simpa using this
theorem Lev.back (h : Lev L dl en p N lev R) {r s : Nat} (hs : s < N) : ∀ (k q : Nat), q = r + k → q ≤ R → gt p.cs r ≤ lev q s → ∃ q', r ≤ q' ∧ q' < q ∧ (gb p.bs (lev q s)).parent = lev q' s
  | 0, q, e, hq, hc => by
    have := h.lt q hq s hs
    have e : q = r := by omega
    rw [e] at this hc; omega
  | k + 1, q, e, hq, hc => by
    have hd := h.dn (r + k) (by omega) s hs
    rw [show r + k + 1 = q by omega] at hd
    unfold upB at hd
    split at hd
    · exact ⟨r + k, by omega, by omega, hd.symm⟩
    · obtain ⟨q', h1, h2, h3⟩ := h.back hs k (r + k) rfl (by omega) (by rw [hd]; exact hc)
      exact ⟨q', h1, by omega, by rw [← hd]; exact h3⟩
theorem Lev.there (h : Lev L dl en p N lev R) {r s : Nat} (hs : s < N) : ∀ (k q : Nat), q = r + k → q ≤ R → lev q s < gt p.cs r → lev q s = lev r s
  | 0, q, e, _, _ => by rw [show q = r by omega]
  | k + 1, q, e, hq, hc => by
    have hd := h.dn (r + k) (by omega) s hs
    rw [show r + k + 1 = q by omega] at hd
    have hm := h.monoLe k r (by omega)
    unfold upB at hd
    rw [if_neg (by omega)] at hd
    rw [← hd]
    exact h.there hs k (r + k) rfl (by omega) (by rw [hd]; exact hc)
end
end Go.Proofs.Ythkabbgaikociaa
namespace Go.Proofs.Ythkabbgaikociaa
open Go Sym
abbrev nats (l : List Nat) : List Value := l.map fun (n : Nat) => .int .i64 (n : Int)
abbrev n32s (l : List Nat) : List Value := l.map fun (n : Nat) => .int .i32 (n : Int)
abbrev oN (v : Value) (l : List Nat) : Ow := ⟨v, 3, 1, l.length, nats l⟩
abbrev oS (v : Value) (l : List Nat) : Ow := ⟨v, 21, 1, l.length, n32s l⟩
abbrev oX (T b k : Nat) (vs : List Value) : Ow := ⟨.slice (some ⟨b, 0, none⟩) 1 1, T, k, 1, vs⟩
def blkCells (l : List Blk) : List Value := l.flatMap fun b => [.int .i64 (b.first : Int), .int .i64 (b.size : Int), .int .i64 (b.marked : Int), .int .i64 (b.parent : Int)]
abbrev oK (v : Value) (l : List Blk) : Ow := ⟨v, 99, 4, l.length, blkCells l⟩
structure Hold (base : Nat) (w0 w : World) (l : List Ow) : Prop where
  r : Rows base w l
  b : RowKit.Below base w0 w
  s : base ≤ w.heap.size
theorem nats_get (l : List Nat) {j : Nat} (hj : j < l.length) : (nats l)[j]? = some (.int .i64 (gt l j : Int)) := by
  simp [gt, List.getD_eq_getElem?_getD, hj]
theorem n32s_get (l : List Nat) {j : Nat} (hj : j < l.length) : (n32s l)[j]? = some (.int .i32 (gt l j : Int)) := by
  simp [gt, List.getD_eq_getElem?_getD, hj]
theorem nats_set (l : List Nat) (j x : Nat) : (nats l).set j (.int .i64 (x : Int)) = nats (l.set j x) := by simp [nats, List.map_set]
theorem n32s_set (l : List Nat) (j x : Nat) : (n32s l).set j (.int .i32 (x : Int)) = n32s (l.set j x) := by simp [n32s, List.map_set]
theorem blk_get : ∀ (l : List Blk) (j : Nat), j < l.length → (blkCells l)[j * 4]? = some (.int .i64 ((gb l j).first : Int)) ∧ (blkCells l)[j * 4 + 1]? = some (.int .i64 ((gb l j).size : Int)) ∧ (blkCells l)[j * 4 + 2]? = some (.int .i64 ((gb l j).marked : Int)) ∧ (blkCells l)[j * 4 + 3]? = some (.int .i64 ((gb l j).parent : Int))
  | [], j, h => by simp at h
  | b :: r, 0, _ => ⟨rfl, rfl, rfl, rfl⟩
  | b :: r, j + 1, h => by
    have := blk_get r j (by simpa using h)
    rw [show (j + 1) * 4 = j * 4 + 4 by omega]
    simpa [blkCells, gb] using this
theorem blk_len (l : List Blk) : (blkCells l).length = l.length * 4 := by
  induction l with
  | nil => rfl
  | cons b r ih => simp only [blkCells, List.flatMap_cons, List.length_append, List.length_cons, List.length_nil] at ih ⊢; omega
theorem blk_app (l : List Blk) (b : Blk) : blkCells l ++ [.int .i64 (b.first : Int), .int .i64 (b.size : Int), .int .i64 (b.marked : Int), .int .i64 (b.parent : Int)] = blkCells (l ++ [b]) := by simp [blkCells]
theorem blk_set : ∀ (l : List Blk) (j : Nat) (x : Nat), (blkCells l).set (j * 4) (.int .i64 (x : Int)) = blkCells (l.set j { gb l j with first := x }) ∧ (blkCells l).set (j * 4 + 1) (.int .i64 (x : Int)) = blkCells (l.set j { gb l j with size := x }) ∧
    (blkCells l).set (j * 4 + 2) (.int .i64 (x : Int)) = blkCells (l.set j { gb l j with marked := x }) ∧ (blkCells l).set (j * 4 + 3) (.int .i64 (x : Int)) = blkCells (l.set j { gb l j with parent := x })
  | [], j, _ => by simp [blkCells]
  | b :: r, 0, _ => ⟨rfl, rfl, rfl, rfl⟩
  | b :: r, j + 1, x => by
    have := blk_set r j x
    rw [show (j + 1) * 4 = j * 4 + 4 by omega]
    simpa [blkCells, gb] using this
section
variable {base : Nat} {w0 w w' : World} {l : List Ow}
theorem Rows.lenV (h : Rows base w l) {i g n n' c e s : Nat} {xs : List Value} (hi : l[i]? = some ⟨.slice (some ⟨g, 0, none⟩) n c, e, s, n', xs⟩) : n = n' := h.len hi
theorem Rows.cellV (h : Rows base w l) {i g n n' c e s : Nat} {xs : List Value} (hi : l[i]? = some ⟨.slice (some ⟨g, 0, none⟩) n c, e, s, n', xs⟩) {j : Nat} {u : Value} (hj : xs[j]? = some u) : w.cell? ⟨g, 0 + j, none⟩ = some u := by
  obtain rfl := h.len hi
  have := h.1 i _ hi
  rw [Nat.zero_add, World.ownsRow.cellAt this j (by rw [← this.1]; exact (List.getElem?_eq_some_iff.1 hj).1)]
  exact hj
theorem Rows.storeV (h : Rows base w l) {i g n n' c e s : Nat} {xs : List Value} (hi : l[i]? = some ⟨.slice (some ⟨g, 0, none⟩) n c, e, s, n', xs⟩) (j : Nat) (u : Value) :
    Rows base (w.setCell ⟨g, 0 + j, none⟩ u) (l.set i ⟨.slice (some ⟨g, 0, none⟩) n c, e, s, n', xs.set j u⟩) ∧ w.grownBy (w.setCell ⟨g, 0 + j, none⟩ u) (some g) := by
  obtain rfl := h.len hi
  rw [Nat.zero_add]
  obtain ⟨h1, h2⟩ := World.ownsRow.stored (h.1 i _ hi) j u
  exact ⟨h.turn hi h2 h1 (.inl rfl), h2⟩
theorem Rows.xcell (h : Rows base w l) {i T b k : Nat} {vs : List Value} (hi : l[i]? = some (oX T b k vs)) {j : Nat} {u : Value} (hj : vs[j]? = some u) : w.cell? ⟨b, j, none⟩ = some u := by
  have := h.cellV hi hj
  rwa [Nat.zero_add] at this
theorem Rows.free (h : Rows base w l) {i g n n' c e s : Nat} {xs : List Value} (hi : l[i]? = some ⟨.slice (some ⟨g, 0, none⟩) n c, e, s, n', xs⟩) (j : Nat) : w.frozen? ⟨g, j, none⟩ = false := by
  have := h.freeI hi j
  rwa [Nat.zero_add] at this
theorem Hold.start (w : World) : Hold w.heap.size w w [] := ⟨Rows.nil _ _, RowKit.Below.refl _ _, Nat.le_refl _⟩
theorem Hold.drew (h : Hold base w0 w l) : Hold base w0 w.drew l := ⟨h.r, h.b.drew, h.s⟩
theorem Hold.below (h : Hold base w0 w l) (hb : RowKit.Below w.heap.size w w') : Hold base w0 w' l :=
  ⟨h.r.below hb, h.b.trans (hb.mono h.s), Nat.le_trans h.s hb.size⟩
theorem Hold.store (h : Hold base w0 w l) {i g n n' c e s : Nat} {xs : List Value} (hi : l[i]? = some ⟨.slice (some ⟨g, 0, none⟩) n c, e, s, n', xs⟩) (j : Nat) (u : Value) :
    Hold base w0 (w.setCell ⟨g, 0 + j, none⟩ u) (l.set i ⟨.slice (some ⟨g, 0, none⟩) n c, e, s, n', xs.set j u⟩) := by
  obtain ⟨h1, h2⟩ := h.r.storeV hi j u
  exact ⟨h1, h.r.low hi h.b h.s h2, Nat.le_trans h.s h2.size⟩
theorem Hold.xstore (h : Hold base w0 w l) {i T b k : Nat} {vs : List Value} (hi : l[i]? = some (oX T b k vs)) (j : Nat) (u : Value) : Hold base w0 (w.setCell ⟨b, j, none⟩ u) (l.set i (oX T b k (vs.set j u))) := by
  have := h.store hi j u
  rwa [Nat.zero_add] at this
theorem Hold.app {v v' : Value} {e s n m : Nat} {xs news : List Value} (h : Hold base w0 w l) {i : Nat} (hi : l[i]? = some ⟨v, e, s, n, xs⟩) (hown : w'.ownsRow base e s v' (n + m) (xs ++ news)) (hgr : w.grownBy w' v.ownBlock)
    (hat : v'.ownBlock = v.ownBlock ∨ v'.ownBlock = some w.heap.size) : Hold base w0 w' (l.set i ⟨v', e, s, n + m, xs ++ news⟩) :=
  ⟨h.r.turn hi hgr hown (hat.imp id fun e => ⟨_, e, Nat.le_refl _⟩), h.r.low hi h.b h.s hgr, Nat.le_trans h.s hgr.size⟩
theorem Hold.alloc (h : Hold base w0 w l) (o : Obj) : Hold base w0 (w.alloc o) l := h.below (below_alloc _ _)
theorem Hold.new (h : Hold base w0 w l) (hg : w.grownBy w' none) {o : Ow} (ho : o.ok base w') (hat : o.v.ownBlock = none ∨ ∃ k, o.v.ownBlock = some k ∧ w.heap.size ≤ k) : Hold base w0 w' (o :: l) :=
  ⟨h.r.new hg ho hat, h.b.trans ⟨hg.os, hg.tape, hg.output, hg.size, fun k hk => hg.block k (Nat.lt_of_lt_of_le hk h.s) (by simp)⟩, Nat.le_trans h.s hg.size⟩
theorem Hold.lit (h : Hold base w0 w l) {e s n : Nat} (cs : Array Value) (hs : cs.size = n * s) (hn : n ≤ 9223372036854775807) : Hold base w0 (w.alloc (.cells cs e)) (⟨.slice (some ⟨w.heap.size, 0, none⟩) n n, e, s, n, cs.toList⟩ :: l) :=
  h.new (World.grownBy_alloc w _ none) (World.ownsRow_lit w cs n h.s (by unfold maxLen; exact hn) hs) (.inr ⟨_, rfl, Nat.le_refl _⟩)
theorem Hold.box (h : Hold base w0 w l) {T k : Nat} (cs : Array Value) (hs : cs.size = k) : Hold base w0 (w.alloc (.cells cs T)) (oX T w.heap.size k cs.toList :: l) := h.lit cs (by omega) (by decide)
theorem Hold.tail {o : Ow} (h : Hold base w0 w (o :: l)) : Hold base w0 w l := ⟨h.r.tail, h.b, h.s⟩
theorem Hold.swap {a b : Ow} (h : Hold base w0 w (a :: b :: l)) : Hold base w0 w (b :: a :: l) := ⟨h.r.cons2, h.b, h.s⟩
theorem Rows.nilOr (h : Rows base w l) {i : Nat} {v : Value} {e s n : Nat} {xs : List Value} (hi : l[i]? = some ⟨v, e, s, n, xs⟩) (h0 : 0 < n) : ∃ g c, v = .slice (some ⟨g, 0, none⟩) n c ∧ n ≤ c ∧ c ≤ 9223372036854775807 := by
  rcases h.form hi with ⟨_, h1⟩ | h1
  · omega
  · exact h1
theorem Rows.any (h : Rows base w l) {i : Nat} {v : Value} {e s n : Nat} {xs : List Value} (hi : l[i]? = some ⟨v, e, s, n, xs⟩) : ∃ g c, v = .slice g n c ∧ n ≤ c ∧ c ≤ 9223372036854775807 := by
  rcases h.form hi with ⟨h1, rfl⟩ | ⟨g, c, h1, h2, h3⟩
  · exact ⟨_, _, h1, Nat.le_refl _, by omega⟩
  · exact ⟨_, _, h1, h2, h3⟩
theorem Rows.cN (h : Rows base w l) {i g n c : Nat} {xs : List Nat} (hi : l[i]? = some (oN (.slice (some ⟨g, 0, none⟩) n c) xs)) {j : Nat} (hj : j < xs.length) : w.cell? ⟨g, 0 + j, none⟩ = some (.int .i64 (gt xs j : Int)) := h.cellV hi (nats_get xs hj)
theorem Rows.cS (h : Rows base w l) {i g n c : Nat} {xs : List Nat} (hi : l[i]? = some (oS (.slice (some ⟨g, 0, none⟩) n c) xs)) {j : Nat} (hj : j < xs.length) : w.cell? ⟨g, 0 + j, none⟩ = some (.int .i32 (gt xs j : Int)) := h.cellV hi (n32s_get xs hj)
theorem Rows.cB (h : Rows base w l) {i g n c : Nat} {xs : List Bool} (hi : l[i]? = some (oB (.slice (some ⟨g, 0, none⟩) n c) xs)) {j : Nat} (hj : j < xs.length) : w.cell? ⟨g, 0 + j, none⟩ = some (.bool (xs.getD j false)) := h.cellV hi (by simp [List.getD_eq_getElem?_getD, hj])
theorem Rows.cK0 (h : Rows base w l) {i g n c : Nat} {xs : List Blk} (hi : l[i]? = some (oK (.slice (some ⟨g, 0, none⟩) n c) xs)) {j : Nat} (hj : j < xs.length) : w.cell? ⟨g, 0 + j * 4 + 0, none⟩ = some (.int .i64 ((gb xs j).first : Int)) := by
  have := h.cellV hi (blk_get xs j hj).1
  simpa using this
theorem Rows.cK1 (h : Rows base w l) {i g n c : Nat} {xs : List Blk} (hi : l[i]? = some (oK (.slice (some ⟨g, 0, none⟩) n c) xs)) {j : Nat} (hj : j < xs.length) : w.cell? ⟨g, 0 + j * 4 + 1, none⟩ = some (.int .i64 ((gb xs j).size : Int)) := by
  have := h.cellV hi (blk_get xs j hj).2.1
  rwa [← Nat.add_assoc] at this
theorem Rows.cK2 (h : Rows base w l) {i g n c : Nat} {xs : List Blk} (hi : l[i]? = some (oK (.slice (some ⟨g, 0, none⟩) n c) xs)) {j : Nat} (hj : j < xs.length) : w.cell? ⟨g, 0 + j * 4 + 2, none⟩ = some (.int .i64 ((gb xs j).marked : Int)) := by
  have := h.cellV hi (blk_get xs j hj).2.2.1
  rwa [← Nat.add_assoc] at this
theorem Rows.cK3 (h : Rows base w l) {i g n c : Nat} {xs : List Blk} (hi : l[i]? = some (oK (.slice (some ⟨g, 0, none⟩) n c) xs)) {j : Nat} (hj : j < xs.length) : w.cell? ⟨g, 0 + j * 4 + 3, none⟩ = some (.int .i64 ((gb xs j).parent : Int)) := by
  have := h.cellV hi (blk_get xs j hj).2.2.2
  rwa [← Nat.add_assoc] at this
end
structure PV where
  st : Value
  pl : Value
  bl : Value
  bs : Value
  cs : Value
  ml : Value
abbrev pX (b : Nat) (V : PV) : Ow := oX 68 b 6 [V.st, V.pl, V.bl, V.bs, V.cs, V.ml]
abbrev ptR (b : Nat) (p : Pt) (V : PV) : List Ow := [pX b V, oS V.st p.st, oN V.pl p.pl, oN V.bl p.bl, oK V.bs p.bs, oN V.cs p.cs, oN V.ml p.ml]
def HoldP (base : Nat) (w0 w : World) (b : Nat) (p : Pt) (rest : List Ow) : Prop := ∃ V, Hold base w0 w (ptR b p V ++ rest)
section
variable {base : Nat} {w0 w w' : World} {l : List Ow}
theorem Hold.cast {l' : List Ow} (h : Hold base w0 w l) (e : l = l') : Hold base w0 w l' := e ▸ h
theorem oN_set (v : Value) (l : List Nat) (j x : Nat) : (⟨v, 3, 1, l.length, (nats l).set j (.int .i64 (x : Int))⟩ : Ow) = oN v (l.set j x) := by rw [nats_set, oN, List.length_set]
theorem oS_set (v : Value) (l : List Nat) (j x : Nat) : (⟨v, 21, 1, l.length, (n32s l).set j (.int .i32 (x : Int))⟩ : Ow) = oS v (l.set j x) := by rw [n32s_set, oS, List.length_set]
theorem oB_set (v : Value) (l : List Bool) (j : Nat) (x : Bool) : (⟨v, 4, 1, l.length, (bools l).set j (.bool x)⟩ : Ow) = oB v (l.set j x) := by rw [oB, List.length_set, bools, bools, List.map_set]
theorem oN_app (v : Value) (l : List Nat) (x : Nat) : (⟨v, 3, 1, l.length + 1, nats l ++ [.int .i64 (x : Int)]⟩ : Ow) = oN v (l ++ [x]) := by simp
theorem oS_app (v : Value) (l : List Nat) (x : Nat) : (⟨v, 21, 1, l.length + 1, n32s l ++ [.int .i32 (x : Int)]⟩ : Ow) = oS v (l ++ [x]) := by simp
theorem oK_app (v : Value) (l : List Blk) (b : Blk) : (⟨v, 99, 4, l.length + 1, blkCells l ++ [.int .i64 (b.first : Int), .int .i64 (b.size : Int), .int .i64 (b.marked : Int), .int .i64 (b.parent : Int)]⟩ : Ow) = oK v (l ++ [b]) := by rw [blk_app, oK, List.length_append]; rfl
theorem oB_app (v : Value) (l k : List Bool) : (⟨v, 4, 1, l.length + k.length, bools l ++ bools k⟩ : Ow) = oB v (l ++ k) := by simp
theorem Hold.storeN (h : Hold base w0 w l) {i g n c : Nat} {xs : List Nat} (hi : l[i]? = some (oN (.slice (some ⟨g, 0, none⟩) n c) xs)) (j x : Nat) : Hold base w0 (w.setCell ⟨g, 0 + j, none⟩ (.int .i64 (x : Int))) (l.set i (oN (.slice (some ⟨g, 0, none⟩) n c) (xs.set j x))) := by
  have := h.store hi j (.int .i64 (x : Int))
  rwa [oN_set] at this
theorem Hold.storeS (h : Hold base w0 w l) {i g n c : Nat} {xs : List Nat} (hi : l[i]? = some (oS (.slice (some ⟨g, 0, none⟩) n c) xs)) (j x : Nat) : Hold base w0 (w.setCell ⟨g, 0 + j, none⟩ (.int .i32 (x : Int))) (l.set i (oS (.slice (some ⟨g, 0, none⟩) n c) (xs.set j x))) := by
  have := h.store hi j (.int .i32 (x : Int))
  rwa [oS_set] at this
theorem Hold.storeB (h : Hold base w0 w l) {i g n c : Nat} {xs : List Bool} (hi : l[i]? = some (oB (.slice (some ⟨g, 0, none⟩) n c) xs)) (j : Nat) (x : Bool) : Hold base w0 (w.setCell ⟨g, 0 + j, none⟩ (.bool x)) (l.set i (oB (.slice (some ⟨g, 0, none⟩) n c) (xs.set j x))) := by
  have := h.store hi j (.bool x)
  rwa [oB_set] at this
theorem Hold.storeK0 (h : Hold base w0 w l) {i g n c : Nat} {xs : List Blk} (hi : l[i]? = some (oK (.slice (some ⟨g, 0, none⟩) n c) xs)) (j x : Nat) : Hold base w0 (w.setCell ⟨g, 0 + j * 4 + 0, none⟩ (.int .i64 (x : Int))) (l.set i (oK (.slice (some ⟨g, 0, none⟩) n c) (xs.set j { gb xs j with first := x }))) := by
  have := h.store hi (j * 4) (.int .i64 (x : Int))
  rw [(blk_set xs j x).1] at this
  rw [oK, List.length_set]; exact this
theorem Hold.storeK1 (h : Hold base w0 w l) {i g n c : Nat} {xs : List Blk} (hi : l[i]? = some (oK (.slice (some ⟨g, 0, none⟩) n c) xs)) (j x : Nat) : Hold base w0 (w.setCell ⟨g, 0 + j * 4 + 1, none⟩ (.int .i64 (x : Int))) (l.set i (oK (.slice (some ⟨g, 0, none⟩) n c) (xs.set j { gb xs j with size := x }))) := by
  have := h.store hi (j * 4 + 1) (.int .i64 (x : Int))
  rw [(blk_set xs j x).2.1, ← Nat.add_assoc] at this
  rw [oK, List.length_set]; exact this
theorem Hold.storeK2 (h : Hold base w0 w l) {i g n c : Nat} {xs : List Blk} (hi : l[i]? = some (oK (.slice (some ⟨g, 0, none⟩) n c) xs)) (j x : Nat) : Hold base w0 (w.setCell ⟨g, 0 + j * 4 + 2, none⟩ (.int .i64 (x : Int))) (l.set i (oK (.slice (some ⟨g, 0, none⟩) n c) (xs.set j { gb xs j with marked := x }))) := by
  have := h.store hi (j * 4 + 2) (.int .i64 (x : Int))
  rw [(blk_set xs j x).2.2.1, ← Nat.add_assoc] at this
  rw [oK, List.length_set]; exact this
theorem Hold.appN {v v' : Value} {xs : List Nat} {x : Nat} (h : Hold base w0 w l) {i : Nat} (hi : l[i]? = some (oN v xs)) (hown : w'.ownsRow base 3 1 v' (xs.length + 1) (nats xs ++ [.int .i64 (x : Int)])) (hgr : w.grownBy w' v.ownBlock)
    (hat : v'.ownBlock = v.ownBlock ∨ v'.ownBlock = some w.heap.size) : Hold base w0 w' (l.set i (oN v' (xs ++ [x]))) := by
  have := h.app hi hown hgr hat
  rwa [oN_app] at this
theorem Hold.appS {v v' : Value} {xs : List Nat} {x : Nat} (h : Hold base w0 w l) {i : Nat} (hi : l[i]? = some (oS v xs)) (hown : w'.ownsRow base 21 1 v' (xs.length + 1) (n32s xs ++ [.int .i32 (x : Int)])) (hgr : w.grownBy w' v.ownBlock)
    (hat : v'.ownBlock = v.ownBlock ∨ v'.ownBlock = some w.heap.size) : Hold base w0 w' (l.set i (oS v' (xs ++ [x]))) := by
  have := h.app hi hown hgr hat
  rwa [oS_app] at this
theorem Hold.appB {v v' : Value} {xs ys : List Bool} (h : Hold base w0 w l) {i : Nat} (hi : l[i]? = some (oB v xs)) (hown : w'.ownsRow base 4 1 v' (xs.length + ys.length) (bools xs ++ bools ys)) (hgr : w.grownBy w' v.ownBlock)
    (hat : v'.ownBlock = v.ownBlock ∨ v'.ownBlock = some w.heap.size) : Hold base w0 w' (l.set i (oB v' (xs ++ ys))) := by
  have := h.app hi hown hgr hat
  rwa [oB_app] at this
theorem Hold.appK {v v' : Value} {xs : List Blk} {b : Blk} (h : Hold base w0 w l) {i : Nat} (hi : l[i]? = some (oK v xs)) (hown : w'.ownsRow base 99 4 v' (xs.length + 1) (blkCells xs ++ [.int .i64 (b.first : Int), .int .i64 (b.size : Int), .int .i64 (b.marked : Int), .int .i64 (b.parent : Int)])) (hgr : w.grownBy w' v.ownBlock)
    (hat : v'.ownBlock = v.ownBlock ∨ v'.ownBlock = some w.heap.size) : Hold base w0 w' (l.set i (oK v' (xs ++ [b]))) := by
  have := h.app hi hown hgr hat
  rwa [oK_app] at this
end
theorem nat_eq0 (n : Nat) : decide ((n : Int) = 0) = decide (n = 0) := by
  rw [Bool.eq_iff_iff]; simp
theorem i32_in (n : Nat) (h : n ≤ 1000000000) : IntKind.i32.wrap (n : Int) = (n : Int) := by
  have h1 : (n : Int) % 2 ^ 32 = n := by omega
  simp only [IntKind.wrap, IntKind.bits, IntKind.signed, h1]
  rw [if_neg (by simp; omega)]
theorem i64_in (n : Nat) (h : n ≤ 9223372036854775807) : IntKind.i64.wrap (n : Int) = (n : Int) := IntWalk.i64_in _ ⟨by omega, by omega⟩
theorem i64_add (n m : Nat) (h : n + m ≤ 9223372036854775807) : IntKind.i64.wrap ((n : Int) + (m : Int)) = ((n + m : Nat) : Int) := by
  rw [← Int.natCast_add]; exact i64_in _ h
theorem i64_sub (n m : Nat) (h : m ≤ n) (hn : n ≤ 9223372036854775807) : IntKind.i64.wrap ((n : Int) - (m : Int)) = ((n - m : Nat) : Int) := by
  rw [show (n : Int) - (m : Int) = ((n - m : Nat) : Int) by omega]; exact i64_in _ (by omega)
theorem i64_mul (n m : Nat) (h : n * m ≤ 9223372036854775807) : IntKind.i64.wrap ((n : Int) * (m : Int)) = ((n * m : Nat) : Int) := by
  rw [← Int.natCast_mul]; exact i64_in _ h
end Go.Proofs.Ythkabbgaikociaa
namespace Go.Proofs.Ythkabbgaikociaa
open Go Sym
def smallM (L : Int) (next : List (List Int)) (fin : List Bool) : Bool := decide ((next.length : Int) ≤ 30) && (decide ((fin.length : Int) ≤ 40) && decide (L ≤ 8))
set_option maxRecDepth 100000 in
theorem small_any (L s : Int) (vn ve : Value) (next : List (List Int)) (fin : List Bool) (w : World) (hm : Ma w L s next fin vn ve) :
    Calls Try.prog 18 #[.agg #[.int .i64 L, .int .i64 s, vn, ve]] w fun e w' => e = .returned (.bool (smallM L next fin)) ∧ RowKit.Below w.heap.size w w' := by
  refine Sym.enter (args := [.agg #[.int .i64 L, .int .i64 s, vn, ve]]) Try.func18 rfl rfl rfl (fun a0 hS0 => ?_)
  refine wp_seq (seq_cut [(1, .pointer (some ⟨w.heap.size, 0, none⟩))] (· = w.alloc (.cells #[.int .i64 L, .int .i64 s, vn, ve] 25)) tab_ok hS0 ?_ (fun a wc hS hw => ?_))
  · refine o_new rfl rfl rfl (fun _ => rfl) ?_
    repeat (first | refine o_pure rfl rfl rfl (fun _ => rfl) ?_ | refine o_skip rfl rfl rfl ?_)
    exact o_nil ⟨⟨rfl, trivial⟩, rfl⟩
  have hB : RowKit.Below w.heap.size w wc := by rw [hw]; exact below_alloc _ _
  have hx : Box wc w.heap.size L s vn ve := by rw [hw]; exact Box.new _ _ _ _ _ _
  clear hw
  obtain ⟨an, cn, hvn⟩ := hm.n.len
  subst hvn
  obtain ⟨ae, ce, hve⟩ := hm.e.len
  subst hve
  refine wp_seq (seq_cut [(2, .bool (smallM L next fin))] (· = wc) tab_ok hS ?_ (fun a w3 hS hw => ?_))
  · repeat (first | refine o_pure rfl rfl rfl (fun _ => rfl) ?_ | refine o_skip rfl rfl rfl ?_)
    refine o_load rfl rfl rfl (fun _ => rfl) (hx.c2) ?_
    repeat (first | refine o_pure rfl rfl rfl (fun _ => rfl) ?_ | refine o_skip rfl rfl rfl ?_)
    cases e1 : decide ((next.length : Int) ≤ 30)
    case false =>
      refine o_cmp rfl rfl rfl (fun _ => rfl) (e1) ?_
      repeat (first | refine o_pure rfl rfl rfl (fun _ => rfl) ?_ | refine o_skip rfl rfl rfl ?_)
      exact o_nil ⟨⟨by rw [smallM, e1]; rfl, trivial⟩, rfl⟩
    case true =>
      refine o_cmp rfl rfl rfl (fun _ => rfl) (e1) ?_
      repeat (first | refine o_pure rfl rfl rfl (fun _ => rfl) ?_ | refine o_skip rfl rfl rfl ?_)
      refine o_load rfl rfl rfl (fun _ => rfl) (hx.c3) ?_
      repeat (first | refine o_pure rfl rfl rfl (fun _ => rfl) ?_ | refine o_skip rfl rfl rfl ?_)
      cases e2 : decide ((fin.length : Int) ≤ 40)
      case false =>
        refine o_cmp rfl rfl rfl (fun _ => rfl) (e2) ?_
        repeat (first | refine o_pure rfl rfl rfl (fun _ => rfl) ?_ | refine o_skip rfl rfl rfl ?_)
        exact o_nil ⟨⟨by rw [smallM, e1, e2]; rfl, trivial⟩, rfl⟩
      case true =>
        refine o_cmp rfl rfl rfl (fun _ => rfl) (e2) ?_
        repeat (first | refine o_pure rfl rfl rfl (fun _ => rfl) ?_ | refine o_skip rfl rfl rfl ?_)
        refine o_load rfl rfl rfl (fun _ => rfl) (hx.c0) ?_
        refine o_cmp rfl rfl rfl (fun _ => rfl) (rfl) ?_
        repeat (first | refine o_pure rfl rfl rfl (fun _ => rfl) ?_ | refine o_skip rfl rfl rfl ?_)
        exact o_nil ⟨⟨by rw [smallM, e1, e2]; rfl, trivial⟩, rfl⟩
  subst hw
  refine wp_ret ?_
  repeat (first | refine then_ret ?_ | refine block_ret ?_)
  exact ret1 hS rfl rfl ⟨rfl, hB⟩
structure BoxP (w : World) (B : Nat) (a b : Int) : Prop where
  c0 : w.cell? ⟨B, 0, none⟩ = some (.int .i64 a)
  c1 : w.cell? ⟨B, 1, none⟩ = some (.int .i64 b)
theorem BoxP.keep {w w' : World} (hb : RowKit.Below w.heap.size w w') {B : Nat} {a b : Int} (h : BoxP w B a b) : BoxP w' B a b :=
  ⟨Ythkabbgaikociaa.keep hb h.c0, Ythkabbgaikociaa.keep hb h.c1⟩
theorem BoxP.new (w : World) (a b : Int) (T : TypeId) : BoxP (w.alloc (.cells #[.int .i64 a, .int .i64 b] T)) w.heap.size a b := ⟨cell_alloc_new rfl, cell_alloc_new rfl⟩
set_option maxRecDepth 100000 in
theorem before_any (p q c d : Int) (w : World) :
    Calls Try.prog 62 #[.agg #[.int .i64 p, .int .i64 q], .agg #[.int .i64 c, .int .i64 d]] w fun e w' => e = .returned (.bool (beforeM p q c d)) ∧ RowKit.Below w.heap.size w w' := by
  refine Sym.enter (args := [.agg #[.int .i64 p, .int .i64 q], .agg #[.int .i64 c, .int .i64 d]]) Try.func62 rfl rfl rfl (fun a0 hS0 => ?_)
  obtain ⟨N, hN⟩ : ∃ N, N = (w.alloc (.cells #[.int .i64 p, .int .i64 q] 50)).heap.size := ⟨_, rfl⟩
  refine wp_seq (seq_cut [(2, .pointer (some ⟨w.heap.size, 0, none⟩)), (3, .pointer (some ⟨N, 0, none⟩))] (· = (w.alloc (.cells #[.int .i64 p, .int .i64 q] 50)).alloc (.cells #[.int .i64 c, .int .i64 d] 50)) tab_ok hS0 ?_ (fun a wc hS hw => ?_))
  · subst hN
    refine o_new rfl rfl rfl (fun _ => rfl) ?_
    refine o_new rfl rfl rfl (fun _ => rfl) ?_
    repeat (first | refine o_pure rfl rfl rfl (fun _ => rfl) ?_ | refine o_skip rfl rfl rfl ?_)
    exact o_nil ⟨⟨rfl, rfl, trivial⟩, rfl⟩
  have hB1 := below_alloc w (.cells #[.int .i64 p, .int .i64 q] 50)
  have hB2 := below_alloc (w.alloc (.cells #[.int .i64 p, .int .i64 q] 50)) (.cells #[.int .i64 c, .int .i64 d] 50)
  rw [← hw] at hB2
  have hx := (BoxP.new w p q 50).keep hB2
  have hy : BoxP wc N c d := by rw [hw, hN]; exact BoxP.new _ _ _ _
  have hB := below_trans hB1 hB2
  clear hw
  refine wp_seq (seq_cut [(4, .bool (beforeM p q c d))] (· = wc) tab_ok hS ?_ (fun a w3 hS hw => ?_))
  · repeat (first | refine o_pure rfl rfl rfl (fun _ => rfl) ?_ | refine o_skip rfl rfl rfl ?_)
    refine o_load rfl rfl rfl (fun _ => rfl) (hx.c0) ?_
    repeat (first | refine o_pure rfl rfl rfl (fun _ => rfl) ?_ | refine o_skip rfl rfl rfl ?_)
    refine o_load rfl rfl rfl (fun _ => rfl) (hy.c0) ?_
    repeat (first | refine o_pure rfl rfl rfl (fun _ => rfl) ?_ | refine o_skip rfl rfl rfl ?_)
    cases e1 : decide (p < c)
    case true =>
      refine o_cmp rfl rfl rfl (fun _ => rfl) (e1) ?_
      repeat (first | refine o_pure rfl rfl rfl (fun _ => rfl) ?_ | refine o_skip rfl rfl rfl ?_)
      exact o_nil ⟨⟨by rw [beforeM, e1]; rfl, trivial⟩, rfl⟩
    case false =>
      refine o_cmp rfl rfl rfl (fun _ => rfl) (e1) ?_
      repeat (first | refine o_pure rfl rfl rfl (fun _ => rfl) ?_ | refine o_skip rfl rfl rfl ?_)
      refine o_load rfl rfl rfl (fun _ => rfl) (hx.c0) ?_
      repeat (first | refine o_pure rfl rfl rfl (fun _ => rfl) ?_ | refine o_skip rfl rfl rfl ?_)
      refine o_load rfl rfl rfl (fun _ => rfl) (hy.c0) ?_
      repeat (first | refine o_pure rfl rfl rfl (fun _ => rfl) ?_ | refine o_skip rfl rfl rfl ?_)
      cases e2 : decide (p = c)
      case false =>
        refine o_cmp rfl rfl rfl (fun _ => rfl) (e2) ?_
        repeat (first | refine o_pure rfl rfl rfl (fun _ => rfl) ?_ | refine o_skip rfl rfl rfl ?_)
        exact o_nil ⟨⟨by rw [beforeM, e1, e2]; rfl, trivial⟩, rfl⟩
      case true =>
        refine o_cmp rfl rfl rfl (fun _ => rfl) (e2) ?_
        repeat (first | refine o_pure rfl rfl rfl (fun _ => rfl) ?_ | refine o_skip rfl rfl rfl ?_)
        refine o_load rfl rfl rfl (fun _ => rfl) (hx.c1) ?_
        repeat (first | refine o_pure rfl rfl rfl (fun _ => rfl) ?_ | refine o_skip rfl rfl rfl ?_)
        refine o_load rfl rfl rfl (fun _ => rfl) (hy.c1) ?_
        refine o_cmp rfl rfl rfl (fun _ => rfl) (rfl) ?_
        repeat (first | refine o_pure rfl rfl rfl (fun _ => rfl) ?_ | refine o_skip rfl rfl rfl ?_)
        exact o_nil ⟨⟨by rw [beforeM, e1, e2]; rfl, trivial⟩, rfl⟩
  subst hw
  refine wp_ret ?_
  repeat (first | refine then_ret ?_ | refine block_ret ?_)
  exact ret1 hS rfl rfl ⟨rfl, hB⟩
set_option maxRecDepth 100000 in
theorem two_any (L1 s1 L2 s2 : Int) (vn1 ve1 vn2 ve2 : Value) (n1 n2 : List (List Int)) (f1 f2 : List Bool) (w : World) (hm : Ma w L1 s1 n1 f1 vn1 ve1) (hm2 : Ma w L2 s2 n2 f2 vn2 ve2) :
    Calls Try.prog 60 #[.agg #[.int .i64 L1, .int .i64 s1, vn1, ve1], .agg #[.int .i64 L2, .int .i64 s2, vn2, ve2]] w fun e w' => e = .returned (.int .i64 (twoM L1 s1 n1 f1 L2 s2 n2 f2)) ∧ RowKit.Below w.heap.size w w' := by
  refine Sym.enter (args := [.agg #[.int .i64 L1, .int .i64 s1, vn1, ve1], .agg #[.int .i64 L2, .int .i64 s2, vn2, ve2]]) Try.func60 rfl rfl rfl (fun a0 hS0 => ?_)
  obtain ⟨N, hN⟩ : ∃ N, N = (w.alloc (.cells #[.int .i64 L1, .int .i64 s1, vn1, ve1] 25)).heap.size := ⟨_, rfl⟩
  refine wp_seq (seq_cut [(2, .pointer (some ⟨w.heap.size, 0, none⟩)), (3, .pointer (some ⟨N, 0, none⟩))] (· = (w.alloc (.cells #[.int .i64 L1, .int .i64 s1, vn1, ve1] 25)).alloc (.cells #[.int .i64 L2, .int .i64 s2, vn2, ve2] 25)) tab_ok hS0 ?_ (fun a wc hS hw => ?_))
  · subst hN
    refine o_new rfl rfl rfl (fun _ => rfl) ?_
    refine o_new rfl rfl rfl (fun _ => rfl) ?_
    repeat (first | refine o_pure rfl rfl rfl (fun _ => rfl) ?_ | refine o_skip rfl rfl rfl ?_)
    exact o_nil ⟨⟨rfl, rfl, trivial⟩, rfl⟩
  have hB1 := below_alloc w (.cells #[.int .i64 L1, .int .i64 s1, vn1, ve1] 25)
  have hB2 := below_alloc (w.alloc (.cells #[.int .i64 L1, .int .i64 s1, vn1, ve1] 25)) (.cells #[.int .i64 L2, .int .i64 s2, vn2, ve2] 25)
  rw [← hw] at hB2
  have hx := (Box.new w L1 s1 vn1 ve1 25).keep hB2
  have hy : Box wc N L2 s2 vn2 ve2 := by rw [hw, hN]; exact Box.new _ _ _ _ _ _
  have hB := below_trans hB1 hB2
  clear hw hB1 hB2 hN
  replace hm := hm.keep hB
  replace hm2 := hm2.keep hB
  obtain ⟨hb, hhb⟩ : ∃ b, (decide (validM L1 s1 n1 f1 ≠ 0) || decide (validM L2 s2 n2 f2 ≠ 0)) = b := ⟨_, rfl⟩
  refine wp_seq (wp_seq (seq_cut [(2, .pointer (some ⟨w.heap.size, 0, none⟩)), (3, .pointer (some ⟨N, 0, none⟩)), (12, .bool hb)] (fun w' => RowKit.Below wc.heap.size wc w') tab_ok hS ?_ (fun a w2 hS hw => ?_)))
  · refine o_loads (vs := [.int .i64 L1, .int .i64 s1, vn1, ve1]) rfl rfl rfl (fun _ => rfl) rfl (hx.cells) ?_
    refine o_call rfl rfl rfl (fun _ => rfl) (en_Valid) (valid_any L1 s1 vn1 ve1 n1 f1 _ hm) ?_
    rintro e w1 ⟨rfl, h1⟩
    refine ⟨_, rfl, ?_⟩
    cases e1 : decide (validM L1 s1 n1 f1 ≠ 0)
    case true =>
      rw [e1, Bool.true_or] at hhb; subst hhb
      refine o_cmp rfl rfl rfl (fun _ => rfl) (e1) ?_
      repeat (first | refine o_pure rfl rfl rfl (fun _ => rfl) ?_ | refine o_skip rfl rfl rfl ?_)
      exact o_nil ⟨⟨rfl, rfl, rfl, trivial⟩, h1⟩
    case false =>
      rw [e1, Bool.false_or] at hhb
      refine o_cmp rfl rfl rfl (fun _ => rfl) (e1) ?_
      repeat (first | refine o_pure rfl rfl rfl (fun _ => rfl) ?_ | refine o_skip rfl rfl rfl ?_)
      refine o_loads (vs := [.int .i64 L2, .int .i64 s2, vn2, ve2]) rfl rfl rfl (fun _ => rfl) rfl ((hy.keep h1).cells) ?_
      refine o_call rfl rfl rfl (fun _ => rfl) (en_Valid) (valid_any L2 s2 vn2 ve2 n2 f2 _ (hm2.keep h1)) ?_
      rintro e w3 ⟨rfl, h3⟩
      refine ⟨_, rfl, ?_⟩
      refine o_cmp rfl rfl rfl (fun _ => rfl) (hhb) ?_
      repeat (first | refine o_pure rfl rfl rfl (fun _ => rfl) ?_ | refine o_skip rfl rfl rfl ?_)
      exact o_nil ⟨⟨rfl, rfl, rfl, trivial⟩, below_trans h1 h3⟩
  replace hB := below_trans hB hw
  replace hx := hx.keep hw
  replace hy := hy.keep hw
  refine cond hS rfl (fun hT => ?_) (fun hF => ?_)
  · refine wp_seq (seq_cut [(4, .int .i64 1)] (· = w2) tab_ok hS ?_ (fun a w3 hS hw => ?_))
    · repeat (first | refine o_pure rfl rfl rfl (fun _ => rfl) ?_ | refine o_skip rfl rfl rfl ?_)
      exact o_nil ⟨⟨rfl, trivial⟩, rfl⟩
    subst hw
    refine wp_ret ?_
    repeat (first | refine then_ret ?_ | refine block_ret ?_)
    refine ret1 hS rfl rfl ⟨?_, hB⟩
    subst hT
    rw [Bool.or_eq_true, decide_eq_true_eq, decide_eq_true_eq] at hhb
    rw [twoM]
    split
    · rfl
    · rename_i h0
      rw [if_pos (hhb.resolve_left h0)]
  subst hF
  rw [Bool.or_eq_false_iff, decide_eq_false_iff_not, decide_eq_false_iff_not] at hhb
  have htwo : twoM L1 s1 n1 f1 L2 s2 n2 f2 = if L1 ≠ L2 then 4 else 0 := by rw [twoM, if_neg hhb.1, if_neg hhb.2]
  refine wp_skip ?_
  obtain ⟨hb2, hhb2⟩ : ∃ b, decide (L1 ≠ L2) = b := ⟨_, rfl⟩
  refine wp_seq (wp_seq (seq_cut [(17, .bool hb2)] (· = w2) tab_ok hS ?_ (fun a w3 hS hw => ?_)))
  · repeat (first | refine o_pure rfl rfl rfl (fun _ => rfl) ?_ | refine o_skip rfl rfl rfl ?_)
    refine o_load rfl rfl rfl (fun _ => rfl) (hx.c0) ?_
    repeat (first | refine o_pure rfl rfl rfl (fun _ => rfl) ?_ | refine o_skip rfl rfl rfl ?_)
    refine o_load rfl rfl rfl (fun _ => rfl) (hy.c0) ?_
    refine o_cmp rfl rfl rfl (fun _ => rfl) (hhb2) ?_
    repeat (first | refine o_pure rfl rfl rfl (fun _ => rfl) ?_ | refine o_skip rfl rfl rfl ?_)
    exact o_nil ⟨⟨rfl, trivial⟩, rfl⟩
  subst hw
  refine cond hS rfl (fun hT => ?_) (fun hF => ?_)
  · refine wp_seq (seq_cut [(4, .int .i64 4)] (· = w3) tab_ok hS ?_ (fun a w4 hS hw => ?_))
    · repeat (first | refine o_pure rfl rfl rfl (fun _ => rfl) ?_ | refine o_skip rfl rfl rfl ?_)
      exact o_nil ⟨⟨rfl, trivial⟩, rfl⟩
    subst hw
    refine wp_ret ?_
    repeat (first | refine then_ret ?_ | refine block_ret ?_)
    exact ret1 hS rfl rfl ⟨by rw [htwo, if_pos (of_decide_eq_true (hhb2.trans hT))], hB⟩
  refine wp_skip ?_
  refine wp_seq (seq_cut [(4, .int .i64 0)] (· = w3) tab_ok hS ?_ (fun a w4 hS hw => ?_))
  · repeat (first | refine o_pure rfl rfl rfl (fun _ => rfl) ?_ | refine o_skip rfl rfl rfl ?_)
    exact o_nil ⟨⟨rfl, trivial⟩, rfl⟩
  subst hw
  refine wp_ret ?_
  repeat (first | refine then_ret ?_ | refine block_ret ?_)
  exact ret1 hS rfl rfl ⟨by rw [htwo, if_neg (of_decide_eq_false (hhb2.trans hF))], hB⟩
end Go.Proofs.Ythkabbgaikociaa
namespace Go.Proofs.Ythkabbgaikociaa
open Go Sym
def SlP (w : World) (v : Value) (l : List (Int × Int)) : Prop :=
  ∃ a b o cap, v = .slice a l.length cap ∧ (0 < l.length → a = some ⟨b, o, none⟩) ∧ l.length ≤ cap ∧ cap ≤ 9223372036854775807 ∧ ∀ i (h : i < l.length), cellsAt w.cell? b (o + i * 2) [.int .i64 l[i].1, .int .i64 l[i].2] ∧ I64 l[i].1 ∧ I64 l[i].2
theorem SlP.keep {w w' : World} (hb : RowKit.Below w.heap.size w w') {v : Value} {l : List (Int × Int)} (h : SlP w v l) : SlP w' v l := by
  obtain ⟨a, b, o, cap, rfl, h1, h2, h3, h4⟩ := h
  exact ⟨a, b, o, cap, rfl, h1, h2, h3, fun i hi => ⟨⟨Ythkabbgaikociaa.keep hb (h4 i hi).1.1, Ythkabbgaikociaa.keep hb (h4 i hi).1.2.1, trivial⟩, (h4 i hi).2⟩⟩
theorem BoxP.cells {w : World} {B : Nat} {a b : Int} (h : BoxP w B a b) : cellsAt w.cell? B 0 [.int .i64 a, .int .i64 b] := ⟨h.c0, h.c1, trivial⟩
theorem en_at : enters Try.prog 92 = true := by kernel_rfl
theorem en_before : enters Try.prog 62 = true := by kernel_rfl
theorem en_two : enters Try.prog 60 = true := by kernel_rfl
theorem en_there : enters Try.prog 63 = true := by kernel_rfl
theorem en_Copy : enters Try.prog 16 = true := by kernel_rfl
theorem en_small : enters Try.prog 18 = true := by kernel_rfl
set_option maxRecDepth 100000 in
theorem at_any (v : Value) (l : List (Int × Int)) (p q : Int) (w : World) (hl : SlP w v l) :
    Calls Try.prog 92 #[v, .agg #[.int .i64 p, .int .i64 q]] w fun e w' => e = .returned (.int .i64 (atGo (p, q) l 0)) ∧ RowKit.Below w.heap.size w w' := by
  refine Sym.enter (args := [v, .agg #[.int .i64 p, .int .i64 q]]) Try.func92 rfl rfl rfl (fun a0 hS0 => ?_)
  refine wp_seq (seq_cut [(0, v), (3, .pointer (some ⟨w.heap.size, 0, none⟩))] (· = w.alloc (.cells #[.int .i64 p, .int .i64 q] 50)) tab_ok hS0 ?_ (fun a wc hS hw => ?_))
  · refine o_new rfl rfl rfl (fun _ => rfl) ?_
    repeat (first | refine o_pure rfl rfl rfl (fun _ => rfl) ?_ | refine o_skip rfl rfl rfl ?_)
    exact o_nil ⟨⟨rfl, rfl, trivial⟩, rfl⟩
  have hB : RowKit.Below w.heap.size w wc := by rw [hw]; exact below_alloc _ _
  have hx : BoxP wc w.heap.size p q := by rw [hw]; exact BoxP.new _ _ _ _
  clear hw
  replace hl := hl.keep hB
  obtain ⟨al, bl, ol, cl, rfl, h1, h2, h3, h4⟩ := hl
  refine wp_seq (wp_seq (seq_cut [(0, .slice al l.length cl), (3, .pointer (some ⟨w.heap.size, 0, none⟩)), (5, .int .i64 0)] (· = wc) tab_ok hS ?_ (fun a w2 hS hw => ?_)))
  · repeat (first | refine o_pure rfl rfl rfl (fun _ => rfl) ?_ | refine o_skip rfl rfl rfl ?_)
    exact o_nil ⟨⟨rfl, rfl, rfl, trivial⟩, rfl⟩
  subst hw
  refine wp_block (loop0 hS (fun g E wr => ∃ k : Nat, k ≤ l.length ∧ g = l.length - k ∧ E = [(0, .slice al l.length cl), (3, .pointer (some ⟨w.heap.size, 0, none⟩)), (5, .int .i64 k)] ∧ RowKit.Below w2.heap.size w2 wr ∧ atGo (p, q) l 0 = atGo (p, q) (l.drop k) k)
    l.length ⟨0, Nat.zero_le _, rfl, rfl, RowKit.Below.refl _ _, rfl⟩ ?_)
  rintro g E wr a1 ⟨k, hk, rfl, rfl, hK, hgo⟩ hS
  replace hx := hx.keep hK
  obtain ⟨hb, hhb⟩ : ∃ b, decide ((k : Int) < l.length) = b := ⟨_, rfl⟩
  refine wp_seq (wp_seq (seq_cut [(0, .slice al l.length cl), (3, .pointer (some ⟨w.heap.size, 0, none⟩)), (5, .int .i64 k), (9, .bool hb)] (· = wr) tab_ok hS ?_ (fun a w5 hS hw => ?_)))
  · repeat (first | refine o_pure rfl rfl rfl (fun _ => rfl) ?_ | refine o_skip rfl rfl rfl ?_)
    refine o_cmp rfl rfl rfl (fun _ => rfl) (hhb) ?_
    repeat (first | refine o_pure rfl rfl rfl (fun _ => rfl) ?_ | refine o_skip rfl rfl rfl ?_)
    exact o_nil ⟨⟨rfl, rfl, rfl, rfl, trivial⟩, rfl⟩
  subst hw
  refine cond hS rfl (fun hT => ?_) (fun hF => ?_)
  case refine_2 =>
    refine wp_exit ?_
    repeat (first | refine then_exit ?_ | refine block_exit ?_ | refine block_other rfl ?_)
    refine wp_seq (seq_cut [(4, .int .i64 (-1))] (· = w5) tab_ok hS ?_ (fun a w6 hS hw => ?_))
    · repeat (first | refine o_pure rfl rfl rfl (fun _ => rfl) ?_ | refine o_skip rfl rfl rfl ?_)
      exact o_nil ⟨⟨rfl, trivial⟩, rfl⟩
    subst hw
    have hge : l.length ≤ k := by have := of_decide_eq_false (hhb.trans hF); omega
    refine wp_ret ?_
    repeat (first | refine then_ret ?_ | refine block_ret ?_)
    exact ret1 hS rfl rfl ⟨by rw [hgo, List.drop_of_length_le hge, atGo], below_trans hB hK⟩
  have hlt : k < l.length := by have := of_decide_eq_true (hhb.trans hT); omega
  obtain rfl := h1 (by omega)
  obtain ⟨hc, hi1, hi2⟩ := h4 k hlt
  have hdrop := List.drop_eq_getElem_cons hlt
  refine wp_skip ?_
  refine wp_seq (wp_block ?_)
  obtain ⟨hb2, hhb2⟩ : ∃ b, (decide (l[k].1 = p) && (decide (l[k].2 = q) && true)) = b := ⟨_, rfl⟩
  refine wp_seq (quiet_cut [(0, .slice (some ⟨bl, ol, none⟩) l.length cl), (3, .pointer (some ⟨w.heap.size, 0, none⟩)), (5, .int .i64 k), (17, .bool hb2)] tab_ok mixed (by kernel_rfl) hS ?_ (fun a w6 hS hw => ?_))
  · repeat (first | refine q_pure rfl rfl rfl (fun _ => rfl) ?_ | refine q_skip rfl rfl rfl ?_)
    refine q_ix rfl rfl rfl (fun _ => rfl) (rfl) (hlt) ?_
    refine q_loads (vs := [.int .i64 l[k].1, .int .i64 l[k].2]) rfl rfl rfl (fun _ => rfl) rfl (⟨keep hK hc.1, keep hK hc.2.1, trivial⟩) ?_
    refine q_loads (vs := [.int .i64 p, .int .i64 q]) rfl rfl rfl (fun _ => rfl) rfl (hx.cells) ?_
    refine q_eqs rfl rfl rfl (fun _ => rfl) (congrArg some hhb2) ?_
    repeat (first | refine q_pure rfl rfl rfl (fun _ => rfl) ?_ | refine q_skip rfl rfl rfl ?_)
    exact q_nil ⟨rfl, rfl, rfl, rfl, trivial⟩
  have hK2 := below_trans hK hw
  refine cond hS rfl (fun hT => ?_) (fun hF => ?_)
  · refine wp_seq (seq_cut [(4, .int .i64 k)] (· = w6) tab_ok hS ?_ (fun a w7 hS hw => ?_))
    · repeat (first | refine o_pure rfl rfl rfl (fun _ => rfl) ?_ | refine o_skip rfl rfl rfl ?_)
      exact o_nil ⟨⟨rfl, trivial⟩, rfl⟩
    subst hw
    have he : l[k] = (p, q) := by
      have := hhb2.trans hT
      simp only [Bool.and_true, Bool.and_eq_true, decide_eq_true_eq] at this
      exact Prod.ext this.1 this.2
    refine wp_ret ?_
    repeat (first | refine then_ret ?_ | refine block_ret ?_)
    exact ret1 hS rfl rfl ⟨by rw [hgo, hdrop, atGo, if_pos he], below_trans hB hK2⟩
  have he : l[k] ≠ (p, q) := by
    have := hhb2.trans hF
    intro h
    rw [h] at this
    simp at this
  refine wp_skip ?_
  refine block_normal ?_
  refine then_normal ?_
  refine seq_cut [(0, .slice (some ⟨bl, ol, none⟩) l.length cl), (3, .pointer (some ⟨w.heap.size, 0, none⟩)), (5, .int .i64 ((k + 1 : Nat) : Int))] (· = w6) tab_ok hS ?_ (fun a w8 hS hw8 => ?_)
  · repeat (first | refine o_pure rfl rfl rfl (fun _ => rfl) ?_ | refine o_skip rfl rfl rfl ?_)
    refine o_num rfl rfl rfl (fun _ => rfl) (wrap_succ (by omega)) ?_
    repeat (first | refine o_pure rfl rfl rfl (fun _ => rfl) ?_ | refine o_skip rfl rfl rfl ?_)
    exact o_nil ⟨⟨rfl, rfl, rfl, trivial⟩, rfl⟩
  subst hw8
  exact ⟨l.length - (k + 1), _, by omega, ⟨k + 1, by omega, rfl, rfl, hK2, by rw [hgo, hdrop, atGo, if_neg he]⟩, hS⟩
set_option maxRecDepth 100000 in
theorem there_any (v : Value) (l : List (Int × Int)) (p q : Int) (w : World) (hl : SlP w v l) :
    Calls Try.prog 63 #[v, .agg #[.int .i64 p, .int .i64 q]] w fun e w' => e = .returned (.bool (thereM p q l)) ∧ RowKit.Below w.heap.size w w' := by
  refine Sym.enter (args := [v, .agg #[.int .i64 p, .int .i64 q]]) Try.func63 rfl rfl rfl (fun a0 hS0 => ?_)
  refine wp_seq (seq_cut [(0, v), (3, .pointer (some ⟨w.heap.size, 0, none⟩))] (· = w.alloc (.cells #[.int .i64 p, .int .i64 q] 50)) tab_ok hS0 ?_ (fun a wc hS hw => ?_))
  · refine o_new rfl rfl rfl (fun _ => rfl) ?_
    repeat (first | refine o_pure rfl rfl rfl (fun _ => rfl) ?_ | refine o_skip rfl rfl rfl ?_)
    exact o_nil ⟨⟨rfl, rfl, trivial⟩, rfl⟩
  have hB : RowKit.Below w.heap.size w wc := by rw [hw]; exact below_alloc _ _
  have hx : BoxP wc w.heap.size p q := by rw [hw]; exact BoxP.new _ _ _ _
  clear hw
  replace hl := hl.keep hB
  refine wp_seq (seq_cut [(4, .bool (thereM p q l))] (fun w' => RowKit.Below wc.heap.size wc w') tab_ok hS ?_ (fun a w3 hS hw => ?_))
  · have tail : ∀ b1 : Bool, (decide (p < 0) && decide (q < 0)) = b1 → b1 = false → thereM p q l = decide (0 ≤ atGo (p, q) l 0) := fun b1 h h' => by rw [thereM, h, h']; rfl
    repeat (first | refine o_pure rfl rfl rfl (fun _ => rfl) ?_ | refine o_skip rfl rfl rfl ?_)
    refine o_load rfl rfl rfl (fun _ => rfl) (hx.c0) ?_
    repeat (first | refine o_pure rfl rfl rfl (fun _ => rfl) ?_ | refine o_skip rfl rfl rfl ?_)
    cases e1 : decide (p < 0)
    case false =>
      have ht := tail _ (by rw [e1]; rfl) rfl
      refine o_cmp rfl rfl rfl (fun _ => rfl) (e1) ?_
      repeat (first | refine o_pure rfl rfl rfl (fun _ => rfl) ?_ | refine o_skip rfl rfl rfl ?_)
      refine o_loads (vs := [.int .i64 p, .int .i64 q]) rfl rfl rfl (fun _ => rfl) rfl (hx.cells) ?_
      refine o_call rfl rfl rfl (fun _ => rfl) (en_at) (at_any v l p q _ hl) ?_
      rintro e w1 ⟨rfl, h1⟩
      refine ⟨_, rfl, ?_⟩
      refine o_cmp rfl rfl rfl (fun _ => rfl) (ht.symm) ?_
      repeat (first | refine o_pure rfl rfl rfl (fun _ => rfl) ?_ | refine o_skip rfl rfl rfl ?_)
      exact o_nil ⟨⟨rfl, trivial⟩, h1⟩
    case true =>
      refine o_cmp rfl rfl rfl (fun _ => rfl) (e1) ?_
      repeat (first | refine o_pure rfl rfl rfl (fun _ => rfl) ?_ | refine o_skip rfl rfl rfl ?_)
      refine o_load rfl rfl rfl (fun _ => rfl) (hx.c1) ?_
      repeat (first | refine o_pure rfl rfl rfl (fun _ => rfl) ?_ | refine o_skip rfl rfl rfl ?_)
      cases e2 : decide (q < 0)
      case false =>
        have ht := tail _ (by rw [e1, e2]; rfl) rfl
        refine o_cmp rfl rfl rfl (fun _ => rfl) (e2) ?_
        repeat (first | refine o_pure rfl rfl rfl (fun _ => rfl) ?_ | refine o_skip rfl rfl rfl ?_)
        refine o_loads (vs := [.int .i64 p, .int .i64 q]) rfl rfl rfl (fun _ => rfl) rfl (hx.cells) ?_
        refine o_call rfl rfl rfl (fun _ => rfl) (en_at) (at_any v l p q _ hl) ?_
        rintro e w1 ⟨rfl, h1⟩
        refine ⟨_, rfl, ?_⟩
        refine o_cmp rfl rfl rfl (fun _ => rfl) (ht.symm) ?_
        repeat (first | refine o_pure rfl rfl rfl (fun _ => rfl) ?_ | refine o_skip rfl rfl rfl ?_)
        exact o_nil ⟨⟨rfl, trivial⟩, h1⟩
      case true =>
        refine o_cmp rfl rfl rfl (fun _ => rfl) (e2) ?_
        repeat (first | refine o_pure rfl rfl rfl (fun _ => rfl) ?_ | refine o_skip rfl rfl rfl ?_)
        exact o_nil ⟨⟨by rw [thereM, e1, e2]; rfl, trivial⟩, RowKit.Below.refl _ _⟩
  refine wp_ret ?_
  repeat (first | refine then_ret ?_ | refine block_ret ?_)
  exact ret1 hS rfl rfl ⟨rfl, below_trans hB hw⟩
end Go.Proofs.Ythkabbgaikociaa
namespace Go.Proofs.Ythkabbgaikociaa
open Go Sym
def pairCells (l : List (Int × Int)) : List Value := l.flatMap fun p => [.int .i64 p.1, .int .i64 p.2]
theorem pairCells_len (l : List (Int × Int)) : (pairCells l).length = l.length * 2 := by
  induction l with
  | nil => rfl
  | cons p r ih => simp only [pairCells, List.flatMap_cons, List.length_append, List.length_cons, List.length_nil] at ih ⊢; omega
theorem pairCells_append (l : List (Int × Int)) (p : Int × Int) : pairCells l ++ [.int .i64 p.1, .int .i64 p.2] = pairCells (l ++ [p]) := by simp [pairCells]
def foot (Wb : Nat) (vp vl vf : Value) (k : Nat) : Prop := k = Wb ∨ vp.ownBlock = some k ∨ vl.ownBlock = some k ∨ vf.ownBlock = some k
structure WalkI (base : Nat) (w : World) (Wb : Nat) (vp vl vf : Value) (ps : List (Int × Int)) (ls fs : List Int) : Prop where
  b : base ≤ Wb
  o : OwnB w Wb 86 [vp, vl, vf]
  p : w.ownsRow base 50 2 vp ps.length (pairCells ps)
  l : w.ownsRow base 3 1 vl ls.length (ls.map (Value.int .i64))
  f : w.ownsRow base 3 1 vf fs.length (fs.map (Value.int .i64))
  ne : vl.ownBlock = none ∨ vl.ownBlock ≠ vf.ownBlock
structure Off (w w' : World) (Wb : Nat) (vp vl vf vp' vl' vf' : Value) : Prop where
  os : w'.os = w.os
  tape : w'.tape = w.tape
  output : w'.output = w.output
  size : w.heap.size ≤ w'.heap.size
  off : ∀ k, k < w.heap.size → ¬ foot Wb vp vl vf k → w'.heap[k]? = w.heap[k]? ∧ ¬ foot Wb vp' vl' vf' k
theorem Off.trans {w w1 w2 : World} {Wb : Nat} {vp vl vf vp1 vl1 vf1 vp2 vl2 vf2 : Value} (h : Off w w1 Wb vp vl vf vp1 vl1 vf1) (k : Off w1 w2 Wb vp1 vl1 vf1 vp2 vl2 vf2) : Off w w2 Wb vp vl vf vp2 vl2 vf2 :=
  ⟨k.os.trans h.os, k.tape.trans h.tape, k.output.trans h.output, Nat.le_trans h.size k.size, fun i hi hn => by
    obtain ⟨h1, h2⟩ := h.off i hi hn
    obtain ⟨h3, h4⟩ := k.off i (Nat.lt_of_lt_of_le hi h.size) h2
    exact ⟨h3.trans h1, h4⟩⟩
theorem Off.below {w w' : World} {Wb : Nat} {vp vl vf vp' vl' vf' : Value} (h : RowKit.Below w.heap.size w w') (hv : ∀ k, k < w.heap.size → ¬ foot Wb vp vl vf k → ¬ foot Wb vp' vl' vf' k) : Off w w' Wb vp vl vf vp' vl' vf' :=
  ⟨h.os, h.tape, h.output, h.size, fun k hk hn => ⟨h.block k hk, hv k hk hn⟩⟩
theorem WalkI.keep {base : Nat} {w w' : World} {Wb : Nat} {vp vl vf : Value} {ps : List (Int × Int)} {ls fs : List Int} (h : WalkI base w Wb vp vl vf ps ls fs) (hb : RowKit.Below w.heap.size w w') : WalkI base w' Wb vp vl vf ps ls fs := by
  have hg : w.grownBy w' none := ⟨hb.os, hb.tape, hb.output, hb.size, fun k hk _ => hb.block k hk⟩
  have ho : ∀ v : Value, v.ownBlock = none ∨ v.ownBlock ≠ none := fun v => by
    cases v.ownBlock
    · exact .inl rfl
    · exact .inr (by simp)
  exact ⟨h.b, h.o.keep hb h.o.lt, h.p.kept hg (ho _), h.l.kept hg (ho _), h.f.kept hg (ho _), h.ne⟩
theorem fill2 (a b : Value) (cs : Array Value) (hs : cs.size = 2) : Instr.fill (fun i => some (i * 2, 2)) (madeCells cs 2) [(0, .agg #[a, b])] = some #[a, b] := by
  have h : (Value.agg #[a, b]).cells = #[a, b] := rfl
  simp [Instr.fill, madeCells, h, hs, Array.range, Array.foldl]
  rfl
theorem none_or (v : Value) : v.ownBlock = none ∨ v.ownBlock ≠ none := by
  cases v.ownBlock
  · exact .inl rfl
  · exact .inr (by simp)
set_option maxRecDepth 100000 in
theorem put_r2 {base : Nat} {w : World} {Wb B : Nat} {vp vl vf : Value} {ps : List (Int × Int)} {ls fs : List Int} {p q l fr : Int} (hW : WalkI base w Wb vp vl vf ps ls fs) (hp : BoxP w B p q) (hb : base ≤ w.heap.size) (hn : ps.length < 100000000)
    {Q : Exit → Act → World → Prop} {a : Act} {ops : Array Oper} {id : Nat} (hops : Sym.regionOf Try.f91.body 2 = some (id, ops))
    (hS : St Try.f91.ntmps a [(0, .pointer (some ⟨Wb, 0, none⟩)), (2, .int .i64 l), (3, .int .i64 fr), (5, .pointer (some ⟨B, 0, none⟩))])
    (hq : ∀ vp' a' w', St Try.f91.ntmps a' [(0, .pointer (some ⟨Wb, 0, none⟩)), (2, .int .i64 l), (3, .int .i64 fr), (5, .pointer (some ⟨B, 0, none⟩))] → WalkI base w' Wb vp' vl vf (ps ++ [(p, q)]) ls fs ∧ Off w w' Wb vp vl vf vp' vl vf → Q .normal a' w') : (Code.region id ops true).wp Try.prog Q a w := by
  cases hops
  refine any_cutx (α := Value) 7 (fun _ => [(0, .pointer (some ⟨Wb, 0, none⟩)), (2, .int .i64 l), (3, .int .i64 fr), (5, .pointer (some ⟨B, 0, none⟩))]) (fun vp' w' => WalkI base w' Wb vp' vl vf (ps ++ [(p, q)]) ls fs ∧ Off w w' Wb vp vl vf vp' vl vf) mixed hS ?_ hq
  have hy : RowKit.Below w.drew.heap.size w.drew w.drew := RowKit.Below.refl _ _
  have hD : WalkI base w.drew Wb vp vl vf ps ls fs := ⟨hW.b, hW.o, hW.p, hW.l, hW.f, hW.ne⟩
  have hpD : BoxP w.drew B p q := ⟨hp.c0, hp.c1⟩
  obtain ⟨g, n, c, hv⟩ := own_form hD.p
  subst hv
  refine y_free 0 tab_ok rfl (by kernel_rfl) (by kernel_rfl) (by kernel_rfl) rfl (.inr hy) rfl rfl rfl rfl ?_
  refine y_take 1 tab_ok rfl (by kernel_rfl) (by kernel_rfl) (by kernel_rfl) rfl (by kernel_rfl) rfl hy rfl rfl rfl (rfl) ?_
  refine y_take 2 tab_ok rfl (by kernel_rfl) (by kernel_rfl) (by kernel_rfl) rfl (by kernel_rfl) rfl hy rfl rfl rfl (rfl) ?_
  refine y_take 3 tab_ok rfl (by kernel_rfl) (by kernel_rfl) (by kernel_rfl) rfl (by kernel_rfl) rfl hy rfl rfl rfl (rfl) ?_
  refine y_take 4 tab_ok rfl (by kernel_rfl) (by kernel_rfl) (by kernel_rfl) rfl (by kernel_rfl) rfl hy rfl rfl rfl (Exists.intro _ (And.intro (hD.o.cell (i := 0) rfl) rfl)) ?_
  refine y_take 5 tab_ok rfl (by kernel_rfl) (by kernel_rfl) (by kernel_rfl) rfl (by kernel_rfl) rfl hy rfl rfl rfl (Exists.intro ([.int .i64 p, .int .i64 q]) (And.intro rfl (And.intro (hpD.cells) rfl))) ?_
  refine y_one 6 (by kernel_rfl) (y_op 6 tab_ok rfl rfl rfl rfl ?_)
  refine Exists.intro [(0, .agg #[.int .i64 p,  .int .i64 q])] (Exists.intro #[.int .i64 p,  .int .i64 q] (And.intro (And.intro rfl rfl) (And.intro (by decide) (And.intro (fill2 _ _ _ rfl) ?_))))
  have hy1 := hy.alloc (Nat.le_refl _) (.cells #[.int .i64 p, .int .i64 q] 50)
  refine And.intro (.inr hy1) ?_
  have hA : WalkI base (w.drew.alloc (.cells #[.int .i64 p, .int .i64 q] 50)) Wb _ vl vf ps ls fs := hD.keep hy1
  have ask : AppAsk (w.drew.alloc (.cells #[.int .i64 p, .int .i64 q] 50)) ⟨50, .struct [(0, 3), (1, 3)], 2, 16, .agg #[.int .i64 0, .int .i64 0]⟩ (.slice g n c) ps.length (pairCells ps) (.slice (some ⟨w.drew.heap.size, 0, none⟩) 1 1) 1 [.int .i64 p, .int .i64 q] base :=
    ⟨hA.p, .inr ⟨_, 0, _, rfl, cell_alloc_new rfl, cell_alloc_new rfl, trivial⟩, rfl, (by simp [Value.oneCell']), (by omega), (by show (ps.length + 1) * 16 ≤ _; omega), Nat.le_trans hb hy1.size⟩
  refine y_one 7 (by kernel_rfl) (y_op 7 tab_ok rfl rfl rfl rfl ?_)
  refine Exists.intro _ (Exists.intro _ (Exists.intro _ (Exists.intro _ (Exists.intro _ (And.intro (ask) (And.intro (fun _ h => h.symm) (And.intro (by decide) ?_)))))))
  rintro v' w2 hown hgr - hat
  refine And.intro (.inl (by kernel_rfl)) ?_
  obtain ⟨g2, n2, c2, hv⟩ := own_form hown
  subst hv
  refine y_free 8 tab_ok rfl (by kernel_rfl) (by kernel_rfl) (by kernel_rfl) rfl (.inl (by kernel_rfl)) rfl rfl rfl rfl ?_
  refine y_free 9 tab_ok rfl (by kernel_rfl) (by kernel_rfl) (by kernel_rfl) rfl (.inl (by kernel_rfl)) rfl rfl rfl rfl ?_
  refine y_one 10 (by kernel_rfl) (y_op0 10 tab_ok rfl rfl rfl ?_)
  have ho := hA.o.kept hgr (own_neB hA.p hA.o (by decide))
  refine And.intro rfl (And.intro rfl (And.intro ⟨_, ho.cell (i := 0) rfl⟩ (And.intro (ho.free 0) (And.intro (.inl (by kernel_rfl)) ?_))))
  have hg := grown_set w2 Wb 0 (.slice g2 n2 c2)
  have hnb : ∀ {e s q : Nat} {v : Value} {xs : List Value}, w2.ownsRow base e s v q xs → e ≠ 86 → v.ownBlock = none ∨ v.ownBlock ≠ some Wb := fun h he => .inr (fun hh => own_neB h ho he hh.symm)
  refine y_endx (.slice g2 n2 c2) (by kernel_rfl) ⟨rfl, rfl, rfl, rfl, trivial⟩ (show WalkI base (w2.setCell ⟨Wb, 0, none⟩ (.slice g2 n2 c2)) Wb (.slice g2 n2 c2) vl vf (ps ++ [(p, q)]) ls fs ∧ Off w (w2.setCell ⟨Wb, 0, none⟩ (.slice g2 n2 c2)) Wb (.slice g n c) vl vf (.slice g2 n2 c2) vl vf from ⟨⟨hW.b, ho.set 0 _, ?_, ?_, ?_, hW.ne⟩, ?_⟩)
  · have := hown.kept hg (hnb hown (by decide))
    rw [pairCells_append ps (p, q)] at this
    simpa using this
  · have := hA.l.kept hgr (own_ne hA.p hA.l (by decide))
    exact this.kept hg (hnb this (by decide))
  · have := hA.f.kept hgr (own_ne hA.p hA.f (by decide))
    exact this.kept hg (hnb this (by decide))
  · refine ⟨(hg.os.trans hgr.os).trans hy1.os, (hg.tape.trans hgr.tape).trans hy1.tape, (hg.output.trans hgr.output).trans hy1.output, Nat.le_trans (Nat.le_trans hy1.size hgr.size) hg.size, fun k hk hf => ⟨?_, ?_⟩⟩
    · have e1 := hy1.block k hk
      have e2 := hgr.block k (Nat.lt_of_lt_of_le hk hy1.size) (fun e => hf (.inr (.inl e.symm)))
      have e3 := hg.block k (Nat.lt_of_lt_of_le (Nat.lt_of_lt_of_le hk hy1.size) hgr.size) (fun e => hf (.inl (by simpa using e)))
      exact (e3.trans e2).trans e1
    · rintro (h | h | h)
      · exact hf (.inl h)
      · rcases hat with h2 | h2
        · exact hf (.inr (.inl (h2.symm.trans h)))
        · rw [h2] at h
          simp only [Option.some.injEq] at h
          have := hy1.size
          have : w.drew.heap.size = w.heap.size := rfl
          omega
      · exact hf (.inr (.inr h))
set_option maxRecDepth 100000 in
theorem put_r3 {base : Nat} {w : World} {Wb : Nat} {vp vl vf : Value} {ps : List (Int × Int)} {ls fs : List Int} {l fr : Int} (hW : WalkI base w Wb vp vl vf ps ls fs) (hb : base ≤ w.heap.size) (hn : ls.length < 100000000)
    {Q : Exit → Act → World → Prop} {a : Act} {ops : Array Oper} {id : Nat} (hops : Sym.regionOf Try.f91.body 3 = some (id, ops))
    (hS : St Try.f91.ntmps a [(0, .pointer (some ⟨Wb, 0, none⟩)), (2, .int .i64 l), (3, .int .i64 fr)])
    (hq : ∀ vl' a' w', St Try.f91.ntmps a' [(0, .pointer (some ⟨Wb, 0, none⟩)), (2, .int .i64 l), (3, .int .i64 fr)] → WalkI base w' Wb vp vl' vf ps (ls ++ [l]) fs ∧ Off w w' Wb vp vl vf vp vl' vf → Q .normal a' w') : (Code.region id ops false).wp Try.prog Q a w := by
  cases hops
  refine seq_cutx (α := Value) (fun _ => [(0, .pointer (some ⟨Wb, 0, none⟩)), (2, .int .i64 l), (3, .int .i64 fr)]) (fun vl' w' => WalkI base w' Wb vp vl' vf ps (ls ++ [l]) fs ∧ Off w w' Wb vp vl vf vp vl' vf) tab_ok hS ?_ hq
  obtain ⟨g, n, c, hv⟩ := own_form hW.l
  subst hv
  repeat (first | refine o_pure rfl rfl rfl (fun _ => rfl) ?_ | refine o_skip rfl rfl rfl ?_)
  refine o_load rfl rfl rfl (fun _ => rfl) (hW.o.cell (i := 1) rfl) ?_
  repeat (first | refine o_pure rfl rfl rfl (fun _ => rfl) ?_ | refine o_skip rfl rfl rfl ?_)
  refine o_step rfl rfl rfl ?_
  refine Exists.intro [(0, .int .i64 (l))] (Exists.intro #[.int .i64 (l)] (And.intro (And.intro rfl rfl) (And.intro (by decide) (And.intro (fillI _ _ _) ?_))))
  have hy1 := below_alloc w (.cells #[.int .i64 l] 3)
  have hA : WalkI base (w.alloc (.cells #[.int .i64 l] 3)) Wb vp _ vf ps ls fs := hW.keep hy1
  have ask : AppAsk (w.alloc (.cells #[.int .i64 l] 3)) ⟨3, .int .i64, 1, 8, .int .i64 0⟩ (.slice g n c) ls.length (ls.map (Value.int .i64)) (.slice (some ⟨w.heap.size, 0, none⟩) 1 1) 1 [.int .i64 l] base :=
    ⟨hA.l, .inr ⟨_, 0, _, rfl, cell_alloc_new rfl, trivial⟩, rfl, (by simp [Value.oneCell']), (by omega), (by show (ls.length + 1) * 8 ≤ _; omega), Nat.le_trans hb hy1.size⟩
  refine o_step rfl rfl rfl ?_
  refine Exists.intro _ (Exists.intro _ (Exists.intro _ (Exists.intro _ (Exists.intro _ (And.intro (ask) (And.intro (fun _ h => h.symm) (And.intro (by decide) ?_)))))))
  rintro v' w2 hown hgr - hat
  obtain ⟨g2, n2, c2, hv⟩ := own_form hown
  subst hv
  have ho := hA.o.kept hgr (own_neB hA.l hA.o (by decide))
  repeat (first | refine o_pure rfl rfl rfl (fun _ => rfl) ?_ | refine o_skip rfl rfl rfl ?_)
  refine o_store rfl rfl (fun _ => rfl) rfl rfl (ho.cell (i := 1) rfl) (ho.free 1) ?_
  have hg := grown_set w2 Wb 1 (.slice g2 n2 c2)
  have hnb : ∀ {e s q : Nat} {v : Value} {xs : List Value}, w2.ownsRow base e s v q xs → e ≠ 86 → v.ownBlock = none ∨ v.ownBlock ≠ some Wb := fun h he => .inr (fun hh => own_neB h ho he hh.symm)
  refine o_nil ⟨.slice g2 n2 c2, ⟨rfl, rfl, rfl, trivial⟩, (show WalkI base (w2.setCell ⟨Wb, 1, none⟩ (.slice g2 n2 c2)) Wb vp (.slice g2 n2 c2) vf ps (ls ++ [l]) fs ∧ Off w (w2.setCell ⟨Wb, 1, none⟩ (.slice g2 n2 c2)) Wb vp (.slice g n c) vf vp (.slice g2 n2 c2) vf from ⟨⟨hW.b, ho.set 1 _, ?_, ?_, ?_, ?_⟩, ?_⟩)⟩
  · have := hA.p.kept hgr (own_ne hA.l hA.p (by decide))
    exact this.kept hg (hnb this (by decide))
  · have := hown.kept hg (hnb hown (by decide))
    simpa using this
  · have := hA.f.kept hgr (by
      rcases hA.ne with h | h
      · rw [h]; exact none_or _
      · exact .inr (Ne.symm h))
    exact this.kept hg (hnb this (by decide))
  · rcases hat with h2 | h2
    · rw [h2]; exact hA.ne
    · refine .inr (fun h => ?_)
      have := (hA.f.lt _ (h.symm.trans h2)).2
      omega
  · refine ⟨(hg.os.trans hgr.os).trans hy1.os, (hg.tape.trans hgr.tape).trans hy1.tape, (hg.output.trans hgr.output).trans hy1.output, Nat.le_trans (Nat.le_trans hy1.size hgr.size) hg.size, fun k hk hf => ⟨?_, ?_⟩⟩
    · have e1 := hy1.block k hk
      have e2 := hgr.block k (Nat.lt_of_lt_of_le hk hy1.size) (fun e => hf (.inr (.inr (.inl e.symm))))
      have e3 := hg.block k (Nat.lt_of_lt_of_le (Nat.lt_of_lt_of_le hk hy1.size) hgr.size) (fun e => hf (.inl (by simpa using e)))
      exact (e3.trans e2).trans e1
    · rintro (h | h | h | h)
      · exact hf (.inl h)
      · exact hf (.inr (.inl h))
      · rcases hat with h2 | h2
        · exact hf (.inr (.inr (.inl (h2.symm.trans h))))
        · rw [h2] at h
          simp only [Option.some.injEq] at h
          have := hy1.size
          omega
      · exact hf (.inr (.inr (.inr h)))
set_option maxRecDepth 100000 in
theorem put_r4 {base : Nat} {w : World} {Wb : Nat} {vp vl vf : Value} {ps : List (Int × Int)} {ls fs : List Int} {l fr : Int} (hW : WalkI base w Wb vp vl vf ps ls fs) (hb : base ≤ w.heap.size) (hn : fs.length < 100000000)
    {Q : Exit → Act → World → Prop} {a : Act} {ops : Array Oper} {id : Nat} (hops : Sym.regionOf Try.f91.body 4 = some (id, ops))
    (hS : St Try.f91.ntmps a [(0, .pointer (some ⟨Wb, 0, none⟩)), (2, .int .i64 l), (3, .int .i64 fr)])
    (hq : ∀ vf' a' w', St Try.f91.ntmps a' [(0, .pointer (some ⟨Wb, 0, none⟩)), (2, .int .i64 l), (3, .int .i64 fr)] → WalkI base w' Wb vp vl vf' ps ls (fs ++ [fr]) ∧ Off w w' Wb vp vl vf vp vl vf' → Q .normal a' w') : (Code.region id ops false).wp Try.prog Q a w := by
  cases hops
  refine seq_cutx (α := Value) (fun _ => [(0, .pointer (some ⟨Wb, 0, none⟩)), (2, .int .i64 l), (3, .int .i64 fr)]) (fun vf' w' => WalkI base w' Wb vp vl vf' ps ls (fs ++ [fr]) ∧ Off w w' Wb vp vl vf vp vl vf') tab_ok hS ?_ hq
  obtain ⟨g, n, c, hv⟩ := own_form hW.f
  subst hv
  repeat (first | refine o_pure rfl rfl rfl (fun _ => rfl) ?_ | refine o_skip rfl rfl rfl ?_)
  refine o_load rfl rfl rfl (fun _ => rfl) (hW.o.cell (i := 2) rfl) ?_
  repeat (first | refine o_pure rfl rfl rfl (fun _ => rfl) ?_ | refine o_skip rfl rfl rfl ?_)
  refine o_step rfl rfl rfl ?_
  refine Exists.intro [(0, .int .i64 (fr))] (Exists.intro #[.int .i64 (fr)] (And.intro (And.intro rfl rfl) (And.intro (by decide) (And.intro (fillI _ _ _) ?_))))
  have hy1 := below_alloc w (.cells #[.int .i64 fr] 3)
  have hA : WalkI base (w.alloc (.cells #[.int .i64 fr] 3)) Wb vp vl _ ps ls fs := hW.keep hy1
  have ask : AppAsk (w.alloc (.cells #[.int .i64 fr] 3)) ⟨3, .int .i64, 1, 8, .int .i64 0⟩ (.slice g n c) fs.length (fs.map (Value.int .i64)) (.slice (some ⟨w.heap.size, 0, none⟩) 1 1) 1 [.int .i64 fr] base :=
    ⟨hA.f, .inr ⟨_, 0, _, rfl, cell_alloc_new rfl, trivial⟩, rfl, (by simp [Value.oneCell']), (by omega), (by show (fs.length + 1) * 8 ≤ _; omega), Nat.le_trans hb hy1.size⟩
  refine o_step rfl rfl rfl ?_
  refine Exists.intro _ (Exists.intro _ (Exists.intro _ (Exists.intro _ (Exists.intro _ (And.intro (ask) (And.intro (fun _ h => h.symm) (And.intro (by decide) ?_)))))))
  rintro v' w2 hown hgr - hat
  obtain ⟨g2, n2, c2, hv⟩ := own_form hown
  subst hv
  have ho := hA.o.kept hgr (own_neB hA.f hA.o (by decide))
  repeat (first | refine o_pure rfl rfl rfl (fun _ => rfl) ?_ | refine o_skip rfl rfl rfl ?_)
  refine o_store rfl rfl (fun _ => rfl) rfl rfl (ho.cell (i := 2) rfl) (ho.free 2) ?_
  have hg := grown_set w2 Wb 2 (.slice g2 n2 c2)
  have hnb : ∀ {e s q : Nat} {v : Value} {xs : List Value}, w2.ownsRow base e s v q xs → e ≠ 86 → v.ownBlock = none ∨ v.ownBlock ≠ some Wb := fun h he => .inr (fun hh => own_neB h ho he hh.symm)
  refine o_nil ⟨.slice g2 n2 c2, ⟨rfl, rfl, rfl, trivial⟩, (show WalkI base (w2.setCell ⟨Wb, 2, none⟩ (.slice g2 n2 c2)) Wb vp vl (.slice g2 n2 c2) ps ls (fs ++ [fr]) ∧ Off w (w2.setCell ⟨Wb, 2, none⟩ (.slice g2 n2 c2)) Wb vp vl (.slice g n c) vp vl (.slice g2 n2 c2) from ⟨⟨hW.b, ho.set 2 _, ?_, ?_, ?_, ?_⟩, ?_⟩)⟩
  · have := hA.p.kept hgr (own_ne hA.f hA.p (by decide))
    exact this.kept hg (hnb this (by decide))
  · have := hA.l.kept hgr hA.ne
    exact this.kept hg (hnb this (by decide))
  · have := hown.kept hg (hnb hown (by decide))
    simpa using this
  · rcases hat with h2 | h2
    · rw [h2]; exact hA.ne
    · refine .inr (fun h => ?_)
      have := (hA.l.lt _ (h.trans h2)).2
      omega
  · refine ⟨(hg.os.trans hgr.os).trans hy1.os, (hg.tape.trans hgr.tape).trans hy1.tape, (hg.output.trans hgr.output).trans hy1.output, Nat.le_trans (Nat.le_trans hy1.size hgr.size) hg.size, fun k hk hf => ⟨?_, ?_⟩⟩
    · have e1 := hy1.block k hk
      have e2 := hgr.block k (Nat.lt_of_lt_of_le hk hy1.size) (fun e => hf (.inr (.inr (.inr e.symm))))
      have e3 := hg.block k (Nat.lt_of_lt_of_le (Nat.lt_of_lt_of_le hk hy1.size) hgr.size) (fun e => hf (.inl (by simpa using e)))
      exact (e3.trans e2).trans e1
    · rintro (h | h | h | h)
      · exact hf (.inl h)
      · exact hf (.inr (.inl h))
      · exact hf (.inr (.inr (.inl h)))
      · rcases hat with h2 | h2
        · exact hf (.inr (.inr (.inr (h2.symm.trans h))))
        · rw [h2] at h
          simp only [Option.some.injEq] at h
          have := hy1.size
          omega
theorem WalkI.slp {base : Nat} {w : World} {Wb : Nat} {vp vl vf : Value} {ps : List (Int × Int)} {ls fs : List Int} (h : WalkI base w Wb vp vl vf ps ls fs) (hI : ∀ x ∈ ps, I64 x.1 ∧ I64 x.2) : SlP w vp ps := by
  rcases h.p.2 with ⟨rfl, h0⟩ | ⟨g, cap, cur, rfl, _, hg, h1, h2, _⟩
  · exact ⟨none, 0, 0, 0, by rw [h0], by omega, by omega, by omega, fun i hi => by omega⟩
  · refine ⟨some ⟨g, 0, none⟩, g, 0, cap, rfl, fun _ => rfl, h1, by unfold maxLen at h2; omega, fun i hi => ⟨?_, hI _ (List.getElem_mem hi)⟩⟩
    have key : ∀ j u, (pairCells ps)[j]? = some u → w.cell? ⟨g, j, none⟩ = some u := fun j u hu => by
      have := h.p.cells (g := g) rfl j u hu
      unfold Addr.add at this
      split at this
      · rename_i h0; subst h0; exact this
      · simpa using this
    have get : ∀ (ps : List (Int × Int)) (i : Nat) (hi : i < ps.length), (pairCells ps)[i * 2]? = some (.int .i64 ps[i].1) ∧ (pairCells ps)[i * 2 + 1]? = some (.int .i64 ps[i].2) := by
      intro ps
      induction ps with
      | nil => intro i hi; simp at hi
      | cons x r ih =>
        intro i hi
        cases i with
        | zero => exact ⟨rfl, rfl⟩
        | succ i =>
          have := ih i (by simpa using hi)
          rw [show (i + 1) * 2 = i * 2 + 2 by omega]
          exact this
    rw [Nat.zero_add]
    exact ⟨key _ _ (get ps i hi).1, key _ _ (get ps i hi).2, trivial⟩
theorem ret0 {P : Program} {N : Nat} {fn : Func} {R : Ending → World → Prop} {a : Act} {E : Env} {w : World} (h : St N a E) (hr : fn.results = #[]) (hR : R (.returned (.tuple #[])) w) : bodyPost P fn R .normal a w :=
  ⟨h.defers, _, by simp [results, hr], hR⟩
theorem foot_boxP {base : Nat} {w : World} {Wb : Nat} {vp vl vf : Value} {ps : List (Int × Int)} {ls fs : List Int} (h : WalkI base w Wb vp vl vf ps ls fs) {k : Nat} (hk : w.heap.size ≤ k) : ¬ foot Wb vp vl vf k := by
  rintro (e | e | e | e)
  · have := h.o.lt; omega
  · have := (h.p.lt _ e).2; omega
  · have := (h.l.lt _ e).2; omega
  · have := (h.f.lt _ e).2; omega
theorem Off.boxP {w w' : World} {Wb : Nat} {vp vl vf vp' vl' vf' : Value} (h : Off w w' Wb vp vl vf vp' vl' vf') {B : Nat} {a b : Int} (hB : BoxP w B a b) (hf : ¬ foot Wb vp vl vf B) : BoxP w' B a b := by
  have hlt : B < w.heap.size := by
    rcases Nat.lt_or_ge B w.heap.size with hl | hl
    · exact hl
    · have := hB.c0
      unfold World.cell? at this
      rw [show w.heap[(⟨B, 0, none⟩ : Addr).block]? = none from Array.getElem?_eq_none hl] at this
      simp at this
  have e := (h.off B hlt hf).1
  exact ⟨by have := hB.c0; unfold World.cell? at this ⊢; rw [show w'.heap[(⟨B, 0, none⟩ : Addr).block]? = w.heap[(⟨B, 0, none⟩ : Addr).block]? from e]; exact this,
    by have := hB.c1; unfold World.cell? at this ⊢; rw [show w'.heap[(⟨B, 1, none⟩ : Addr).block]? = w.heap[(⟨B, 1, none⟩ : Addr).block]? from e]; exact this⟩
set_option maxRecDepth 100000 in
theorem put_any (base : Nat) (Wb : Nat) (vp vl vf : Value) (ps : List (Int × Int)) (ls fs : List Int) (p q l fr : Int) (w : World) (hW : WalkI base w Wb vp vl vf ps ls fs) (hI : ∀ x ∈ ps, I64 x.1 ∧ I64 x.2) (hb : base ≤ w.heap.size)
    (hn : ps.length < 100000000) (hn2 : ls.length < 100000000) (hn3 : fs.length < 100000000) :
    Calls Try.prog 91 #[.pointer (some ⟨Wb, 0, none⟩), .agg #[.int .i64 p, .int .i64 q], .int .i64 l, .int .i64 fr] w fun e w' => e = .returned (.tuple #[]) ∧ ∃ vp' vl' vf',
      (if putIf p q ps = true then WalkI base w' Wb vp' vl' vf' (ps ++ [(p, q)]) (ls ++ [l]) (fs ++ [fr]) else WalkI base w' Wb vp' vl' vf' ps ls fs) ∧ Off w w' Wb vp vl vf vp' vl' vf' := by
  refine Sym.enter (args := [.pointer (some ⟨Wb, 0, none⟩), .agg #[.int .i64 p, .int .i64 q], .int .i64 l, .int .i64 fr]) Try.func91 rfl rfl rfl (fun a0 hS0 => ?_)
  obtain ⟨B, hBq⟩ : ∃ B, B = w.heap.size := ⟨_, rfl⟩
  refine wp_seq (seq_cut [(0, .pointer (some ⟨Wb, 0, none⟩)), (2, .int .i64 l), (3, .int .i64 fr), (5, .pointer (some ⟨B, 0, none⟩))] (· = w.alloc (.cells #[.int .i64 p, .int .i64 q] 50)) tab_ok hS0 ?_ (fun a wc hS hw => ?_))
  · subst hBq
    refine o_new rfl rfl rfl (fun _ => rfl) ?_
    repeat (first | refine o_pure rfl rfl rfl (fun _ => rfl) ?_ | refine o_skip rfl rfl rfl ?_)
    exact o_nil ⟨⟨rfl, rfl, rfl, rfl, trivial⟩, rfl⟩
  have hB : RowKit.Below w.heap.size w wc := by rw [hw]; exact below_alloc _ _
  have hx : BoxP wc B p q := by rw [hw, hBq]; exact BoxP.new _ _ _ _
  clear hw
  have hnf : ¬ foot Wb vp vl vf B := foot_boxP hW (by omega)
  have hO : Off w wc Wb vp vl vf vp vl vf := Off.below hB (fun _ _ h => h)
  replace hW := hW.keep hB
  replace hb := Nat.le_trans hb hB.size
  clear hB
  have hsl := hW.slp hI
  obtain ⟨hb9, hhb⟩ : ∃ b, putIf p q ps = b := ⟨_, rfl⟩
  refine wp_seq (quiet_cut [(0, .pointer (some ⟨Wb, 0, none⟩)), (2, .int .i64 l), (3, .int .i64 fr), (5, .pointer (some ⟨B, 0, none⟩)), (24, .bool hb9)] tab_ok mixed (by kernel_rfl) hS ?_ (fun a w2 hS hw => ?_))
  · rw [putIf] at hhb
    repeat (first | refine q_pure rfl rfl rfl (fun _ => rfl) ?_ | refine q_skip rfl rfl rfl ?_)
    refine q_load rfl rfl rfl (fun _ => rfl) (hx.c0) ?_
    repeat (first | refine q_pure rfl rfl rfl (fun _ => rfl) ?_ | refine q_skip rfl rfl rfl ?_)
    cases e1 : decide (0 ≤ p)
    case true =>
      rw [e1, Bool.true_or, Bool.true_and] at hhb
      refine q_cmp rfl rfl rfl (fun _ => rfl) (e1) ?_
      repeat (first | refine q_pure rfl rfl rfl (fun _ => rfl) ?_ | refine q_skip rfl rfl rfl ?_)
      refine q_load rfl rfl rfl (fun _ => rfl) (hW.o.cell (i := 0) rfl) ?_
      refine q_loads (vs := [.int .i64 p, .int .i64 q]) rfl rfl rfl (fun _ => rfl) rfl (hx.cells) ?_
      refine q_call (v := .int .i64 (atGo (p, q) ps 0)) rfl rfl rfl (fun _ => rfl) (en_at) (fun w1 h1 => at_any vp ps p q w1 (hsl.keep h1)) ?_
      refine q_cmp rfl rfl rfl (fun _ => rfl) (hhb) ?_
      repeat (first | refine q_pure rfl rfl rfl (fun _ => rfl) ?_ | refine q_skip rfl rfl rfl ?_)
      exact q_nil ⟨rfl, rfl, rfl, rfl, rfl, trivial⟩
    case false =>
      rw [e1, Bool.false_or] at hhb
      refine q_cmp rfl rfl rfl (fun _ => rfl) (e1) ?_
      repeat (first | refine q_pure rfl rfl rfl (fun _ => rfl) ?_ | refine q_skip rfl rfl rfl ?_)
      refine q_load rfl rfl rfl (fun _ => rfl) (hx.c1) ?_
      repeat (first | refine q_pure rfl rfl rfl (fun _ => rfl) ?_ | refine q_skip rfl rfl rfl ?_)
      cases e2 : decide (0 ≤ q)
      case false =>
        rw [e2, Bool.false_and] at hhb; subst hhb
        refine q_cmp rfl rfl rfl (fun _ => rfl) (e2) ?_
        repeat (first | refine q_pure rfl rfl rfl (fun _ => rfl) ?_ | refine q_skip rfl rfl rfl ?_)
        exact q_nil ⟨rfl, rfl, rfl, rfl, rfl, trivial⟩
      case true =>
        rw [e2, Bool.true_and] at hhb
        refine q_cmp rfl rfl rfl (fun _ => rfl) (e2) ?_
        repeat (first | refine q_pure rfl rfl rfl (fun _ => rfl) ?_ | refine q_skip rfl rfl rfl ?_)
        refine q_load rfl rfl rfl (fun _ => rfl) (hW.o.cell (i := 0) rfl) ?_
        refine q_loads (vs := [.int .i64 p, .int .i64 q]) rfl rfl rfl (fun _ => rfl) rfl (hx.cells) ?_
        refine q_call (v := .int .i64 (atGo (p, q) ps 0)) rfl rfl rfl (fun _ => rfl) (en_at) (fun w1 h1 => at_any vp ps p q w1 (hsl.keep h1)) ?_
        refine q_cmp rfl rfl rfl (fun _ => rfl) (hhb) ?_
        repeat (first | refine q_pure rfl rfl rfl (fun _ => rfl) ?_ | refine q_skip rfl rfl rfl ?_)
        exact q_nil ⟨rfl, rfl, rfl, rfl, rfl, trivial⟩
  have hO := hO.trans (Off.below hw (fun _ _ h => h))
  replace hW := hW.keep hw
  replace hx := hx.keep hw
  replace hb := Nat.le_trans hb hw.size
  refine cond hS rfl (fun hT => ?_) (fun hF => ?_)
  · refine wp_seq (put_r2 hW hx hb hn (by rfl) (hS.sub ⟨rfl, rfl, rfl, rfl, trivial⟩) (fun vp1 a w3 hS h => ?_))
    have hb3 := Nat.le_trans hb h.2.size
    refine wp_seq (put_r3 h.1 hb3 hn2 (by rfl) (hS.sub ⟨rfl, rfl, rfl, trivial⟩) (fun vl1 a w4 hS h4 => ?_))
    refine put_r4 h4.1 (Nat.le_trans hb3 h4.2.size) hn3 (by rfl) hS (fun vf1 a w5 hS h5 => ?_)
    exact ret0 hS rfl ⟨rfl, vp1, vl1, vf1, by rw [if_pos (hhb.trans hT)]; exact h5.1, ((hO.trans h.2).trans h4.2).trans h5.2⟩
  · refine wp_skip ?_
    exact ret0 hS rfl ⟨rfl, vp, vl, vf, by rw [if_neg (by rw [hhb, hF]; decide)]; exact hW, hO⟩
end Go.Proofs.Ythkabbgaikociaa
namespace Go.Proofs.Ythkabbgaikociaa
open Go Sym
def newP (w : World) (a b : Int) : World := (w.alloc (.cells #[.int .i64 0, .int .i64 0] 50)).setCells w.heap.size 0 [.int .i64 a, .int .i64 b]
theorem newP_below (w : World) (a b : Int) : RowKit.Below w.heap.size w (newP w a b) := by
  have h1 := below_alloc w (.cells #[.int .i64 0, .int .i64 0] 50)
  exact below_of_grown h1 (grown_sets w.heap.size _ 0 _) (fun k hk => by cases hk; exact Nat.le_refl _)
theorem newP_box (w : World) (a b : Int) : BoxP (newP w a b) w.heap.size a b := by
  have h := (OwnB.new w [.int .i64 0, .int .i64 0] 50).sets (us := [.int .i64 a, .int .i64 b]) rfl
  exact ⟨h.cell (i := 0) rfl, h.cell (i := 1) rfl⟩
theorem own_cells2 {w : World} {b : Nat} {T : TypeId} {v0 v1 : Value} (h : OwnB w b T [v0, v1]) : ∀ j, j < 2 → (w.cell? ⟨b, 0 + j, none⟩).isSome = true ∧ w.frozen? ⟨b, 0 + j, none⟩ = false := fun j hj => by
  rw [Nat.zero_add]
  refine ⟨?_, h.free j⟩
  have : [v0, v1][j]? = some ([v0, v1][j]) := List.getElem?_eq_getElem (by simpa using hj)
  rw [h.cell this]; rfl
theorem sub_one {k : Nat} (h : 0 < k) (h2 : k < 9223372036854775807) : IntKind.i64.wrap ((k : Int) - 1) = ((k - 1 : Nat) : Int) := wrap64 (by omega) (by omega) (by omega)
set_option maxRecDepth 100000 in
set_option maxHeartbeats 1000000 in
theorem check_r8 {w : World} {B1 B2 B k : Nat} {L1 s1 L2 s2 a b : Int} {vn1 ve1 vn2 ve2 v : Value} {n1 n2 : List (List Int)} {l : List (Int × Int)}
    (hn1 : Sl w vn1 n1 PRow) (hn2 : Sl w vn2 n2 PRow) (hx : Box w B1 L1 s1 vn1 ve1) (hy : Box w B2 L2 s2 vn2 ve2) (hp : BoxP w B a b) (hl : SlP w v l) (hk : k < l.length) (hab : l[k] = (a, b))
    {Q : Exit → Act → World → Prop} {ac : Act} {ops : Array Oper} {id : Nat} (hops : Sym.regionOf Try.f30.body 8 = some (id, ops))
    (hS : St Try.f30.ntmps ac [(2, v), (3, .pointer (some ⟨B1, 0, none⟩)), (4, .pointer (some ⟨B2, 0, none⟩)), (8, .int .i64 k), (9, .pointer (some ⟨B, 0, none⟩))])
    (hq : ∀ a' w', St Try.f30.ntmps a' [(2, v), (3, .pointer (some ⟨B1, 0, none⟩)), (4, .pointer (some ⟨B2, 0, none⟩)), (8, .int .i64 k), (9, .pointer (some ⟨B, 0, none⟩)), (76, .bool (badM n1.length n2.length l k))] → RowKit.Below w.heap.size w w' → Q .normal a' w') : (Code.region id ops true).wp Try.prog Q ac w := by
  cases hops
  obtain ⟨hb, hhb⟩ : ∃ b, badM n1.length n2.length l k = b := ⟨_, rfl⟩
  rw [hhb] at hq
  refine quiet_cut [(2, v), (3, .pointer (some ⟨B1, 0, none⟩)), (4, .pointer (some ⟨B2, 0, none⟩)), (8, .int .i64 k), (9, .pointer (some ⟨B, 0, none⟩)), (76, .bool hb)] tab_ok mixed (by kernel_rfl) hS ?_ hq
  rw [badM, badP, show l.getD k (0, 0) = l[k] by simp [List.getD_eq_getElem?_getD, hk], hab] at hhb
  obtain ⟨an1, cn1, rfl⟩ := hn1.len
  obtain ⟨an2, cn2, rfl⟩ := hn2.len
  obtain ⟨al, bl, ol, cl, rfl, h1, h2, h3, h4⟩ := hl
  obtain rfl := h1 (by omega)
  dsimp only at hhb
  repeat (first | refine q_pure rfl rfl rfl (fun _ => rfl) ?_ | refine q_skip rfl rfl rfl ?_)
  refine q_load rfl rfl rfl (fun _ => rfl) (hp.c0) ?_
  repeat (first | refine q_pure rfl rfl rfl (fun _ => rfl) ?_ | refine q_skip rfl rfl rfl ?_)
  cases e1 : decide (a < -1)
  case true =>
    rw [e1, Bool.true_or] at hhb; subst hhb
    refine q_cmp rfl rfl rfl (fun _ => rfl) (e1) ?_
    repeat (first | refine q_pure rfl rfl rfl (fun _ => rfl) ?_ | refine q_skip rfl rfl rfl ?_)
    exact q_nil ⟨rfl, rfl, rfl, rfl, rfl, rfl, trivial⟩
  rw [e1, Bool.false_or] at hhb
  refine q_cmp rfl rfl rfl (fun _ => rfl) (e1) ?_
  repeat (first | refine q_pure rfl rfl rfl (fun _ => rfl) ?_ | refine q_skip rfl rfl rfl ?_)
  refine q_load rfl rfl rfl (fun _ => rfl) (hp.c0) ?_
  repeat (first | refine q_pure rfl rfl rfl (fun _ => rfl) ?_ | refine q_skip rfl rfl rfl ?_)
  refine q_load rfl rfl rfl (fun _ => rfl) (hx.c2) ?_
  repeat (first | refine q_pure rfl rfl rfl (fun _ => rfl) ?_ | refine q_skip rfl rfl rfl ?_)
  cases e2 : decide ((n1.length : Int) ≤ a)
  case true =>
    rw [e2, Bool.true_or] at hhb; subst hhb
    refine q_cmp rfl rfl rfl (fun _ => rfl) (e2) ?_
    repeat (first | refine q_pure rfl rfl rfl (fun _ => rfl) ?_ | refine q_skip rfl rfl rfl ?_)
    exact q_nil ⟨rfl, rfl, rfl, rfl, rfl, rfl, trivial⟩
  rw [e2, Bool.false_or] at hhb
  refine q_cmp rfl rfl rfl (fun _ => rfl) (e2) ?_
  repeat (first | refine q_pure rfl rfl rfl (fun _ => rfl) ?_ | refine q_skip rfl rfl rfl ?_)
  refine q_load rfl rfl rfl (fun _ => rfl) (hp.c1) ?_
  repeat (first | refine q_pure rfl rfl rfl (fun _ => rfl) ?_ | refine q_skip rfl rfl rfl ?_)
  cases e3 : decide (b < -1)
  case true =>
    rw [e3, Bool.true_or] at hhb; subst hhb
    refine q_cmp rfl rfl rfl (fun _ => rfl) (e3) ?_
    repeat (first | refine q_pure rfl rfl rfl (fun _ => rfl) ?_ | refine q_skip rfl rfl rfl ?_)
    exact q_nil ⟨rfl, rfl, rfl, rfl, rfl, rfl, trivial⟩
  rw [e3, Bool.false_or] at hhb
  refine q_cmp rfl rfl rfl (fun _ => rfl) (e3) ?_
  repeat (first | refine q_pure rfl rfl rfl (fun _ => rfl) ?_ | refine q_skip rfl rfl rfl ?_)
  refine q_load rfl rfl rfl (fun _ => rfl) (hp.c1) ?_
  repeat (first | refine q_pure rfl rfl rfl (fun _ => rfl) ?_ | refine q_skip rfl rfl rfl ?_)
  refine q_load rfl rfl rfl (fun _ => rfl) (hy.c2) ?_
  repeat (first | refine q_pure rfl rfl rfl (fun _ => rfl) ?_ | refine q_skip rfl rfl rfl ?_)
  cases e4 : decide ((n2.length : Int) ≤ b)
  case true =>
    rw [e4, Bool.true_or] at hhb; subst hhb
    refine q_cmp rfl rfl rfl (fun _ => rfl) (e4) ?_
    repeat (first | refine q_pure rfl rfl rfl (fun _ => rfl) ?_ | refine q_skip rfl rfl rfl ?_)
    exact q_nil ⟨rfl, rfl, rfl, rfl, rfl, rfl, trivial⟩
  rw [e4, Bool.false_or] at hhb
  refine q_cmp rfl rfl rfl (fun _ => rfl) (e4) ?_
  repeat (first | refine q_pure rfl rfl rfl (fun _ => rfl) ?_ | refine q_skip rfl rfl rfl ?_)
  refine q_load rfl rfl rfl (fun _ => rfl) (hp.c0) ?_
  repeat (first | refine q_pure rfl rfl rfl (fun _ => rfl) ?_ | refine q_skip rfl rfl rfl ?_)
  cases e5 : decide (a < 0)
  case false =>
    rw [e5, Bool.false_and, Bool.false_or] at hhb
    refine q_cmp rfl rfl rfl (fun _ => rfl) (e5) ?_
    repeat (first | refine q_pure rfl rfl rfl (fun _ => rfl) ?_ | refine q_skip rfl rfl rfl ?_)
    cases e6 : decide (0 < (k : Int))
    case false =>
      rw [e6, Bool.false_and] at hhb; subst hhb
      refine q_cmp rfl rfl rfl (fun _ => rfl) (e6) ?_
      repeat (first | refine q_pure rfl rfl rfl (fun _ => rfl) ?_ | refine q_skip rfl rfl rfl ?_)
      exact q_nil ⟨rfl, rfl, rfl, rfl, rfl, rfl, trivial⟩
    rw [e6, Bool.true_and] at hhb
    have hk0 : 0 < k := by have := of_decide_eq_true e6; omega
    obtain ⟨hc, hi1, hi2⟩ := h4 (k - 1) (by omega)
    rw [show l.getD (k - 1) (0, 0) = l[k - 1] by simp [List.getD_eq_getElem?_getD, show k - 1 < l.length by omega]] at hhb
    refine q_cmp rfl rfl rfl (fun _ => rfl) (e6) ?_
    repeat (first | refine q_pure rfl rfl rfl (fun _ => rfl) ?_ | refine q_skip rfl rfl rfl ?_)
    refine q_num rfl rfl rfl (fun _ => rfl) (sub_one hk0 (by omega)) ?_
    refine q_ix rfl rfl rfl (fun _ => rfl) (rfl) ((by omega : k - 1 < l.length)) ?_
    refine q_loads (vs := [.int .i64 l[k - 1].1, .int .i64 l[k - 1].2]) rfl rfl rfl (fun _ => rfl) rfl (hc) ?_
    refine q_loads (vs := [.int .i64 a, .int .i64 b]) rfl rfl rfl (fun _ => rfl) rfl (hp.cells) ?_
    refine q_call (v := .bool (beforeM l[k - 1].1 l[k - 1].2 a b)) rfl rfl rfl (fun _ => rfl) (en_before) (fun w1 h1 => before_any _ _ _ _ w1) ?_
    subst hhb
    repeat (first | refine q_pure rfl rfl rfl (fun _ => rfl) ?_ | refine q_skip rfl rfl rfl ?_)
    exact q_nil ⟨rfl, rfl, rfl, rfl, rfl, rfl, trivial⟩
  case true =>
    rw [e5, Bool.true_and] at hhb
    refine q_cmp rfl rfl rfl (fun _ => rfl) (e5) ?_
    repeat (first | refine q_pure rfl rfl rfl (fun _ => rfl) ?_ | refine q_skip rfl rfl rfl ?_)
    refine q_load rfl rfl rfl (fun _ => rfl) (hp.c1) ?_
    repeat (first | refine q_pure rfl rfl rfl (fun _ => rfl) ?_ | refine q_skip rfl rfl rfl ?_)
    cases e7 : decide (b < 0)
    case true =>
      rw [e7, Bool.true_or] at hhb; subst hhb
      refine q_cmp rfl rfl rfl (fun _ => rfl) (e7) ?_
      repeat (first | refine q_pure rfl rfl rfl (fun _ => rfl) ?_ | refine q_skip rfl rfl rfl ?_)
      exact q_nil ⟨rfl, rfl, rfl, rfl, rfl, rfl, trivial⟩
    case false =>
      rw [e7, Bool.false_or] at hhb
      refine q_cmp rfl rfl rfl (fun _ => rfl) (e7) ?_
      repeat (first | refine q_pure rfl rfl rfl (fun _ => rfl) ?_ | refine q_skip rfl rfl rfl ?_)
      cases e6 : decide (0 < (k : Int))
      case false =>
        rw [e6, Bool.false_and] at hhb; subst hhb
        refine q_cmp rfl rfl rfl (fun _ => rfl) (e6) ?_
        repeat (first | refine q_pure rfl rfl rfl (fun _ => rfl) ?_ | refine q_skip rfl rfl rfl ?_)
        exact q_nil ⟨rfl, rfl, rfl, rfl, rfl, rfl, trivial⟩
      rw [e6, Bool.true_and] at hhb
      have hk0 : 0 < k := by have := of_decide_eq_true e6; omega
      obtain ⟨hc, hi1, hi2⟩ := h4 (k - 1) (by omega)
      rw [show l.getD (k - 1) (0, 0) = l[k - 1] by simp [List.getD_eq_getElem?_getD, show k - 1 < l.length by omega]] at hhb
      refine q_cmp rfl rfl rfl (fun _ => rfl) (e6) ?_
      repeat (first | refine q_pure rfl rfl rfl (fun _ => rfl) ?_ | refine q_skip rfl rfl rfl ?_)
      refine q_num rfl rfl rfl (fun _ => rfl) (sub_one hk0 (by omega)) ?_
      refine q_ix rfl rfl rfl (fun _ => rfl) (rfl) ((by omega : k - 1 < l.length)) ?_
      refine q_loads (vs := [.int .i64 l[k - 1].1, .int .i64 l[k - 1].2]) rfl rfl rfl (fun _ => rfl) rfl (hc) ?_
      refine q_loads (vs := [.int .i64 a, .int .i64 b]) rfl rfl rfl (fun _ => rfl) rfl (hp.cells) ?_
      refine q_call (v := .bool (beforeM l[k - 1].1 l[k - 1].2 a b)) rfl rfl rfl (fun _ => rfl) (en_before) (fun w1 h1 => before_any _ _ _ _ w1) ?_
      subst hhb
      repeat (first | refine q_pure rfl rfl rfl (fun _ => rfl) ?_ | refine q_skip rfl rfl rfl ?_)
      exact q_nil ⟨rfl, rfl, rfl, rfl, rfl, rfl, trivial⟩
theorem bad_range {m1 m2 : Int} {l : List (Int × Int)} {k : Nat} (hk : k < l.length) (h : badM m1 m2 l k = false) : -1 ≤ l[k].1 ∧ l[k].1 < m1 ∧ -1 ≤ l[k].2 ∧ l[k].2 < m2 := by
  rw [badM, badP, show l.getD k (0, 0) = l[k] by simp [List.getD_eq_getElem?_getD, hk]] at h
  simp only [Bool.or_eq_false_iff, decide_eq_false_iff_not] at h
  omega
set_option maxRecDepth 100000 in
theorem check_any (L1 s1 L2 s2 : Int) (vn1 ve1 vn2 ve2 v : Value) (n1 n2 : List (List Int)) (f1 f2 : List Bool) (l : List (Int × Int)) (w : World) (hm : Ma w L1 s1 n1 f1 vn1 ve1) (hm2 : Ma w L2 s2 n2 f2 vn2 ve2) (hl : SlP w v l) :
    Calls Try.prog 30 #[.agg #[.int .i64 L1, .int .i64 s1, vn1, ve1], .agg #[.int .i64 L2, .int .i64 s2, vn2, ve2], v] w fun e w' => e = .returned (.int .i64 (checkM L1 s1 n1 f1 L2 s2 n2 f2 l)) ∧ RowKit.Below w.heap.size w w' := by
  refine Sym.enter (args := [.agg #[.int .i64 L1, .int .i64 s1, vn1, ve1], .agg #[.int .i64 L2, .int .i64 s2, vn2, ve2], v]) Try.func30 rfl rfl rfl (fun a0 hS0 => ?_)
  obtain ⟨N, hN⟩ : ∃ N, N = (w.alloc (.cells #[.int .i64 L1, .int .i64 s1, vn1, ve1] 25)).heap.size := ⟨_, rfl⟩
  obtain ⟨M, hM⟩ : ∃ M, M = w.heap.size := ⟨_, rfl⟩
  refine wp_seq (seq_cut [(2, v), (3, .pointer (some ⟨M, 0, none⟩)), (4, .pointer (some ⟨N, 0, none⟩))] (· = (w.alloc (.cells #[.int .i64 L1, .int .i64 s1, vn1, ve1] 25)).alloc (.cells #[.int .i64 L2, .int .i64 s2, vn2, ve2] 25)) tab_ok hS0 ?_ (fun a wc hS hw => ?_))
  · subst hN hM
    refine o_new rfl rfl rfl (fun _ => rfl) ?_
    refine o_new rfl rfl rfl (fun _ => rfl) ?_
    repeat (first | refine o_pure rfl rfl rfl (fun _ => rfl) ?_ | refine o_skip rfl rfl rfl ?_)
    exact o_nil ⟨⟨rfl, rfl, rfl, trivial⟩, rfl⟩
  have hB1 := below_alloc w (.cells #[.int .i64 L1, .int .i64 s1, vn1, ve1] 25)
  have hB2 := below_alloc (w.alloc (.cells #[.int .i64 L1, .int .i64 s1, vn1, ve1] 25)) (.cells #[.int .i64 L2, .int .i64 s2, vn2, ve2] 25)
  rw [← hw] at hB2
  have hx : Box wc M L1 s1 vn1 ve1 := by rw [hM]; exact (Box.new w L1 s1 vn1 ve1 25).keep hB2
  have hy : Box wc N L2 s2 vn2 ve2 := by rw [hw, hN]; exact Box.new _ _ _ _ _ _
  have hB := below_trans hB1 hB2
  clear hw hB1 hB2 hN hM
  replace hm := hm.keep hB
  replace hm2 := hm2.keep hB
  replace hl := hl.keep hB
  obtain ⟨z, hz⟩ : ∃ z, twoM L1 s1 n1 f1 L2 s2 n2 f2 = z := ⟨_, rfl⟩
  refine wp_seq (seq_cut [(2, v), (3, .pointer (some ⟨M, 0, none⟩)), (4, .pointer (some ⟨N, 0, none⟩)), (7, .int .i64 z)] (fun w' => RowKit.Below wc.heap.size wc w') tab_ok hS ?_ (fun a w2 hS hw => ?_))
  · refine o_loads (vs := [.int .i64 L1, .int .i64 s1, vn1, ve1]) rfl rfl rfl (fun _ => rfl) rfl (hx.cells) ?_
    refine o_loads (vs := [.int .i64 L2, .int .i64 s2, vn2, ve2]) rfl rfl rfl (fun _ => rfl) rfl (hy.cells) ?_
    refine o_call rfl rfl rfl (fun _ => rfl) (en_two) (two_any L1 s1 L2 s2 vn1 ve1 vn2 ve2 n1 n2 f1 f2 _ hm hm2) ?_
    rintro e w1 ⟨rfl, h1⟩
    refine ⟨_, rfl, ?_⟩
    subst hz
    repeat (first | refine o_pure rfl rfl rfl (fun _ => rfl) ?_ | refine o_skip rfl rfl rfl ?_)
    exact o_nil ⟨⟨rfl, rfl, rfl, rfl, trivial⟩, h1⟩
  replace hB := below_trans hB hw
  replace hx := hx.keep hw
  replace hy := hy.keep hw
  replace hm := hm.keep hw
  replace hm2 := hm2.keep hw
  replace hl := hl.keep hw
  clear hw
  refine wp_seq (wp_seq (seq_cut [(2, v), (3, .pointer (some ⟨M, 0, none⟩)), (4, .pointer (some ⟨N, 0, none⟩)), (7, .int .i64 z), (17, .bool (decide (z ≠ 0)))] (· = w2) tab_ok hS ?_ (fun a w3 hS hw => ?_)))
  · repeat (first | refine o_pure rfl rfl rfl (fun _ => rfl) ?_ | refine o_skip rfl rfl rfl ?_)
    refine o_cmp rfl rfl rfl (fun _ => rfl) (rfl) ?_
    repeat (first | refine o_pure rfl rfl rfl (fun _ => rfl) ?_ | refine o_skip rfl rfl rfl ?_)
    exact o_nil ⟨⟨rfl, rfl, rfl, rfl, rfl, trivial⟩, rfl⟩
  subst hw
  refine cond hS rfl (fun hT => ?_) (fun hF => ?_)
  · refine wp_seq (seq_cut [(6, .int .i64 z)] (· = w3) tab_ok hS ?_ (fun a w4 hS hw => ?_))
    · repeat (first | refine o_pure rfl rfl rfl (fun _ => rfl) ?_ | refine o_skip rfl rfl rfl ?_)
      exact o_nil ⟨⟨rfl, trivial⟩, rfl⟩
    subst hw
    refine wp_ret ?_
    repeat (first | refine then_ret ?_ | refine block_ret ?_)
    exact ret1 hS rfl rfl ⟨by rw [checkM, hz, if_pos (of_decide_eq_true hT)], hB⟩
  have hz0 : z = 0 := Decidable.not_not.1 (of_decide_eq_false hF)
  obtain ⟨hv1, hv2, hLL⟩ := two_zero (hz.trans hz0)
  have hck : checkM L1 s1 n1 f1 L2 s2 n2 f2 l = if (List.range l.length).any (badM n1.length n2.length l) = true then 2
      else if thereM s1 s2 l = false then 8 else if l.any (apartM n1 n2 f1 f2 L1 l) = true then 8 else 0 := by
    rw [checkM, hz, hz0]; rfl
  have hs1 := (shape_of_valid hv1).1
  have hs2 := (shape_of_valid hv2).1
  refine wp_skip ?_
  obtain ⟨al, bl, ol, cl, hvl, h1, h2, h3, h4⟩ := id hl
  subst hvl
  refine wp_seq (wp_seq (seq_cut [(2, .slice al l.length cl), (3, .pointer (some ⟨M, 0, none⟩)), (4, .pointer (some ⟨N, 0, none⟩)), (8, .int .i64 0)] (· = w3) tab_ok hS ?_ (fun a w4 hS hw => ?_)))
  · repeat (first | refine o_pure rfl rfl rfl (fun _ => rfl) ?_ | refine o_skip rfl rfl rfl ?_)
    exact o_nil ⟨⟨rfl, rfl, rfl, rfl, trivial⟩, rfl⟩
  subst hw
  clear h4
  refine wp_block (loop0 hS (fun g E wr => ∃ k : Nat, k ≤ l.length ∧ g = l.length - k ∧ E = [(2, .slice al l.length cl), (3, .pointer (some ⟨M, 0, none⟩)), (4, .pointer (some ⟨N, 0, none⟩)), (8, .int .i64 k)] ∧ RowKit.Below w4.heap.size w4 wr ∧ ∀ j < k, badM n1.length n2.length l j = false)
    l.length ⟨0, Nat.zero_le _, rfl, rfl, RowKit.Below.refl _ _, fun j hj => by omega⟩ ?_)
  rintro g E wr a1 ⟨k, hk, rfl, rfl, hK, hgo⟩ hS
  replace hx := hx.keep hK
  replace hy := hy.keep hK
  replace hm := hm.keep hK
  replace hm2 := hm2.keep hK
  replace hl := hl.keep hK
  replace hB := below_trans hB hK
  refine wp_seq (wp_seq (seq_cut [(2, .slice al l.length cl), (3, .pointer (some ⟨M, 0, none⟩)), (4, .pointer (some ⟨N, 0, none⟩)), (8, .int .i64 k), (22, .bool (decide ((k : Int) < l.length)))] (· = wr) tab_ok hS ?_ (fun a w5 hS hw => ?_)))
  · repeat (first | refine o_pure rfl rfl rfl (fun _ => rfl) ?_ | refine o_skip rfl rfl rfl ?_)
    refine o_cmp rfl rfl rfl (fun _ => rfl) (rfl) ?_
    repeat (first | refine o_pure rfl rfl rfl (fun _ => rfl) ?_ | refine o_skip rfl rfl rfl ?_)
    exact o_nil ⟨⟨rfl, rfl, rfl, rfl, rfl, trivial⟩, rfl⟩
  subst hw
  refine cond hS rfl (fun hT => ?_) (fun hF => ?_)
  case refine_2 =>
    refine wp_exit ?_
    repeat (first | refine then_exit ?_ | refine block_exit ?_ | refine block_other rfl ?_)
    have hge : l.length ≤ k := by have := of_decide_eq_false hF; omega
    have hck2 : checkM L1 s1 n1 f1 L2 s2 n2 f2 l = if thereM s1 s2 l = false then 8 else if l.any (apartM n1 n2 f1 f2 L1 l) = true then 8 else 0 := by
      rw [hck, if_neg]
      intro h
      obtain ⟨j, hj, hb⟩ := List.any_eq_true.1 h
      rw [hgo j (by have := List.mem_range.1 hj; omega)] at hb
      cases hb
    have hrng : ∀ i (h : i < l.length), -1 ≤ l[i].1 ∧ l[i].1 < n1.length ∧ -1 ≤ l[i].2 ∧ l[i].2 < n2.length := fun i h => bad_range h (hgo i (by omega))
    clear hgo hck
    refine wp_seq (wp_seq (seq_cut [(2, .slice al l.length cl), (3, .pointer (some ⟨M, 0, none⟩)), (4, .pointer (some ⟨N, 0, none⟩)), (84, .bool (!thereM s1 s2 l))] (fun w' => RowKit.Below w5.heap.size w5 w') tab_ok hS ?_ (fun a w6 hS hw => ?_)))
    · repeat (first | refine o_pure rfl rfl rfl (fun _ => rfl) ?_ | refine o_skip rfl rfl rfl ?_)
      refine o_load rfl rfl rfl (fun _ => rfl) (hx.c1) ?_
      repeat (first | refine o_pure rfl rfl rfl (fun _ => rfl) ?_ | refine o_skip rfl rfl rfl ?_)
      refine o_load rfl rfl rfl (fun _ => rfl) (hy.c1) ?_
      repeat (first | refine o_pure rfl rfl rfl (fun _ => rfl) ?_ | refine o_skip rfl rfl rfl ?_)
      refine o_call rfl rfl rfl (fun _ => rfl) (en_there) (there_any _ l s1 s2 _ hl) ?_
      rintro e w1 ⟨rfl, h1⟩
      refine ⟨_, rfl, ?_⟩
      repeat (first | refine o_pure rfl rfl rfl (fun _ => rfl) ?_ | refine o_skip rfl rfl rfl ?_)
      exact o_nil ⟨⟨rfl, rfl, rfl, rfl, trivial⟩, h1⟩
    replace hB := below_trans hB hw
    replace hx := hx.keep hw
    replace hy := hy.keep hw
    replace hm := hm.keep hw
    replace hm2 := hm2.keep hw
    replace hl := hl.keep hw
    clear hw hK
    refine cond hS rfl (fun hT => ?_) (fun hF => ?_)
    · refine wp_seq (seq_cut [(6, .int .i64 8)] (· = w6) tab_ok hS ?_ (fun a w8 hS hw => ?_))
      · repeat (first | refine o_pure rfl rfl rfl (fun _ => rfl) ?_ | refine o_skip rfl rfl rfl ?_)
        exact o_nil ⟨⟨rfl, trivial⟩, rfl⟩
      subst hw
      refine wp_ret ?_
      repeat (first | refine then_ret ?_ | refine block_ret ?_)
      exact ret1 hS rfl rfl ⟨by rw [hck2, if_pos (by simpa using hT)], hB⟩
    have hck3 : checkM L1 s1 n1 f1 L2 s2 n2 f2 l = if l.any (apartM n1 n2 f1 f2 L1 l) = true then 8 else 0 := by
      rw [hck2, if_neg (by simpa using hF)]
    refine wp_skip ?_
    refine wp_seq (wp_seq (seq_cut [(2, .slice al l.length cl), (3, .pointer (some ⟨M, 0, none⟩)), (4, .pointer (some ⟨N, 0, none⟩)), (10, .int .i64 0)] (· = w6) tab_ok hS ?_ (fun a w7 hS hw => ?_)))
    · repeat (first | refine o_pure rfl rfl rfl (fun _ => rfl) ?_ | refine o_skip rfl rfl rfl ?_)
      exact o_nil ⟨⟨rfl, rfl, rfl, rfl, trivial⟩, rfl⟩
    subst hw
    refine wp_block (loop0 hS (fun g E wr => ∃ k : Nat, k ≤ l.length ∧ g = l.length - k ∧ E = [(2, .slice al l.length cl), (3, .pointer (some ⟨M, 0, none⟩)), (4, .pointer (some ⟨N, 0, none⟩)), (10, .int .i64 k)] ∧ RowKit.Below w7.heap.size w7 wr ∧ ∀ j (hj : j < l.length), j < k → apartM n1 n2 f1 f2 L1 l l[j] = false)
      l.length ⟨0, Nat.zero_le _, rfl, rfl, RowKit.Below.refl _ _, fun j _ hj => by omega⟩ ?_)
    clear hk hge
    rintro g E wr a1 ⟨k, hk, rfl, rfl, hK, hgo⟩ hS
    replace hx := hx.keep hK
    replace hy := hy.keep hK
    replace hm := hm.keep hK
    replace hm2 := hm2.keep hK
    replace hl := hl.keep hK
    replace hB := below_trans hB hK
    refine wp_seq (wp_seq (seq_cut [(2, .slice al l.length cl), (3, .pointer (some ⟨M, 0, none⟩)), (4, .pointer (some ⟨N, 0, none⟩)), (10, .int .i64 k), (88, .bool (decide ((k : Int) < l.length)))] (· = wr) tab_ok hS ?_ (fun a w8 hS hw => ?_)))
    · repeat (first | refine o_pure rfl rfl rfl (fun _ => rfl) ?_ | refine o_skip rfl rfl rfl ?_)
      refine o_cmp rfl rfl rfl (fun _ => rfl) (rfl) ?_
      repeat (first | refine o_pure rfl rfl rfl (fun _ => rfl) ?_ | refine o_skip rfl rfl rfl ?_)
      exact o_nil ⟨⟨rfl, rfl, rfl, rfl, rfl, trivial⟩, rfl⟩
    subst hw
    refine cond hS rfl (fun hT => ?_) (fun hF => ?_)
    case refine_2 =>
      refine wp_exit ?_
      repeat (first | refine then_exit ?_ | refine block_exit ?_ | refine block_other rfl ?_)
      have hge : l.length ≤ k := by have := of_decide_eq_false hF; omega
      refine wp_seq (seq_cut [(6, .int .i64 0)] (· = w8) tab_ok hS ?_ (fun a w9 hS hw => ?_))
      · repeat (first | refine o_pure rfl rfl rfl (fun _ => rfl) ?_ | refine o_skip rfl rfl rfl ?_)
        exact o_nil ⟨⟨rfl, trivial⟩, rfl⟩
      subst hw
      refine wp_ret ?_
      repeat (first | refine then_ret ?_ | refine block_ret ?_)
      refine ret1 hS rfl rfl ⟨?_, hB⟩
      rw [hck3, if_neg]
      intro h
      obtain ⟨p, hp, hb⟩ := List.any_eq_true.1 h
      obtain ⟨i, hi, rfl⟩ := List.getElem_of_mem hp
      rw [hgo i hi (by omega)] at hb
      cases hb
    have hlt : k < l.length := by have := of_decide_eq_true hT; omega
    obtain rfl := h1 (by omega)
    have hcell : cellsAt w8.cell? bl (ol + k * 2) [.int .i64 l[k].1, .int .i64 l[k].2] := by
      obtain ⟨_, _, _, _, hvl, g1, _, _, g4⟩ := id hl
      have := g1 (by omega)
      subst this
      simp only [Value.slice.injEq, Option.some.injEq, Addr.mk.injEq] at hvl
      obtain ⟨⟨rfl, rfl, _⟩, _, rfl⟩ := hvl
      exact (g4 k hlt).1
    obtain ⟨hr1, hr2, hr3, hr4⟩ := hrng k hlt
    refine wp_skip ?_
    refine wp_seq (wp_block ?_)
    refine wp_seq (seq_cut [(2, .slice (some ⟨bl, ol, none⟩) l.length cl), (3, .pointer (some ⟨M, 0, none⟩)), (4, .pointer (some ⟨N, 0, none⟩)), (10, .int .i64 k), (11, .pointer (some ⟨w8.heap.size, 0, none⟩))] (· = newP w8 l[k].1 l[k].2) tab_ok hS ?_ (fun a w9 hS hw => ?_))
    · repeat (first | refine o_pure rfl rfl rfl (fun _ => rfl) ?_ | refine o_skip rfl rfl rfl ?_)
      refine o_ix rfl rfl rfl (fun _ => rfl) (rfl) (hlt) ?_
      refine o_loads (vs := [.int .i64 l[k].1, .int .i64 l[k].2]) rfl rfl rfl (fun _ => rfl) rfl (hcell) ?_
      refine o_new rfl rfl rfl (fun _ => rfl) ?_
      refine o_step0 rfl rfl (And.intro rfl (And.intro rfl (And.intro (own_cells2 (OwnB.new w8 [.int .i64 0, .int .i64 0] 50)) ?_)))
      exact o_nil ⟨⟨rfl, rfl, rfl, rfl, rfl, trivial⟩, rfl⟩
    have hP := newP_below w8 l[k].1 l[k].2
    have hp := newP_box w8 l[k].1 l[k].2
    rw [← hw] at hP hp
    clear hw
    obtain ⟨P, hPq⟩ : ∃ P, P = w8.heap.size := ⟨_, rfl⟩
    rw [← hPq] at hp hS
    replace hx := hx.keep hP
    replace hy := hy.keep hP
    replace hm := hm.keep hP
    replace hm2 := hm2.keep hP
    replace hl := hl.keep hP
    replace hB := below_trans hB hP
    replace hK := below_trans hK hP
    clear hP hcell
    obtain ⟨a1, ha1⟩ : ∃ a1, l[k].1 = a1 := ⟨_, rfl⟩
    obtain ⟨b1, hb1⟩ : ∃ b1, l[k].2 = b1 := ⟨_, rfl⟩
    rw [ha1, hb1] at hp
    rw [ha1] at hr1 hr2
    rw [hb1] at hr3 hr4
    have hak : apartM n1 n2 f1 f2 L1 l l[k] = ((endsM f1 a1 != endsM f2 b1) || (List.range L1.toNat).any (fun (c : Nat) => !thereM (stepM n1 a1 c) (stepM n2 b1 c) l)) := by rw [apartM, ha1, hb1]
    refine wp_seq (wp_seq (quiet_cut [(2, .slice (some ⟨bl, ol, none⟩) l.length cl), (3, .pointer (some ⟨M, 0, none⟩)), (4, .pointer (some ⟨N, 0, none⟩)), (10, .int .i64 k), (11, .pointer (some ⟨P, 0, none⟩)), (103, .bool (endsM f1 a1 != endsM f2 b1))] tab_ok mixed (by kernel_rfl) hS ?_ (fun a w10 hS hw => ?_)))
    · refine q_loads (vs := [.int .i64 L1, .int .i64 s1, vn1, ve1]) rfl rfl rfl (fun _ => rfl) rfl (hx.cells) ?_
      repeat (first | refine q_pure rfl rfl rfl (fun _ => rfl) ?_ | refine q_skip rfl rfl rfl ?_)
      refine q_load rfl rfl rfl (fun _ => rfl) (hp.c0) ?_
      refine q_call (v := .bool (endsM f1 a1)) rfl rfl rfl (fun _ => rfl) (en_ends) (fun w1 h1 => ends_any L1 s1 vn1 ve1 f1 a1 w1 (hm.keep h1).e (by rw [hs1.fin]; exact hr2)) ?_
      refine q_loads (vs := [.int .i64 L2, .int .i64 s2, vn2, ve2]) rfl rfl rfl (fun _ => rfl) rfl (hy.cells) ?_
      repeat (first | refine q_pure rfl rfl rfl (fun _ => rfl) ?_ | refine q_skip rfl rfl rfl ?_)
      refine q_load rfl rfl rfl (fun _ => rfl) (hp.c1) ?_
      refine q_call (v := .bool (endsM f2 b1)) rfl rfl rfl (fun _ => rfl) (en_ends) (fun w1 h1 => ends_any L2 s2 vn2 ve2 f2 b1 w1 (hm2.keep h1).e (by rw [hs2.fin]; exact hr4)) ?_
      refine q_cmp rfl rfl rfl (fun _ => rfl) (rfl) ?_
      exact q_nil ⟨rfl, rfl, rfl, rfl, rfl, rfl, trivial⟩
    replace hx := hx.keep hw
    replace hy := hy.keep hw
    replace hm := hm.keep hw
    replace hm2 := hm2.keep hw
    replace hl := hl.keep hw
    replace hp := hp.keep hw
    replace hB := below_trans hB hw
    replace hK := below_trans hK hw
    clear hw
    refine cond hS rfl (fun hT => ?_) (fun hF => ?_)
    · refine wp_seq (seq_cut [(6, .int .i64 8)] (· = w10) tab_ok hS ?_ (fun a w11 hS hw => ?_))
      · repeat (first | refine o_pure rfl rfl rfl (fun _ => rfl) ?_ | refine o_skip rfl rfl rfl ?_)
        exact o_nil ⟨⟨rfl, trivial⟩, rfl⟩
      subst hw
      refine wp_ret ?_
      repeat (first | refine then_ret ?_ | refine block_ret ?_)
      exact ret1 hS rfl rfl ⟨by rw [hck3, if_pos (List.any_eq_true.2 ⟨_, List.getElem_mem hlt, by rw [hak, hT]; rfl⟩)], hB⟩
    rw [hF, Bool.false_or] at hak
    refine wp_skip ?_
    refine wp_seq (seq_cut [(2, .slice (some ⟨bl, ol, none⟩) l.length cl), (3, .pointer (some ⟨M, 0, none⟩)), (4, .pointer (some ⟨N, 0, none⟩)), (10, .int .i64 k), (11, .pointer (some ⟨P, 0, none⟩)), (12, .int .i64 0)] (· = w10) tab_ok hS ?_ (fun a w11 hS hw => ?_))
    · repeat (first | refine o_pure rfl rfl rfl (fun _ => rfl) ?_ | refine o_skip rfl rfl rfl ?_)
      exact o_nil ⟨⟨rfl, rfl, rfl, rfl, rfl, rfl, trivial⟩, rfl⟩
    subst hw
    refine wp_block (loop0 hS (fun g E wr => ∃ c : Nat, (c : Int) ≤ L1 ∧ g = L1.toNat - c ∧ E = [(2, .slice (some ⟨bl, ol, none⟩) l.length cl), (3, .pointer (some ⟨M, 0, none⟩)), (4, .pointer (some ⟨N, 0, none⟩)), (10, .int .i64 k), (11, .pointer (some ⟨P, 0, none⟩)), (12, .int .i64 c)] ∧ RowKit.Below w11.heap.size w11 wr ∧ ∀ d : Nat, d < c → thereM (stepM n1 a1 d) (stepM n2 b1 d) l = true)
      L1.toNat ⟨0, hs1.L0, rfl, rfl, RowKit.Below.refl _ _, fun j hj => by omega⟩ ?_)
    rintro g E wr a1' ⟨c, hcL, rfl, rfl, hK3, hgo3⟩ hS
    replace hx := hx.keep hK3
    replace hy := hy.keep hK3
    replace hm := hm.keep hK3
    replace hm2 := hm2.keep hK3
    replace hl := hl.keep hK3
    replace hp := hp.keep hK3
    replace hB := below_trans hB hK3
    replace hK := below_trans hK hK3
    refine wp_seq (wp_seq (seq_cut [(2, .slice (some ⟨bl, ol, none⟩) l.length cl), (3, .pointer (some ⟨M, 0, none⟩)), (4, .pointer (some ⟨N, 0, none⟩)), (10, .int .i64 k), (11, .pointer (some ⟨P, 0, none⟩)), (12, .int .i64 c), (107, .bool (decide ((c : Int) < L1)))] (· = wr) tab_ok hS ?_ (fun a w12 hS hw => ?_)))
    · repeat (first | refine o_pure rfl rfl rfl (fun _ => rfl) ?_ | refine o_skip rfl rfl rfl ?_)
      refine o_load rfl rfl rfl (fun _ => rfl) (hx.c0) ?_
      refine o_cmp rfl rfl rfl (fun _ => rfl) (rfl) ?_
      repeat (first | refine o_pure rfl rfl rfl (fun _ => rfl) ?_ | refine o_skip rfl rfl rfl ?_)
      exact o_nil ⟨⟨rfl, rfl, rfl, rfl, rfl, rfl, rfl, trivial⟩, rfl⟩
    subst hw
    refine cond hS rfl (fun hT => ?_) (fun hF => ?_)
    case refine_2 =>
      refine wp_exit ?_
      repeat (first | refine then_exit ?_ | refine block_exit ?_ | refine block_other rfl ?_)
      have hge : L1 ≤ c := by have := of_decide_eq_false hF; omega
      have hno : apartM n1 n2 f1 f2 L1 l l[k] = false := by
        rw [hak]
        refine Bool.eq_false_iff.2 (fun h => ?_)
        obtain ⟨d, hd, hb⟩ := List.any_eq_true.1 h
        rw [hgo3 d (by have := List.mem_range.1 hd; omega)] at hb
        cases hb
      refine block_normal ?_
      refine then_normal ?_
      refine seq_cut [(2, .slice (some ⟨bl, ol, none⟩) l.length cl), (3, .pointer (some ⟨M, 0, none⟩)), (4, .pointer (some ⟨N, 0, none⟩)), (10, .int .i64 ((k + 1 : Nat) : Int))] (· = w12) tab_ok hS ?_ (fun a w13 hS hw13 => ?_)
      · repeat (first | refine o_pure rfl rfl rfl (fun _ => rfl) ?_ | refine o_skip rfl rfl rfl ?_)
        refine o_num rfl rfl rfl (fun _ => rfl) (wrap_succ (by omega)) ?_
        repeat (first | refine o_pure rfl rfl rfl (fun _ => rfl) ?_ | refine o_skip rfl rfl rfl ?_)
        exact o_nil ⟨⟨rfl, rfl, rfl, rfl, trivial⟩, rfl⟩
      subst hw13
      refine ⟨l.length - (k + 1), _, by omega, ⟨k + 1, by omega, rfl, rfl, hK, fun j hj hjk => ?_⟩, hS⟩
      rcases Nat.lt_or_ge j k with hlt2 | hge2
      · exact hgo j hj hlt2
      · obtain rfl : j = k := by omega
        exact hno
    have hcL1 : (c : Int) < L1 := of_decide_eq_true hT
    refine wp_skip ?_
    refine wp_seq (wp_block ?_)
    obtain ⟨hb9, hhb9⟩ : ∃ b, (!thereM (stepM n1 a1 c) (stepM n2 b1 c) l) = b := ⟨_, rfl⟩
    refine wp_seq (quiet_cut [(2, .slice (some ⟨bl, ol, none⟩) l.length cl), (3, .pointer (some ⟨M, 0, none⟩)), (4, .pointer (some ⟨N, 0, none⟩)), (10, .int .i64 k), (11, .pointer (some ⟨P, 0, none⟩)), (12, .int .i64 c), (123, .bool hb9)] tab_ok mixed (by kernel_rfl) hS ?_ (fun a w13 hS hw => ?_))
    · repeat (first | refine q_pure rfl rfl rfl (fun _ => rfl) ?_ | refine q_skip rfl rfl rfl ?_)
      refine q_loads (vs := [.int .i64 L1, .int .i64 s1, vn1, ve1]) rfl rfl rfl (fun _ => rfl) rfl (hx.cells) ?_
      repeat (first | refine q_pure rfl rfl rfl (fun _ => rfl) ?_ | refine q_skip rfl rfl rfl ?_)
      refine q_load rfl rfl rfl (fun _ => rfl) (hp.c0) ?_
      repeat (first | refine q_pure rfl rfl rfl (fun _ => rfl) ?_ | refine q_skip rfl rfl rfl ?_)
      refine q_call (v := .int .i64 (stepM n1 a1 c)) rfl rfl rfl (fun _ => rfl) (en_step) (fun w1 h1 => step_any L1 s1 vn1 ve1 n1 a1 c w1 (hm.keep h1).n hr2 (fun h0 => ⟨by omega, by rw [row_len hs1 h0 hr2]; exact hcL1⟩)) ?_
      refine q_loads (vs := [.int .i64 L2, .int .i64 s2, vn2, ve2]) rfl rfl rfl (fun _ => rfl) rfl (hy.cells) ?_
      repeat (first | refine q_pure rfl rfl rfl (fun _ => rfl) ?_ | refine q_skip rfl rfl rfl ?_)
      refine q_load rfl rfl rfl (fun _ => rfl) (hp.c1) ?_
      repeat (first | refine q_pure rfl rfl rfl (fun _ => rfl) ?_ | refine q_skip rfl rfl rfl ?_)
      refine q_call (v := .int .i64 (stepM n2 b1 c)) rfl rfl rfl (fun _ => rfl) (en_step) (fun w1 h1 => step_any L2 s2 vn2 ve2 n2 b1 c w1 (hm2.keep h1).n hr4 (fun h0 => ⟨by omega, by rw [row_len hs2 h0 hr4, ← hLL]; exact hcL1⟩)) ?_
      repeat (first | refine q_pure rfl rfl rfl (fun _ => rfl) ?_ | refine q_skip rfl rfl rfl ?_)
      refine q_call (v := .bool (thereM (stepM n1 a1 c) (stepM n2 b1 c) l)) rfl rfl rfl (fun _ => rfl) (en_there) (fun w1 h1 => there_any _ l _ _ w1 (hl.keep h1)) ?_
      subst hhb9
      repeat (first | refine q_pure rfl rfl rfl (fun _ => rfl) ?_ | refine q_skip rfl rfl rfl ?_)
      exact q_nil ⟨rfl, rfl, rfl, rfl, rfl, rfl, rfl, trivial⟩
    refine cond hS rfl (fun hT => ?_) (fun hF => ?_)
    · refine wp_seq (seq_cut [(6, .int .i64 8)] (· = w13) tab_ok hS ?_ (fun a w14 hS hw14 => ?_))
      · repeat (first | refine o_pure rfl rfl rfl (fun _ => rfl) ?_ | refine o_skip rfl rfl rfl ?_)
        exact o_nil ⟨⟨rfl, trivial⟩, rfl⟩
      subst hw14
      refine wp_ret ?_
      repeat (first | refine then_ret ?_ | refine block_ret ?_)
      refine ret1 hS rfl rfl ⟨?_, below_trans hB hw⟩
      rw [hck3, if_pos (List.any_eq_true.2 ⟨_, List.getElem_mem hlt, ?_⟩)]
      rw [hak]
      exact List.any_eq_true.2 ⟨c, List.mem_range.2 (by omega), hhb9.trans hT⟩
    refine wp_skip ?_
    refine block_normal ?_
    refine then_normal ?_
    refine seq_cut [(2, .slice (some ⟨bl, ol, none⟩) l.length cl), (3, .pointer (some ⟨M, 0, none⟩)), (4, .pointer (some ⟨N, 0, none⟩)), (10, .int .i64 k), (11, .pointer (some ⟨P, 0, none⟩)), (12, .int .i64 ((c + 1 : Nat) : Int))] (· = w13) tab_ok hS ?_ (fun a w14 hS hw14 => ?_)
    · have hL := hm.L.2
      repeat (first | refine o_pure rfl rfl rfl (fun _ => rfl) ?_ | refine o_skip rfl rfl rfl ?_)
      refine o_num rfl rfl rfl (fun _ => rfl) (wrap_succ (by omega)) ?_
      repeat (first | refine o_pure rfl rfl rfl (fun _ => rfl) ?_ | refine o_skip rfl rfl rfl ?_)
      exact o_nil ⟨⟨rfl, rfl, rfl, rfl, rfl, rfl, trivial⟩, rfl⟩
    subst hw14
    refine ⟨L1.toNat - (c + 1), _, by omega, ⟨c + 1, by omega, rfl, rfl, below_trans hK3 hw, fun d hd => ?_⟩, hS⟩
    rcases Nat.lt_or_ge d c with h | h
    · exact hgo3 d h
    · obtain rfl : d = c := by omega
      simpa using hhb9.trans hF
  have hlt : k < l.length := by have := of_decide_eq_true hT; omega
  obtain rfl := h1 (by omega)
  have hcell : cellsAt w5.cell? bl (ol + k * 2) [.int .i64 l[k].1, .int .i64 l[k].2] := by
    obtain ⟨_, _, _, _, hvl, g1, _, _, g4⟩ := id hl
    have := g1 (by omega)
    subst this
    simp only [Value.slice.injEq, Option.some.injEq, Addr.mk.injEq] at hvl
    obtain ⟨⟨rfl, rfl, _⟩, _, rfl⟩ := hvl
    exact (g4 k hlt).1
  refine wp_skip ?_
  refine wp_seq (wp_block ?_)
  refine wp_seq (seq_cut [(2, .slice (some ⟨bl, ol, none⟩) l.length cl), (3, .pointer (some ⟨M, 0, none⟩)), (4, .pointer (some ⟨N, 0, none⟩)), (8, .int .i64 k), (9, .pointer (some ⟨w5.heap.size, 0, none⟩))] (· = newP w5 l[k].1 l[k].2) tab_ok hS ?_ (fun a w6 hS hw => ?_))
  · repeat (first | refine o_pure rfl rfl rfl (fun _ => rfl) ?_ | refine o_skip rfl rfl rfl ?_)
    refine o_ix rfl rfl rfl (fun _ => rfl) (rfl) (hlt) ?_
    refine o_loads (vs := [.int .i64 l[k].1, .int .i64 l[k].2]) rfl rfl rfl (fun _ => rfl) rfl (hcell) ?_
    refine o_new rfl rfl rfl (fun _ => rfl) ?_
    refine o_step0 rfl rfl (And.intro rfl (And.intro rfl (And.intro (own_cells2 (OwnB.new w5 [.int .i64 0, .int .i64 0] 50)) ?_)))
    exact o_nil ⟨⟨rfl, rfl, rfl, rfl, rfl, trivial⟩, rfl⟩
  have hP := newP_below w5 l[k].1 l[k].2
  have hp := newP_box w5 l[k].1 l[k].2
  rw [← hw] at hP hp
  clear hw
  refine wp_seq (check_r8 (hm.keep hP).n (hm2.keep hP).n (hx.keep hP) (hy.keep hP) hp (hl.keep hP) hlt rfl (by rfl) hS (fun a w7 hS hw7 => ?_))
  have hK2 := below_trans hP hw7
  refine cond hS rfl (fun hT => ?_) (fun hF => ?_)
  · refine wp_seq (seq_cut [(6, .int .i64 2)] (· = w7) tab_ok hS ?_ (fun a w8 hS hw => ?_))
    · repeat (first | refine o_pure rfl rfl rfl (fun _ => rfl) ?_ | refine o_skip rfl rfl rfl ?_)
      exact o_nil ⟨⟨rfl, trivial⟩, rfl⟩
    subst hw
    refine wp_ret ?_
    repeat (first | refine then_ret ?_ | refine block_ret ?_)
    exact ret1 hS rfl rfl ⟨by rw [hck, if_pos (List.any_eq_true.2 ⟨k, List.mem_range.2 hlt, hT⟩)], below_trans hB hK2⟩
  refine wp_skip ?_
  refine block_normal ?_
  refine then_normal ?_
  refine seq_cut [(2, .slice (some ⟨bl, ol, none⟩) l.length cl), (3, .pointer (some ⟨M, 0, none⟩)), (4, .pointer (some ⟨N, 0, none⟩)), (8, .int .i64 ((k + 1 : Nat) : Int))] (· = w7) tab_ok hS ?_ (fun a w8 hS hw8 => ?_)
  · repeat (first | refine o_pure rfl rfl rfl (fun _ => rfl) ?_ | refine o_skip rfl rfl rfl ?_)
    refine o_num rfl rfl rfl (fun _ => rfl) (wrap_succ (by omega)) ?_
    repeat (first | refine o_pure rfl rfl rfl (fun _ => rfl) ?_ | refine o_skip rfl rfl rfl ?_)
    exact o_nil ⟨⟨rfl, rfl, rfl, rfl, trivial⟩, rfl⟩
  subst hw8
  refine ⟨l.length - (k + 1), _, by omega, ⟨k + 1, by omega, rfl, rfl, below_trans hK hK2, fun j hj => ?_⟩, hS⟩
  rcases Nat.lt_or_ge j k with hjk | hjk
  · exact hgo j hjk
  · obtain rfl : j = k := by omega
    exact hF
end Go.Proofs.Ythkabbgaikociaa
