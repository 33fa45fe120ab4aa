/- Layer 3: the walks that its statements lean on, part 3. -/
import Derived.ProofKit
import Derived.SizedLaws
import Derived.Deep.Slices
import Derived.Maps.OwnSet
import Derived.Test.YthkabbgaikociaaBa2
namespace Go.Proofs.Ythkabbgaikociaa
open Go Sym
theorem off_below {base : Nat} {wc w w' : World} {Wb : Nat} {vp vl vf vp' vl' vf' : Value} {ps : List (Int × Int)} {ls fs : List Int} (h : RowKit.Below base wc w) (hb : base ≤ w.heap.size) (hW : WalkI base w Wb vp vl vf ps ls fs) (hO : Off w w' Wb vp vl vf vp' vl' vf') : RowKit.Below base wc w' :=
  ⟨hO.os.trans h.os, hO.tape.trans h.tape, hO.output.trans h.output, Nat.le_trans h.size hO.size, fun k hk => by
    have hnf : ¬ foot Wb vp vl vf k := by
      rintro (e | e | e | e)
      · have := hW.b; omega
      · have := (hW.p.lt _ e).1; omega
      · have := (hW.l.lt _ e).1; omega
      · have := (hW.f.lt _ e).1; omega
    exact (hO.off k (Nat.lt_of_lt_of_le hk hb) hnf).1.trans (h.block k hk)⟩
structure WOk (n1 n2 : List (List Int)) (s : WS) (m : Nat) : Prop where
  r : ∀ x ∈ s.ps, -1 ≤ x.1 ∧ x.1 < n1.length ∧ -1 ≤ x.2 ∧ x.2 < n2.length
  l : s.ls.length = s.ps.length
  f : s.fs.length = s.ps.length
  m : s.ps.length ≤ m
  d : s.ps.Nodup
theorem WOk.cap {n1 n2 : List (List Int)} {s : WS} {m : Nat} (h : WOk n1 n2 s m) : s.ps.length ≤ (n1.length + 1) * (n2.length + 1) := by
  rw [← allPairs_len]
  refine h.d.length_le_of_subset (fun x hx => ?_)
  obtain ⟨a, b, c, d⟩ := h.r x hx
  refine List.mem_flatMap.2 ⟨(x.1 + 1).toNat, List.mem_range.2 (by omega), List.mem_map.2 ⟨(x.2 + 1).toNat, List.mem_range.2 (by omega), ?_⟩⟩
  exact Prod.ext (by simp only; omega) (by simp only; omega)
theorem WOk.put {n1 n2 : List (List Int)} {s : WS} {m : Nat} (h : WOk n1 n2 s m) {p q l fr : Int} (h1 : -1 ≤ p) (h2 : p < n1.length) (h3 : -1 ≤ q) (h4 : q < n2.length) : WOk n1 n2 (s.put p q l fr) (m + 1) := by
  unfold WS.put
  split
  · rename_i hput
    have hnot : (p, q) ∉ s.ps := by
      rw [putIf, Bool.and_eq_true, decide_eq_true_eq] at hput
      exact atGo_neg _ _ hput.2
    refine ⟨fun x hx => ?_, ?_, ?_, ?_, List.nodup_append.2 ⟨h.d, by simp, fun x hx y hy => by rw [List.mem_singleton.1 hy]; exact fun e => hnot (e ▸ hx)⟩⟩
    · rcases List.mem_append.1 hx with hx | hx
      · exact h.r x hx
      · rw [List.mem_singleton.1 hx]; exact ⟨h1, h2, h3, h4⟩
    · simp [h.l]
    · simp [h.f]
    · have := h.m; simp; omega
  · exact ⟨h.r, h.l, h.f, Nat.le_trans h.m (Nat.le_succ _), h.d⟩
theorem WOk.up {n1 n2 : List (List Int)} {s : WS} {m m' : Nat} (h : WOk n1 n2 s m) (hm : m ≤ m') : WOk n1 n2 s m' := ⟨h.r, h.l, h.f, Nat.le_trans h.m hm, h.d⟩
theorem put_ws (base : Nat) (Wb : Nat) (vp vl vf : Value) (s : WS) (p q l fr : Int) (w : World) {n1 n2 : List (List Int)} {m : Nat} (hW : WalkI base w Wb vp vl vf s.ps s.ls s.fs) (hk : WOk n1 n2 s m) (hm : s.ps.length < 100000000) (hl1 : n1.length ≤ 9223372036854775807) (hl2 : n2.length ≤ 9223372036854775807) (hb : base ≤ w.heap.size) :
    Calls Try.prog 91 #[.pointer (some ⟨Wb, 0, none⟩), .agg #[.int .i64 p, .int .i64 q], .int .i64 l, .int .i64 fr] w fun e w' => e = .returned (.tuple #[]) ∧ ∃ vp' vl' vf',
      WalkI base w' Wb vp' vl' vf' (s.put p q l fr).ps (s.put p q l fr).ls (s.put p q l fr).fs ∧ Off w w' Wb vp vl vf vp' vl' vf' := by
  have h1 := hk.m
  have h2 := hk.l
  have h3 := hk.f
  refine (put_any base Wb vp vl vf s.ps s.ls s.fs p q l fr w hW (fun x hx => ?_) hb (by omega) (by omega) (by omega)).mono ?_
  · obtain ⟨a, b, c, d⟩ := hk.r x hx
    exact ⟨⟨by omega, by omega⟩, ⟨by omega, by omega⟩⟩
  · rintro e w' ⟨he, vp', vl', vf', h, hO⟩
    refine ⟨he, vp', vl', vf', ?_, hO⟩
    unfold WS.put
    split
    · rename_i hp; rw [if_pos hp] at h; exact h
    · rename_i hp; rw [if_neg hp] at h; exact h
theorem en_put : enters Try.prog 91 = true := by kernel_rfl
theorem boxP_sets {w : World} {b : Nat} {T : TypeId} {x y p q : Int} (h : OwnB w b T [.int .i64 x, .int .i64 y]) : BoxP (w.setCells b 0 [.int .i64 p, .int .i64 q]) b p q := by
  have h := h.sets (us := [.int .i64 p, .int .i64 q]) rfl
  exact ⟨h.cell (i := 0) rfl, h.cell (i := 1) rfl⟩
set_option maxRecDepth 100000 in
set_option maxHeartbeats 1000000 in
theorem walked_r11 {w : World} {M N1 N2 Wb B : Nat} {both : Bool} {max i : Int} {c : Nat} {L1 s1 L2 s2 p q : Int} {vn1 ve1 vn2 ve2 : Value} {n1 n2 : List (List Int)}
    (hn1 : Sl w vn1 n1 PRow) (hn2 : Sl w vn2 n2 PRow) (hx : Box w M L1 s1 vn1 ve1) (hy0 : Box w N1 L2 s2 vn2 ve2) (hp : BoxP w B p q)
    (hp1 : p < n1.length) (hq1 : q < n2.length) (hr1 : 0 ≤ p → (c : Int) < (n1.getD p.toNat []).length) (hr2 : 0 ≤ q → (c : Int) < (n2.getD q.toNat []).length)
    {Q : Exit → Act → World → Prop} {a : Act} {ops : Array Oper} {id : Nat} (hops : Sym.regionOf Try.f61.body 11 = some (id, ops))
    (hS : St Try.f61.ntmps a [(2, .bool both), (3, .int .i64 max), (4, .pointer (some ⟨M, 0, none⟩)), (5, .pointer (some ⟨N1, 0, none⟩)), (8, .pointer (some ⟨N2, 0, none⟩)), (9, .pointer (some ⟨Wb, 0, none⟩)), (10, .int .i64 i), (11, .pointer (some ⟨B, 0, none⟩)), (12, .int .i64 c)])
    (hq : ∀ B2 a' w', St Try.f61.ntmps a' [(2, .bool both), (3, .int .i64 max), (4, .pointer (some ⟨M, 0, none⟩)), (5, .pointer (some ⟨N1, 0, none⟩)), (8, .pointer (some ⟨N2, 0, none⟩)), (9, .pointer (some ⟨Wb, 0, none⟩)), (10, .int .i64 i), (11, .pointer (some ⟨B, 0, none⟩)), (12, .int .i64 c), (13, .pointer (some ⟨B2, 0, none⟩))] → RowKit.Below w.heap.size w w' ∧ BoxP w' B2 (stepM n1 p c) (stepM n2 q c) → Q .normal a' w') : (Code.region id ops true).wp Try.prog Q a w := by
  cases hops
  refine any_cutx (α := Nat) 13 (fun B2 => [(2, .bool both), (3, .int .i64 max), (4, .pointer (some ⟨M, 0, none⟩)), (5, .pointer (some ⟨N1, 0, none⟩)), (8, .pointer (some ⟨N2, 0, none⟩)), (9, .pointer (some ⟨Wb, 0, none⟩)), (10, .int .i64 i), (11, .pointer (some ⟨B, 0, none⟩)), (12, .int .i64 c), (13, .pointer (some ⟨B2, 0, none⟩))]) (fun B2 w' => RowKit.Below w.heap.size w w' ∧ BoxP w' B2 (stepM n1 p c) (stepM n2 q c)) mixed hS ?_ hq
  have hy : RowKit.Below w.drew.heap.size w.drew w.drew := RowKit.Below.refl _ _
  have S1 := fun w1 (h : RowKit.Below w.drew.heap.size w.drew w1) => step_any L1 s1 vn1 ve1 n1 p c w1 (hn1.keep (w := w) (undrew h) (fun _ _ h' => PRow.keep (w := w) (undrew h) h')) hp1 (fun h0 => ⟨by omega, hr1 h0⟩)
  have S2 := fun w1 (h : RowKit.Below w.drew.heap.size w.drew w1) => step_any L2 s2 vn2 ve2 n2 q c w1 (hn2.keep (w := w) (undrew h) (fun _ _ h' => PRow.keep (w := w) (undrew h) h')) hq1 (fun h0 => ⟨by omega, hr2 h0⟩)
  refine y_take 0 tab_ok rfl (by kernel_rfl) (by kernel_rfl) (by kernel_rfl) rfl (by kernel_rfl) rfl hy rfl rfl rfl (Exists.intro ([.int .i64 L1, .int .i64 s1, vn1, ve1]) (And.intro rfl (And.intro (hx.cells) rfl))) ?_
  refine y_take 1 tab_ok rfl (by kernel_rfl) (by kernel_rfl) (by kernel_rfl) rfl (by kernel_rfl) rfl hy rfl rfl rfl (rfl) ?_
  refine y_take 2 tab_ok rfl (by kernel_rfl) (by kernel_rfl) (by kernel_rfl) rfl (by kernel_rfl) rfl hy rfl rfl rfl (Exists.intro _ (And.intro (hp.c0) rfl)) ?_
  refine y_take 3 tab_ok rfl (by kernel_rfl) (by kernel_rfl) (by kernel_rfl) rfl (by kernel_rfl) rfl hy rfl rfl rfl (rfl) ?_
  refine y_take 5 tab_ok rfl (by kernel_rfl) (by kernel_rfl) (by kernel_rfl) rfl (by kernel_rfl) rfl hy rfl rfl rfl (Exists.intro ([.int .i64 L2, .int .i64 s2, vn2, ve2]) (And.intro rfl (And.intro (hy0.cells) rfl))) ?_
  refine y_take 6 tab_ok rfl (by kernel_rfl) (by kernel_rfl) (by kernel_rfl) rfl (by kernel_rfl) rfl hy rfl rfl rfl (rfl) ?_
  refine y_take 7 tab_ok rfl (by kernel_rfl) (by kernel_rfl) (by kernel_rfl) rfl (by kernel_rfl) rfl hy rfl rfl rfl (Exists.intro _ (And.intro (hp.c1) rfl)) ?_
  refine y_take 8 tab_ok rfl (by kernel_rfl) (by kernel_rfl) (by kernel_rfl) rfl (by kernel_rfl) rfl hy rfl rfl rfl (rfl) ?_
  refine y_two 4 11 (by kernel_rfl) (y_op 4 tab_ok rfl rfl rfl rfl ?_) (y_op 11 tab_ok rfl rfl rfl rfl ?_)
  ·
    refine And.intro en_step ((S1 _ (hy)).mono ?_)
    rintro e w1 ⟨rfl, h1⟩
    refine ⟨_, rfl, ?_⟩
    have hy1 := below_trans hy h1
    refine And.intro (.inr hy1) ?_
    refine y_two 9 11 (by kernel_rfl) (y_op 9 tab_ok rfl rfl rfl rfl ?_) (y_op 11 tab_ok rfl rfl rfl rfl ?_)
    ·
      refine And.intro en_step ((S2 _ (hy1)).mono ?_)
      rintro e w2 ⟨rfl, h2⟩
      refine ⟨_, rfl, ?_⟩
      have hy2 := below_trans hy1 h2
      refine And.intro (.inr hy2) ?_
      refine y_take 10 tab_ok rfl (by kernel_rfl) (by kernel_rfl) (by kernel_rfl) rfl (by kernel_rfl) rfl hy2 rfl rfl rfl (rfl) ?_
      refine y_one 11 (by kernel_rfl) (y_op 11 tab_ok rfl rfl rfl rfl ?_)
      have hy3 := hy2.alloc hy2.size (.cells #[.int .i64 0, .int .i64 0] 50)
      refine And.intro (.inr hy3) ?_
      refine y_one 12 (by kernel_rfl) (y_op0 12 tab_ok rfl rfl rfl ?_)
      have ho := OwnB.new w2 [.int .i64 0, .int .i64 0] 50
      refine And.intro rfl (And.intro rfl (And.intro (own_cells2 ho) (And.intro (.inr (below_of_grown hy3 (grown_sets _ _ 0 _) (fun k hk => by cases hk; exact hy2.size))) ?_)))
      exact y_endx _ (by kernel_rfl) ⟨rfl, rfl, rfl, rfl, rfl, rfl, rfl, rfl, rfl, rfl, trivial⟩ ⟨undrew (below_of_grown hy3 (grown_sets _ _ 0 _) (fun k hk => by cases hk; exact hy2.size)), boxP_sets ho⟩
    ·
      have hy2 := hy1.alloc hy1.size (.cells #[.int .i64 0, .int .i64 0] 50)
      refine And.intro (.inr hy2) ?_
      have ho := OwnB.new w1 [.int .i64 0, .int .i64 0] 50
      refine y_one 9 (by kernel_rfl) (y_op 9 tab_ok rfl rfl rfl rfl ?_)
      refine And.intro en_step ((S2 _ (hy2)).mono ?_)
      rintro e w2 ⟨rfl, h2⟩
      refine ⟨_, rfl, ?_⟩
      have hy3 := below_trans hy2 h2
      refine And.intro (.inr hy3) ?_
      have ho2 := ho.keep h2 ho.lt
      refine y_take 10 tab_ok rfl (by kernel_rfl) (by kernel_rfl) (by kernel_rfl) rfl (by kernel_rfl) rfl hy3 rfl rfl rfl (rfl) ?_
      refine y_one 12 (by kernel_rfl) (y_op0 12 tab_ok rfl rfl rfl ?_)
      refine And.intro rfl (And.intro rfl (And.intro (own_cells2 ho2) (And.intro (.inr (below_of_grown hy3 (grown_sets _ _ 0 _) (fun k hk => by cases hk; exact hy1.size))) ?_)))
      exact y_endx _ (by kernel_rfl) ⟨rfl, rfl, rfl, rfl, rfl, rfl, rfl, rfl, rfl, rfl, trivial⟩ ⟨undrew (below_of_grown hy3 (grown_sets _ _ 0 _) (fun k hk => by cases hk; exact hy1.size)), boxP_sets ho2⟩
  ·
    have hy1 := hy.alloc (Nat.le_refl _) (.cells #[.int .i64 0, .int .i64 0] 50)
    refine And.intro (.inr hy1) ?_
    have ho := OwnB.new w.drew [.int .i64 0, .int .i64 0] 50
    refine y_one 4 (by kernel_rfl) (y_op 4 tab_ok rfl rfl rfl rfl ?_)
    refine And.intro en_step ((S1 _ (hy1)).mono ?_)
    rintro e w1 ⟨rfl, h1⟩
    refine ⟨_, rfl, ?_⟩
    have hy2 := below_trans hy1 h1
    refine And.intro (.inr hy2) ?_
    have ho1 := ho.keep h1 ho.lt
    refine y_one 9 (by kernel_rfl) (y_op 9 tab_ok rfl rfl rfl rfl ?_)
    refine And.intro en_step ((S2 _ (hy2)).mono ?_)
    rintro e w2 ⟨rfl, h2⟩
    refine ⟨_, rfl, ?_⟩
    have hy3 := below_trans hy2 h2
    refine And.intro (.inr hy3) ?_
    have ho2 := ho1.keep h2 ho1.lt
    refine y_take 10 tab_ok rfl (by kernel_rfl) (by kernel_rfl) (by kernel_rfl) rfl (by kernel_rfl) rfl hy3 rfl rfl rfl (rfl) ?_
    refine y_one 12 (by kernel_rfl) (y_op0 12 tab_ok rfl rfl rfl ?_)
    refine And.intro rfl (And.intro rfl (And.intro (own_cells2 ho2) (And.intro (.inr (below_of_grown hy3 (grown_sets _ _ 0 _) (fun k hk => by cases hk; exact Nat.le_refl _))) ?_)))
    exact y_endx _ (by kernel_rfl) ⟨rfl, rfl, rfl, rfl, rfl, rfl, rfl, rfl, rfl, rfl, trivial⟩ ⟨undrew (below_of_grown hy3 (grown_sets _ _ 0 _) (fun k hk => by cases hk; exact Nat.le_refl _)), boxP_sets ho2⟩
theorem boxP_lt {w : World} {B : Nat} {a b : Int} (hB : BoxP w B a b) : B < w.heap.size := by
  rcases Nat.lt_or_ge B w.heap.size with hl | hl
  · exact hl
  · have := hB.c0
    unfold World.cell? at this
    rw [show w.heap[(⟨B, 0, none⟩ : Addr).block]? = none from Array.getElem?_eq_none hl] at this
    simp at this
theorem own_cells3 {w : World} {b : Nat} {T : TypeId} {v0 v1 v2 : Value} (h : OwnB w b T [v0, v1, v2]) : ∀ j, j < 3 → (w.cell? ⟨b, 0 + j, none⟩).isSome = true ∧ w.frozen? ⟨b, 0 + j, none⟩ = false := fun j hj => by
  rw [Nat.zero_add]
  refine ⟨?_, h.free j⟩
  have : [v0, v1, v2][j]? = some ([v0, v1, v2][j]) := List.getElem?_eq_getElem (by simpa using hj)
  rw [h.cell this]; rfl
theorem cut {P : Program} {F : Act → World → Prop} {Q : Exit → Act → World → Prop} {c : Code} {a : Act} {w : World} (h : c.wp P (Only F) a w) (hq : ∀ a' w', F a' w' → Q .normal a' w') : c.wp P Q a w :=
  wp_mono h (fun e a' w' h => by
    cases e with
    | normal => exact hq a' w' h
    | _ => exact h.elim)
theorem walkStart_ok {L s1 : Int} {n1 : List (List Int)} {f1 : List Bool} {L2 s2 : Int} {n2 : List (List Int)} {f2 : List Bool} (h1 : Shape L s1 n1 f1) (h2 : Shape L2 s2 n2 f2) (both : Bool) : WOk n1 n2 (walkStart both s1 s2) 1 := by
  have h0 : WOk n1 n2 ⟨[], [], []⟩ 0 := ⟨fun x hx => (by cases hx), rfl, rfl, Nat.le_refl _, List.nodup_nil⟩
  unfold walkStart
  split
  · exact h0.put h1.s1 h1.s2 h2.s1 h2.s2
  · exact h0.up (Nat.zero_le _)
set_option maxRecDepth 100000 in
theorem walked_any (L1 s1 L2 s2 : Int) (vn1 ve1 vn2 ve2 : Value) (n1 n2 : List (List Int)) (f1 f2 : List Bool) (both : Bool) (max : Int) (w : World) (hm : Ma w L1 s1 n1 f1 vn1 ve1) (hm2 : Ma w L2 s2 n2 f2 vn2 ve2)
    (hs1 : Shape L1 s1 n1 f1) (hs2 : Shape L2 s2 n2 f2) (hLL : L1 = L2) (hL : L1 ≤ 300) (hmax : 0 ≤ max) (hcap : (n1.length + 1) * (n2.length + 1) < 100000000) :
    Calls Try.prog 61 #[.agg #[.int .i64 L1, .int .i64 s1, vn1, ve1], .agg #[.int .i64 L2, .int .i64 s2, vn2, ve2], .bool both, .int .i64 max] w fun e w' => ∃ Wb vp vl vf, e = .returned (.agg #[vp, vl, vf]) ∧
      WalkI w.heap.size w' Wb vp vl vf (walkM L1 s1 n1 s2 n2 both max).ps (walkM L1 s1 n1 s2 n2 both max).ls (walkM L1 s1 n1 s2 n2 both max).fs ∧ RowKit.Below w.heap.size w w' := by
  refine Sym.enter (args := [.agg #[.int .i64 L1, .int .i64 s1, vn1, ve1], .agg #[.int .i64 L2, .int .i64 s2, vn2, ve2], .bool both, .int .i64 max]) Try.func61 rfl rfl rfl (fun a0 hS0 => ?_)
  obtain ⟨M, hM⟩ : ∃ M, M = w.heap.size := ⟨_, rfl⟩
  obtain ⟨N, hN⟩ : ∃ N, N = (w.alloc (.cells #[.int .i64 L1, .int .i64 s1, vn1, ve1] 25)).heap.size := ⟨_, rfl⟩
  obtain ⟨wb, hwb⟩ : ∃ wb, wb = (w.alloc (.cells #[.int .i64 L1, .int .i64 s1, vn1, ve1] 25)).alloc (.cells #[.int .i64 L2, .int .i64 s2, vn2, ve2] 25) := ⟨_, rfl⟩
  obtain ⟨K, hK⟩ : ∃ K, K = wb.heap.size := ⟨_, rfl⟩
  refine wp_seq (seq_cut [(2, .bool both), (3, .int .i64 max), (4, .pointer (some ⟨M, 0, none⟩)), (5, .pointer (some ⟨N, 0, none⟩)), (8, .pointer (some ⟨K, 0, none⟩))] (· = wb.alloc (.cells #[.slice none 0 0, .slice none 0 0, .slice none 0 0] 86)) tab_ok hS0 ?_ (fun a wc hS hw => ?_))
  · subst hK hwb hN hM
    refine o_new rfl rfl rfl (fun _ => rfl) ?_
    refine o_new rfl rfl rfl (fun _ => rfl) ?_
    refine o_new rfl rfl rfl (fun _ => rfl) ?_
    exact o_nil ⟨⟨rfl, rfl, rfl, rfl, rfl, trivial⟩, rfl⟩
  have hB1 := below_alloc w (.cells #[.int .i64 L1, .int .i64 s1, vn1, ve1] 25)
  have hB2 := below_alloc (w.alloc (.cells #[.int .i64 L1, .int .i64 s1, vn1, ve1] 25)) (.cells #[.int .i64 L2, .int .i64 s2, vn2, ve2] 25)
  rw [← hwb] at hB2
  have hB3 := below_alloc wb (.cells #[.slice none 0 0, .slice none 0 0, .slice none 0 0] 86)
  rw [← hw] at hB3
  have hx : Box wc M L1 s1 vn1 ve1 := by rw [hM]; exact ((Box.new w L1 s1 vn1 ve1 25).keep hB2).keep hB3
  have hy : Box wc N L2 s2 vn2 ve2 := by
    have : Box wb N L2 s2 vn2 ve2 := by rw [hwb, hN]; exact Box.new _ _ _ _ _ _
    exact this.keep hB3
  have hoK : OwnB wc K 86 [.slice none 0 0, .slice none 0 0, .slice none 0 0] := by rw [hw, hK]; exact OwnB.new _ _ _
  have hB := below_trans (below_trans hB1 hB2) hB3
  have hKw : w.heap.size ≤ K := by rw [hK]; exact (below_trans hB1 hB2).size
  clear hw hwb hB1 hB2 hB3 hN hM hK
  replace hm := hm.keep hB
  replace hm2 := hm2.keep hB
  have hl1 := hm.n.lt
  have hl2 := hm2.n.lt
  obtain ⟨Wb, hWb⟩ : ∃ Wb, Wb = wc.heap.size := ⟨_, rfl⟩
  refine wp_seq (seq_cut [(2, .bool both), (3, .int .i64 max), (4, .pointer (some ⟨M, 0, none⟩)), (5, .pointer (some ⟨N, 0, none⟩)), (8, .pointer (some ⟨K, 0, none⟩)), (9, .pointer (some ⟨Wb, 0, none⟩))] (· = wc.alloc (.cells #[.slice none 0 0, .slice none 0 0, .slice none 0 0] 86)) tab_ok hS ?_ (fun a w1 hS hw => ?_))
  · subst hWb
    repeat (first | refine o_pure rfl rfl rfl (fun _ => rfl) ?_ | refine o_skip rfl rfl rfl ?_)
    refine o_new rfl rfl rfl (fun _ => rfl) ?_
    repeat (first | refine o_pure rfl rfl rfl (fun _ => rfl) ?_ | refine o_skip rfl rfl rfl ?_)
    exact o_nil ⟨⟨rfl, rfl, rfl, rfl, rfl, rfl, trivial⟩, rfl⟩
  have hK1 : RowKit.Below wc.heap.size wc w1 := by rw [hw]; exact below_alloc _ _
  have hW1 : WalkI wc.heap.size w1 Wb (.slice none 0 0) (.slice none 0 0) (.slice none 0 0) [] [] [] := by
    refine ⟨by omega, ?_, World.ownsRow_nil _ _ _ _, World.ownsRow_nil _ _ _ _, World.ownsRow_nil _ _ _ _, .inl rfl⟩
    rw [hw, hWb]; exact OwnB.new _ _ _
  clear hw hWb
  refine wp_seq (cut (F := fun a' w' => St Try.f61.ntmps a' [(2, .bool both), (3, .int .i64 max), (4, .pointer (some ⟨M, 0, none⟩)), (5, .pointer (some ⟨N, 0, none⟩)), (8, .pointer (some ⟨K, 0, none⟩)), (9, .pointer (some ⟨Wb, 0, none⟩))] ∧ RowKit.Below wc.heap.size wc w' ∧ ∃ vp vl vf, WalkI wc.heap.size w' Wb vp vl vf (walkStart both s1 s2).ps (walkStart both s1 s2).ls (walkStart both s1 s2).fs) ?_ ?_)
  · have hx1 := hx.keep hK1
    have hy1 := hy.keep hK1
    refine wp_seq (seq_cut [(2, .bool both), (3, .int .i64 max), (4, .pointer (some ⟨M, 0, none⟩)), (5, .pointer (some ⟨N, 0, none⟩)), (8, .pointer (some ⟨K, 0, none⟩)), (9, .pointer (some ⟨Wb, 0, none⟩)), (27, .bool (okPut both s1 s2))] (· = w1) tab_ok hS ?_ (fun a w2 hS hw => ?_))
    · cases both
      case false =>
        repeat (first | refine o_pure rfl rfl rfl (fun _ => rfl) ?_ | refine o_skip rfl rfl rfl ?_)
        exact o_nil ⟨⟨rfl, rfl, rfl, rfl, rfl, rfl, rfl, trivial⟩, rfl⟩
      case true =>
        repeat (first | refine o_pure rfl rfl rfl (fun _ => rfl) ?_ | refine o_skip rfl rfl rfl ?_)
        refine o_load rfl rfl rfl (fun _ => rfl) (hx1.c1) ?_
        repeat (first | refine o_pure rfl rfl rfl (fun _ => rfl) ?_ | refine o_skip rfl rfl rfl ?_)
        cases e1 : decide (0 ≤ s1)
        case false =>
          refine o_cmp rfl rfl rfl (fun _ => rfl) (e1) ?_
          repeat (first | refine o_pure rfl rfl rfl (fun _ => rfl) ?_ | refine o_skip rfl rfl rfl ?_)
          exact o_nil ⟨⟨rfl, rfl, rfl, rfl, rfl, rfl, by rw [okPut, e1]; rfl, trivial⟩, rfl⟩
        case true =>
          refine o_cmp rfl rfl rfl (fun _ => rfl) (e1) ?_
          repeat (first | refine o_pure rfl rfl rfl (fun _ => rfl) ?_ | refine o_skip rfl rfl rfl ?_)
          refine o_load rfl rfl rfl (fun _ => rfl) (hy1.c1) ?_
          refine o_cmp rfl rfl rfl (fun _ => rfl) (rfl) ?_
          repeat (first | refine o_pure rfl rfl rfl (fun _ => rfl) ?_ | refine o_skip rfl rfl rfl ?_)
          exact o_nil ⟨⟨rfl, rfl, rfl, rfl, rfl, rfl, by rw [okPut, e1]; rfl, trivial⟩, rfl⟩
    subst hw
    refine cond hS rfl (fun hT => ?_) (fun hF => ?_)
    · refine seq_cut [(2, .bool both), (3, .int .i64 max), (4, .pointer (some ⟨M, 0, none⟩)), (5, .pointer (some ⟨N, 0, none⟩)), (8, .pointer (some ⟨K, 0, none⟩)), (9, .pointer (some ⟨Wb, 0, none⟩))] (fun w' => RowKit.Below wc.heap.size wc w' ∧ ∃ vp vl vf, WalkI wc.heap.size w' Wb vp vl vf (walkStart both s1 s2).ps (walkStart both s1 s2).ls (walkStart both s1 s2).fs) tab_ok hS ?_ (fun a w3 hS hw => ⟨hS, hw⟩)
      repeat (first | refine o_pure rfl rfl rfl (fun _ => rfl) ?_ | refine o_skip rfl rfl rfl ?_)
      refine o_load rfl rfl rfl (fun _ => rfl) (hx1.c1) ?_
      repeat (first | refine o_pure rfl rfl rfl (fun _ => rfl) ?_ | refine o_skip rfl rfl rfl ?_)
      refine o_load rfl rfl rfl (fun _ => rfl) (hy1.c1) ?_
      repeat (first | refine o_pure rfl rfl rfl (fun _ => rfl) ?_ | refine o_skip rfl rfl rfl ?_)
      refine o_call rfl rfl rfl (fun _ => rfl) (en_put) (put_ws wc.heap.size Wb _ _ _ ⟨[], [], []⟩ s1 s2 (-1) (-1) w2 (n1 := n1) (n2 := n2) (m := 0) hW1 ⟨fun x hx => (by cases hx), rfl, rfl, Nat.le_refl _, List.nodup_nil⟩ (by simp) hl1 hl2 hK1.size) ?_
      rintro e w3 ⟨rfl, vp, vl, vf, h1, h2⟩
      refine ⟨_, rfl, ?_⟩
      repeat (first | refine o_pure rfl rfl rfl (fun _ => rfl) ?_ | refine o_skip rfl rfl rfl ?_)
      exact o_nil ⟨⟨rfl, rfl, rfl, rfl, rfl, rfl, trivial⟩, off_below hK1 hK1.size hW1 h2, vp, vl, vf, (by rw [walkStart, if_pos hT]; exact h1)⟩
    · exact wp_skip ⟨hS.sub ⟨rfl, rfl, rfl, rfl, rfl, rfl, trivial⟩, hK1, _, _, _, by rw [walkStart, if_neg (by rw [hF]; decide)]; exact hW1⟩
  rintro a w2 ⟨hS, hK2, vp0, vl0, vf0, hW2⟩
  have hst := walkStart_ok hs1 hs2 both
  clear hW1 hK1
  refine wp_seq (wp_seq (seq_cut [(2, .bool both), (3, .int .i64 max), (4, .pointer (some ⟨M, 0, none⟩)), (5, .pointer (some ⟨N, 0, none⟩)), (8, .pointer (some ⟨K, 0, none⟩)), (9, .pointer (some ⟨Wb, 0, none⟩)), (10, .int .i64 0)] (· = w2) tab_ok hS ?_ (fun a w3 hS hw => ?_)))
  · repeat (first | refine o_pure rfl rfl rfl (fun _ => rfl) ?_ | refine o_skip rfl rfl rfl ?_)
    exact o_nil ⟨⟨rfl, rfl, rfl, rfl, rfl, rfl, rfl, trivial⟩, rfl⟩
  subst hw
  have hL0 := hs1.L0
  refine wp_block (loop0 hS (fun g E wr => ∃ (k : Nat) (vp vl vf : Value) (s : WS), k ≤ max.toNat + 1 ∧ g = max.toNat + 1 - k ∧ E = [(2, .bool both), (3, .int .i64 max), (4, .pointer (some ⟨M, 0, none⟩)), (5, .pointer (some ⟨N, 0, none⟩)), (8, .pointer (some ⟨K, 0, none⟩)), (9, .pointer (some ⟨Wb, 0, none⟩)), (10, .int .i64 k)] ∧ RowKit.Below wc.heap.size wc wr ∧ WalkI wc.heap.size wr Wb vp vl vf s.ps s.ls s.fs ∧ WOk n1 n2 s (max.toNat + 301) ∧
      walkM L1 s1 n1 s2 n2 both max = walkGo n1 n2 both max L1.toNat (max.toNat + 1 - k) k s)
    (max.toNat + 1) ⟨0, vp0, vl0, vf0, _, by omega, rfl, rfl, hK2, hW2, hst.up (by omega), rfl⟩ ?_)
  clear hW2 hK2 hst hS
  rintro g E wr a1 ⟨k, vp, vl, vf, s, hk, rfl, rfl, hK, hW, hok, hgo⟩ hS
  have hI : ∀ x ∈ s.ps, I64 x.1 ∧ I64 x.2 := fun x hx => by
    obtain ⟨a, b, c, d⟩ := hok.r x hx
    exact ⟨⟨by omega, by omega⟩, ⟨by omega, by omega⟩⟩
  obtain ⟨al, bl, ol, cl, hvp, h1, h2, h3, h4⟩ := hW.slp hI
  subst hvp
  obtain ⟨hb, hhb⟩ : ∃ b, (decide ((k : Int) < s.ps.length) && decide ((s.ps.length : Int) ≤ max)) = b := ⟨_, rfl⟩
  refine wp_seq (wp_seq (seq_cut [(2, .bool both), (3, .int .i64 max), (4, .pointer (some ⟨M, 0, none⟩)), (5, .pointer (some ⟨N, 0, none⟩)), (8, .pointer (some ⟨K, 0, none⟩)), (9, .pointer (some ⟨Wb, 0, none⟩)), (10, .int .i64 k), (50, .bool hb)] (· = wr) tab_ok hS ?_ (fun a w4 hS hw => ?_)))
  · repeat (first | refine o_pure rfl rfl rfl (fun _ => rfl) ?_ | refine o_skip rfl rfl rfl ?_)
    refine o_load rfl rfl rfl (fun _ => rfl) (hW.o.cell (i := 0) rfl) ?_
    repeat (first | refine o_pure rfl rfl rfl (fun _ => rfl) ?_ | refine o_skip rfl rfl rfl ?_)
    cases e1 : decide ((k : Int) < s.ps.length)
    case false =>
      rw [e1, Bool.false_and] at hhb; subst hhb
      refine o_cmp rfl rfl rfl (fun _ => rfl) (e1) ?_
      repeat (first | refine o_pure rfl rfl rfl (fun _ => rfl) ?_ | refine o_skip rfl rfl rfl ?_)
      exact o_nil ⟨⟨rfl, rfl, rfl, rfl, rfl, rfl, rfl, rfl, trivial⟩, rfl⟩
    case true =>
      rw [e1, Bool.true_and] at hhb
      refine o_cmp rfl rfl rfl (fun _ => rfl) (e1) ?_
      repeat (first | refine o_pure rfl rfl rfl (fun _ => rfl) ?_ | refine o_skip rfl rfl rfl ?_)
      refine o_load rfl rfl rfl (fun _ => rfl) (hW.o.cell (i := 0) rfl) ?_
      repeat (first | refine o_pure rfl rfl rfl (fun _ => rfl) ?_ | refine o_skip rfl rfl rfl ?_)
      refine o_cmp rfl rfl rfl (fun _ => rfl) (hhb) ?_
      repeat (first | refine o_pure rfl rfl rfl (fun _ => rfl) ?_ | refine o_skip rfl rfl rfl ?_)
      exact o_nil ⟨⟨rfl, rfl, rfl, rfl, rfl, rfl, rfl, rfl, trivial⟩, rfl⟩
  subst hw
  refine cond hS rfl (fun hT => ?_) (fun hF => ?_)
  case refine_2 =>
    refine wp_exit ?_
    repeat (first | refine then_exit ?_ | refine block_exit ?_ | refine block_other rfl ?_)
    have hend : walkM L1 s1 n1 s2 n2 both max = s := by
      rw [hgo]
      have hno : ¬ (k < s.ps.length ∧ (s.ps.length : Int) ≤ max) := by
        rintro ⟨ha, hb2⟩
        rw [hF, decide_eq_true (by omega : (k : Int) < s.ps.length), decide_eq_true hb2] at hhb
        cases hhb
      cases max.toNat + 1 - k with
      | zero => rfl
      | succ g => rw [walkGo, if_neg hno]
    have hoK' := hoK.keep hK hoK.lt
    refine wp_seq (seq_cut [(8, .pointer (some ⟨K, 0, none⟩))] (· = w4.setCells K 0 [.slice al s.ps.length cl, vl, vf]) tab_ok hS ?_ (fun a w5 hS hw => ?_))
    · repeat (first | refine o_pure rfl rfl rfl (fun _ => rfl) ?_ | refine o_skip rfl rfl rfl ?_)
      refine o_loads (vs := [.slice al s.ps.length cl, vl, vf]) rfl rfl rfl (fun _ => rfl) rfl (⟨hW.o.cell (i := 0) rfl, hW.o.cell (i := 1) rfl, hW.o.cell (i := 2) rfl, trivial⟩) ?_
      refine o_step0 rfl rfl (And.intro rfl (And.intro ?_ (And.intro (own_cells3 hoK') ?_)))
      · obtain ⟨_, _, _, rfl⟩ := own_form hW.l
        obtain ⟨_, _, _, rfl⟩ := own_form hW.f
        rfl
      exact o_nil ⟨⟨rfl, trivial⟩, rfl⟩
    have hgr := grown_sets K [.slice al s.ps.length cl, vl, vf] 0 w4
    have hoF : OwnB (w4.setCells K 0 [.slice al s.ps.length cl, vl, vf]) K 86 [.slice al s.ps.length cl, vl, vf] := hoK'.sets rfl
    have hne : some Wb ≠ some K := by
      have := hoK.lt
      have := hW.b
      simp only [ne_eq, Option.some.injEq]
      omega
    have hnb : ∀ {e q z : Nat} {v : Value} {xs : List Value}, w4.ownsRow wc.heap.size e z v q xs → v.ownBlock = none ∨ v.ownBlock ≠ some K := fun h => .inr (fun hh => by
      have := (h.lt _ hh).1
      have := hoK.lt
      omega)
    have hWF : WalkI w.heap.size (w4.setCells K 0 [.slice al s.ps.length cl, vl, vf]) Wb (.slice al s.ps.length cl) vl vf s.ps s.ls s.fs :=
      ⟨Nat.le_trans hB.size hW.b, hW.o.kept hgr hne, own_mono (hW.p.kept hgr (hnb hW.p)) hB.size, own_mono (hW.l.kept hgr (hnb hW.l)) hB.size, own_mono (hW.f.kept hgr (hnb hW.f)) hB.size, hW.ne⟩
    subst hw
    refine wp_ret ?_
    repeat (first | refine then_ret ?_ | refine block_ret ?_)
    refine retc1 tab_ok hS rfl rfl rfl rfl (o := 0) (vs := [.slice al s.ps.length cl, vl, vf]) ⟨hoF.cell (i := 0) rfl, hoF.cell (i := 1) rfl, hoF.cell (i := 2) rfl, trivial⟩ rfl ⟨Wb, _, _, _, rfl, by rw [hend]; exact hWF, ?_⟩
    exact below_of_grown (below_trans hB hK) hgr (fun q hq => by cases hq; exact hKw)
  subst hT
  rw [Bool.and_eq_true, decide_eq_true_eq, decide_eq_true_eq] at hhb
  have hlt : k < s.ps.length := by omega
  obtain rfl := h1 (by omega)
  obtain ⟨hr1, hr2, hr3, hr4⟩ := hok.r _ (List.getElem_mem hlt)
  refine wp_skip ?_
  refine wp_seq (wp_block ?_)
  obtain ⟨B, hBq⟩ : ∃ B, B = w4.heap.size := ⟨_, rfl⟩
  refine wp_seq (seq_cut [(2, .bool both), (3, .int .i64 max), (4, .pointer (some ⟨M, 0, none⟩)), (5, .pointer (some ⟨N, 0, none⟩)), (8, .pointer (some ⟨K, 0, none⟩)), (9, .pointer (some ⟨Wb, 0, none⟩)), (10, .int .i64 k), (11, .pointer (some ⟨B, 0, none⟩))] (· = newP w4 s.ps[k].1 s.ps[k].2) tab_ok hS ?_ (fun a w5 hS hw => ?_))
  · subst hBq
    repeat (first | refine o_pure rfl rfl rfl (fun _ => rfl) ?_ | refine o_skip rfl rfl rfl ?_)
    refine o_load rfl rfl rfl (fun _ => rfl) (hW.o.cell (i := 0) rfl) ?_
    repeat (first | refine o_pure rfl rfl rfl (fun _ => rfl) ?_ | refine o_skip rfl rfl rfl ?_)
    refine o_ix rfl rfl rfl (fun _ => rfl) (rfl) (hlt) ?_
    refine o_loads (vs := [.int .i64 s.ps[k].1, .int .i64 s.ps[k].2]) rfl rfl rfl (fun _ => rfl) rfl ((h4 k hlt).1) ?_
    refine o_new rfl rfl rfl (fun _ => rfl) ?_
    refine o_step0 rfl rfl (And.intro rfl (And.intro rfl (And.intro (own_cells2 (OwnB.new w4 [.int .i64 0, .int .i64 0] 50)) ?_)))
    exact o_nil ⟨⟨rfl, rfl, rfl, rfl, rfl, rfl, rfl, rfl, trivial⟩, rfl⟩
  have hP := newP_below w4 s.ps[k].1 s.ps[k].2
  have hp := newP_box w4 s.ps[k].1 s.ps[k].2
  rw [← hw] at hP hp
  rw [← hBq] at hp
  have hnf := foot_boxP hW (k := B) (by omega)
  have hW5 := hW.keep hP
  have hK5 := below_trans hK hP
  clear hw hP hBq h4 h2 h3 hW hK
  obtain ⟨p1, hp1⟩ : ∃ p1, s.ps[k].1 = p1 := ⟨_, rfl⟩
  obtain ⟨q1, hq1⟩ : ∃ q1, s.ps[k].2 = q1 := ⟨_, rfl⟩
  have hget : s.ps.getD k (0, 0) = (p1, q1) := by
    rw [← hp1, ← hq1]
    simp [List.getD_eq_getElem?_getD, hlt]
  rw [hp1, hq1] at hp
  rw [hp1] at hr1 hr2
  rw [hq1] at hr3 hr4
  refine wp_seq (seq_cut [(2, .bool both), (3, .int .i64 max), (4, .pointer (some ⟨M, 0, none⟩)), (5, .pointer (some ⟨N, 0, none⟩)), (8, .pointer (some ⟨K, 0, none⟩)), (9, .pointer (some ⟨Wb, 0, none⟩)), (10, .int .i64 k), (11, .pointer (some ⟨B, 0, none⟩)), (12, .int .i64 0)] (· = w5) tab_ok hS ?_ (fun a w6 hS hw => ?_))
  · repeat (first | refine o_pure rfl rfl rfl (fun _ => rfl) ?_ | refine o_skip rfl rfl rfl ?_)
    exact o_nil ⟨⟨rfl, rfl, rfl, rfl, rfl, rfl, rfl, rfl, rfl, trivial⟩, rfl⟩
  subst hw
  refine wp_block (loop0 hS (fun g E wr => ∃ (c : Nat) (vp vl vf : Value) (s' : WS), (c : Int) ≤ L1 ∧ g = L1.toNat - c ∧ E = [(2, .bool both), (3, .int .i64 max), (4, .pointer (some ⟨M, 0, none⟩)), (5, .pointer (some ⟨N, 0, none⟩)), (8, .pointer (some ⟨K, 0, none⟩)), (9, .pointer (some ⟨Wb, 0, none⟩)), (10, .int .i64 k), (11, .pointer (some ⟨B, 0, none⟩)), (12, .int .i64 c)] ∧ RowKit.Below wc.heap.size wc wr ∧ WalkI wc.heap.size wr Wb vp vl vf s'.ps s'.ls s'.fs ∧ WOk n1 n2 s' (s.ps.length + c) ∧
      s' = rowM n1 n2 both k (p1, q1) c s ∧ BoxP wr B p1 q1 ∧ ¬ foot Wb vp vl vf B)
    L1.toNat ⟨0, _, vl, vf, s, hL0, rfl, rfl, hK5, hW5, ⟨hok.r, hok.l, hok.f, Nat.le_refl _, hok.d⟩, rfl, hp, hnf⟩ ?_)
  clear hW5 hK5 hp hnf hS
  rintro g E wr a1' ⟨c, vp, vl, vf, s', hcL, rfl, rfl, hK, hW, hok', hs', hp, hnf⟩ hS
  refine wp_seq (wp_seq (seq_cut [(2, .bool both), (3, .int .i64 max), (4, .pointer (some ⟨M, 0, none⟩)), (5, .pointer (some ⟨N, 0, none⟩)), (8, .pointer (some ⟨K, 0, none⟩)), (9, .pointer (some ⟨Wb, 0, none⟩)), (10, .int .i64 k), (11, .pointer (some ⟨B, 0, none⟩)), (12, .int .i64 c), (63, .bool (decide ((c : Int) < L1)))] (· = wr) tab_ok hS ?_ (fun a w7 hS hw => ?_)))
  · repeat (first | refine o_pure rfl rfl rfl (fun _ => rfl) ?_ | refine o_skip rfl rfl rfl ?_)
    refine o_load rfl rfl rfl (fun _ => rfl) ((hx.keep hK).c0) ?_
    refine o_cmp rfl rfl rfl (fun _ => rfl) (rfl) ?_
    repeat (first | refine o_pure rfl rfl rfl (fun _ => rfl) ?_ | refine o_skip rfl rfl rfl ?_)
    exact o_nil ⟨⟨rfl, rfl, rfl, rfl, rfl, rfl, rfl, rfl, rfl, rfl, trivial⟩, rfl⟩
  subst hw
  refine cond hS rfl (fun hT => ?_) (fun hF => ?_)
  case refine_2 =>
    refine wp_exit ?_
    repeat (first | refine then_exit ?_ | refine block_exit ?_ | refine block_other rfl ?_)
    obtain rfl : c = L1.toNat := by have := of_decide_eq_false hF; omega
    refine block_normal ?_
    refine then_normal ?_
    refine seq_cut [(2, .bool both), (3, .int .i64 max), (4, .pointer (some ⟨M, 0, none⟩)), (5, .pointer (some ⟨N, 0, none⟩)), (8, .pointer (some ⟨K, 0, none⟩)), (9, .pointer (some ⟨Wb, 0, none⟩)), (10, .int .i64 ((k + 1 : Nat) : Int))] (· = w7) tab_ok hS ?_ (fun a w8 hS hw8 => ?_)
    · repeat (first | refine o_pure rfl rfl rfl (fun _ => rfl) ?_ | refine o_skip rfl rfl rfl ?_)
      refine o_num rfl rfl rfl (fun _ => rfl) (wrap_succ (by have := hok.cap; omega)) ?_
      repeat (first | refine o_pure rfl rfl rfl (fun _ => rfl) ?_ | refine o_skip rfl rfl rfl ?_)
      exact o_nil ⟨⟨rfl, rfl, rfl, rfl, rfl, rfl, rfl, trivial⟩, rfl⟩
    subst hw8
    refine ⟨max.toNat + 1 - (k + 1), _, by omega, ⟨k + 1, vp, vl, vf, s', by omega, rfl, rfl, hK, hW, hok'.up (by omega), ?_⟩, hS⟩
    rw [hgo, show max.toNat + 1 - k = (max.toNat + 1 - (k + 1)) + 1 by omega, walkGo, if_pos ⟨hlt, hhb.2⟩, hget, hs']
  have hcL1 : (c : Int) < L1 := of_decide_eq_true hT
  refine wp_skip ?_
  refine wp_seq (wp_block ?_)
  refine wp_seq (walked_r11 (hm.keep hK).n (hm2.keep hK).n (hx.keep hK) (hy.keep hK) hp hr2 hr4 (fun h0 => by rw [row_len hs1 h0 hr2]; exact hcL1) (fun h0 => by rw [row_len hs2 h0 hr4, ← hLL]; exact hcL1) (by rfl) (hS.sub ⟨rfl, rfl, rfl, rfl, rfl, rfl, rfl, rfl, rfl, trivial⟩) (fun B2 a w8 hS h8 => ?_))
  obtain ⟨hw8, hp8⟩ := h8
  have hg1 := stepM_range hs1 hr2 (show (0 : Int) ≤ (c : Int) by omega) hcL1
  have hg2 := stepM_range hs2 hr4 (show (0 : Int) ≤ (c : Int) by omega) (by rw [← hLL]; exact hcL1)
  have hp := hp.keep hw8
  have hW8 := hW.keep hw8
  have hK8 := below_trans hK hw8
  clear hW hK
  obtain ⟨t1, ht1⟩ : ∃ t1, stepM n1 p1 c = t1 := ⟨_, rfl⟩
  obtain ⟨t2, ht2⟩ : ∃ t2, stepM n2 q1 c = t2 := ⟨_, rfl⟩
  rw [ht1] at hg1 hp8
  rw [ht2] at hg2 hp8
  have hrow : rowM n1 n2 both k (p1, q1) (c + 1) s = if okPut both t1 t2 = true then s'.put t1 t2 k c else s' := by rw [rowM_succ, ← hs', rowGo, ht1, ht2]
  refine cut (F := fun a' w' => St Try.f61.ntmps a' [(2, .bool both), (3, .int .i64 max), (4, .pointer (some ⟨M, 0, none⟩)), (5, .pointer (some ⟨N, 0, none⟩)), (8, .pointer (some ⟨K, 0, none⟩)), (9, .pointer (some ⟨Wb, 0, none⟩)), (10, .int .i64 k), (11, .pointer (some ⟨B, 0, none⟩)), (12, .int .i64 c)] ∧ RowKit.Below wc.heap.size wc w' ∧ ∃ vp vl vf, WalkI wc.heap.size w' Wb vp vl vf (rowM n1 n2 both k (p1, q1) (c + 1) s).ps (rowM n1 n2 both k (p1, q1) (c + 1) s).ls (rowM n1 n2 both k (p1, q1) (c + 1) s).fs ∧ BoxP w' B p1 q1 ∧ ¬ foot Wb vp vl vf B) ?_ ?_
  · refine wp_seq (seq_cut [(2, .bool both), (3, .int .i64 max), (4, .pointer (some ⟨M, 0, none⟩)), (5, .pointer (some ⟨N, 0, none⟩)), (8, .pointer (some ⟨K, 0, none⟩)), (9, .pointer (some ⟨Wb, 0, none⟩)), (10, .int .i64 k), (11, .pointer (some ⟨B, 0, none⟩)), (12, .int .i64 c), (13, .pointer (some ⟨B2, 0, none⟩)), (88, .bool (okPut both t1 t2))] (· = w8) tab_ok hS ?_ (fun a w9 hS hw => ?_))
    · cases both
      case false =>
        repeat (first | refine o_pure rfl rfl rfl (fun _ => rfl) ?_ | refine o_skip rfl rfl rfl ?_)
        exact o_nil ⟨⟨rfl, rfl, rfl, rfl, rfl, rfl, rfl, rfl, rfl, rfl, rfl, trivial⟩, rfl⟩
      case true =>
        repeat (first | refine o_pure rfl rfl rfl (fun _ => rfl) ?_ | refine o_skip rfl rfl rfl ?_)
        refine o_load rfl rfl rfl (fun _ => rfl) (hp8.c0) ?_
        repeat (first | refine o_pure rfl rfl rfl (fun _ => rfl) ?_ | refine o_skip rfl rfl rfl ?_)
        cases e1 : decide (0 ≤ t1)
        case false =>
          refine o_cmp rfl rfl rfl (fun _ => rfl) (e1) ?_
          repeat (first | refine o_pure rfl rfl rfl (fun _ => rfl) ?_ | refine o_skip rfl rfl rfl ?_)
          exact o_nil ⟨⟨rfl, rfl, rfl, rfl, rfl, rfl, rfl, rfl, rfl, rfl, by rw [okPut, e1]; rfl, trivial⟩, rfl⟩
        case true =>
          refine o_cmp rfl rfl rfl (fun _ => rfl) (e1) ?_
          repeat (first | refine o_pure rfl rfl rfl (fun _ => rfl) ?_ | refine o_skip rfl rfl rfl ?_)
          refine o_load rfl rfl rfl (fun _ => rfl) (hp8.c1) ?_
          refine o_cmp rfl rfl rfl (fun _ => rfl) (rfl) ?_
          repeat (first | refine o_pure rfl rfl rfl (fun _ => rfl) ?_ | refine o_skip rfl rfl rfl ?_)
          exact o_nil ⟨⟨rfl, rfl, rfl, rfl, rfl, rfl, rfl, rfl, rfl, rfl, by rw [okPut, e1]; rfl, trivial⟩, rfl⟩
    subst hw
    refine cond hS rfl (fun hT => ?_) (fun hF => ?_)
    · refine seq_cut [(2, .bool both), (3, .int .i64 max), (4, .pointer (some ⟨M, 0, none⟩)), (5, .pointer (some ⟨N, 0, none⟩)), (8, .pointer (some ⟨K, 0, none⟩)), (9, .pointer (some ⟨Wb, 0, none⟩)), (10, .int .i64 k), (11, .pointer (some ⟨B, 0, none⟩)), (12, .int .i64 c)] (fun w' => RowKit.Below wc.heap.size wc w' ∧ ∃ vp vl vf, WalkI wc.heap.size w' Wb vp vl vf (rowM n1 n2 both k (p1, q1) (c + 1) s).ps (rowM n1 n2 both k (p1, q1) (c + 1) s).ls (rowM n1 n2 both k (p1, q1) (c + 1) s).fs ∧ BoxP w' B p1 q1 ∧ ¬ foot Wb vp vl vf B) tab_ok hS ?_ (fun a w3 hS hw => ⟨hS, hw⟩)
      repeat (first | refine o_pure rfl rfl rfl (fun _ => rfl) ?_ | refine o_skip rfl rfl rfl ?_)
      refine o_loads (vs := [.int .i64 t1, .int .i64 t2]) rfl rfl rfl (fun _ => rfl) rfl (hp8.cells) ?_
      repeat (first | refine o_pure rfl rfl rfl (fun _ => rfl) ?_ | refine o_skip rfl rfl rfl ?_)
      refine o_call rfl rfl rfl (fun _ => rfl) (en_put) (put_ws wc.heap.size Wb _ _ _ s' t1 t2 k c w9 (n1 := n1) (n2 := n2) (m := s.ps.length + c) hW8 hok' (Nat.lt_of_le_of_lt hok'.cap hcap) hl1 hl2 hK8.size) ?_
      rintro e w10 ⟨rfl, vp', vl', vf', h1, h2⟩
      refine ⟨_, rfl, ?_⟩
      have hBl : B < w9.heap.size := boxP_lt hp
      repeat (first | refine o_pure rfl rfl rfl (fun _ => rfl) ?_ | refine o_skip rfl rfl rfl ?_)
      exact o_nil ⟨⟨rfl, rfl, rfl, rfl, rfl, rfl, rfl, rfl, rfl, trivial⟩, off_below hK8 hK8.size hW8 h2, vp', vl', vf', (by rw [hrow, if_pos hT]; exact h1), h2.boxP hp hnf, (h2.off B hBl hnf).2⟩
    · exact wp_skip ⟨hS.sub ⟨rfl, rfl, rfl, rfl, rfl, rfl, rfl, rfl, rfl, trivial⟩, hK8, vp, vl, vf, by rw [hrow, if_neg (by rw [hF]; decide)]; exact hW8, hp, hnf⟩
  rintro a w9 ⟨hS, hK9, vp', vl', vf', hW9, hp9, hnf9⟩
  refine block_normal ?_
  refine then_normal ?_
  refine seq_cut [(2, .bool both), (3, .int .i64 max), (4, .pointer (some ⟨M, 0, none⟩)), (5, .pointer (some ⟨N, 0, none⟩)), (8, .pointer (some ⟨K, 0, none⟩)), (9, .pointer (some ⟨Wb, 0, none⟩)), (10, .int .i64 k), (11, .pointer (some ⟨B, 0, none⟩)), (12, .int .i64 ((c + 1 : Nat) : Int))] (· = w9) tab_ok hS ?_ (fun a w10 hS hw10 => ?_)
  · repeat (first | refine o_pure rfl rfl rfl (fun _ => rfl) ?_ | refine o_skip rfl rfl rfl ?_)
    refine o_num rfl rfl rfl (fun _ => rfl) (wrap_succ (by omega)) ?_
    repeat (first | refine o_pure rfl rfl rfl (fun _ => rfl) ?_ | refine o_skip rfl rfl rfl ?_)
    exact o_nil ⟨⟨rfl, rfl, rfl, rfl, rfl, rfl, rfl, rfl, rfl, trivial⟩, rfl⟩
  subst hw10
  have hok9 : WOk n1 n2 (rowM n1 n2 both k (p1, q1) (c + 1) s) (s.ps.length + (c + 1)) := by
    rw [hrow]
    split
    · exact hok'.put hg1.1 hg1.2 hg2.1 hg2.2
    · exact hok'.up (by omega)
  exact ⟨L1.toNat - (c + 1), _, by omega, ⟨c + 1, vp', vl', vf', _, by omega, rfl, rfl, hK9, hW9, hok9, rfl, hp9, hnf9⟩, hS⟩
end Go.Proofs.Ythkabbgaikociaa
namespace Go.Proofs.Ythkabbgaikociaa
open Go Sym
section
variable {base : Nat} {w0 w : World} {b : Nat} {p : Pt} {N s : Nat} {rest : List Ow}
set_option maxRecDepth 100000 in
theorem mark_r3 {vst vpl vbl vbs vcs vml : Value} {pb : Value} {own : Nat} (h : Hold base w0 w (ptR b p ⟨vst, vpl, vbl, vbs, vcs, vml⟩ ++ rest)) (hml : p.ml.length < 1000000000)
    {Q : Exit → Act → World → Prop} {a : Act} {ops : Array Oper} {id : Nat} (hops : Sym.regionOf Try.f78.body 3 = some (id, ops))
    (hS : St Try.f78.ntmps a [(0, .pointer (some ⟨b, 0, none⟩)), (1, .int .i64 (s : Int)), (4, .int .i64 (own : Int)), (5, pb)])
    (hq : ∀ vml' a' w', St Try.f78.ntmps a' [(0, .pointer (some ⟨b, 0, none⟩)), (1, .int .i64 (s : Int)), (4, .int .i64 (own : Int)), (5, pb)] → Hold base w0 w' (ptR b { p with ml := p.ml ++ [own] } ⟨vst, vpl, vbl, vbs, vcs, vml'⟩ ++ rest) → Q .normal a' w') : (Code.region id ops false).wp Try.prog Q a w := by
  cases hops
  refine seq_cutx (α := Value) (fun _ => [(0, .pointer (some ⟨b, 0, none⟩)), (1, .int .i64 (s : Int)), (4, .int .i64 (own : Int)), (5, pb)]) (fun vml' w' => Hold base w0 w' (ptR b { p with ml := p.ml ++ [own] } ⟨vst, vpl, vbl, vbs, vcs, vml'⟩ ++ rest)) tab_ok hS ?_ hq
  obtain ⟨g, c, rfl, hc⟩ := h.r.any (i := 6) rfl
  repeat (first | refine o_pure rfl rfl rfl (fun _ => rfl) ?_ | refine o_skip rfl rfl rfl ?_)
  refine o_load rfl rfl rfl (fun _ => rfl) (h.r.xcell (i := 0) rfl (j := 5) rfl) ?_
  repeat (first | refine o_pure rfl rfl rfl (fun _ => rfl) ?_ | refine o_skip rfl rfl rfl ?_)
  refine o_step rfl rfl rfl ?_
  refine Exists.intro [(0, .int .i64 (own))] (Exists.intro #[.int .i64 (own)] (And.intro (And.intro rfl rfl) (And.intro (by decide) (And.intro (fillI _ _ _) ?_))))
  have h1 := h.alloc (.cells #[.int .i64 (own : Int)] 3)
  have ask : AppAsk (w.alloc (.cells #[.int .i64 (own : Int)] 3)) ⟨3, .int .i64, 1, 8, .int .i64 0⟩ (.slice g p.ml.length c) p.ml.length (nats p.ml) (.slice (some ⟨w.heap.size, 0, none⟩) 1 1) 1 [.int .i64 (own : Int)] base :=
    ⟨h1.r.1 6 _ rfl, .inr ⟨_, 0, _, rfl, cell_alloc_new rfl, trivial⟩, rfl, (by simp [Value.oneCell']), (by omega), (by show (p.ml.length + 1) * 8 ≤ _; omega), h1.s⟩
  refine o_step rfl rfl rfl ?_
  refine Exists.intro _ (Exists.intro _ (Exists.intro _ (Exists.intro _ (Exists.intro _ (And.intro (ask) (And.intro (fun _ h => h.symm) (And.intro (by decide) ?_)))))))
  rintro v' w2 hown hgr - hat
  have h2 := h1.appN (i := 6) rfl hown hgr hat
  obtain ⟨g2, n2, c2, hv⟩ := own_form hown
  subst hv
  repeat (first | refine o_pure rfl rfl rfl (fun _ => rfl) ?_ | refine o_skip rfl rfl rfl ?_)
  refine o_store rfl rfl (fun _ => rfl) rfl rfl (h2.r.xcell (i := 0) rfl (j := 5) rfl) (h2.r.free (i := 0) rfl 5) ?_
  exact o_nil ⟨.slice g2 n2 c2, ⟨rfl, rfl, rfl, rfl, trivial⟩, h2.xstore (i := 0) rfl 5 (.slice g2 n2 c2)⟩
set_option maxRecDepth 100000 in
theorem mark_r6 {vst vpl vbl vbs vcs vml : Value} {pb : Value} {to fr ot : Nat} (h : Hold base w0 w (ptR b p ⟨vst, vpl, vbl, vbs, vcs, vml⟩ ++ rest)) (hto : to < p.st.length) (hfr : fr < p.st.length) (hs : s < 1000000000)
    {Q : Exit → Act → World → Prop} {a : Act} {ops : Array Oper} {id : Nat} (hops : Sym.regionOf Try.f78.body 6 = some (id, ops))
    (hS : St Try.f78.ntmps a [(0, .pointer (some ⟨b, 0, none⟩)), (1, .int .i64 (s : Int)), (5, pb), (6, .int .i64 (to : Int)), (7, .int .i64 (fr : Int)), (8, .int .i32 (ot : Int))])
    (hq : ∀ a' w', St Try.f78.ntmps a' [(0, .pointer (some ⟨b, 0, none⟩)), (1, .int .i64 (s : Int)), (5, pb), (6, .int .i64 (to : Int)), (7, .int .i64 (fr : Int)), (8, .int .i32 (ot : Int))] → Hold base w0 w' (ptR b { p with st := (p.st.set to s).set fr ot } ⟨vst, vpl, vbl, vbs, vcs, vml⟩ ++ rest) → Q .normal a' w') : (Code.region id ops true).wp Try.prog Q a w := by
  cases hops
  refine any_cut 14 [(0, .pointer (some ⟨b, 0, none⟩)), (1, .int .i64 (s : Int)), (5, pb), (6, .int .i64 (to : Int)), (7, .int .i64 (fr : Int)), (8, .int .i32 (ot : Int))] (fun w' => Hold base w0 w' (ptR b { p with st := (p.st.set to s).set fr ot } ⟨vst, vpl, vbl, vbs, vcs, vml⟩ ++ rest)) mixed hS ?_ hq
  have hy : RowKit.Below w.drew.heap.size w.drew w.drew := RowKit.Below.refl _ _
  have hD := h.drew
  obtain ⟨g, c, rfl, hc⟩ := hD.r.nilOr (i := 1) rfl (by omega)
  refine y_free 0 tab_ok rfl (by kernel_rfl) (by kernel_rfl) (by kernel_rfl) rfl (.inr hy) rfl rfl rfl rfl ?_
  refine y_take 1 tab_ok rfl (by kernel_rfl) (by kernel_rfl) (by kernel_rfl) rfl (by kernel_rfl) rfl hy rfl rfl rfl (rfl) ?_
  refine y_take 2 tab_ok rfl (by kernel_rfl) (by kernel_rfl) (by kernel_rfl) rfl (by kernel_rfl) rfl hy rfl rfl rfl (rfl) ?_
  refine y_take 3 tab_ok rfl (by kernel_rfl) (by kernel_rfl) (by kernel_rfl) rfl (by kernel_rfl) rfl hy rfl rfl rfl (Exists.intro _ (And.intro (hD.r.xcell (i := 0) rfl (j := 0) rfl) rfl)) ?_
  refine y_free 4 tab_ok rfl (by kernel_rfl) (by kernel_rfl) (by kernel_rfl) rfl (.inr hy) rfl rfl rfl rfl ?_
  refine y_free 5 tab_ok rfl (by kernel_rfl) (by kernel_rfl) (by kernel_rfl) rfl (.inr hy) rfl rfl rfl rfl ?_
  refine y_take 6 tab_ok rfl (by kernel_rfl) (by kernel_rfl) (by kernel_rfl) rfl (by kernel_rfl) rfl hy rfl rfl rfl (rfl) ?_
  refine y_take 7 tab_ok rfl (by kernel_rfl) (by kernel_rfl) (by kernel_rfl) rfl (by kernel_rfl) rfl hy rfl rfl rfl (rfl) ?_
  refine y_take 8 tab_ok rfl (by kernel_rfl) (by kernel_rfl) (by kernel_rfl) rfl (by kernel_rfl) rfl hy rfl rfl rfl (Exists.intro _ (And.intro (hD.r.xcell (i := 0) rfl (j := 0) rfl) rfl)) ?_
  refine y_free 10 tab_ok rfl (by kernel_rfl) (by kernel_rfl) (by kernel_rfl) rfl (.inr hy) rfl rfl rfl rfl ?_
  refine y_take 11 tab_ok rfl (by kernel_rfl) (by kernel_rfl) (by kernel_rfl) rfl (by kernel_rfl) rfl hy rfl rfl rfl (Exists.intro _ (And.intro (i32_in s (by omega)) rfl)) ?_
  refine y_take 13 tab_ok rfl (by kernel_rfl) (by kernel_rfl) (by kernel_rfl) rfl (by kernel_rfl) rfl hy rfl rfl rfl (Exists.intro _ (And.intro (rfl) (And.intro (hto) rfl))) ?_
  refine y_free 9 tab_ok rfl (by kernel_rfl) (by kernel_rfl) (by kernel_rfl) rfl (.inr hy) rfl rfl rfl rfl ?_
  refine y_free 12 tab_ok rfl (by kernel_rfl) (by kernel_rfl) (by kernel_rfl) rfl (.inr hy) rfl rfl rfl rfl ?_
  refine y_one 14 (by kernel_rfl) (y_op0 14 tab_ok rfl rfl rfl ?_)
  have h1 := hD.storeS (i := 1) rfl to s
  refine And.intro rfl (And.intro rfl (And.intro ⟨_, hD.r.cS (i := 1) rfl hto⟩ (And.intro (hD.r.free (i := 1) rfl _) (And.intro (.inl (by kernel_rfl)) ?_))))
  refine y_free 15 tab_ok rfl (by kernel_rfl) (by kernel_rfl) (by kernel_rfl) rfl (.inl (by kernel_rfl)) rfl rfl rfl (Exists.intro _ (And.intro (rfl) (And.intro (hfr) rfl))) ?_
  refine y_one 16 (by kernel_rfl) (y_op0 16 tab_ok rfl rfl rfl ?_)
  refine And.intro rfl (And.intro rfl (And.intro ⟨_, h1.r.cS (i := 1) rfl (j := fr) (by rw [List.length_set]; exact hfr)⟩ (And.intro (h1.r.free (i := 1) rfl _) (And.intro (.inl (by kernel_rfl)) ?_))))
  exact y_end (by kernel_rfl) ⟨rfl, rfl, rfl, rfl, rfl, rfl, trivial⟩ (h1.storeS (i := 1) rfl fr ot)
set_option maxRecDepth 100000 in
theorem mark_r7 {vst vpl vbl vbs vcs vml : Value} {pb : Value} {to fr ot : Nat} (h : Hold base w0 w (ptR b p ⟨vst, vpl, vbl, vbs, vcs, vml⟩ ++ rest)) (hs : s < p.pl.length) (hot : ot < p.pl.length) (hN : p.pl.length ≤ 1000000000)
    {Q : Exit → Act → World → Prop} {a : Act} {ops : Array Oper} {id : Nat} (hops : Sym.regionOf Try.f78.body 7 = some (id, ops))
    (hS : St Try.f78.ntmps a [(0, .pointer (some ⟨b, 0, none⟩)), (1, .int .i64 (s : Int)), (5, pb), (6, .int .i64 (to : Int)), (7, .int .i64 (fr : Int)), (8, .int .i32 (ot : Int))])
    (hq : ∀ a' w', St Try.f78.ntmps a' [(5, pb)] → Hold base w0 w' (ptR b { p with pl := (p.pl.set s to).set ot fr } ⟨vst, vpl, vbl, vbs, vcs, vml⟩ ++ rest) → Q .normal a' w') : (Code.region id ops true).wp Try.prog Q a w := by
  cases hops
  refine any_cut 13 [(5, pb)] (fun w' => Hold base w0 w' (ptR b { p with pl := (p.pl.set s to).set ot fr } ⟨vst, vpl, vbl, vbs, vcs, vml⟩ ++ rest)) mixed hS ?_ hq
  have hy : RowKit.Below w.drew.heap.size w.drew w.drew := RowKit.Below.refl _ _
  have hD := h.drew
  obtain ⟨g, c, rfl, hc⟩ := hD.r.nilOr (i := 2) rfl (by omega)
  refine y_free 0 tab_ok rfl (by kernel_rfl) (by kernel_rfl) (by kernel_rfl) rfl (.inr hy) rfl rfl rfl rfl ?_
  refine y_take 1 tab_ok rfl (by kernel_rfl) (by kernel_rfl) (by kernel_rfl) rfl (by kernel_rfl) rfl hy rfl rfl rfl (rfl) ?_
  refine y_take 2 tab_ok rfl (by kernel_rfl) (by kernel_rfl) (by kernel_rfl) rfl (by kernel_rfl) rfl hy rfl rfl rfl (rfl) ?_
  refine y_take 3 tab_ok rfl (by kernel_rfl) (by kernel_rfl) (by kernel_rfl) rfl (by kernel_rfl) rfl hy rfl rfl rfl (Exists.intro _ (And.intro (hD.r.xcell (i := 0) rfl (j := 1) rfl) rfl)) ?_
  refine y_free 4 tab_ok rfl (by kernel_rfl) (by kernel_rfl) (by kernel_rfl) rfl (.inr hy) rfl rfl rfl rfl ?_
  refine y_free 5 tab_ok rfl (by kernel_rfl) (by kernel_rfl) (by kernel_rfl) rfl (.inr hy) rfl rfl rfl rfl ?_
  refine y_take 6 tab_ok rfl (by kernel_rfl) (by kernel_rfl) (by kernel_rfl) rfl (by kernel_rfl) rfl hy rfl rfl rfl (rfl) ?_
  refine y_take 7 tab_ok rfl (by kernel_rfl) (by kernel_rfl) (by kernel_rfl) rfl (by kernel_rfl) rfl hy rfl rfl rfl (rfl) ?_
  refine y_take 8 tab_ok rfl (by kernel_rfl) (by kernel_rfl) (by kernel_rfl) rfl (by kernel_rfl) rfl hy rfl rfl rfl (Exists.intro _ (And.intro (hD.r.xcell (i := 0) rfl (j := 1) rfl) rfl)) ?_
  refine y_free 10 tab_ok rfl (by kernel_rfl) (by kernel_rfl) (by kernel_rfl) rfl (.inr hy) rfl rfl rfl rfl ?_
  refine y_take 12 tab_ok rfl (by kernel_rfl) (by kernel_rfl) (by kernel_rfl) rfl (by kernel_rfl) rfl hy rfl rfl rfl (Exists.intro _ (And.intro (rfl) (And.intro (hs) rfl))) ?_
  refine y_free 9 tab_ok rfl (by kernel_rfl) (by kernel_rfl) (by kernel_rfl) rfl (.inr hy) rfl rfl rfl rfl ?_
  refine y_free 11 tab_ok rfl (by kernel_rfl) (by kernel_rfl) (by kernel_rfl) rfl (.inr hy) rfl rfl rfl rfl ?_
  refine y_one 13 (by kernel_rfl) (y_op0 13 tab_ok rfl rfl rfl ?_)
  have h1 := hD.storeN (i := 2) rfl s to
  refine And.intro rfl (And.intro rfl (And.intro ⟨_, hD.r.cN (i := 2) rfl hs⟩ (And.intro (hD.r.free (i := 2) rfl _) (And.intro (.inl (by kernel_rfl)) ?_))))
  refine y_free 14 tab_ok rfl (by kernel_rfl) (by kernel_rfl) (by kernel_rfl) rfl (.inl (by kernel_rfl)) rfl rfl rfl (Exists.intro _ (And.intro (rfl) (And.intro (hot) rfl))) ?_
  refine y_one 15 (by kernel_rfl) (y_op0 15 tab_ok rfl rfl rfl ?_)
  refine And.intro rfl (And.intro rfl (And.intro ⟨_, h1.r.cN (i := 2) rfl (j := ot) (by rw [List.length_set]; exact hot)⟩ (And.intro (h1.r.free (i := 2) rfl _) (And.intro (.inl (by kernel_rfl)) ?_))))
  exact y_end (by kernel_rfl) ⟨rfl, trivial⟩ (h1.storeN (i := 2) rfl ot fr)
set_option maxRecDepth 100000 in
theorem mark_any (h : HoldP base w0 w b p rest) (hp : PI p N p.ml) (hs : s < N) (hm : ¬ p.M s) (hN : N ≤ 100000000) :
    Calls Try.prog 78 #[.pointer (some ⟨b, 0, none⟩), .int .i64 (s : Int)] w fun e w' => e = .returned (.tuple #[]) ∧ HoldP base w0 w' b (p.mark s) rest := by
  obtain ⟨⟨vst, vpl, vbl, vbs, vcs, vml⟩, h⟩ := h
  refine Sym.enter (args := [.pointer (some ⟨b, 0, none⟩), .int .i64 (s : Int)]) Try.func78 rfl rfl rfl (fun a0 hS0 => ?_)
  have hib := hp.ib s hs
  have hto := hp.to hs hm
  obtain ⟨own, hown⟩ : ∃ own, gt p.bl s = own := ⟨_, rfl⟩
  rw [hown] at hib hto
  have hbd := hp.bd own hib
  have hps := hp.ps s hs
  have hl1 := hp.st
  have hl2 := hp.pl
  have hl3 := hp.bl
  have hfew := hp.few
  have hml : p.ml.length ≤ N := by
    have := hp.nd.length_le_of_subset (l₂ := List.range p.bs.length) (fun x hx => List.mem_range.2 ((hp.tm x).1 hx).1)
    rw [List.length_range] at this
    omega
  obtain ⟨gbl, cbl, rfl, -⟩ := h.r.nilOr (i := 3) rfl (by omega)
  obtain ⟨gbs, cbs, rfl, -⟩ := h.r.nilOr (i := 4) rfl (by omega)
  obtain ⟨gpl, cpl, rfl, -⟩ := h.r.nilOr (i := 2) rfl (by omega)
  obtain ⟨gst, cst, rfl, -⟩ := h.r.nilOr (i := 1) rfl (by omega)
  refine wp_seq (seq_cut [(0, .pointer (some ⟨b, 0, none⟩)), (1, .int .i64 (s : Int)), (4, .int .i64 (own : Int))] (· = w) tab_ok hS0 ?_ (fun a w1 hS hw => ?_))
  · have hc := h.r.cN (i := 3) rfl (j := s) (by omega)
    rw [hown] at hc
    repeat (first | refine o_pure rfl rfl rfl (fun _ => rfl) ?_ | refine o_skip rfl rfl rfl ?_)
    refine o_load rfl rfl rfl (fun _ => rfl) (h.r.xcell (i := 0) rfl (j := 2) rfl) ?_
    repeat (first | refine o_pure rfl rfl rfl (fun _ => rfl) ?_ | refine o_skip rfl rfl rfl ?_)
    refine o_ix rfl rfl rfl (fun _ => rfl) (rfl) ((by omega)) ?_
    refine o_load rfl rfl rfl (fun _ => rfl) (hc) ?_
    repeat (first | refine o_pure rfl rfl rfl (fun _ => rfl) ?_ | refine o_skip rfl rfl rfl ?_)
    exact o_nil ⟨⟨rfl, rfl, rfl, trivial⟩, rfl⟩
  subst hw
  refine wp_seq (seq_cut [(0, .pointer (some ⟨b, 0, none⟩)), (1, .int .i64 (s : Int)), (4, .int .i64 (own : Int)), (5, .pointer (some ⟨gbs, 0 + own * 4, none⟩))] (· = w1) tab_ok hS ?_ (fun a w2 hS hw => ?_))
  · repeat (first | refine o_pure rfl rfl rfl (fun _ => rfl) ?_ | refine o_skip rfl rfl rfl ?_)
    refine o_load rfl rfl rfl (fun _ => rfl) (h.r.xcell (i := 0) rfl (j := 3) rfl) ?_
    repeat (first | refine o_pure rfl rfl rfl (fun _ => rfl) ?_ | refine o_skip rfl rfl rfl ?_)
    refine o_ix rfl rfl rfl (fun _ => rfl) (rfl) (hib) ?_
    repeat (first | refine o_pure rfl rfl rfl (fun _ => rfl) ?_ | refine o_skip rfl rfl rfl ?_)
    exact o_nil ⟨⟨rfl, rfl, rfl, rfl, trivial⟩, rfl⟩
  subst hw
  obtain ⟨ml', hml'⟩ : ∃ ml', ml' = if (gb p.bs own).marked = 0 then p.ml ++ [own] else p.ml := ⟨_, rfl⟩
  refine wp_seq (cut (F := fun a' w' => ∃ vml' : Value, St Try.f78.ntmps a' [(0, .pointer (some ⟨b, 0, none⟩)), (1, .int .i64 (s : Int)), (4, .int .i64 (own : Int)), (5, .pointer (some ⟨gbs, 0 + own * 4, none⟩))] ∧ Hold base w0 w' (ptR b { p with ml := ml' } ⟨.slice (some ⟨gst, 0, none⟩) p.st.length cst, .slice (some ⟨gpl, 0, none⟩) p.pl.length cpl, .slice (some ⟨gbl, 0, none⟩) p.bl.length cbl, .slice (some ⟨gbs, 0, none⟩) p.bs.length cbs, vcs, vml'⟩ ++ rest)) ?_ ?_)
  · refine wp_seq (seq_cut [(0, .pointer (some ⟨b, 0, none⟩)), (1, .int .i64 (s : Int)), (4, .int .i64 (own : Int)), (5, .pointer (some ⟨gbs, 0 + own * 4, none⟩)), (26, .bool (decide ((gb p.bs own).marked = 0)))] (· = w2) tab_ok hS ?_ (fun a w3 hS hw => ?_))
    · repeat (first | refine o_pure rfl rfl rfl (fun _ => rfl) ?_ | refine o_skip rfl rfl rfl ?_)
      refine o_load rfl rfl rfl (fun _ => rfl) (h.r.cK2 (i := 4) rfl hib) ?_
      repeat (first | refine o_pure rfl rfl rfl (fun _ => rfl) ?_ | refine o_skip rfl rfl rfl ?_)
      refine o_cmp rfl rfl rfl (fun _ => rfl) (nat_eq0 _) ?_
      repeat (first | refine o_pure rfl rfl rfl (fun _ => rfl) ?_ | refine o_skip rfl rfl rfl ?_)
      exact o_nil ⟨⟨rfl, rfl, rfl, rfl, rfl, trivial⟩, rfl⟩
    subst hw
    refine cond hS rfl (fun hT => ?_) (fun hF => ?_)
    · refine mark_r3 h (by omega) (by rfl) (hS.sub ⟨rfl, rfl, rfl, rfl, trivial⟩) (fun vml' a w4 hS h => ?_)
      rw [hml', if_pos (of_decide_eq_true hT)]
      exact ⟨vml', hS, h⟩
    · refine wp_skip ?_
      rw [hml', if_neg (of_decide_eq_false hF)]
      exact ⟨vml, hS.sub ⟨rfl, rfl, rfl, rfl, trivial⟩, h⟩
  clear h hS
  rintro a w3 ⟨vml', hS, h⟩
  refine wp_seq (quiet_cut [(0, .pointer (some ⟨b, 0, none⟩)), (1, .int .i64 (s : Int)), (5, .pointer (some ⟨gbs, 0 + own * 4, none⟩)), (6, .int .i64 (((gb p.bs own).first + (gb p.bs own).marked : Nat) : Int)), (7, .int .i64 (gt p.pl s : Int))] tab_ok mixed (by kernel_rfl) hS ?_ (fun a w4 hS hw => ?_))
  · repeat (first | refine q_pure rfl rfl rfl (fun _ => rfl) ?_ | refine q_skip rfl rfl rfl ?_)
    refine q_load rfl rfl rfl (fun _ => rfl) (h.r.cK0 (i := 4) rfl hib) ?_
    repeat (first | refine q_pure rfl rfl rfl (fun _ => rfl) ?_ | refine q_skip rfl rfl rfl ?_)
    refine q_load rfl rfl rfl (fun _ => rfl) (h.r.cK2 (i := 4) rfl hib) ?_
    refine q_num rfl rfl rfl (fun _ => rfl) (i64_add _ _ (by (try dsimp only); omega)) ?_
    repeat (first | refine q_pure rfl rfl rfl (fun _ => rfl) ?_ | refine q_skip rfl rfl rfl ?_)
    refine q_load rfl rfl rfl (fun _ => rfl) (h.r.xcell (i := 0) rfl (j := 1) rfl) ?_
    repeat (first | refine q_pure rfl rfl rfl (fun _ => rfl) ?_ | refine q_skip rfl rfl rfl ?_)
    refine q_ix rfl rfl rfl (fun _ => rfl) (rfl) ((by (try dsimp only); omega)) ?_
    refine q_load rfl rfl rfl (fun _ => rfl) (h.r.cN (i := 2) rfl (j := s) (by (try dsimp only); omega)) ?_
    repeat (first | refine q_pure rfl rfl rfl (fun _ => rfl) ?_ | refine q_skip rfl rfl rfl ?_)
    exact q_nil ⟨rfl, rfl, rfl, rfl, rfl, trivial⟩
  replace h := h.below hw
  refine wp_seq (seq_cut [(0, .pointer (some ⟨b, 0, none⟩)), (1, .int .i64 (s : Int)), (5, .pointer (some ⟨gbs, 0 + own * 4, none⟩)), (6, .int .i64 (((gb p.bs own).first + (gb p.bs own).marked : Nat) : Int)), (7, .int .i64 (gt p.pl s : Int)), (8, .int .i32 (gt p.st ((gb p.bs own).first + (gb p.bs own).marked) : Int))] (· = w4) tab_ok hS ?_ (fun a w5 hS hw => ?_))
  · repeat (first | refine o_pure rfl rfl rfl (fun _ => rfl) ?_ | refine o_skip rfl rfl rfl ?_)
    refine o_load rfl rfl rfl (fun _ => rfl) (h.r.xcell (i := 0) rfl (j := 0) rfl) ?_
    repeat (first | refine o_pure rfl rfl rfl (fun _ => rfl) ?_ | refine o_skip rfl rfl rfl ?_)
    refine o_ix rfl rfl rfl (fun _ => rfl) (rfl) ((by (try dsimp only); omega)) ?_
    refine o_load rfl rfl rfl (fun _ => rfl) (h.r.cS (i := 1) rfl (j := (gb p.bs own).first + (gb p.bs own).marked) (by show _ < p.st.length; omega)) ?_
    repeat (first | refine o_pure rfl rfl rfl (fun _ => rfl) ?_ | refine o_skip rfl rfl rfl ?_)
    exact o_nil ⟨⟨rfl, rfl, rfl, rfl, rfl, rfl, trivial⟩, rfl⟩
  subst hw
  refine wp_seq (mark_r6 h (by show _ < p.st.length; omega) (by show _ < p.st.length; omega) (by (try dsimp only); omega) (by rfl) hS (fun a w6 hS h => ?_))
  have hot := (hp.sp ((gb p.bs own).first + (gb p.bs own).marked) (by (try dsimp only); omega)).1
  refine wp_seq (mark_r7 h (by show _ < p.pl.length; omega) (by show _ < p.pl.length; omega) (by show p.pl.length ≤ _; omega) (by rfl) hS (fun a w7 hS h => ?_))
  refine seq_cut [] (fun w8 => HoldP base w0 w8 b (p.mark s) rest) tab_ok hS ?_ (fun a w8 hS hw => ret0 hS rfl ⟨rfl, hw⟩)
  repeat (first | refine o_pure rfl rfl rfl (fun _ => rfl) ?_ | refine o_skip rfl rfl rfl ?_)
  refine o_load rfl rfl rfl (fun _ => rfl) (h.r.cK2 (i := 4) rfl hib) ?_
  repeat (first | refine o_pure rfl rfl rfl (fun _ => rfl) ?_ | refine o_skip rfl rfl rfl ?_)
  refine o_num rfl rfl rfl (fun _ => rfl) (i64_add _ 1 (by (try dsimp only); omega)) ?_
  repeat (first | refine o_pure rfl rfl rfl (fun _ => rfl) ?_ | refine o_skip rfl rfl rfl ?_)
  refine o_store rfl rfl (fun _ => rfl) rfl rfl (h.r.cK2 (i := 4) rfl hib) (h.r.free (i := 4) rfl _) ?_
  refine o_nil ⟨trivial, ⟨⟨.slice (some ⟨gst, 0, none⟩) p.st.length cst, .slice (some ⟨gpl, 0, none⟩) p.pl.length cpl, .slice (some ⟨gbl, 0, none⟩) p.bl.length cbl, .slice (some ⟨gbs, 0, none⟩) p.bs.length cbs, vcs, vml'⟩, (h.storeK2 (i := 4) rfl own _).cast ?_⟩⟩
  subst hml'
  unfold Pt.mark
  rw [hown]
  rfl
end
end Go.Proofs.Ythkabbgaikociaa
namespace Go.Proofs.Ythkabbgaikociaa
open Go Sym
theorem en_round : enters Try.prog 46 = true := by kernel_rfl
theorem en_members : enters Try.prog 101 = true := by kernel_rfl
theorem en_mark : enters Try.prog 78 = true := by kernel_rfl
section
variable {base : Nat} {w0 w : World} {b : Nat} {p : Pt} {N s : Nat} {rest : List Ow}
theorem gst_form {g c l k : Nat} (hk : 0 < k) (hl : l + k ≤ c) : (Value.slice (if c = l then some ⟨g, 0, none⟩ else (some (⟨g, 0, none⟩ : Addr)).map (·.add (l * 1))) k (c - l)) = .slice (some ⟨g, l, none⟩) k (c - l) := by
  rw [if_neg (by omega)]
  simp only [Option.map_some, Addr.add, Nat.mul_one]
  split
  · rename_i h; rw [h]
  · simp
set_option maxRecDepth 100000 in
theorem round_any {V : PV} (h : Hold base w0 w (ptR b p V ++ rest)) (hc : 0 < p.cs.length) (hN : p.cs.length ≤ 1000000000) :
    Calls Try.prog 46 #[.pointer (some ⟨b, 0, none⟩)] w fun e w' => e = .returned (.int .i64 ((p.cs.length - 1 : Nat) : Int)) ∧ RowKit.Below w.heap.size w w' := by
  obtain ⟨vst, vpl, vbl, vbs, vcs, vml⟩ := V
  refine Sym.enter (args := [.pointer (some ⟨b, 0, none⟩)]) Try.func46 rfl rfl rfl (fun a0 hS0 => ?_)
  obtain ⟨g, c, rfl, -⟩ := h.r.any (i := 5) rfl
  refine wp_seq (seq_cut [(0, .pointer (some ⟨b, 0, none⟩))] (· = w) tab_ok hS0 ?_ (fun a w1 hS hw => ?_))
  · repeat (first | refine o_pure rfl rfl rfl (fun _ => rfl) ?_ | refine o_skip rfl rfl rfl ?_)
    exact o_nil ⟨⟨rfl, trivial⟩, rfl⟩
  subst hw
  refine wp_seq (seq_cut [(2, .int .i64 ((p.cs.length - 1 : Nat) : Int))] (· = w1) tab_ok hS ?_ (fun a w2 hS hw => ?_))
  · repeat (first | refine o_pure rfl rfl rfl (fun _ => rfl) ?_ | refine o_skip rfl rfl rfl ?_)
    refine o_load rfl rfl rfl (fun _ => rfl) (h.r.xcell (i := 0) rfl (j := 4) rfl) ?_
    repeat (first | refine o_pure rfl rfl rfl (fun _ => rfl) ?_ | refine o_skip rfl rfl rfl ?_)
    refine o_num rfl rfl rfl (fun _ => rfl) (i64_sub _ 1 (by omega) (by omega)) ?_
    repeat (first | refine o_pure rfl rfl rfl (fun _ => rfl) ?_ | refine o_skip rfl rfl rfl ?_)
    exact o_nil ⟨⟨rfl, trivial⟩, rfl⟩
  subst hw
  refine wp_ret ?_
  repeat (first | refine then_ret ?_ | refine block_ret ?_)
  exact ret1 hS rfl rfl ⟨rfl, RowKit.Below.refl _ _⟩
set_option maxRecDepth 100000 in
theorem members_any {vpl vbl vbs vcs vml mk par : Value} {gst cst l k : Nat} (h : Hold base w0 w (ptR b p ⟨.slice (some ⟨gst, 0, none⟩) p.st.length cst, vpl, vbl, vbs, vcs, vml⟩ ++ rest)) (hk : 0 < k) (hl : l + k ≤ p.st.length) (hN : p.st.length ≤ 1000000000) :
    Calls Try.prog 101 #[.pointer (some ⟨b, 0, none⟩), .agg #[.int .i64 (l : Int), .int .i64 (k : Int), mk, par]] w fun e w' => e = .returned (.slice (some ⟨gst, l, none⟩) k (cst - l)) ∧ RowKit.Below w.heap.size w w' := by
  refine Sym.enter (args := [.pointer (some ⟨b, 0, none⟩), .agg #[.int .i64 (l : Int), .int .i64 (k : Int), mk, par]]) Try.func101 rfl rfl rfl (fun a0 hS0 => ?_)
  obtain ⟨g, c, hv, hc, -⟩ := h.r.nilOr (i := 1) rfl (by omega)
  simp only [Value.slice.injEq] at hv
  obtain ⟨hv1, -, rfl⟩ := hv
  refine wp_seq (seq_cut [(0, .pointer (some ⟨b, 0, none⟩)), (3, .pointer (some ⟨w.heap.size, 0, none⟩))] (· = w.alloc (.cells #[.int .i64 (l : Int), .int .i64 (k : Int), mk, par] 99)) tab_ok hS0 ?_ (fun a w1 hS hw => ?_))
  · refine o_new rfl rfl rfl (fun _ => rfl) ?_
    repeat (first | refine o_pure rfl rfl rfl (fun _ => rfl) ?_ | refine o_skip rfl rfl rfl ?_)
    exact o_nil ⟨⟨rfl, rfl, trivial⟩, rfl⟩
  have hB : RowKit.Below w.heap.size w w1 := by rw [hw]; exact below_alloc _ _
  have hc0 : w1.cell? ⟨w.heap.size, 0, none⟩ = some (.int .i64 (l : Int)) := by rw [hw]; exact cell_alloc_new rfl
  have hc1 : w1.cell? ⟨w.heap.size, 1, none⟩ = some (.int .i64 (k : Int)) := by rw [hw]; exact cell_alloc_new rfl
  obtain ⟨B, hBB⟩ : ∃ B, B = w.heap.size := ⟨_, rfl⟩
  rw [← hBB] at hc0 hc1 hS
  have h1 := h.below hB
  refine wp_seq (quiet_cut [(4, .slice (some ⟨gst, l, none⟩) k (cst - l))] tab_ok mixed (by kernel_rfl) hS ?_ (fun a w2 hS hw2 => ?_))
  · repeat (first | refine q_pure rfl rfl rfl (fun _ => rfl) ?_ | refine q_skip rfl rfl rfl ?_)
    refine q_load rfl rfl rfl (fun _ => rfl) (h1.r.xcell (i := 0) rfl (j := 0) rfl) ?_
    repeat (first | refine q_pure rfl rfl rfl (fun _ => rfl) ?_ | refine q_skip rfl rfl rfl ?_)
    refine q_load rfl rfl rfl (fun _ => rfl) (hc0) ?_
    repeat (first | refine q_pure rfl rfl rfl (fun _ => rfl) ?_ | refine q_skip rfl rfl rfl ?_)
    refine q_load rfl rfl rfl (fun _ => rfl) (hc0) ?_
    repeat (first | refine q_pure rfl rfl rfl (fun _ => rfl) ?_ | refine q_skip rfl rfl rfl ?_)
    refine q_load rfl rfl rfl (fun _ => rfl) (hc1) ?_
    refine q_num rfl rfl rfl (fun _ => rfl) (i64_add _ _ (by omega)) ?_
    refine q_step rfl rfl rfl (Exists.intro l (Exists.intro (l + k) (And.intro ⟨_, _, rfl, rfl⟩ (And.intro ⟨_, _, rfl, rfl⟩ (And.intro (by omega) (And.intro (by omega) (And.intro hc ?_)))))))
    rw [show l + k - l = k by omega]
    have e := gst_form (g := gst) (c := cst) (l := l) hk (by omega)
    refine cast (congrArg (fun v => quietK _ _ _ _ _ _ _ ((16, v) :: _)) e.symm) ?_
    repeat (first | refine q_pure rfl rfl rfl (fun _ => rfl) ?_ | refine q_skip rfl rfl rfl ?_)
    exact q_nil ⟨rfl, trivial⟩
  refine wp_ret ?_
  repeat (first | refine then_ret ?_ | refine block_ret ?_)
  exact ret1 hS rfl rfl ⟨rfl, below_trans hB hw2⟩
theorem relabel_succ (st : List Nat) (nb : Nat) : ∀ (k i : Nat) (bl : List Nat), relabel st nb bl i (k + 1) = (relabel st nb bl i k).set (gt st (i + k)) nb
  | 0, i, bl => rfl
  | k + 1, i, bl => by
    rw [relabel, relabel_succ st nb k (i + 1), relabel, show i + 1 + k = i + (k + 1) by omega]
abbrev bX (B : Nat) (x : Blk) : Ow := oX 99 B 4 [.int .i64 (x.first : Int), .int .i64 (x.size : Int), .int .i64 (x.marked : Int), .int .i64 (x.parent : Int)]
variable {vst vpl vbl vcs vml : Value} {gbs cbs lbs n k old : Nat}
set_option maxRecDepth 100000 in
theorem split_r4 (h : Hold base w0 w (ptR b p ⟨vst, vpl, vbl, .slice (some ⟨gbs, 0, none⟩) lbs cbs, vcs, vml⟩ ++ rest)) (hold : old < p.bs.length) {Q : Exit → Act → World → Prop} {a : Act} {ops : Array Oper} {id : Nat} (hops : Sym.regionOf Try.f79.body 4 = some (id, ops))
    (hS : St Try.f79.ntmps a [(0, .pointer (some ⟨b, 0, none⟩)), (11, vml), (12, .int .i64 (n : Int)), (13, .int .i64 (k : Int)), (3, .int .i64 (old : Int)), (4, .pointer (some ⟨gbs, 0 + old * 4, none⟩))])
    (hq : ∀ B a' w', St Try.f79.ntmps a' [(0, .pointer (some ⟨b, 0, none⟩)), (11, vml), (12, .int .i64 (n : Int)), (13, .int .i64 (k : Int)), (3, .int .i64 (old : Int)), (4, .pointer (some ⟨gbs, 0 + old * 4, none⟩)), (5, .pointer (some ⟨B, 0, none⟩))] → Hold base w0 w' (bX B ⟨(gb p.bs old).first, (gb p.bs old).marked, 0, old⟩ :: (ptR b p ⟨vst, vpl, vbl, .slice (some ⟨gbs, 0, none⟩) lbs cbs, vcs, vml⟩ ++ rest)) → Q .normal a' w') : (Code.region id ops true).wp Try.prog Q a w := by
  cases hops
  refine any_cutx (α := Nat) 12 (fun B => [(0, .pointer (some ⟨b, 0, none⟩)), (11, vml), (12, .int .i64 (n : Int)), (13, .int .i64 (k : Int)), (3, .int .i64 (old : Int)), (4, .pointer (some ⟨gbs, 0 + old * 4, none⟩)), (5, .pointer (some ⟨B, 0, none⟩))]) (fun B w' => Hold base w0 w' (bX B ⟨(gb p.bs old).first, (gb p.bs old).marked, 0, old⟩ :: (ptR b p ⟨vst, vpl, vbl, .slice (some ⟨gbs, 0, none⟩) lbs cbs, vcs, vml⟩ ++ rest))) mixed hS ?_ hq
  have hy : RowKit.Below w.drew.heap.size w.drew w.drew := RowKit.Below.refl _ _
  have hD := h.drew
  refine y_take 0 tab_ok rfl (by kernel_rfl) (by kernel_rfl) (by kernel_rfl) rfl (by kernel_rfl) rfl hy rfl rfl rfl (rfl) ?_
  refine y_take 1 tab_ok rfl (by kernel_rfl) (by kernel_rfl) (by kernel_rfl) rfl (by kernel_rfl) rfl hy rfl rfl rfl (rfl) ?_
  refine y_take 2 tab_ok rfl (by kernel_rfl) (by kernel_rfl) (by kernel_rfl) rfl (by kernel_rfl) rfl hy rfl rfl rfl (rfl) ?_
  refine y_take 3 tab_ok rfl (by kernel_rfl) (by kernel_rfl) (by kernel_rfl) rfl (by kernel_rfl) rfl hy rfl rfl rfl (Exists.intro _ (And.intro (hD.r.cK0 (i := 4) rfl hold) rfl)) ?_
  refine y_take 4 tab_ok rfl (by kernel_rfl) (by kernel_rfl) (by kernel_rfl) rfl (by kernel_rfl) rfl hy rfl rfl rfl (rfl) ?_
  refine y_take 5 tab_ok rfl (by kernel_rfl) (by kernel_rfl) (by kernel_rfl) rfl (by kernel_rfl) rfl hy rfl rfl rfl (rfl) ?_
  refine y_take 6 tab_ok rfl (by kernel_rfl) (by kernel_rfl) (by kernel_rfl) rfl (by kernel_rfl) rfl hy rfl rfl rfl (rfl) ?_
  refine y_take 7 tab_ok rfl (by kernel_rfl) (by kernel_rfl) (by kernel_rfl) rfl (by kernel_rfl) rfl hy rfl rfl rfl (Exists.intro _ (And.intro (hD.r.cK2 (i := 4) rfl hold) rfl)) ?_
  refine y_take 8 tab_ok rfl (by kernel_rfl) (by kernel_rfl) (by kernel_rfl) rfl (by kernel_rfl) rfl hy rfl rfl rfl (rfl) ?_
  refine y_take 9 tab_ok rfl (by kernel_rfl) (by kernel_rfl) (by kernel_rfl) rfl (by kernel_rfl) rfl hy rfl rfl rfl (rfl) ?_
  refine y_one 10 (by kernel_rfl) (y_op 10 tab_ok rfl rfl rfl rfl ?_)
  have h1 := hD.box (T := 99) (k := 4) #[.int .i64 0, .int .i64 0, .int .i64 0, .int .i64 0] rfl
  have hy1 := hy.alloc (Nat.le_refl _) (.cells #[.int .i64 0, .int .i64 0, .int .i64 0, .int .i64 0] 99)
  refine And.intro (.inr hy1) ?_
  refine y_one 11 (by kernel_rfl) (y_op0 11 tab_ok rfl rfl rfl ?_)
  have ho := OwnB.new w.drew [.int .i64 0, .int .i64 0, .int .i64 0, .int .i64 0] 99
  refine And.intro rfl (And.intro rfl (And.intro (own_cells4 ho) ?_))
  have hb2 : RowKit.Below w.drew.heap.size w.drew ((w.drew.alloc (.cells #[.int .i64 0, .int .i64 0, .int .i64 0, .int .i64 0] 99)).setCells w.drew.heap.size 0 [.int .i64 ((gb p.bs old).first : Int), .int .i64 ((gb p.bs old).marked : Int), .int .i64 0, .int .i64 (old : Int)]) := below_of_grown hy1 (grown_sets _ _ _ _) (fun k hk => by
    simp only [Option.some.injEq] at hk; omega)
  refine And.intro (.inr hb2) (y_endx w.drew.heap.size (by kernel_rfl) ⟨rfl, rfl, rfl, rfl, rfl, rfl, rfl, trivial⟩ ?_)
  have ho2 := ho.sets (us := [.int .i64 ((gb p.bs old).first : Int), .int .i64 ((gb p.bs old).marked : Int), .int .i64 0, .int .i64 (old : Int)]) rfl
  have hg : w.drew.grownBy ((w.drew.alloc (.cells #[.int .i64 0, .int .i64 0, .int .i64 0, .int .i64 0] 99)).setCells w.drew.heap.size 0 [.int .i64 ((gb p.bs old).first : Int), .int .i64 ((gb p.bs old).marked : Int), .int .i64 0, .int .i64 (old : Int)]) none := grown_below hb2
  exact hD.new hg ⟨rfl, .inr ⟨_, 1, _, rfl, hD.s, ho2, Nat.le_refl _, by decide, rfl, rfl⟩⟩ (.inr ⟨_, rfl, Nat.le_refl _⟩)
variable {B : Nat} {x : Blk} {gbl cbl lbl : Nat}
set_option maxRecDepth 100000 in
theorem split_r9 (h : Hold base w0 w (bX B x :: (ptR b p ⟨vst, vpl, vbl, .slice (some ⟨gbs, 0, none⟩) lbs cbs, vcs, vml⟩ ++ rest))) (hold : old < p.bs.length) (hN : (gb p.bs old).first + x.size ≤ 1000000000) {Q : Exit → Act → World → Prop} {a : Act} {ops : Array Oper} {id : Nat} (hops : Sym.regionOf Try.f79.body 9 = some (id, ops))
    (hS : St Try.f79.ntmps a [(0, .pointer (some ⟨b, 0, none⟩)), (11, vml), (12, .int .i64 (n : Int)), (13, .int .i64 (k : Int)), (3, .int .i64 (old : Int)), (4, .pointer (some ⟨gbs, 0 + old * 4, none⟩)), (5, .pointer (some ⟨B, 0, none⟩))])
    (hq : ∀ a' w', St Try.f79.ntmps a' [(0, .pointer (some ⟨b, 0, none⟩)), (11, vml), (12, .int .i64 (n : Int)), (13, .int .i64 (k : Int)), (3, .int .i64 (old : Int)), (4, .pointer (some ⟨gbs, 0 + old * 4, none⟩)), (5, .pointer (some ⟨B, 0, none⟩))] → Hold base w0 w' (bX B x :: (ptR b { p with bs := p.bs.set old { gb p.bs old with first := (gb p.bs old).first + x.size } } ⟨vst, vpl, vbl, .slice (some ⟨gbs, 0, none⟩) lbs cbs, vcs, vml⟩ ++ rest)) → Q .normal a' w') : (Code.region id ops true).wp Try.prog Q a w := by
  cases hops
  refine any_cut 9 [(0, .pointer (some ⟨b, 0, none⟩)), (11, vml), (12, .int .i64 (n : Int)), (13, .int .i64 (k : Int)), (3, .int .i64 (old : Int)), (4, .pointer (some ⟨gbs, 0 + old * 4, none⟩)), (5, .pointer (some ⟨B, 0, none⟩))] (fun w' => Hold base w0 w' (bX B x :: (ptR b { p with bs := p.bs.set old { gb p.bs old with first := (gb p.bs old).first + x.size } } ⟨vst, vpl, vbl, .slice (some ⟨gbs, 0, none⟩) lbs cbs, vcs, vml⟩ ++ rest))) mixed hS ?_ hq
  have hy : RowKit.Below w.drew.heap.size w.drew w.drew := RowKit.Below.refl _ _
  have hD := h.drew
  refine y_take 0 tab_ok rfl (by kernel_rfl) (by kernel_rfl) (by kernel_rfl) rfl (by kernel_rfl) rfl hy rfl rfl rfl (rfl) ?_
  refine y_take 1 tab_ok rfl (by kernel_rfl) (by kernel_rfl) (by kernel_rfl) rfl (by kernel_rfl) rfl hy rfl rfl rfl (rfl) ?_
  refine y_take 2 tab_ok rfl (by kernel_rfl) (by kernel_rfl) (by kernel_rfl) rfl (by kernel_rfl) rfl hy rfl rfl rfl (rfl) ?_
  refine y_take 3 tab_ok rfl (by kernel_rfl) (by kernel_rfl) (by kernel_rfl) rfl (by kernel_rfl) rfl hy rfl rfl rfl (Exists.intro _ (And.intro (hD.r.cK0 (i := 5) rfl hold) rfl)) ?_
  refine y_take 4 tab_ok rfl (by kernel_rfl) (by kernel_rfl) (by kernel_rfl) rfl (by kernel_rfl) rfl hy rfl rfl rfl (rfl) ?_
  refine y_take 5 tab_ok rfl (by kernel_rfl) (by kernel_rfl) (by kernel_rfl) rfl (by kernel_rfl) rfl hy rfl rfl rfl (Exists.intro _ (And.intro (hD.r.xcell (i := 0) rfl (j := 1) rfl) rfl)) ?_
  refine y_take 6 tab_ok rfl (by kernel_rfl) (by kernel_rfl) (by kernel_rfl) rfl (by kernel_rfl) rfl hy rfl rfl rfl (Exists.intro _ (And.intro (i64_add _ _ (by omega)) rfl)) ?_
  refine y_take 7 tab_ok rfl (by kernel_rfl) (by kernel_rfl) (by kernel_rfl) rfl (by kernel_rfl) rfl hy rfl rfl rfl (rfl) ?_
  refine y_take 8 tab_ok rfl (by kernel_rfl) (by kernel_rfl) (by kernel_rfl) rfl (by kernel_rfl) rfl hy rfl rfl rfl (rfl) ?_
  refine y_one 9 (by kernel_rfl) (y_op0 9 tab_ok rfl rfl rfl ?_)
  refine And.intro rfl (And.intro rfl (And.intro ⟨_, hD.r.cK0 (i := 5) rfl hold⟩ (And.intro (hD.r.free (i := 5) rfl _) (And.intro (.inl (by kernel_rfl)) ?_))))
  exact y_end (by kernel_rfl) ⟨rfl, rfl, rfl, rfl, rfl, rfl, rfl, trivial⟩ (hD.storeK0 (i := 5) rfl old _)
set_option maxRecDepth 100000 in
theorem split_r10 (h : Hold base w0 w (bX B x :: (ptR b p ⟨vst, vpl, vbl, .slice (some ⟨gbs, 0, none⟩) lbs cbs, vcs, vml⟩ ++ rest))) (hold : old < p.bs.length) (hN : x.size ≤ (gb p.bs old).size) (hN2 : (gb p.bs old).size ≤ 1000000000) {Q : Exit → Act → World → Prop} {a : Act} {ops : Array Oper} {id : Nat} (hops : Sym.regionOf Try.f79.body 10 = some (id, ops))
    (hS : St Try.f79.ntmps a [(0, .pointer (some ⟨b, 0, none⟩)), (11, vml), (12, .int .i64 (n : Int)), (13, .int .i64 (k : Int)), (3, .int .i64 (old : Int)), (4, .pointer (some ⟨gbs, 0 + old * 4, none⟩)), (5, .pointer (some ⟨B, 0, none⟩))])
    (hq : ∀ a' w', St Try.f79.ntmps a' [(0, .pointer (some ⟨b, 0, none⟩)), (11, vml), (12, .int .i64 (n : Int)), (13, .int .i64 (k : Int)), (5, .pointer (some ⟨B, 0, none⟩))] → Hold base w0 w' (bX B x :: (ptR b { p with bs := p.bs.set old { gb p.bs old with size := (gb p.bs old).size - x.size } } ⟨vst, vpl, vbl, .slice (some ⟨gbs, 0, none⟩) lbs cbs, vcs, vml⟩ ++ rest)) → Q .normal a' w') : (Code.region id ops true).wp Try.prog Q a w := by
  cases hops
  refine any_cut 9 [(0, .pointer (some ⟨b, 0, none⟩)), (11, vml), (12, .int .i64 (n : Int)), (13, .int .i64 (k : Int)), (5, .pointer (some ⟨B, 0, none⟩))] (fun w' => Hold base w0 w' (bX B x :: (ptR b { p with bs := p.bs.set old { gb p.bs old with size := (gb p.bs old).size - x.size } } ⟨vst, vpl, vbl, .slice (some ⟨gbs, 0, none⟩) lbs cbs, vcs, vml⟩ ++ rest))) mixed hS ?_ hq
  have hy : RowKit.Below w.drew.heap.size w.drew w.drew := RowKit.Below.refl _ _
  have hD := h.drew
  refine y_take 0 tab_ok rfl (by kernel_rfl) (by kernel_rfl) (by kernel_rfl) rfl (by kernel_rfl) rfl hy rfl rfl rfl (rfl) ?_
  refine y_take 1 tab_ok rfl (by kernel_rfl) (by kernel_rfl) (by kernel_rfl) rfl (by kernel_rfl) rfl hy rfl rfl rfl (rfl) ?_
  refine y_take 2 tab_ok rfl (by kernel_rfl) (by kernel_rfl) (by kernel_rfl) rfl (by kernel_rfl) rfl hy rfl rfl rfl (rfl) ?_
  refine y_take 3 tab_ok rfl (by kernel_rfl) (by kernel_rfl) (by kernel_rfl) rfl (by kernel_rfl) rfl hy rfl rfl rfl (Exists.intro _ (And.intro (hD.r.cK1 (i := 5) rfl hold) rfl)) ?_
  refine y_take 4 tab_ok rfl (by kernel_rfl) (by kernel_rfl) (by kernel_rfl) rfl (by kernel_rfl) rfl hy rfl rfl rfl (rfl) ?_
  refine y_take 5 tab_ok rfl (by kernel_rfl) (by kernel_rfl) (by kernel_rfl) rfl (by kernel_rfl) rfl hy rfl rfl rfl (Exists.intro _ (And.intro (hD.r.xcell (i := 0) rfl (j := 1) rfl) rfl)) ?_
  refine y_take 6 tab_ok rfl (by kernel_rfl) (by kernel_rfl) (by kernel_rfl) rfl (by kernel_rfl) rfl hy rfl rfl rfl (Exists.intro _ (And.intro (i64_sub _ _ (by omega) (by omega)) rfl)) ?_
  refine y_take 7 tab_ok rfl (by kernel_rfl) (by kernel_rfl) (by kernel_rfl) rfl (by kernel_rfl) rfl hy rfl rfl rfl (rfl) ?_
  refine y_take 8 tab_ok rfl (by kernel_rfl) (by kernel_rfl) (by kernel_rfl) rfl (by kernel_rfl) rfl hy rfl rfl rfl (rfl) ?_
  refine y_one 9 (by kernel_rfl) (y_op0 9 tab_ok rfl rfl rfl ?_)
  refine And.intro rfl (And.intro rfl (And.intro ⟨_, hD.r.cK1 (i := 5) rfl hold⟩ (And.intro (hD.r.free (i := 5) rfl _) (And.intro (.inl (by kernel_rfl)) ?_))))
  exact y_end (by kernel_rfl) ⟨rfl, rfl, rfl, rfl, rfl, trivial⟩ (hD.storeK1 (i := 5) rfl old _)
set_option maxRecDepth 100000 in
theorem split_r14 {vm : Value} {m j t : Nat} (h : Hold base w0 w (bX B x :: (ptR b p ⟨vst, vpl, .slice (some ⟨gbl, 0, none⟩) lbl cbl, .slice (some ⟨gbs, 0, none⟩) lbs cbs, vcs, vml⟩ ++ rest))) (ht : t < p.bl.length) {Q : Exit → Act → World → Prop} {a : Act} {ops : Array Oper} {id : Nat} (hops : Sym.regionOf Try.f79.body 14 = some (id, ops))
    (hS : St Try.f79.ntmps a [(0, .pointer (some ⟨b, 0, none⟩)), (11, vml), (12, .int .i64 (n : Int)), (13, .int .i64 (k : Int)), (5, .pointer (some ⟨B, 0, none⟩)), (78, vm), (79, .int .i64 (m : Int)), (80, .int .i64 (j : Int)), (7, .int .i32 (t : Int))])
    (hq : ∀ a' w', St Try.f79.ntmps a' [(0, .pointer (some ⟨b, 0, none⟩)), (11, vml), (12, .int .i64 (n : Int)), (13, .int .i64 (k : Int)), (5, .pointer (some ⟨B, 0, none⟩)), (78, vm), (79, .int .i64 (m : Int)), (80, .int .i64 (j : Int))] → Hold base w0 w' (bX B x :: (ptR b { p with bl := p.bl.set t lbs } ⟨vst, vpl, .slice (some ⟨gbl, 0, none⟩) lbl cbl, .slice (some ⟨gbs, 0, none⟩) lbs cbs, vcs, vml⟩ ++ rest)) → Q .normal a' w') : (Code.region id ops true).wp Try.prog Q a w := by
  cases hops
  refine any_cut 11 [(0, .pointer (some ⟨b, 0, none⟩)), (11, vml), (12, .int .i64 (n : Int)), (13, .int .i64 (k : Int)), (5, .pointer (some ⟨B, 0, none⟩)), (78, vm), (79, .int .i64 (m : Int)), (80, .int .i64 (j : Int))] (fun w' => Hold base w0 w' (bX B x :: (ptR b { p with bl := p.bl.set t lbs } ⟨vst, vpl, .slice (some ⟨gbl, 0, none⟩) lbl cbl, .slice (some ⟨gbs, 0, none⟩) lbs cbs, vcs, vml⟩ ++ rest))) mixed hS ?_ hq
  have hy : RowKit.Below w.drew.heap.size w.drew w.drew := RowKit.Below.refl _ _
  have hD := h.drew
  refine y_take 0 tab_ok rfl (by kernel_rfl) (by kernel_rfl) (by kernel_rfl) rfl (by kernel_rfl) rfl hy rfl rfl rfl (rfl) ?_
  refine y_take 1 tab_ok rfl (by kernel_rfl) (by kernel_rfl) (by kernel_rfl) rfl (by kernel_rfl) rfl hy rfl rfl rfl (rfl) ?_
  refine y_take 2 tab_ok rfl (by kernel_rfl) (by kernel_rfl) (by kernel_rfl) rfl (by kernel_rfl) rfl hy rfl rfl rfl (rfl) ?_
  refine y_take 3 tab_ok rfl (by kernel_rfl) (by kernel_rfl) (by kernel_rfl) rfl (by kernel_rfl) rfl hy rfl rfl rfl (Exists.intro _ (And.intro (hD.r.xcell (i := 1) rfl (j := 2) rfl) rfl)) ?_
  refine y_take 4 tab_ok rfl (by kernel_rfl) (by kernel_rfl) (by kernel_rfl) rfl (by kernel_rfl) rfl hy rfl rfl rfl (rfl) ?_
  refine y_take 5 tab_ok rfl (by kernel_rfl) (by kernel_rfl) (by kernel_rfl) rfl (by kernel_rfl) rfl hy rfl rfl rfl (rfl) ?_
  refine y_take 6 tab_ok rfl (by kernel_rfl) (by kernel_rfl) (by kernel_rfl) rfl (by kernel_rfl) rfl hy rfl rfl rfl (rfl) ?_
  refine y_take 7 tab_ok rfl (by kernel_rfl) (by kernel_rfl) (by kernel_rfl) rfl (by kernel_rfl) rfl hy rfl rfl rfl (rfl) ?_
  refine y_take 8 tab_ok rfl (by kernel_rfl) (by kernel_rfl) (by kernel_rfl) rfl (by kernel_rfl) rfl hy rfl rfl rfl (Exists.intro _ (And.intro (hD.r.xcell (i := 1) rfl (j := 3) rfl) rfl)) ?_
  refine y_take 9 tab_ok rfl (by kernel_rfl) (by kernel_rfl) (by kernel_rfl) rfl (by kernel_rfl) rfl hy rfl rfl rfl (rfl) ?_
  refine y_take 10 tab_ok rfl (by kernel_rfl) (by kernel_rfl) (by kernel_rfl) rfl (by kernel_rfl) rfl hy rfl rfl rfl (Exists.intro _ (And.intro (rfl) (And.intro ((by rw [hD.r.lenV (i := 4) rfl]; exact ht)) rfl))) ?_
  refine y_one 11 (by kernel_rfl) (y_op0 11 tab_ok rfl rfl rfl ?_)
  refine And.intro rfl (And.intro rfl (And.intro ⟨_, hD.r.cN (i := 4) rfl ht⟩ (And.intro (hD.r.free (i := 4) rfl _) (And.intro (.inl (by kernel_rfl)) ?_))))
  exact y_end (by kernel_rfl) ⟨rfl, rfl, rfl, rfl, rfl, rfl, rfl, rfl, trivial⟩ (hD.storeN (i := 4) rfl t _)
theorem fill4 (a b c d : Value) (cs : Array Value) (hs : cs.size = 4) : Instr.fill (fun i => some (i * 4, 4)) (madeCells cs 4) [(0, .agg #[a, b, c, d])] = some #[a, b, c, d] := by
  have h : (Value.agg #[a, b, c, d]).cells = #[a, b, c, d] := rfl
  simp [Instr.fill, madeCells, h, hs, Array.range, Array.foldl]
  rfl
set_option maxRecDepth 100000 in
theorem split_r16 (h : Hold base w0 w (bX B x :: (ptR b p ⟨vst, vpl, vbl, .slice (some ⟨gbs, 0, none⟩) lbs cbs, vcs, vml⟩ ++ rest))) (hN : p.bs.length ≤ 1000000000) {Q : Exit → Act → World → Prop} {a : Act} {ops : Array Oper} {id : Nat} (hops : Sym.regionOf Try.f79.body 16 = some (id, ops))
    (hS : St Try.f79.ntmps a [(0, .pointer (some ⟨b, 0, none⟩)), (11, vml), (12, .int .i64 (n : Int)), (13, .int .i64 (k : Int)), (5, .pointer (some ⟨B, 0, none⟩))])
    (hq : ∀ vbs' a' w', St Try.f79.ntmps a' [(0, .pointer (some ⟨b, 0, none⟩)), (11, vml), (12, .int .i64 (n : Int)), (13, .int .i64 (k : Int))] → Hold base w0 w' (bX B x :: (ptR b { p with bs := p.bs ++ [x] } ⟨vst, vpl, vbl, vbs', vcs, vml⟩ ++ rest)) → Q .normal a' w') : (Code.region id ops true).wp Try.prog Q a w := by
  cases hops
  refine any_cutx (α := Value) 7 (fun _ => [(0, .pointer (some ⟨b, 0, none⟩)), (11, vml), (12, .int .i64 (n : Int)), (13, .int .i64 (k : Int))]) (fun vbs' w' => Hold base w0 w' (bX B x :: (ptR b { p with bs := p.bs ++ [x] } ⟨vst, vpl, vbl, vbs', vcs, vml⟩ ++ rest))) mixed hS ?_ hq
  have hy : RowKit.Below w.drew.heap.size w.drew w.drew := RowKit.Below.refl _ _
  have hD := h.drew
  refine y_free 0 tab_ok rfl (by kernel_rfl) (by kernel_rfl) (by kernel_rfl) rfl (.inr hy) rfl rfl rfl rfl ?_
  refine y_take 1 tab_ok rfl (by kernel_rfl) (by kernel_rfl) (by kernel_rfl) rfl (by kernel_rfl) rfl hy rfl rfl rfl (rfl) ?_
  refine y_take 2 tab_ok rfl (by kernel_rfl) (by kernel_rfl) (by kernel_rfl) rfl (by kernel_rfl) rfl hy rfl rfl rfl (rfl) ?_
  refine y_take 3 tab_ok rfl (by kernel_rfl) (by kernel_rfl) (by kernel_rfl) rfl (by kernel_rfl) rfl hy rfl rfl rfl (rfl) ?_
  refine y_take 4 tab_ok rfl (by kernel_rfl) (by kernel_rfl) (by kernel_rfl) rfl (by kernel_rfl) rfl hy rfl rfl rfl (Exists.intro _ (And.intro (hD.r.xcell (i := 1) rfl (j := 3) rfl) rfl)) ?_
  refine y_take 5 tab_ok rfl (by kernel_rfl) (by kernel_rfl) (by kernel_rfl) rfl (by kernel_rfl) rfl hy rfl rfl rfl (Exists.intro ([.int .i64 (x.first : Int), .int .i64 (x.size : Int), .int .i64 (x.marked : Int), .int .i64 (x.parent : Int)]) (And.intro rfl (And.intro (⟨hD.r.xcell (i := 0) rfl (j := 0) rfl, hD.r.xcell (i := 0) rfl (j := 1) rfl, hD.r.xcell (i := 0) rfl (j := 2) rfl, hD.r.xcell (i := 0) rfl (j := 3) rfl, trivial⟩) rfl))) ?_
  refine y_one 6 (by kernel_rfl) (y_op 6 tab_ok rfl rfl rfl rfl ?_)
  refine Exists.intro [(0, .agg #[.int .i64 (x.first : Int), .int .i64 (x.size : Int), .int .i64 (x.marked : Int), .int .i64 (x.parent : Int)])] (Exists.intro #[.int .i64 (x.first : Int), .int .i64 (x.size : Int), .int .i64 (x.marked : Int), .int .i64 (x.parent : Int)] (And.intro (And.intro rfl rfl) (And.intro (by decide) (And.intro (fill4 _ _ _ _ _ rfl) ?_))))
  have hy1 := hy.alloc (Nat.le_refl _) (.cells #[.int .i64 (x.first : Int), .int .i64 (x.size : Int), .int .i64 (x.marked : Int), .int .i64 (x.parent : Int)] 99)
  refine And.intro (.inr hy1) ?_
  have h1 := hD.alloc (.cells #[.int .i64 (x.first : Int), .int .i64 (x.size : Int), .int .i64 (x.marked : Int), .int .i64 (x.parent : Int)] 99)
  have ask : AppAsk (w.drew.alloc (.cells #[.int .i64 (x.first : Int), .int .i64 (x.size : Int), .int .i64 (x.marked : Int), .int .i64 (x.parent : Int)] 99)) ⟨99, .struct [(0, 3), (1, 3), (2, 3), (3, 3)], 4, 32, .agg #[.int .i64 0, .int .i64 0, .int .i64 0, .int .i64 0]⟩ (.slice (some ⟨gbs, 0, none⟩) lbs cbs) p.bs.length (blkCells p.bs) (.slice (some ⟨w.drew.heap.size, 0, none⟩) 1 1) 1 [.int .i64 (x.first : Int), .int .i64 (x.size : Int), .int .i64 (x.marked : Int), .int .i64 (x.parent : Int)] base :=
    ⟨h1.r.1 5 _ rfl, .inr ⟨_, 0, _, rfl, cell_alloc_new rfl, cell_alloc_new rfl, cell_alloc_new rfl, cell_alloc_new rfl, trivial⟩, rfl, (by simp [Value.oneCell']), (by omega), (by show (p.bs.length + 1) * 32 ≤ _; omega), h1.s⟩
  refine y_one 7 (by kernel_rfl) (y_op 7 tab_ok rfl rfl rfl rfl ?_)
  refine Exists.intro _ (Exists.intro _ (Exists.intro _ (Exists.intro _ (Exists.intro _ (And.intro (ask) (And.intro (fun _ h => h.symm) (And.intro (by decide) ?_)))))))
  rintro v' w2 hown hgr - hat
  refine And.intro (.inl (by kernel_rfl)) ?_
  have h2 := h1.appK (i := 5) rfl hown hgr hat
  obtain ⟨g2, n2, c2, hv⟩ := own_form hown
  subst hv
  refine y_free 8 tab_ok rfl (by kernel_rfl) (by kernel_rfl) (by kernel_rfl) rfl (.inl (by kernel_rfl)) rfl rfl rfl rfl ?_
  refine y_free 9 tab_ok rfl (by kernel_rfl) (by kernel_rfl) (by kernel_rfl) rfl (.inl (by kernel_rfl)) rfl rfl rfl rfl ?_
  refine y_one 10 (by kernel_rfl) (y_op0 10 tab_ok rfl rfl rfl ?_)
  refine And.intro rfl (And.intro rfl (And.intro ⟨_, h2.r.xcell (i := 1) rfl (j := 3) rfl⟩ (And.intro (h2.r.free (i := 1) rfl 3) (And.intro (.inl (by kernel_rfl)) ?_))))
  exact y_endx (.slice g2 n2 c2) (by kernel_rfl) ⟨rfl, rfl, rfl, rfl, trivial⟩ (h2.xstore (i := 1) rfl 3 (.slice g2 n2 c2))
end
theorem splitOne_same (q : Pt) (old : Nat) : (q.splitOne old).ml = q.ml ∧ (q.splitOne old).cs = q.cs ∧ (q.splitOne old).st = q.st ∧ (q.splitOne old).pl = q.pl := by
  by_cases h : (gb q.bs old).marked = (gb q.bs old).size
  · simp only [Pt.splitOne, if_pos h, and_self]
  · simp only [Pt.splitOne, if_neg h, and_self]
theorem fold_same : ∀ (l : List Nat) (q : Pt), (l.foldl Pt.splitOne q).ml = q.ml ∧ (l.foldl Pt.splitOne q).cs = q.cs ∧ (l.foldl Pt.splitOne q).st = q.st ∧ (l.foldl Pt.splitOne q).pl = q.pl
  | [], q => ⟨rfl, rfl, rfl, rfl⟩
  | o :: r, q => by
    have h1 := fold_same r (q.splitOne o)
    have h2 := splitOne_same q o
    exact ⟨h1.1.trans h2.1, h1.2.1.trans h2.2.1, h1.2.2.1.trans h2.2.2.1, h1.2.2.2.trans h2.2.2.2⟩
theorem decide_nat (a b : Nat) : decide ((a : Int) = (b : Int)) = decide (a = b) := by
  rw [Bool.eq_iff_iff]; simp; omega
theorem ge_nat (a b : Nat) : decide ((b : Int) ≤ (a : Int)) = decide (b ≤ a) := by
  rw [Bool.eq_iff_iff]; simp
theorem lt_nat (a b : Nat) : decide ((a : Int) < (b : Int)) = decide (a < b) := by
  rw [Bool.eq_iff_iff]; simp
section
variable {base : Nat} {w0 w : World} {b : Nat} {p : Pt} {N s : Nat} {rest : List Ow}
def SplitF (base : Nat) (w0 : World) (b : Nat) (vml : Value) (n k : Nat) (q : Pt) (rest : List Ow) (a : Act) (w : World) : Prop :=
  ∃ vst vpl vbl vbs vcs, St Try.f79.ntmps a [(0, .pointer (some ⟨b, 0, none⟩)), (11, vml), (12, .int .i64 (n : Int)), (13, .int .i64 (k : Int))] ∧ Hold base w0 w (ptR b q ⟨vst, vpl, vbl, vbs, vcs, vml⟩ ++ rest)
set_option maxRecDepth 100000 in
theorem split_any (h : HoldP base w0 w b p rest) (hp : PI p N p.ml) (hlow : p.low ≤ p.bs.length) (hcs : 0 < p.cs.length) (hcl : p.cs.length ≤ 100000000) (hN : N ≤ 100000000) :
    Calls Try.prog 79 #[.pointer (some ⟨b, 0, none⟩)] w fun e w' => e = .returned (.tuple #[]) ∧ HoldP base w0 w' b p.split rest := by
  obtain ⟨⟨vst, vpl, vbl, vbs, vcs, vml⟩, h⟩ := h
  refine Sym.enter (args := [.pointer (some ⟨b, 0, none⟩)]) Try.func79 rfl rfl rfl (fun a0 hS0 => ?_)
  obtain ⟨gml, cml, rfl, hcml⟩ := h.r.any (i := 6) rfl
  obtain ⟨vml, hvml⟩ : ∃ v, v = Value.slice gml p.ml.length cml := ⟨_, rfl⟩
  obtain ⟨n, hn⟩ : ∃ n, n = p.ml.length := ⟨_, rfl⟩
  refine wp_seq (wp_seq (seq_cut [(0, .pointer (some ⟨b, 0, none⟩)), (11, vml), (12, .int .i64 (n : Int)), (13, .int .i64 ((0 : Nat) : Int))] (· = w) tab_ok hS0 ?_ (fun a w1 hS hw => ?_)))
  · subst hvml; subst hn
    repeat (first | refine o_pure rfl rfl rfl (fun _ => rfl) ?_ | refine o_skip rfl rfl rfl ?_)
    refine o_load rfl rfl rfl (fun _ => rfl) (h.r.xcell (i := 0) rfl (j := 5) rfl) ?_
    repeat (first | refine o_pure rfl rfl rfl (fun _ => rfl) ?_ | refine o_skip rfl rfl rfl ?_)
    exact o_nil ⟨⟨rfl, rfl, rfl, rfl, trivial⟩, rfl⟩
  subst hw
  rw [← hvml] at h
  refine wp_block (loop0 hS (fun g E w' => ∃ (k : Nat) (V : PV), k ≤ n ∧ g = n - k ∧ E = [(0, .pointer (some ⟨b, 0, none⟩)), (11, vml), (12, .int .i64 (n : Int)), (13, .int .i64 (k : Int))] ∧ PI ((p.ml.take k).foldl Pt.splitOne p) N (p.ml.drop k) ∧ PH p ((p.ml.take k).foldl Pt.splitOne p) N ∧ V.ml = vml ∧ Hold base w0 w' (ptR b ((p.ml.take k).foldl Pt.splitOne p) V ++ rest)) n
    ⟨0, _, by omega, by omega, rfl, by simpa using hp, PH.refl _ _, rfl, h⟩ ?_)
  rintro g E w2 a ⟨k, ⟨vst, vpl, vbl, vbs, vcs, vml'⟩, hk, rfl, rfl, hPI, hPH, hml, h⟩ hS
  simp only at hml
  subst hml
  refine wp_seq (seq_cut [(0, .pointer (some ⟨b, 0, none⟩)), (11, vml'), (12, .int .i64 (n : Int)), (13, .int .i64 (k : Int)), (14, .bool (decide (k < n)))] (· = w2) tab_ok hS ?_ (fun a w3 hS hw => ?_))
  · repeat (first | refine o_pure rfl rfl rfl (fun _ => rfl) ?_ | refine o_skip rfl rfl rfl ?_)
    refine o_cmp rfl rfl rfl (fun _ => rfl) (lt_nat _ _) ?_
    repeat (first | refine o_pure rfl rfl rfl (fun _ => rfl) ?_ | refine o_skip rfl rfl rfl ?_)
    exact o_nil ⟨⟨rfl, rfl, rfl, rfl, rfl, trivial⟩, rfl⟩
  subst hw
  refine wp_seq (cond hS rfl (fun hT => ?_) (fun hF => ?_))
  rotate_left
  · have hkn : k = n := by have := of_decide_eq_false hF; omega
    subst hkn
    subst hn
    rw [List.take_length] at hPI hPH h
    refine wp_exit ?_
    repeat (first | refine then_exit ?_ | refine block_exit ?_ | refine block_other rfl ?_)
    obtain ⟨f1, f2, f3, f4⟩ := fold_same p.ml p
    subst hvml
    refine seq_cut [] (fun w4 => HoldP base w0 w4 b p.split rest) tab_ok hS ?_ (fun a w4 hS hw => ret0 hS rfl ⟨rfl, hw⟩)
    repeat (first | refine o_pure rfl rfl rfl (fun _ => rfl) ?_ | refine o_skip rfl rfl rfl ?_)
    refine o_load rfl rfl rfl (fun _ => rfl) (h.r.xcell (i := 0) rfl (j := 5) rfl) ?_
    refine o_step rfl rfl rfl (Exists.intro 0 (Exists.intro 0 (And.intro rfl (And.intro ⟨_, _, rfl, rfl⟩ (And.intro (Nat.le_refl _) (And.intro (Nat.zero_le _) (And.intro hcml.1 ?_)))))))
    obtain ⟨u, hu⟩ : ∃ u, u = (Value.slice (if cml = 0 then gml else gml.map (·.add (0 * 1))) (0 - 0) (cml - 0)) := ⟨_, rfl⟩
    have hrow : w3.ownsRow base 3 1 u 0 [] ∧ u.ownBlock = (Value.slice gml p.ml.length cml).ownBlock := by
      have hr := h.r.1 6 _ rfl
      have hu2 : u = .slice gml 0 cml := by
        rw [hu]
        split
        · rename_i e; subst e; rfl
        · cases gml <;> simp [Addr.add]
      rw [hu2]
      rcases hr.2 with ⟨e1, e2⟩ | ⟨g', cap, cur, e1, e2, e3, e4, e5, e6, _⟩
      · simp only [Value.slice.injEq] at e1
        obtain ⟨rfl, _, rfl⟩ := e1
        exact ⟨⟨rfl, .inl ⟨rfl, rfl⟩⟩, rfl⟩
      · simp only [Value.slice.injEq] at e1
        obtain ⟨rfl, _, rfl⟩ := e1
        exact ⟨⟨rfl, .inr ⟨g', cml, cur, rfl, e2, e3, Nat.zero_le _, e5, e6, by simp⟩⟩, rfl⟩
    have hg : w3.grownBy w3 (Value.slice gml p.ml.length cml).ownBlock := ⟨rfl, rfl, rfl, Nat.le_refl _, fun _ _ _ => rfl⟩
    have h4 : Hold base w0 w3 ((ptR b (p.ml.foldl Pt.splitOne p) ⟨vst, vpl, vbl, vbs, vcs, Value.slice gml p.ml.length cml⟩ ++ rest).set 6 ⟨u, 3, 1, 0, []⟩) :=
      ⟨h.r.turn (i := 6) rfl hg hrow.1 (.inl hrow.2), h.b, h.s⟩
    clear hrow
    refine cast (congrArg (fun v => opsK _ _ _ _ _ _ ((112, v) :: _) _) hu) ?_
    have hun : ∃ g m c, u = .slice g m c := ⟨_, _, _, hu⟩
    clear hu
    obtain ⟨gu, mu, cu, rfl⟩ := hun
    repeat (first | refine o_pure rfl rfl rfl (fun _ => rfl) ?_ | refine o_skip rfl rfl rfl ?_)
    refine o_store rfl rfl (fun _ => rfl) rfl rfl (h4.r.xcell (i := 0) rfl (j := 5) rfl) (h4.r.free (i := 0) rfl 5) ?_
    exact o_nil ⟨trivial, ⟨vst, vpl, vbl, vbs, vcs, Value.slice gu mu cu⟩, h4.xstore (i := 0) rfl 5 (Value.slice gu mu cu)⟩
  have hkn : k < n := of_decide_eq_true hT
  refine wp_skip ?_
  obtain ⟨q, hq⟩ : ∃ q, q = (p.ml.take k).foldl Pt.splitOne p := ⟨_, rfl⟩
  rw [← hq] at hPI hPH h
  have hsame := fold_same (p.ml.take k) p
  rw [← hq] at hsame
  obtain ⟨f1, f2, f3, f4⟩ := hsame
  have hkl : k < p.ml.length := by omega
  obtain ⟨old, hold⟩ : ∃ old, old = p.ml[k] := ⟨_, rfl⟩
  have hgo : gt q.ml k = old := by rw [f1, hold]; simp [gt, List.getD_eq_getElem?_getD, hkl]
  rw [List.drop_eq_getElem_cons hkl, ← hold] at hPI
  have hob := ((hPI.tm old).1 (by simp)).1
  have hbd := hPI.bd old hob
  have hml0 := ((hPI.tm old).1 (by simp)).2
  have hfew := hPI.few
  have hN0 : 0 < N := by omega
  have hl1 := hPI.st
  have hl3 := hPI.bl
  have hqlow : q.low ≤ q.bs.length := by
    have : q.low = p.low := by unfold Pt.low; rw [f2]
    rw [this]; exact Nat.le_trans hlow hPH.len
  obtain ⟨gm, cm, rfl, -⟩ := h.r.nilOr (i := 6) rfl (by rw [f1]; omega)
  obtain ⟨gbs, cbs, rfl, -⟩ := h.r.nilOr (i := 4) rfl (by omega)
  obtain ⟨gbl, cbl, rfl, -⟩ := h.r.nilOr (i := 3) rfl (by omega)
  obtain ⟨gst, cst, rfl, hcst⟩ := h.r.nilOr (i := 1) rfl (by omega)
  obtain ⟨gcs, ccs, rfl, -⟩ := h.r.nilOr (i := 5) rfl (by rw [f2]; omega)
  obtain ⟨vml, hvm⟩ : ∃ v, v = Value.slice (some ⟨gm, 0, none⟩) q.ml.length cm := ⟨_, rfl⟩
  refine wp_seq (cut (F := SplitF base w0 b (Value.slice (some ⟨gm, 0, none⟩) q.ml.length cm) n k (q.splitOne old) rest) ?_ ?_)
  · refine wp_block (wp_seq (seq_cut [(0, .pointer (some ⟨b, 0, none⟩)), (11, Value.slice (some ⟨gm, 0, none⟩) q.ml.length cm), (12, .int .i64 (n : Int)), (13, .int .i64 (k : Int)), (3, .int .i64 (old : Int))] (· = w3) tab_ok hS ?_ (fun a w4 hS hw => ?_)))
    · have hc := h.r.cN (i := 6) rfl (j := k) (by rw [f1]; omega)
      rw [hgo] at hc
      repeat (first | refine o_pure rfl rfl rfl (fun _ => rfl) ?_ | refine o_skip rfl rfl rfl ?_)
      refine o_ix rfl rfl rfl (fun _ => rfl) (rfl) ((by rw [f1]; omega)) ?_
      refine o_load rfl rfl rfl (fun _ => rfl) (hc) ?_
      repeat (first | refine o_pure rfl rfl rfl (fun _ => rfl) ?_ | refine o_skip rfl rfl rfl ?_)
      exact o_nil ⟨⟨rfl, rfl, rfl, rfl, rfl, trivial⟩, rfl⟩
    subst hw
    rw [← hvm] at h hS ⊢
    refine wp_seq (seq_cut [(0, .pointer (some ⟨b, 0, none⟩)), (11, vml), (12, .int .i64 (n : Int)), (13, .int .i64 (k : Int)), (3, .int .i64 (old : Int)), (4, .pointer (some ⟨gbs, 0 + old * 4, none⟩))] (· = w4) tab_ok hS ?_ (fun a w5 hS hw => ?_))
    · repeat (first | refine o_pure rfl rfl rfl (fun _ => rfl) ?_ | refine o_skip rfl rfl rfl ?_)
      refine o_load rfl rfl rfl (fun _ => rfl) (h.r.xcell (i := 0) rfl (j := 3) rfl) ?_
      repeat (first | refine o_pure rfl rfl rfl (fun _ => rfl) ?_ | refine o_skip rfl rfl rfl ?_)
      refine o_ix rfl rfl rfl (fun _ => rfl) (rfl) (hob) ?_
      repeat (first | refine o_pure rfl rfl rfl (fun _ => rfl) ?_ | refine o_skip rfl rfl rfl ?_)
      exact o_nil ⟨⟨rfl, rfl, rfl, rfl, rfl, rfl, trivial⟩, rfl⟩
    subst hw
    refine wp_seq (split_r4 h hob (by rfl) hS (fun B a w6 hS h => ?_))
    refine wp_seq (seq_cut [(0, .pointer (some ⟨b, 0, none⟩)), (11, vml), (12, .int .i64 (n : Int)), (13, .int .i64 (k : Int)), (3, .int .i64 (old : Int)), (4, .pointer (some ⟨gbs, 0 + old * 4, none⟩)), (5, .pointer (some ⟨B, 0, none⟩))] (fun w7 => Hold base w0 w7 (bX B ⟨(gb q.bs old).first, (gb q.bs old).marked, 0, old⟩ :: (ptR b { q with bs := q.bs.set old { gb q.bs old with marked := 0 } } ⟨.slice (some ⟨gst, 0, none⟩) q.st.length cst, vpl, .slice (some ⟨gbl, 0, none⟩) q.bl.length cbl, .slice (some ⟨gbs, 0, none⟩) q.bs.length cbs, .slice (some ⟨gcs, 0, none⟩) q.cs.length ccs, vml⟩ ++ rest))) tab_ok hS ?_ (fun a w7 hS h => ?_))
    · repeat (first | refine o_pure rfl rfl rfl (fun _ => rfl) ?_ | refine o_skip rfl rfl rfl ?_)
      refine o_store rfl rfl (fun _ => rfl) rfl rfl (h.r.cK2 (i := 5) rfl hob) (h.r.free (i := 5) rfl _) ?_
      exact o_nil ⟨⟨rfl, rfl, rfl, rfl, rfl, rfl, rfl, trivial⟩, h.storeK2 (i := 5) rfl old 0⟩
    have gself : ∀ x, gb (q.bs.set old x) old = x := fun x => by rw [gb_set, if_pos ⟨rfl, hob⟩]
    have hob' : ∀ x : Blk, old < (q.bs.set old x).length := fun x => by rw [List.length_set]; exact hob
    refine wp_seq (wp_seq (quiet_cut [(0, .pointer (some ⟨b, 0, none⟩)), (11, vml), (12, .int .i64 (n : Int)), (13, .int .i64 (k : Int)), (3, .int .i64 (old : Int)), (4, .pointer (some ⟨gbs, 0 + old * 4, none⟩)), (5, .pointer (some ⟨B, 0, none⟩)), (42, .bool (decide ((gb q.bs old).marked = (gb q.bs old).size)))] tab_ok mixed (by kernel_rfl) hS ?_ (fun a w8 hS hw => ?_)))
    · have hcmp : decide (((gb q.bs old).marked : Int) = (((gb (q.bs.set old { gb q.bs old with marked := 0 }) old).size : Nat) : Int)) = decide ((gb q.bs old).marked = (gb q.bs old).size) := by rw [gself]; exact decide_nat _ _
      repeat (first | refine q_pure rfl rfl rfl (fun _ => rfl) ?_ | refine q_skip rfl rfl rfl ?_)
      refine q_load rfl rfl rfl (fun _ => rfl) (h.r.xcell (i := 0) rfl (j := 1) rfl) ?_
      repeat (first | refine q_pure rfl rfl rfl (fun _ => rfl) ?_ | refine q_skip rfl rfl rfl ?_)
      refine q_load rfl rfl rfl (fun _ => rfl) (h.r.cK1 (i := 5) rfl (hob' _)) ?_
      refine q_cmp rfl rfl rfl (fun _ => rfl) (hcmp) ?_
      repeat (first | refine q_pure rfl rfl rfl (fun _ => rfl) ?_ | refine q_skip rfl rfl rfl ?_)
      exact q_nil ⟨rfl, rfl, rfl, rfl, rfl, rfl, rfl, rfl, trivial⟩
    replace h := h.below hw
    clear hw
    refine cond hS rfl (fun hT => ?_) (fun hF => ?_)
    · have hall := of_decide_eq_true hT
      refine wp_exit ?_
      repeat (first | refine then_exit ?_ | refine block_exit ?_ | refine block_other rfl ?_)
      have e : q.splitOne old = { q with bs := q.bs.set old { gb q.bs old with marked := 0 } } := by simp only [Pt.splitOne, if_pos hall]
      show SplitF base w0 b vml n k (q.splitOne old) rest a w8
      rw [e]
      exact ⟨_, _, _, _, _, hS.sub ⟨rfl, rfl, rfl, rfl, trivial⟩, h.tail⟩
    have hne := of_decide_eq_false hF
    refine wp_skip ?_
    obtain ⟨par, hpar⟩ : ∃ par, (if q.low ≤ old then (gb q.bs old).parent else old) = par := ⟨_, rfl⟩
    have hlowc : q.cs.length - 1 < q.cs.length := by rw [f2]; omega
    refine wp_seq (cut (F := fun a' w' => St Try.f79.ntmps a' [(0, .pointer (some ⟨b, 0, none⟩)), (11, vml), (12, .int .i64 (n : Int)), (13, .int .i64 (k : Int)), (3, .int .i64 (old : Int)), (4, .pointer (some ⟨gbs, 0 + old * 4, none⟩)), (5, .pointer (some ⟨B, 0, none⟩))] ∧ Hold base w0 w' (bX B ⟨(gb q.bs old).first, (gb q.bs old).marked, 0, par⟩ :: (ptR b { q with bs := q.bs.set old { gb q.bs old with marked := 0 } } ⟨.slice (some ⟨gst, 0, none⟩) q.st.length cst, vpl, .slice (some ⟨gbl, 0, none⟩) q.bl.length cbl, .slice (some ⟨gbs, 0, none⟩) q.bs.length cbs, .slice (some ⟨gcs, 0, none⟩) q.cs.length ccs, vml⟩ ++ rest))) ?_ ?_)
    · refine wp_seq (quiet_cut [(0, .pointer (some ⟨b, 0, none⟩)), (11, vml), (12, .int .i64 (n : Int)), (13, .int .i64 (k : Int)), (3, .int .i64 (old : Int)), (4, .pointer (some ⟨gbs, 0 + old * 4, none⟩)), (5, .pointer (some ⟨B, 0, none⟩)), (52, .bool (decide (q.low ≤ old)))] tab_ok mixed (by kernel_rfl) hS ?_ (fun a w9 hS hw => ?_))
      · repeat (first | refine q_pure rfl rfl rfl (fun _ => rfl) ?_ | refine q_skip rfl rfl rfl ?_)
        refine q_load rfl rfl rfl (fun _ => rfl) (h.r.xcell (i := 1) rfl (j := 4) rfl) ?_
        repeat (first | refine q_pure rfl rfl rfl (fun _ => rfl) ?_ | refine q_skip rfl rfl rfl ?_)
        refine q_call (v := .int .i64 ((q.cs.length - 1 : Nat) : Int)) rfl rfl rfl (fun _ => rfl) (en_round) (fun w1 h1 => round_any (p := { q with bs := q.bs.set old { gb q.bs old with marked := 0 } }) (h.below h1).tail (by show 0 < q.cs.length; omega) (by show q.cs.length ≤ _; rw [f2]; omega)) ?_
        repeat (first | refine q_pure rfl rfl rfl (fun _ => rfl) ?_ | refine q_skip rfl rfl rfl ?_)
        refine q_ix rfl rfl rfl (fun _ => rfl) (rfl) (hlowc) ?_
        refine q_load rfl rfl rfl (fun _ => rfl) (h.r.cN (i := 6) rfl hlowc) ?_
        refine q_cmp rfl rfl rfl (fun _ => rfl) (ge_nat _ _) ?_
        repeat (first | refine q_pure rfl rfl rfl (fun _ => rfl) ?_ | refine q_skip rfl rfl rfl ?_)
        exact q_nil ⟨rfl, rfl, rfl, rfl, rfl, rfl, rfl, rfl, trivial⟩
      replace h := h.below hw
      refine cond hS rfl (fun hT => ?_) (fun hF => ?_)
      · rw [if_pos (of_decide_eq_true hT)] at hpar
        refine seq_cut [(0, .pointer (some ⟨b, 0, none⟩)), (11, vml), (12, .int .i64 (n : Int)), (13, .int .i64 (k : Int)), (3, .int .i64 (old : Int)), (4, .pointer (some ⟨gbs, 0 + old * 4, none⟩)), (5, .pointer (some ⟨B, 0, none⟩))] (fun w' => Hold base w0 w' (bX B ⟨(gb q.bs old).first, (gb q.bs old).marked, 0, par⟩ :: (ptR b { q with bs := q.bs.set old { gb q.bs old with marked := 0 } } ⟨.slice (some ⟨gst, 0, none⟩) q.st.length cst, vpl, .slice (some ⟨gbl, 0, none⟩) q.bl.length cbl, .slice (some ⟨gbs, 0, none⟩) q.bs.length cbs, .slice (some ⟨gcs, 0, none⟩) q.cs.length ccs, vml⟩ ++ rest))) tab_ok hS ?_ (fun a' w' hS h => ⟨hS, h⟩)
        have hc := h.r.cK3 (i := 5) rfl (hob' _)
        dsimp only at hc
        rw [gself] at hc
        simp only [hpar] at hc
        repeat (first | refine o_pure rfl rfl rfl (fun _ => rfl) ?_ | refine o_skip rfl rfl rfl ?_)
        refine o_load rfl rfl rfl (fun _ => rfl) (hc) ?_
        repeat (first | refine o_pure rfl rfl rfl (fun _ => rfl) ?_ | refine o_skip rfl rfl rfl ?_)
        refine o_store rfl rfl (fun _ => rfl) rfl rfl (h.r.xcell (i := 0) rfl (j := 3) rfl) (h.r.free (i := 0) rfl 3) ?_
        exact o_nil ⟨⟨rfl, rfl, rfl, rfl, rfl, rfl, rfl, trivial⟩, h.xstore (i := 0) rfl 3 (.int .i64 (par : Int))⟩
      · rw [if_neg (of_decide_eq_false hF)] at hpar
        subst hpar
        exact wp_skip ⟨hS.sub ⟨rfl, rfl, rfl, rfl, rfl, rfl, rfl, trivial⟩, h⟩
    clear h hS
    rintro a w9 ⟨hS, h⟩
    refine wp_seq (split_r9 h (by simpa using hob) (by simp only [gb_set, hob, and_self, if_true]; omega) (by rfl) hS (fun a w10 hS h => ?_))
    refine wp_seq (split_r10 h (by simpa using hob) (by simp only [gb_set, List.length_set, hob, and_self, if_true]; omega) (by simp only [gb_set, List.length_set, hob, and_self, if_true]; omega) (by rfl) hS (fun a w11 hS h => ?_))
    have hbs2 : ((q.bs.set old { gb q.bs old with marked := 0 }).set old { gb (q.bs.set old { gb q.bs old with marked := 0 }) old with first := (gb (q.bs.set old { gb q.bs old with marked := 0 }) old).first + (gb q.bs old).marked }).set old { gb ((q.bs.set old { gb q.bs old with marked := 0 }).set old { gb (q.bs.set old { gb q.bs old with marked := 0 }) old with first := (gb (q.bs.set old { gb q.bs old with marked := 0 }) old).first + (gb q.bs old).marked }) old with size := (gb ((q.bs.set old { gb q.bs old with marked := 0 }).set old { gb (q.bs.set old { gb q.bs old with marked := 0 }) old with first := (gb (q.bs.set old { gb q.bs old with marked := 0 }) old).first + (gb q.bs old).marked }) old).size - (gb q.bs old).marked } =
        q.bs.set old ⟨(gb q.bs old).first + (gb q.bs old).marked, (gb q.bs old).size - (gb q.bs old).marked, 0, (gb q.bs old).parent⟩ := by
      simp only [List.set_set, gself]
    obtain ⟨bs2, hbs2'⟩ : ∃ bs2, bs2 = q.bs.set old ⟨(gb q.bs old).first + (gb q.bs old).marked, (gb q.bs old).size - (gb q.bs old).marked, 0, (gb q.bs old).parent⟩ := ⟨_, rfl⟩
    have hlen2 : bs2.length = q.bs.length := by rw [hbs2', List.length_set]
    have h2 : Hold base w0 w11 (bX B ⟨(gb q.bs old).first, (gb q.bs old).marked, 0, par⟩ :: (ptR b { q with bs := bs2 } ⟨.slice (some ⟨gst, 0, none⟩) q.st.length cst, vpl, .slice (some ⟨gbl, 0, none⟩) q.bl.length cbl, .slice (some ⟨gbs, 0, none⟩) q.bs.length cbs, .slice (some ⟨gcs, 0, none⟩) q.cs.length ccs, vml⟩ ++ rest)) := by
      rw [hbs2', ← hbs2]
      exact h
    clear h hbs2
    have h := h2
    clear h2
    obtain ⟨m, hm⟩ : ∃ m, m = (gb q.bs old).marked := ⟨_, rfl⟩
    obtain ⟨fs, hfs⟩ : ∃ fs, fs = (gb q.bs old).first := ⟨_, rfl⟩
    rw [← hm, ← hfs] at h
    rw [← hm, ← hfs] at hbd
    rw [← hm] at hml0 hne
    obtain ⟨vm, hvmm⟩ : ∃ v, v = Value.slice (some ⟨gst, fs, none⟩) m (cst - fs) := ⟨_, rfl⟩
    refine wp_seq (wp_seq (seq_cut [(0, .pointer (some ⟨b, 0, none⟩)), (11, vml), (12, .int .i64 (n : Int)), (13, .int .i64 (k : Int)), (5, .pointer (some ⟨B, 0, none⟩)), (78, vm), (79, .int .i64 (m : Int)), (80, .int .i64 ((0 : Nat) : Int))] (fun w' => Hold base w0 w' (bX B ⟨fs, m, 0, par⟩ :: (ptR b { q with bs := bs2 } ⟨.slice (some ⟨gst, 0, none⟩) q.st.length cst, vpl, .slice (some ⟨gbl, 0, none⟩) q.bl.length cbl, .slice (some ⟨gbs, 0, none⟩) q.bs.length cbs, .slice (some ⟨gcs, 0, none⟩) q.cs.length ccs, vml⟩ ++ rest))) tab_ok hS ?_ (fun a w12 hS h => ?_)))
    · repeat (first | refine o_pure rfl rfl rfl (fun _ => rfl) ?_ | refine o_skip rfl rfl rfl ?_)
      refine o_loads (vs := [.int .i64 (fs : Int), .int .i64 (m : Int), .int .i64 ((0 : Nat) : Int), .int .i64 (par : Int)]) rfl rfl rfl (fun _ => rfl) rfl (⟨h.r.xcell (i := 0) rfl (j := 0) rfl, h.r.xcell (i := 0) rfl (j := 1) rfl, h.r.xcell (i := 0) rfl (j := 2) rfl, h.r.xcell (i := 0) rfl (j := 3) rfl, trivial⟩) ?_
      refine o_call rfl rfl rfl (fun _ => rfl) (en_members) (members_any (p := { q with bs := bs2 }) h.tail (k := m) (by omega) (by dsimp only; omega) (by dsimp only; omega)) ?_
      rintro e w13 ⟨rfl, hw⟩
      refine ⟨_, rfl, ?_⟩
      repeat (first | refine o_pure rfl rfl rfl (fun _ => rfl) ?_ | refine o_skip rfl rfl rfl ?_)
      subst hvmm
      exact o_nil ⟨⟨rfl, rfl, rfl, rfl, rfl, rfl, rfl, rfl, trivial⟩, h.below hw⟩
    have hlb : q.bs.length = bs2.length := hlen2.symm
    refine wp_block (loop0 hS (fun g E w' => ∃ j : Nat, j ≤ m ∧ g = m - j ∧ E = [(0, .pointer (some ⟨b, 0, none⟩)), (11, vml), (12, .int .i64 (n : Int)), (13, .int .i64 (k : Int)), (5, .pointer (some ⟨B, 0, none⟩)), (78, vm), (79, .int .i64 (m : Int)), (80, .int .i64 (j : Int))] ∧ Hold base w0 w' (bX B ⟨fs, m, 0, par⟩ :: (ptR b { q with bs := bs2, bl := relabel q.st q.bs.length q.bl fs j } ⟨.slice (some ⟨gst, 0, none⟩) q.st.length cst, vpl, .slice (some ⟨gbl, 0, none⟩) q.bl.length cbl, .slice (some ⟨gbs, 0, none⟩) q.bs.length cbs, .slice (some ⟨gcs, 0, none⟩) q.cs.length ccs, vml⟩ ++ rest))) m
      ⟨0, by omega, by omega, rfl, h⟩ ?_)
    clear h hS
    rintro g E w13 a ⟨j, hj, rfl, rfl, h⟩ hS
    refine wp_seq (seq_cut [(0, .pointer (some ⟨b, 0, none⟩)), (11, vml), (12, .int .i64 (n : Int)), (13, .int .i64 (k : Int)), (5, .pointer (some ⟨B, 0, none⟩)), (78, vm), (79, .int .i64 (m : Int)), (80, .int .i64 (j : Int)), (81, .bool (decide (j < m)))] (· = w13) tab_ok hS ?_ (fun a w14 hS hw => ?_))
    · repeat (first | refine o_pure rfl rfl rfl (fun _ => rfl) ?_ | refine o_skip rfl rfl rfl ?_)
      refine o_cmp rfl rfl rfl (fun _ => rfl) (lt_nat _ _) ?_
      repeat (first | refine o_pure rfl rfl rfl (fun _ => rfl) ?_ | refine o_skip rfl rfl rfl ?_)
      exact o_nil ⟨⟨rfl, rfl, rfl, rfl, rfl, rfl, rfl, rfl, rfl, trivial⟩, rfl⟩
    subst hw
    refine wp_seq (cond hS rfl (fun hT => wp_skip ?_) (fun hF => ?_))
    rotate_left
    · have hjm : j = m := by have := of_decide_eq_false hF; omega
      subst hjm
      refine wp_exit ?_
      repeat (first | refine then_exit ?_ | refine block_exit ?_ | refine block_other rfl ?_)
      refine split_r16 h (by dsimp only; omega) (by rfl) (hS.sub ⟨rfl, rfl, rfl, rfl, rfl, trivial⟩) (fun vbs' a w15 hS h => ?_)
      have e : q.splitOne old = { q with bs := bs2 ++ [⟨fs, j, 0, par⟩], bl := relabel q.st q.bs.length q.bl fs j } := by
        simp only [Pt.splitOne, ← hm, ← hfs, if_neg hne, hpar, hbs2']
      refine block_normal ?_
      show SplitF base w0 b vml n k (q.splitOne old) rest a w15
      rw [e]
      exact ⟨_, _, _, _, _, hS, h.tail⟩
    have hjm : j < m := of_decide_eq_true hT
    have hsp := (hPI.sp (fs + j) (by omega)).1
    refine wp_seq (wp_block (wp_seq (seq_cut [(0, .pointer (some ⟨b, 0, none⟩)), (11, vml), (12, .int .i64 (n : Int)), (13, .int .i64 (k : Int)), (5, .pointer (some ⟨B, 0, none⟩)), (78, vm), (79, .int .i64 (m : Int)), (80, .int .i64 (j : Int)), (7, .int .i32 (gt q.st (fs + j) : Int))] (· = w14) tab_ok hS ?_ (fun a w15 hS hw => ?_))))
    · have hc := h.r.cS (i := 2) rfl (j := fs + j) (by dsimp only; omega)
      rw [Nat.zero_add] at hc
      subst hvmm
      repeat (first | refine o_pure rfl rfl rfl (fun _ => rfl) ?_ | refine o_skip rfl rfl rfl ?_)
      refine o_ix rfl rfl rfl (fun _ => rfl) (rfl) (hjm) ?_
      refine o_load rfl rfl rfl (fun _ => rfl) (hc) ?_
      repeat (first | refine o_pure rfl rfl rfl (fun _ => rfl) ?_ | refine o_skip rfl rfl rfl ?_)
      exact o_nil ⟨⟨rfl, rfl, rfl, rfl, rfl, rfl, rfl, rfl, rfl, trivial⟩, rfl⟩
    subst hw
    refine split_r14 h (by dsimp only; rw [relabel_len, hl3]; exact hsp) (by rfl) hS (fun a w16 hS h => ?_)
    refine block_normal ?_
    refine seq_cut [(0, .pointer (some ⟨b, 0, none⟩)), (11, vml), (12, .int .i64 (n : Int)), (13, .int .i64 (k : Int)), (5, .pointer (some ⟨B, 0, none⟩)), (78, vm), (79, .int .i64 (m : Int)), (80, .int .i64 ((j + 1 : Nat) : Int))] (· = w16) tab_ok hS ?_ (fun a w17 hS hw => ?_)
    · repeat (first | refine o_pure rfl rfl rfl (fun _ => rfl) ?_ | refine o_skip rfl rfl rfl ?_)
      refine o_num rfl rfl rfl (fun _ => rfl) (i64_add _ 1 (by omega)) ?_
      repeat (first | refine o_pure rfl rfl rfl (fun _ => rfl) ?_ | refine o_skip rfl rfl rfl ?_)
      exact o_nil ⟨⟨rfl, rfl, rfl, rfl, rfl, rfl, rfl, rfl, trivial⟩, rfl⟩
    subst hw
    refine ⟨m - (j + 1), _, by omega, ⟨j + 1, by omega, rfl, rfl, ?_⟩, hS⟩
    rw [relabel_succ]
    exact h
  clear h hS
  rintro a w4 ⟨vst, vpl, vbl, vbs, vcs, hS, h⟩
  refine seq_cut [(0, .pointer (some ⟨b, 0, none⟩)), (11, Value.slice (some ⟨gm, 0, none⟩) q.ml.length cm), (12, .int .i64 (n : Int)), (13, .int .i64 ((k + 1 : Nat) : Int))] (· = w4) tab_ok hS ?_ (fun a w5 hS hw => ?_)
  · repeat (first | refine o_pure rfl rfl rfl (fun _ => rfl) ?_ | refine o_skip rfl rfl rfl ?_)
    refine o_num rfl rfl rfl (fun _ => rfl) (i64_add _ 1 (by omega)) ?_
    repeat (first | refine o_pure rfl rfl rfl (fun _ => rfl) ?_ | refine o_skip rfl rfl rfl ?_)
    exact o_nil ⟨⟨rfl, rfl, rfl, rfl, trivial⟩, rfl⟩
  subst hw
  have hfold : (p.ml.take (k + 1)).foldl Pt.splitOne p = q.splitOne old := by
    rw [List.take_succ_eq_append_getElem hkl, List.foldl_append, ← hq, ← hold]; rfl
  obtain ⟨h1, h2, h3, h4⟩ := splitOne_ok hqlow hPI
  refine ⟨n - (k + 1), _, by omega, ⟨k + 1, ⟨vst, vpl, vbl, vbs, vcs, Value.slice (some ⟨gm, 0, none⟩) q.ml.length cm⟩, by omega, rfl, rfl, ?_, ?_, rfl, ?_⟩, hS⟩
  · rw [hfold]; exact h1
  · rw [hfold]; exact hPH.trans hlow h4
  · rw [hfold]; exact h
end
end Go.Proofs.Ythkabbgaikociaa
namespace Go.Proofs.Ythkabbgaikociaa
open Go Sym
theorem en_endRound : enters Try.prog 81 = true := by kernel_rfl
theorem en_goBack : enters Try.prog 84 = true := by kernel_rfl
theorem en_apart : enters Try.prog 47 = true := by kernel_rfl
theorem en_whole : enters Try.prog 77 = true := by kernel_rfl
theorem en_split : enters Try.prog 79 = true := by kernel_rfl
theorem gt_nat (a b : Nat) : decide ((b : Int) < (a : Int)) = decide (b < a) := lt_nat b a
theorem ne_nat (a b : Nat) : decide ((a : Int) ≠ (b : Int)) = decide (a ≠ b) := by
  rw [Bool.eq_iff_iff]; simp; omega
section
variable {base : Nat} {w0 w : World} {b : Nat} {p : Pt} {N s : Nat} {rest : List Ow}
set_option maxRecDepth 100000 in
theorem endRound_any (h : HoldP base w0 w b p rest) (hcs : 0 < p.cs.length) (hcl : p.cs.length ≤ 100000000) :
    Calls Try.prog 81 #[.pointer (some ⟨b, 0, none⟩)] w fun e w' => e = .returned (.bool (decide (p.low < p.bs.length))) ∧ HoldP base w0 w' b p.endR rest := by
  obtain ⟨⟨vst, vpl, vbl, vbs, vcs, vml⟩, h⟩ := h
  refine Sym.enter (args := [.pointer (some ⟨b, 0, none⟩)]) Try.func81 rfl rfl rfl (fun a0 hS0 => ?_)
  obtain ⟨gcs, ccs, rfl, -⟩ := h.r.nilOr (i := 5) rfl hcs
  obtain ⟨gbs, cbs, rfl, -⟩ := h.r.any (i := 4) rfl
  refine wp_seq (seq_cut [(0, .pointer (some ⟨b, 0, none⟩))] (· = w) tab_ok hS0 ?_ (fun a w1 hS hw => ?_))
  · repeat (first | refine o_pure rfl rfl rfl (fun _ => rfl) ?_ | refine o_skip rfl rfl rfl ?_)
    exact o_nil ⟨⟨rfl, trivial⟩, rfl⟩
  subst hw
  refine wp_seq (any_cutx (α := Value) 11 (fun _ => [(0, .pointer (some ⟨b, 0, none⟩))]) (fun vcs' w' => Hold base w0 w' (ptR b p.endR ⟨vst, vpl, vbl, .slice gbs p.bs.length cbs, vcs', vml⟩ ++ rest)) mixed hS ?_ (fun vcs' a w2 hS h => ?_))
  · have hy : RowKit.Below w1.drew.heap.size w1.drew w1.drew := RowKit.Below.refl _ _
    have hD := h.drew
    refine y_free 0 tab_ok rfl (by kernel_rfl) (by kernel_rfl) (by kernel_rfl) rfl (.inr hy) rfl rfl rfl rfl ?_
    refine y_take 1 tab_ok rfl (by kernel_rfl) (by kernel_rfl) (by kernel_rfl) rfl (by kernel_rfl) rfl hy rfl rfl rfl (rfl) ?_
    refine y_take 2 tab_ok rfl (by kernel_rfl) (by kernel_rfl) (by kernel_rfl) rfl (by kernel_rfl) rfl hy rfl rfl rfl (rfl) ?_
    refine y_take 3 tab_ok rfl (by kernel_rfl) (by kernel_rfl) (by kernel_rfl) rfl (by kernel_rfl) rfl hy rfl rfl rfl (rfl) ?_
    refine y_take 4 tab_ok rfl (by kernel_rfl) (by kernel_rfl) (by kernel_rfl) rfl (by kernel_rfl) rfl hy rfl rfl rfl (Exists.intro _ (And.intro (hD.r.xcell (i := 0) rfl (j := 4) rfl) rfl)) ?_
    refine y_take 5 tab_ok rfl (by kernel_rfl) (by kernel_rfl) (by kernel_rfl) rfl (by kernel_rfl) rfl hy rfl rfl rfl (rfl) ?_
    refine y_take 6 tab_ok rfl (by kernel_rfl) (by kernel_rfl) (by kernel_rfl) rfl (by kernel_rfl) rfl hy rfl rfl rfl (rfl) ?_
    refine y_take 7 tab_ok rfl (by kernel_rfl) (by kernel_rfl) (by kernel_rfl) rfl (by kernel_rfl) rfl hy rfl rfl rfl (rfl) ?_
    refine y_take 8 tab_ok rfl (by kernel_rfl) (by kernel_rfl) (by kernel_rfl) rfl (by kernel_rfl) rfl hy rfl rfl rfl (Exists.intro _ (And.intro (hD.r.xcell (i := 0) rfl (j := 3) rfl) rfl)) ?_
    refine y_take 9 tab_ok rfl (by kernel_rfl) (by kernel_rfl) (by kernel_rfl) rfl (by kernel_rfl) rfl hy rfl rfl rfl (rfl) ?_
    refine y_one 10 (by kernel_rfl) (y_op 10 tab_ok rfl rfl rfl rfl ?_)
    refine Exists.intro [(0, .int .i64 ((p.bs.length : Int)))] (Exists.intro #[.int .i64 ((p.bs.length : Int))] (And.intro (And.intro rfl rfl) (And.intro (by decide) (And.intro (fillI _ _ _) ?_))))
    have hy1 := hy.alloc (Nat.le_refl _) (.cells #[.int .i64 (p.bs.length : Int)] 3)
    refine And.intro (.inr hy1) ?_
    have h1 := hD.alloc (.cells #[.int .i64 (p.bs.length : Int)] 3)
    have ask : AppAsk (w1.drew.alloc (.cells #[.int .i64 (p.bs.length : Int)] 3)) ⟨3, .int .i64, 1, 8, .int .i64 0⟩ (.slice (some ⟨gcs, 0, none⟩) p.cs.length ccs) p.cs.length (nats p.cs) (.slice (some ⟨w1.drew.heap.size, 0, none⟩) 1 1) 1 [.int .i64 (p.bs.length : Int)] base :=
      ⟨h1.r.1 5 _ rfl, .inr ⟨_, 0, _, rfl, cell_alloc_new rfl, trivial⟩, rfl, (by simp [Value.oneCell']), (by omega), (by show (p.cs.length + 1) * 8 ≤ _; omega), h1.s⟩
    refine y_one 11 (by kernel_rfl) (y_op 11 tab_ok rfl rfl rfl rfl ?_)
    refine Exists.intro _ (Exists.intro _ (Exists.intro _ (Exists.intro _ (Exists.intro _ (And.intro (ask) (And.intro (fun _ h => h.symm) (And.intro (by decide) ?_)))))))
    rintro v' w2 hown hgr - hat
    refine And.intro (.inl (by kernel_rfl)) ?_
    have h2 := h1.appN (i := 5) rfl hown hgr hat
    obtain ⟨g2, n2, c2, hv⟩ := own_form hown
    subst hv
    refine y_free 12 tab_ok rfl (by kernel_rfl) (by kernel_rfl) (by kernel_rfl) rfl (.inl (by kernel_rfl)) rfl rfl rfl rfl ?_
    refine y_free 13 tab_ok rfl (by kernel_rfl) (by kernel_rfl) (by kernel_rfl) rfl (.inl (by kernel_rfl)) rfl rfl rfl rfl ?_
    refine y_one 14 (by kernel_rfl) (y_op0 14 tab_ok rfl rfl rfl ?_)
    refine And.intro rfl (And.intro rfl (And.intro ⟨_, h2.r.xcell (i := 0) rfl (j := 4) rfl⟩ (And.intro (h2.r.free (i := 0) rfl 4) (And.intro (.inl (by kernel_rfl)) ?_))))
    exact y_endx (.slice g2 n2 c2) (by kernel_rfl) ⟨rfl, trivial⟩ (h2.xstore (i := 0) rfl 4 (.slice g2 n2 c2))
  have hl : p.endR.cs.length = p.cs.length + 1 := by simp [Pt.endR]
  obtain ⟨gc, cc, rfl, -⟩ := h.r.nilOr (i := 5) rfl (by rw [hl]; omega)
  have e1 : gt p.endR.cs (p.endR.cs.length - 1) = p.bs.length := by
    rw [hl]; exact gt_snoc'
  have e2 : gt p.endR.cs (p.endR.cs.length - 1 - 1) = p.low := by
    rw [hl]; exact gt_snoc (by omega)
  have hi1 : p.endR.cs.length - 1 < p.endR.cs.length := by omega
  have hi2 : p.endR.cs.length - 1 - 1 < p.endR.cs.length := by omega
  refine wp_seq (quiet_cut [(2, .bool (decide (p.low < p.bs.length)))] tab_ok mixed (by kernel_rfl) hS ?_ (fun a w3 hS hw => ?_))
  · have c1 := h.r.cN (i := 5) rfl hi1
    have c2 := h.r.cN (i := 5) rfl hi2
    rw [e1] at c1
    rw [e2] at c2
    repeat (first | refine q_pure rfl rfl rfl (fun _ => rfl) ?_ | refine q_skip rfl rfl rfl ?_)
    refine q_load rfl rfl rfl (fun _ => rfl) (h.r.xcell (i := 0) rfl (j := 4) rfl) ?_
    repeat (first | refine q_pure rfl rfl rfl (fun _ => rfl) ?_ | refine q_skip rfl rfl rfl ?_)
    refine q_call (v := .int .i64 ((p.endR.cs.length - 1 : Nat) : Int)) rfl rfl rfl (fun _ => rfl) (en_round) (fun w1 h1 => round_any (h.below h1) (by omega) (by omega)) ?_
    refine q_ix rfl rfl rfl (fun _ => rfl) (rfl) (hi1) ?_
    refine q_load rfl rfl rfl (fun _ => rfl) (c1) ?_
    repeat (first | refine q_pure rfl rfl rfl (fun _ => rfl) ?_ | refine q_skip rfl rfl rfl ?_)
    refine q_load rfl rfl rfl (fun _ => rfl) (h.r.xcell (i := 0) rfl (j := 4) rfl) ?_
    repeat (first | refine q_pure rfl rfl rfl (fun _ => rfl) ?_ | refine q_skip rfl rfl rfl ?_)
    refine q_call (v := .int .i64 ((p.endR.cs.length - 1 : Nat) : Int)) rfl rfl rfl (fun _ => rfl) (en_round) (fun w1 h1 => round_any (h.below h1) (by omega) (by omega)) ?_
    refine q_num rfl rfl rfl (fun _ => rfl) (i64_sub _ 1 (by omega) (by omega)) ?_
    refine q_ix rfl rfl rfl (fun _ => rfl) (rfl) (hi2) ?_
    refine q_load rfl rfl rfl (fun _ => rfl) (c2) ?_
    refine q_cmp rfl rfl rfl (fun _ => rfl) (lt_nat _ _) ?_
    repeat (first | refine q_pure rfl rfl rfl (fun _ => rfl) ?_ | refine q_skip rfl rfl rfl ?_)
    exact q_nil ⟨rfl, trivial⟩
  refine wp_ret ?_
  repeat (first | refine then_ret ?_ | refine block_ret ?_)
  exact ret1 hS rfl rfl ⟨rfl, ⟨_, h.below hw⟩⟩
def Backs (lev : Nat → Nat → Nat) (N R r : Nat) (bl : List Nat) : Prop := bl.length = N ∧ ∀ s, s < N → ∃ q, r ≤ q ∧ q ≤ R ∧ gt bl s = lev q s
theorem Backs.mono {lev : Nat → Nat → Nat} {R r r' : Nat} {bl : List Nat} (h : Backs lev N R r bl) (hr : r' ≤ r) : Backs lev N R r' bl := ⟨h.1, fun s hs => by
  obtain ⟨q, h1, h2, h3⟩ := h.2 s hs
  exact ⟨q, by omega, h2, h3⟩⟩
theorem Backs.set {lev : Nat → Nat → Nat} {R r q : Nat} {bl : List Nat} (h : Backs lev N R r bl) (h1 : r ≤ q) (h2 : q ≤ R) : Backs lev N R r (bl.set s (lev q s)) := ⟨by rw [List.length_set]; exact h.1, fun t ht => by
  rw [gt_set]
  split
  · rename_i e
    rw [← e.1]
    exact ⟨q, h1, h2, rfl⟩
  · exact h.2 t ht⟩
set_option maxRecDepth 100000 in
theorem goBack_any {L R r : Nat} {dl : Nat → Nat → Nat} {en : Nat → Bool} {lev : Nat → Nat → Nat} {bl : List Nat} (hL : Lev L dl en p N lev R) (hbl : Backs lev N R r bl) (hs : s < N) (hr : r ≤ R) (hN : N ≤ 100000000) (hbs : p.bs.length ≤ 100000000)
    (h : HoldP base w0 w b { p with bl := bl } rest) :
    Calls Try.prog 84 #[.pointer (some ⟨b, 0, none⟩), .int .i64 (s : Int), .int .i64 (r : Int)] w fun e w' => e = .returned (.int .i64 (lev r s : Int)) ∧ HoldP base w0 w' b { p with bl := bl.set s (lev r s) } rest := by
  obtain ⟨⟨vst, vpl, vbl, vbs, vcs, vml⟩, h⟩ := h
  refine Sym.enter (args := [.pointer (some ⟨b, 0, none⟩), .int .i64 (s : Int), .int .i64 (r : Int)]) Try.func84 rfl rfl rfl (fun a0 hS0 => ?_)
  refine wp_seq (seq_cut [(0, .pointer (some ⟨b, 0, none⟩)), (1, .int .i64 (s : Int)), (2, .int .i64 (r : Int))] (· = w) tab_ok hS0 ?_ (fun a w1 hS hw => ?_))
  · repeat (first | refine o_pure rfl rfl rfl (fun _ => rfl) ?_ | refine o_skip rfl rfl rfl ?_)
    exact o_nil ⟨⟨rfl, rfl, rfl, trivial⟩, rfl⟩
  subst hw
  have hbl1 := hbl.1
  have hcs := hL.cs
  obtain ⟨q0, hq1, hq2, hq3⟩ := hbl.2 s hs
  refine wp_seq (wp_block (loop0 hS (fun g E w' => ∃ (q : Nat) (V : PV), r ≤ q ∧ q ≤ R ∧ g = q ∧ E = [(0, .pointer (some ⟨b, 0, none⟩)), (1, .int .i64 (s : Int)), (2, .int .i64 (r : Int))] ∧ Hold base w0 w' (ptR b { p with bl := bl.set s (lev q s) } V ++ rest)) q0 ⟨q0, _, hq1, hq2, rfl, rfl, (by
    rw [← hq3]
    have : bl.set s (gt bl s) = bl := by
      simp only [gt, List.getD_eq_getElem?_getD, List.getElem?_eq_getElem (show s < bl.length by omega), Option.getD_some, List.set_getElem_self]
    rw [this]; exact h)⟩ ?_))
  clear h hS
  rintro g E w2 a ⟨q, ⟨vst, vpl, vbl, vbs, vcs, vml⟩, h1, h2, rfl, rfl, h⟩ hS
  have hlb : (bl.set s (lev g s)).length = N := by rw [List.length_set]; exact hbl1
  obtain ⟨gbl, cbl, rfl, -⟩ := h.r.nilOr (i := 3) rfl (by dsimp only; omega)
  obtain ⟨gcs, ccs, rfl, -⟩ := h.r.nilOr (i := 5) rfl (by dsimp only; omega)
  have hg : gt (bl.set s (lev g s)) s = lev g s := by rw [gt_set, if_pos ⟨rfl, by omega⟩]
  have hlt := hL.lt g h2 s hs
  have hcl := hL.csLe h2
  refine wp_seq (wp_seq (quiet_cut [(0, .pointer (some ⟨b, 0, none⟩)), (1, .int .i64 (s : Int)), (2, .int .i64 (r : Int)), (21, .bool (decide (gt p.cs r ≤ lev g s)))] tab_ok mixed (by kernel_rfl) hS ?_ (fun a w3 hS hw => ?_)))
  · have c1 := h.r.cN (i := 3) rfl (j := s) (by dsimp only; omega)
    dsimp only at c1
    rw [hg] at c1
    repeat (first | refine q_pure rfl rfl rfl (fun _ => rfl) ?_ | refine q_skip rfl rfl rfl ?_)
    refine q_load rfl rfl rfl (fun _ => rfl) (h.r.xcell (i := 0) rfl (j := 2) rfl) ?_
    repeat (first | refine q_pure rfl rfl rfl (fun _ => rfl) ?_ | refine q_skip rfl rfl rfl ?_)
    refine q_ix rfl rfl rfl (fun _ => rfl) (rfl) ((by dsimp only; omega)) ?_
    refine q_load rfl rfl rfl (fun _ => rfl) (c1) ?_
    repeat (first | refine q_pure rfl rfl rfl (fun _ => rfl) ?_ | refine q_skip rfl rfl rfl ?_)
    refine q_load rfl rfl rfl (fun _ => rfl) (h.r.xcell (i := 0) rfl (j := 4) rfl) ?_
    repeat (first | refine q_pure rfl rfl rfl (fun _ => rfl) ?_ | refine q_skip rfl rfl rfl ?_)
    refine q_ix rfl rfl rfl (fun _ => rfl) (rfl) ((by dsimp only; omega)) ?_
    refine q_load rfl rfl rfl (fun _ => rfl) (h.r.cN (i := 5) rfl (j := r) (by dsimp only; omega)) ?_
    refine q_cmp rfl rfl rfl (fun _ => rfl) (ge_nat _ _) ?_
    repeat (first | refine q_pure rfl rfl rfl (fun _ => rfl) ?_ | refine q_skip rfl rfl rfl ?_)
    exact q_nil ⟨rfl, rfl, rfl, rfl, trivial⟩
  replace h := h.below hw
  clear hw
  refine cond hS rfl (fun hT => wp_skip ?_) (fun hF => ?_)
  rotate_left
  · have hge := of_decide_eq_false hF
    have he := hL.there (r := r) hs (g - r) g (by omega) h2 (by omega)
    refine wp_exit ?_
    repeat (first | refine then_exit ?_ | refine block_exit ?_ | refine block_other rfl ?_)
    refine wp_seq (seq_cut [(6, .int .i64 (lev r s : Int))] (· = w3) tab_ok hS ?_ (fun a w4 hS hw => ?_))
    · have c1 := h.r.cN (i := 3) rfl (j := s) (by dsimp only; omega)
      dsimp only at c1
      rw [hg, he] at c1
      repeat (first | refine o_pure rfl rfl rfl (fun _ => rfl) ?_ | refine o_skip rfl rfl rfl ?_)
      refine o_load rfl rfl rfl (fun _ => rfl) (h.r.xcell (i := 0) rfl (j := 2) rfl) ?_
      repeat (first | refine o_pure rfl rfl rfl (fun _ => rfl) ?_ | refine o_skip rfl rfl rfl ?_)
      refine o_ix rfl rfl rfl (fun _ => rfl) (rfl) ((by dsimp only; omega)) ?_
      refine o_load rfl rfl rfl (fun _ => rfl) (c1) ?_
      repeat (first | refine o_pure rfl rfl rfl (fun _ => rfl) ?_ | refine o_skip rfl rfl rfl ?_)
      exact o_nil ⟨⟨rfl, trivial⟩, rfl⟩
    subst hw
    rw [he] at h
    refine wp_ret ?_
    repeat (first | refine then_ret ?_ | refine block_ret ?_)
    exact ret1 hS rfl rfl ⟨rfl, ⟨_, h⟩⟩
  have hge := of_decide_eq_true hT
  obtain ⟨q', k1, k2, k3⟩ := hL.back (r := r) hs (g - r) g (by omega) h2 hge
  obtain ⟨gbs, cbs, rfl, -⟩ := h.r.nilOr (i := 4) rfl (by dsimp only; omega)
  refine wp_block (any_cut 20 [(0, .pointer (some ⟨b, 0, none⟩)), (1, .int .i64 (s : Int)), (2, .int .i64 (r : Int))] (fun w' => Hold base w0 w' (ptR b { p with bl := bl.set s (lev q' s) } ⟨vst, vpl, .slice (some ⟨gbl, 0, none⟩) (bl.set s (lev g s)).length cbl, .slice (some ⟨gbs, 0, none⟩) p.bs.length cbs, .slice (some ⟨gcs, 0, none⟩) p.cs.length ccs, vml⟩ ++ rest)) mixed hS ?_ (fun a w4 hS h => ?_))
  · have hy : RowKit.Below w3.drew.heap.size w3.drew w3.drew := RowKit.Below.refl _ _
    have hD := h.drew
    have c1 := hD.r.cN (i := 3) rfl (j := s) (by dsimp only; omega)
    dsimp only at c1
    rw [hg] at c1
    have c3 := hD.r.cK3 (i := 4) rfl (j := lev g s) (by dsimp only; omega)
    dsimp only at c3
    rw [k3] at c3
    refine y_take 0 tab_ok rfl (by kernel_rfl) (by kernel_rfl) (by kernel_rfl) rfl (by kernel_rfl) rfl hy rfl rfl rfl (rfl) ?_
    refine y_take 1 tab_ok rfl (by kernel_rfl) (by kernel_rfl) (by kernel_rfl) rfl (by kernel_rfl) rfl hy rfl rfl rfl (rfl) ?_
    refine y_take 2 tab_ok rfl (by kernel_rfl) (by kernel_rfl) (by kernel_rfl) rfl (by kernel_rfl) rfl hy rfl rfl rfl (rfl) ?_
    refine y_take 3 tab_ok rfl (by kernel_rfl) (by kernel_rfl) (by kernel_rfl) rfl (by kernel_rfl) rfl hy rfl rfl rfl (Exists.intro _ (And.intro (hD.r.xcell (i := 0) rfl (j := 2) rfl) rfl)) ?_
    refine y_take 4 tab_ok rfl (by kernel_rfl) (by kernel_rfl) (by kernel_rfl) rfl (by kernel_rfl) rfl hy rfl rfl rfl (rfl) ?_
    refine y_take 5 tab_ok rfl (by kernel_rfl) (by kernel_rfl) (by kernel_rfl) rfl (by kernel_rfl) rfl hy rfl rfl rfl (rfl) ?_
    refine y_take 6 tab_ok rfl (by kernel_rfl) (by kernel_rfl) (by kernel_rfl) rfl (by kernel_rfl) rfl hy rfl rfl rfl (rfl) ?_
    refine y_take 7 tab_ok rfl (by kernel_rfl) (by kernel_rfl) (by kernel_rfl) rfl (by kernel_rfl) rfl hy rfl rfl rfl (rfl) ?_
    refine y_take 8 tab_ok rfl (by kernel_rfl) (by kernel_rfl) (by kernel_rfl) rfl (by kernel_rfl) rfl hy rfl rfl rfl (Exists.intro _ (And.intro (hD.r.xcell (i := 0) rfl (j := 3) rfl) rfl)) ?_
    refine y_take 9 tab_ok rfl (by kernel_rfl) (by kernel_rfl) (by kernel_rfl) rfl (by kernel_rfl) rfl hy rfl rfl rfl (rfl) ?_
    refine y_take 10 tab_ok rfl (by kernel_rfl) (by kernel_rfl) (by kernel_rfl) rfl (by kernel_rfl) rfl hy rfl rfl rfl (rfl) ?_
    refine y_take 11 tab_ok rfl (by kernel_rfl) (by kernel_rfl) (by kernel_rfl) rfl (by kernel_rfl) rfl hy rfl rfl rfl (rfl) ?_
    refine y_take 12 tab_ok rfl (by kernel_rfl) (by kernel_rfl) (by kernel_rfl) rfl (by kernel_rfl) rfl hy rfl rfl rfl (Exists.intro _ (And.intro (hD.r.xcell (i := 0) rfl (j := 2) rfl) rfl)) ?_
    refine y_take 13 tab_ok rfl (by kernel_rfl) (by kernel_rfl) (by kernel_rfl) rfl (by kernel_rfl) rfl hy rfl rfl rfl (rfl) ?_
    refine y_take 14 tab_ok rfl (by kernel_rfl) (by kernel_rfl) (by kernel_rfl) rfl (by kernel_rfl) rfl hy rfl rfl rfl (Exists.intro _ (And.intro (rfl) (And.intro ((by dsimp only; omega)) rfl))) ?_
    refine y_take 15 tab_ok rfl (by kernel_rfl) (by kernel_rfl) (by kernel_rfl) rfl (by kernel_rfl) rfl hy rfl rfl rfl (Exists.intro _ (And.intro (c1) rfl)) ?_
    refine y_take 16 tab_ok rfl (by kernel_rfl) (by kernel_rfl) (by kernel_rfl) rfl (by kernel_rfl) rfl hy rfl rfl rfl (Exists.intro _ (And.intro (rfl) (And.intro ((by dsimp only; omega)) rfl))) ?_
    refine y_take 17 tab_ok rfl (by kernel_rfl) (by kernel_rfl) (by kernel_rfl) rfl (by kernel_rfl) rfl hy rfl rfl rfl (rfl) ?_
    refine y_take 18 tab_ok rfl (by kernel_rfl) (by kernel_rfl) (by kernel_rfl) rfl (by kernel_rfl) rfl hy rfl rfl rfl (Exists.intro _ (And.intro (c3) rfl)) ?_
    refine y_take 19 tab_ok rfl (by kernel_rfl) (by kernel_rfl) (by kernel_rfl) rfl (by kernel_rfl) rfl hy rfl rfl rfl (Exists.intro _ (And.intro (rfl) (And.intro ((by dsimp only; omega)) rfl))) ?_
    refine y_one 20 (by kernel_rfl) (y_op0 20 tab_ok rfl rfl rfl ?_)
    refine And.intro rfl (And.intro rfl (And.intro ⟨_, c1⟩ (And.intro (hD.r.free (i := 3) rfl _) (And.intro (.inl (by kernel_rfl)) ?_))))
    have h5 := hD.storeN (i := 3) rfl s (lev q' s)
    dsimp only at h5
    rw [List.set_set] at h5
    exact y_end (by kernel_rfl) ⟨rfl, rfl, rfl, trivial⟩ h5
  exact ⟨q', _, k2, ⟨q', _, k1, by omega, rfl, rfl, h⟩, hS⟩
end
section
variable {base : Nat} {w0 w w' : World} {l l' : List Ow}
theorem Rows.perm (h : Rows base w l) (hp : l.Perm l') : Rows base w l' := by
  have h1 : ∀ o ∈ l, o.ok base w := fun o ho => by
    obtain ⟨i, hi⟩ := List.getElem?_of_mem ho
    exact h.1 i o hi
  have h2 : l.Pairwise fun a b => apart a.v b.v := by
    rw [List.pairwise_iff_getElem]
    intro i j hi hj hij
    exact h.2 i j _ _ (by omega) (List.getElem?_eq_getElem hi) (List.getElem?_eq_getElem hj)
  have h3 : l'.Pairwise fun a b => apart a.v b.v := (hp.pairwise_iff (fun {_ _} k => k.symm)).1 h2
  refine ⟨fun i o hi => h1 o (hp.mem_iff.2 (List.mem_of_getElem? hi)), fun i j a b hij ha hb => ?_⟩
  rw [List.pairwise_iff_getElem] at h3
  obtain ⟨hi, rfl⟩ := List.getElem?_eq_some_iff.1 ha
  obtain ⟨hj, rfl⟩ := List.getElem?_eq_some_iff.1 hb
  rcases Nat.lt_or_gt_of_ne hij with h4 | h4
  · exact h3 i j hi hj h4
  · exact (h3 j i hj hi h4).symm
theorem Hold.perm (h : Hold base w0 w l) (hp : l.Perm l') : Hold base w0 w l' := ⟨h.r.perm hp, h.b, h.s⟩
theorem Hold.nil (h : Hold base w0 w l) (e s : Nat) : Hold base w0 w (⟨.slice none 0 0, e, s, 0, []⟩ :: l) :=
  h.new ⟨rfl, rfl, rfl, Nat.le_refl _, fun _ _ _ => rfl⟩ (World.ownsRow_nil _ _ _ _) (.inl rfl)
theorem Hold.makeN (h : Hold base w0 w l) {n : Nat} (hn : n ≤ 9223372036854775807) : Hold base w0 (w.alloc (.cells (madeCells #[.int .i64 0] n) 3)) (oN (.slice (some ⟨w.heap.size, 0, none⟩) n n) (List.replicate n 0) :: l) := by
  have h1 := h.lit (e := 3) (s := 1) (n := n) (madeCells #[.int .i64 0] n) (by simp [madeCells]) hn
  rw [toList_madeCells_one] at h1
  simpa [oN, nats] using h1
theorem Hold.makeS (h : Hold base w0 w l) {n : Nat} (hn : n ≤ 9223372036854775807) : Hold base w0 (w.alloc (.cells (madeCells #[.int .i32 0] n) 21)) (oS (.slice (some ⟨w.heap.size, 0, none⟩) n n) (List.replicate n 0) :: l) := by
  have h1 := h.lit (e := 21) (s := 1) (n := n) (madeCells #[.int .i32 0] n) (by simp [madeCells]) hn
  rw [toList_madeCells_one] at h1
  simpa [oS, n32s] using h1
theorem Hold.app0 (h : Hold base w0 w l) : Hold base w0 w (l ++ []) := by rw [List.append_nil]; exact h
end
section
variable {base : Nat} {w0 w : World} {b : Nat} {p : Pt} {N s : Nat} {rest : List Ow}
set_option maxRecDepth 100000 in
theorem apart_any {L R r t : Nat} {dl : Nat → Nat → Nat} {en : Nat → Bool} {lev : Nat → Nat → Nat} {bl : List Nat} (hL : Lev L dl en p N lev R) (hbl : Backs lev N R r bl) (hs : s < N) (ht : t < N) (hr : r ≤ R) (hN : N ≤ 100000000) (hbs : p.bs.length ≤ 100000000)
    (h : HoldP base w0 w b { p with bl := bl } rest) :
    Calls Try.prog 47 #[.pointer (some ⟨b, 0, none⟩), .int .i64 (s : Int), .int .i64 (t : Int), .int .i64 (r : Int)] w fun e w' => e = .returned (.bool (decide (lev r s ≠ lev r t))) ∧ ∃ bl', Backs lev N R r bl' ∧ HoldP base w0 w' b { p with bl := bl' } rest := by
  refine Sym.enter (args := [.pointer (some ⟨b, 0, none⟩), .int .i64 (s : Int), .int .i64 (t : Int), .int .i64 (r : Int)]) Try.func47 rfl rfl rfl (fun a0 hS0 => ?_)
  refine wp_seq (seq_cut [(0, .pointer (some ⟨b, 0, none⟩)), (1, .int .i64 (s : Int)), (2, .int .i64 (t : Int)), (3, .int .i64 (r : Int))] (· = w) tab_ok hS0 ?_ (fun a w1 hS hw => ?_))
  · repeat (first | refine o_pure rfl rfl rfl (fun _ => rfl) ?_ | refine o_skip rfl rfl rfl ?_)
    exact o_nil ⟨⟨rfl, rfl, rfl, rfl, trivial⟩, rfl⟩
  subst hw
  refine wp_seq (seq_cut [(8, .bool (decide (lev r s ≠ lev r t)))] (fun w' => ∃ bl', Backs lev N R r bl' ∧ HoldP base w0 w' b { p with bl := bl' } rest) tab_ok hS ?_ (fun a w2 hS hw => ?_))
  · repeat (first | refine o_pure rfl rfl rfl (fun _ => rfl) ?_ | refine o_skip rfl rfl rfl ?_)
    refine o_call rfl rfl rfl (fun _ => rfl) (en_goBack) (goBack_any hL hbl hs hr hN hbs h) ?_
    rintro e w2 ⟨rfl, h2⟩
    refine ⟨_, rfl, ?_⟩
    have hb2 := hbl.set (s := s) (Nat.le_refl r) hr
    repeat (first | refine o_pure rfl rfl rfl (fun _ => rfl) ?_ | refine o_skip rfl rfl rfl ?_)
    refine o_call rfl rfl rfl (fun _ => rfl) (en_goBack) (goBack_any hL hb2 ht hr hN hbs h2) ?_
    rintro e w3 ⟨rfl, h3⟩
    refine ⟨_, rfl, ?_⟩
    refine o_cmp rfl rfl rfl (fun _ => rfl) (ne_nat _ _) ?_
    repeat (first | refine o_pure rfl rfl rfl (fun _ => rfl) ?_ | refine o_skip rfl rfl rfl ?_)
    exact o_nil ⟨⟨rfl, trivial⟩, ⟨_, hb2.set (s := t) (Nat.le_refl r) hr, h3⟩⟩
  refine wp_ret ?_
  repeat (first | refine then_ret ?_ | refine block_ret ?_)
  exact ret1 hS rfl rfl ⟨rfl, hw⟩
def Pt.whole (n : Nat) : Pt := ⟨List.range n, List.range n, List.replicate n 0, [⟨0, n, 0, 0⟩], [1], []⟩
theorem gt_range {n i : Nat} (h : i < n) : gt (List.range n) i = i := by simp [gt, List.getD_eq_getElem?_getD, h]
theorem gt_rep {n i x : Nat} (h : i < n) : gt (List.replicate n x) i = x := by simp [gt, List.getD_eq_getElem?_getD, h]
theorem whole_ok {n : Nat} (h : 0 < n) : PI (Pt.whole n) n [] := by
  have hb : ∀ c, c < (Pt.whole n).bs.length → c = 0 := fun c hc => by
    have : c < 1 := hc
    omega
  refine ⟨by simp [Pt.whole], by simp [Pt.whole], by simp [Pt.whole], fun i hi => ?_, fun i hi => ?_, fun i hi => ?_, fun i hi => ?_, fun c hc => ?_, fun c hc i h1 h2 => ?_, fun c => ?_, by simp⟩
  · show gt (List.range n) i < n ∧ gt (List.range n) (gt (List.range n) i) = i
    rw [gt_range hi, gt_range hi]; exact ⟨hi, rfl⟩
  · show gt (List.range n) i < n ∧ gt (List.range n) (gt (List.range n) i) = i
    rw [gt_range hi, gt_range hi]; exact ⟨hi, rfl⟩
  · show gt (List.replicate n 0) i < 1
    rw [gt_rep hi]; omega
  · show (gb [⟨0, n, 0, 0⟩] (gt (List.replicate n 0) i)).first ≤ gt (List.range n) i ∧ gt (List.range n) i < (gb [⟨0, n, 0, 0⟩] (gt (List.replicate n 0) i)).first + (gb [⟨0, n, 0, 0⟩] (gt (List.replicate n 0) i)).size
    rw [gt_rep hi, gt_range hi]
    show 0 ≤ i ∧ i < 0 + n
    omega
  · obtain rfl := hb c hc
    show 0 < n ∧ 0 ≤ n ∧ 0 + n ≤ n
    omega
  · obtain rfl := hb c hc
    have h2 : i < 0 + n := h2
    show gt (List.replicate n 0) (gt (List.range n) i) = 0
    rw [gt_range (by omega), gt_rep (by omega)]
  · constructor
    · intro h; cases h
    · rintro ⟨hc, h1⟩
      obtain rfl := hb c hc
      exact (Nat.lt_irrefl 0 h1).elim
variable {n i : Nat}
set_option maxRecDepth 100000 in
theorem whole_r5 (h : HoldP base w0 w b p rest) (hl : p.st.length ≤ 100000000) (hi : i ≤ 100000000) {Q : Exit → Act → World → Prop} {a : Act} {ops : Array Oper} {id : Nat} (hops : Sym.regionOf Try.f77.body 5 = some (id, ops))
    (hS : St Try.f77.ntmps a [(3, .pointer (some ⟨b, 0, none⟩)), (4, .int .i64 (i : Int)), (13, .int .i64 (n : Int)), (14, .int .i64 (i : Int))])
    (hq : ∀ a' w', St Try.f77.ntmps a' [(3, .pointer (some ⟨b, 0, none⟩)), (4, .int .i64 (i : Int)), (13, .int .i64 (n : Int)), (14, .int .i64 (i : Int))] → HoldP base w0 w' b { p with st := p.st ++ [i] } rest → Q .normal a' w') : (Code.region id ops false).wp Try.prog Q a w := by
  cases hops
  obtain ⟨⟨vst, vpl, vbl, vbs, vcs, vml⟩, h⟩ := h
  refine seq_cut [(3, .pointer (some ⟨b, 0, none⟩)), (4, .int .i64 (i : Int)), (13, .int .i64 (n : Int)), (14, .int .i64 (i : Int))] (fun w' => HoldP base w0 w' b { p with st := p.st ++ [i] } rest) tab_ok hS ?_ hq
  obtain ⟨g, c, rfl, hc⟩ := h.r.any (i := 1) rfl
  repeat (first | refine o_pure rfl rfl rfl (fun _ => rfl) ?_ | refine o_skip rfl rfl rfl ?_)
  refine o_load rfl rfl rfl (fun _ => rfl) (h.r.xcell (i := 0) rfl (j := 0) rfl) ?_
  repeat (first | refine o_pure rfl rfl rfl (fun _ => rfl) ?_ | refine o_skip rfl rfl rfl ?_)
  refine o_num rfl rfl rfl (fun _ => rfl) (i32_in i (by omega)) ?_
  refine o_step rfl rfl rfl ?_
  refine Exists.intro [(0, .int .i32 (i : Int))] (Exists.intro #[.int .i32 (i : Int)] (And.intro (And.intro rfl rfl) (And.intro (by decide) (And.intro (fillI _ _ _) ?_))))
  have h1 := h.alloc (.cells #[.int .i32 (i : Int)] 21)
  have ask : AppAsk (w.alloc (.cells #[.int .i32 (i : Int)] 21)) ⟨21, .int .i32, 1, 4, .int .i32 0⟩ (.slice g p.st.length c) p.st.length (n32s p.st) (.slice (some ⟨w.heap.size, 0, none⟩) 1 1) 1 [.int .i32 (i : Int)] base :=
    ⟨h1.r.1 1 _ rfl, .inr ⟨_, 0, _, rfl, cell_alloc_new rfl, trivial⟩, rfl, (by simp [Value.oneCell']), (by omega), (by show (p.st.length + 1) * 4 ≤ _; omega), h1.s⟩
  refine o_step rfl rfl rfl ?_
  refine Exists.intro _ (Exists.intro _ (Exists.intro _ (Exists.intro _ (Exists.intro _ (And.intro (ask) (And.intro (fun _ h => h.symm) (And.intro (by decide) ?_)))))))
  rintro v' w2 hown hgr - hat
  have h2 := h1.appS (i := 1) rfl hown hgr hat
  obtain ⟨g2, n2, c2, hv⟩ := own_form hown
  subst hv
  repeat (first | refine o_pure rfl rfl rfl (fun _ => rfl) ?_ | refine o_skip rfl rfl rfl ?_)
  refine o_store rfl rfl (fun _ => rfl) rfl rfl (h2.r.xcell (i := 0) rfl (j := 0) rfl) (h2.r.free (i := 0) rfl 0) ?_
  exact o_nil ⟨⟨rfl, rfl, rfl, rfl, trivial⟩, ⟨.slice g2 n2 c2, vpl, vbl, vbs, vcs, vml⟩, h2.xstore (i := 0) rfl 0 (.slice g2 n2 c2)⟩
set_option maxRecDepth 100000 in
theorem whole_r6 (h : HoldP base w0 w b p rest) (hl : p.pl.length ≤ 100000000) {Q : Exit → Act → World → Prop} {a : Act} {ops : Array Oper} {id : Nat} (hops : Sym.regionOf Try.f77.body 6 = some (id, ops))
    (hS : St Try.f77.ntmps a [(3, .pointer (some ⟨b, 0, none⟩)), (4, .int .i64 (i : Int)), (13, .int .i64 (n : Int)), (14, .int .i64 (i : Int))])
    (hq : ∀ a' w', St Try.f77.ntmps a' [(3, .pointer (some ⟨b, 0, none⟩)), (13, .int .i64 (n : Int)), (14, .int .i64 (i : Int))] → HoldP base w0 w' b { p with pl := p.pl ++ [i] } rest → Q .normal a' w') : (Code.region id ops false).wp Try.prog Q a w := by
  cases hops
  obtain ⟨⟨vst, vpl, vbl, vbs, vcs, vml⟩, h⟩ := h
  refine seq_cut [(3, .pointer (some ⟨b, 0, none⟩)), (13, .int .i64 (n : Int)), (14, .int .i64 (i : Int))] (fun w' => HoldP base w0 w' b { p with pl := p.pl ++ [i] } rest) tab_ok hS ?_ hq
  obtain ⟨g, c, rfl, hc⟩ := h.r.any (i := 2) rfl
  repeat (first | refine o_pure rfl rfl rfl (fun _ => rfl) ?_ | refine o_skip rfl rfl rfl ?_)
  refine o_load rfl rfl rfl (fun _ => rfl) (h.r.xcell (i := 0) rfl (j := 1) rfl) ?_
  repeat (first | refine o_pure rfl rfl rfl (fun _ => rfl) ?_ | refine o_skip rfl rfl rfl ?_)
  refine o_step rfl rfl rfl ?_
  refine Exists.intro [(0, .int .i64 ((i : Int)))] (Exists.intro #[.int .i64 ((i : Int))] (And.intro (And.intro rfl rfl) (And.intro (by decide) (And.intro (fillI _ _ _) ?_))))
  have h1 := h.alloc (.cells #[.int .i64 (i : Int)] 3)
  have ask : AppAsk (w.alloc (.cells #[.int .i64 (i : Int)] 3)) ⟨3, .int .i64, 1, 8, .int .i64 0⟩ (.slice g p.pl.length c) p.pl.length (nats p.pl) (.slice (some ⟨w.heap.size, 0, none⟩) 1 1) 1 [.int .i64 (i : Int)] base :=
    ⟨h1.r.1 2 _ rfl, .inr ⟨_, 0, _, rfl, cell_alloc_new rfl, trivial⟩, rfl, (by simp [Value.oneCell']), (by omega), (by show (p.pl.length + 1) * 8 ≤ _; omega), h1.s⟩
  refine o_step rfl rfl rfl ?_
  refine Exists.intro _ (Exists.intro _ (Exists.intro _ (Exists.intro _ (Exists.intro _ (And.intro (ask) (And.intro (fun _ h => h.symm) (And.intro (by decide) ?_)))))))
  rintro v' w2 hown hgr - hat
  have h2 := h1.appN (i := 2) rfl hown hgr hat
  obtain ⟨g2, n2, c2, hv⟩ := own_form hown
  subst hv
  repeat (first | refine o_pure rfl rfl rfl (fun _ => rfl) ?_ | refine o_skip rfl rfl rfl ?_)
  refine o_store rfl rfl (fun _ => rfl) rfl rfl (h2.r.xcell (i := 0) rfl (j := 1) rfl) (h2.r.free (i := 0) rfl 1) ?_
  exact o_nil ⟨⟨rfl, rfl, rfl, trivial⟩, ⟨vst, .slice g2 n2 c2, vbl, vbs, vcs, vml⟩, h2.xstore (i := 0) rfl 1 (.slice g2 n2 c2)⟩
set_option maxRecDepth 100000 in
theorem whole_any (h : Hold base w0 w rest) (hn : n ≤ 100000000) :
    Calls Try.prog 77 #[.int .i64 (n : Int)] w fun e w' => ∃ b, e = .returned (.pointer (some ⟨b, 0, none⟩)) ∧ HoldP base w0 w' b (Pt.whole n) rest := by
  refine Sym.enter (args := [.int .i64 (n : Int)]) Try.func77 rfl rfl rfl (fun a0 hS0 => ?_)
  refine wp_seq (seq_cut [(0, .int .i64 (n : Int))] (· = w) tab_ok hS0 ?_ (fun a w1 hS hw => ?_))
  · repeat (first | refine o_pure rfl rfl rfl (fun _ => rfl) ?_ | refine o_skip rfl rfl rfl ?_)
    exact o_nil ⟨⟨rfl, trivial⟩, rfl⟩
  subst hw
  refine wp_seq (seq_cutx (α := Nat) (fun b => [(0, .int .i64 (n : Int)), (3, .pointer (some ⟨b, 0, none⟩))]) (fun b w' => HoldP base w0 w' b ⟨[], [], List.replicate n 0, [⟨0, n, 0, 0⟩], [1], []⟩ rest) tab_ok hS ?_ (fun b a w2 hS h => ?_))
  · repeat (first | refine o_pure rfl rfl rfl (fun _ => rfl) ?_ | refine o_skip rfl rfl rfl ?_)
    refine o_make (m := n) rfl rfl rfl (fun _ => rfl) rfl rfl rfl rfl ((by show 8 * _ ≤ _; omega)) ((by omega)) ?_
    repeat (first | refine o_pure rfl rfl rfl (fun _ => rfl) ?_ | refine o_skip rfl rfl rfl ?_)
    have h1 := h.makeN (n := n) (by omega)
    refine o_step rfl rfl rfl ?_
    refine Exists.intro [(0, .agg #[.int .i64 0, .int .i64 (n : Int), .int .i64 0, .int .i64 0])] (Exists.intro #[.int .i64 0, .int .i64 (n : Int), .int .i64 0, .int .i64 0] (And.intro (And.intro rfl rfl) (And.intro (by decide) (And.intro (fill4 _ _ _ _ _ rfl) ?_))))
    have h2 := h1.lit (e := 99) (s := 4) (n := 1) #[.int .i64 0, .int .i64 (n : Int), .int .i64 0, .int .i64 0] rfl (by decide)
    refine o_step rfl rfl rfl ?_
    refine Exists.intro [(0, .int .i64 (1))] (Exists.intro #[.int .i64 (1)] (And.intro (And.intro rfl rfl) (And.intro (by decide) (And.intro (fillI _ _ _) ?_))))
    have h3 := h2.lit (e := 3) (s := 1) (n := 1) #[.int .i64 1] rfl (by decide)
    repeat (first | refine o_pure rfl rfl rfl (fun _ => rfl) ?_ | refine o_skip rfl rfl rfl ?_)
    refine o_new rfl rfl rfl (fun _ => rfl) ?_
    repeat (first | refine o_pure rfl rfl rfl (fun _ => rfl) ?_ | refine o_skip rfl rfl rfl ?_)
    have h4 := ((((h3.nil 3 1).nil 3 1).nil 21 1).box (T := 68) (k := 6) #[.slice none 0 0, .slice none 0 0, (.slice (some ⟨w1.heap.size, 0, none⟩) n n), (.slice (some ⟨(w1.alloc (.cells (madeCells #[.int .i64 0] n) 3)).heap.size, 0, none⟩) 1 1), (.slice (some ⟨((w1.alloc (.cells (madeCells #[.int .i64 0] n) 3)).alloc (.cells #[.int .i64 0, .int .i64 (n : Int), .int .i64 0, .int .i64 0] 99)).heap.size, 0, none⟩) 1 1), .slice none 0 0] rfl)
    refine o_nil ⟨_, ⟨rfl, rfl, trivial⟩, ⟨⟨.slice none 0 0, .slice none 0 0, (.slice (some ⟨w1.heap.size, 0, none⟩) n n), (.slice (some ⟨(w1.alloc (.cells (madeCells #[.int .i64 0] n) 3)).heap.size, 0, none⟩) 1 1), (.slice (some ⟨((w1.alloc (.cells (madeCells #[.int .i64 0] n) 3)).alloc (.cells #[.int .i64 0, .int .i64 (n : Int), .int .i64 0, .int .i64 0] 99)).heap.size, 0, none⟩) 1 1), .slice none 0 0⟩, h4.perm ?_⟩⟩
    exact .cons _ (.cons _ (.cons _ ((List.reverse_perm [_, _, _, _]).symm.append_right rest)))
  refine wp_seq (wp_seq (seq_cut [(3, .pointer (some ⟨b, 0, none⟩)), (13, .int .i64 (n : Int)), (14, .int .i64 ((0 : Nat) : Int))] (· = w2) tab_ok hS ?_ (fun a w3 hS hw => ?_)))
  · repeat (first | refine o_pure rfl rfl rfl (fun _ => rfl) ?_ | refine o_skip rfl rfl rfl ?_)
    exact o_nil ⟨⟨rfl, rfl, rfl, trivial⟩, rfl⟩
  subst hw
  refine wp_block (loop0 hS (fun g E w' => ∃ i : Nat, i ≤ n ∧ g = n - i ∧ E = [(3, .pointer (some ⟨b, 0, none⟩)), (13, .int .i64 (n : Int)), (14, .int .i64 (i : Int))] ∧ HoldP base w0 w' b ⟨List.range i, List.range i, List.replicate n 0, [⟨0, n, 0, 0⟩], [1], []⟩ rest) n ⟨0, by omega, by omega, rfl, h⟩ ?_)
  clear h hS
  rintro g E w4 a ⟨i, hi, rfl, rfl, h⟩ hS
  refine wp_seq (seq_cut [(3, .pointer (some ⟨b, 0, none⟩)), (13, .int .i64 (n : Int)), (14, .int .i64 (i : Int)), (15, .bool (decide (i < n)))] (· = w4) tab_ok hS ?_ (fun a w5 hS hw => ?_))
  · repeat (first | refine o_pure rfl rfl rfl (fun _ => rfl) ?_ | refine o_skip rfl rfl rfl ?_)
    refine o_cmp rfl rfl rfl (fun _ => rfl) (lt_nat _ _) ?_
    repeat (first | refine o_pure rfl rfl rfl (fun _ => rfl) ?_ | refine o_skip rfl rfl rfl ?_)
    exact o_nil ⟨⟨rfl, rfl, rfl, rfl, trivial⟩, rfl⟩
  subst hw
  refine wp_seq (cond hS rfl (fun hT => wp_skip ?_) (fun hF => ?_))
  rotate_left
  · have hin : i = n := by have := of_decide_eq_false hF; omega
    subst hin
    refine wp_exit ?_
    repeat (first | refine then_exit ?_ | refine block_exit ?_ | refine block_other rfl ?_)
    refine wp_seq (seq_cut [(2, .pointer (some ⟨b, 0, none⟩))] (· = w5) tab_ok hS ?_ (fun a w6 hS hw => ?_))
    · repeat (first | refine o_pure rfl rfl rfl (fun _ => rfl) ?_ | refine o_skip rfl rfl rfl ?_)
      exact o_nil ⟨⟨rfl, trivial⟩, rfl⟩
    subst hw
    refine wp_ret ?_
    repeat (first | refine then_ret ?_ | refine block_ret ?_)
    exact ret1 hS rfl rfl ⟨b, rfl, h⟩
  have hin : i < n := of_decide_eq_true hT
  refine wp_seq (wp_block (wp_seq (seq_cut [(3, .pointer (some ⟨b, 0, none⟩)), (4, .int .i64 (i : Int)), (13, .int .i64 (n : Int)), (14, .int .i64 (i : Int))] (· = w5) tab_ok hS ?_ (fun a w6 hS hw => ?_))))
  · repeat (first | refine o_pure rfl rfl rfl (fun _ => rfl) ?_ | refine o_skip rfl rfl rfl ?_)
    exact o_nil ⟨⟨rfl, rfl, rfl, rfl, trivial⟩, rfl⟩
  subst hw
  refine wp_seq (whole_r5 h (by simp; omega) (by omega) (by rfl) hS (fun a w7 hS h => ?_))
  refine whole_r6 h (by simp; omega) (by rfl) hS (fun a w8 hS h => ?_)
  refine block_normal ?_
  refine seq_cut [(3, .pointer (some ⟨b, 0, none⟩)), (13, .int .i64 (n : Int)), (14, .int .i64 ((i + 1 : Nat) : Int))] (· = w8) tab_ok hS ?_ (fun a w9 hS hw => ?_)
  · repeat (first | refine o_pure rfl rfl rfl (fun _ => rfl) ?_ | refine o_skip rfl rfl rfl ?_)
    refine o_num rfl rfl rfl (fun _ => rfl) (i64_add _ 1 (by omega)) ?_
    repeat (first | refine o_pure rfl rfl rfl (fun _ => rfl) ?_ | refine o_skip rfl rfl rfl ?_)
    exact o_nil ⟨⟨rfl, rfl, rfl, trivial⟩, rfl⟩
  subst hw
  refine ⟨n - (i + 1), _, by omega, ⟨i + 1, by omega, rfl, rfl, ?_⟩, hS⟩
  rw [List.range_succ]
  exact h
end
end Go.Proofs.Ythkabbgaikociaa
namespace Go.Proofs.Ythkabbgaikociaa
open Go Sym
open Go.ChangeShapes Go.WideShapes Go.ChangeAt
section
variable {H : Type} {enc : TypeId × Value → H} {P : Program} {w : World} {fuel : Nat} {x : DataW H × List MemPlace} {v : Value} {t e : TypeId}
set_option maxRecDepth 100000 in
theorem cell_spot {a : Addr} {u : Value} (h : w.cell? a = some u) : a.spot = none := by
  unfold World.cell? at h
  split at h
  · split at h
    · cases h
    · rename_i hs; simpa using hs
  · cases h
set_option maxRecDepth 100000 in
theorem add_spot {a : Addr} (h : a.spot = none) (c : Nat) : a.add c = ⟨a.block, a.off + c, none⟩ := by
  obtain ⟨b, o, s⟩ := a
  simp only at h
  subst h
  unfold Addr.add
  split
  · rename_i h0; subst h0; rfl
  · rfl
set_option maxRecDepth 100000 in
theorem i64_wf {n : Int} (h : (Lit.int .i64 n).wf = true) : I64 n := by
  simp [Lit.wf, IntKind.min, IntKind.max, IntKind.signed, IntKind.bits] at h
  exact ⟨by omega, by omega⟩
set_option maxRecDepth 100000 in
theorem list_of {α : Type} {p : Nat → α → Prop} : ∀ n : Nat, (∀ i, i < n → ∃ a, p i a) → ∃ l : List α, l.length = n ∧ ∀ i (h : i < l.length), p i l[i]
  | 0, _ => ⟨[], rfl, fun i hi => by simp at hi⟩
  | k + 1, hp => by
    obtain ⟨l, l1, l2⟩ := list_of k (fun i hi => hp i (by omega))
    obtain ⟨b, hb⟩ := hp k (Nat.lt_succ_self _)
    refine ⟨l ++ [b], by simp [l1], fun i hi => ?_⟩
    rcases Nat.lt_or_ge i l.length with h1 | h1
    · rw [List.getElem_append_left h1]; exact l2 i h1
    · have : i = l.length := by simp at hi; omega
      subst this
      rw [List.getElem_concat_length rfl, l1]; exact hb
def Light (P : Program) (t : TypeId) (d : DataW H) : Prop := ∀ n ∈ d.weights P t, n ≤ 140737488351232
set_option maxRecDepth 100000 in
theorem open_sl {α : Type} {Pr : World → Value → α → Prop} (ht : P.underlying t = some (.slice e)) (hc : P.cellsOf e = 1) (h : DataW.trod enc P w 0 (fun _ => true) true fuel t [v] = some x) (hl : Light P t x.1)
    (hel : ∀ (n : Nat) (u : Value) (y : DataW H × List MemPlace), DataW.trod enc P w 0 (fun _ => true) true n e [u] = some y → Light P e y.1 → ∃ a : α, Pr w u a) :
    ∃ l : List α, Sl w v l Pr ∧ Ok v ∧ l.length * P.bytesOf e ≤ 140737488351232 := by
  rcases Go.Deep.open_slice1 ht hc h with ⟨hcs, hx⟩ | ⟨a, len, cap, m, n, V, D, Pl, hcs, hb, hlc, hm, hmm, hx, hel2⟩
  · obtain rfl : v = .slice none 0 0 := by simpa using hcs
    exact ⟨[], ⟨none, 0, 0, 0, rfl, fun h => by simp at h, Nat.le_refl _, by decide, fun i hi => by simp at hi⟩, .inl (.inl rfl), by simp⟩
  · obtain rfl : v = .slice (some a) len cap := by simpa using hcs
    simp only [if_true] at hmm
    subst hmm
    subst hx
    have hw : (len + (m - len)) * P.bytesOf e ≤ 140737488351232 := by
      refine hl _ ?_
      simp [DataW.weights, ht]
    have hlight : ∀ i, i < len → Light P e (D i) := fun i hi n hn => by
      refine hl n ?_
      simp only [DataW.weights, ht, List.mem_cons, List.mem_append]
      refine .inr (.inl ?_)
      have : ∀ (ds : List (DataW H)) (d : DataW H), d ∈ ds → n ∈ d.weights P e → n ∈ DataW.weightsAll P e ds := by
        intro ds
        induction ds with
        | nil => intro d hd; cases hd
        | cons d0 r ih =>
          intro d hd hn
          rw [DataW.weightsAll, List.mem_append]
          rcases List.mem_cons.1 hd with rfl | hd
          · exact .inl hn
          · exact .inr (ih d hd hn)
      exact this _ (D i) (List.mem_map.2 ⟨i, List.mem_range.2 hi, rfl⟩) hn
    have hl2 := list_of (p := fun i b => Pr w (V i) b) len (fun i hi => hel n (V i) _ (hel2 i (by omega)).2 (hlight i hi))
    obtain ⟨l, rfl, l2⟩ := hl2
    have hmx : m ≤ 9223372036854775807 := by unfold maxLen at hm; exact hm
    rcases Nat.eq_zero_or_pos l.length with h0 | h0
    · refine ⟨l, ⟨some a, a.block, a.off, m, rfl, fun h => by omega, hlc, hmx, fun i hi => by omega⟩, .inl (.inr ⟨a, m, by rw [h0]⟩), by rw [h0]; simp⟩
    · have hsp : a.spot = none := by
        have := cell_spot (hel2 0 (by omega)).1
        unfold Addr.add at this
        simpa using this
      have ha : a = ⟨a.block, a.off, none⟩ := by
        obtain ⟨b, o, s⟩ := a
        simp only at hsp
        rw [hsp]
      refine ⟨l, ⟨some a, a.block, a.off, m, rfl, fun _ => by rw [← ha], hlc, hmx, fun i hi => ⟨V i, ?_, l2 i hi⟩⟩, .inr ⟨a.block, a.off, _, m, by rw [← ha]⟩, ?_⟩
      · rw [← add_spot hsp]; exact (hel2 i (by omega)).1
      · exact Nat.le_trans (Nat.mul_le_mul_right _ (by omega)) hw
set_option maxRecDepth 100000 in
theorem open_i64 (ht : P.underlying t = some (.int .i64)) (h : DataW.trod enc P w 0 (fun _ => true) true fuel t [v] = some x) : ∃ n : Int, v = .int .i64 n ∧ I64 n := by
  obtain ⟨n, h1, _, h2⟩ := DataW.trod_int ht h
  exact ⟨n, by simpa using h1, i64_wf h2⟩
set_option maxRecDepth 100000 in
theorem open_tf (ht : P.underlying t = some .bool) (h : DataW.trod enc P w 0 (fun _ => true) true fuel t [v] = some x) : ∃ b : Bool, v = .bool b := by
  obtain ⟨b, h1, _⟩ := DataW.trod_bool ht h
  exact ⟨b, by simpa using h1⟩
end
section
variable {H : Type} {enc : TypeId × Value → H} {w : World} {fuel : Nat} {x : DataW H × List MemPlace} {v : Value}
set_option maxRecDepth 100000 in
theorem cells_tInt : Try.prog.cellsOf 3 = 1 := by kernel_rfl
set_option maxRecDepth 100000 in
theorem cells_tBool : Try.prog.cellsOf 4 = 1 := by kernel_rfl
set_option maxRecDepth 100000 in
theorem cells_tInts : Try.prog.cellsOf 26 = 1 := by kernel_rfl
set_option maxRecDepth 100000 in
theorem cells_tRows : Try.prog.cellsOf 22 = 1 := by kernel_rfl
set_option maxRecDepth 100000 in
theorem cells_tBools : Try.prog.cellsOf 23 = 1 := by kernel_rfl
set_option maxRecDepth 100000 in
theorem bytes_tInt : Try.prog.bytesOf 3 = 8 := by kernel_rfl
set_option maxRecDepth 100000 in
theorem bytes_tBool : Try.prog.bytesOf 4 = 1 := by kernel_rfl
set_option maxRecDepth 100000 in
theorem bytes_tInts : Try.prog.bytesOf 26 = 24 := by kernel_rfl
def PRowB (w : World) (v : Value) (l : List Int) : Prop := PRow w v l ∧ l.length * 8 ≤ 140737488351232
set_option maxRecDepth 100000 in
theorem open_ints2 (h : DataW.trod enc Try.prog w 0 (fun _ => true) true fuel 26 [v] = some x) (hl : Light Try.prog 26 x.1) : ∃ l : List Int, PRowB w v l := by
  obtain ⟨l, h1, h2, h3⟩ := open_sl (Pr := PInt) Try.underlying26 cells_tInt h hl (fun n u y hy _ => by
    obtain ⟨a, ha, hb⟩ := open_i64 Try.underlying3 hy
    exact ⟨a, ha, hb⟩)
  rw [bytes_tInt] at h3
  exact ⟨l, ⟨h1, h2⟩, h3⟩
set_option maxRecDepth 100000 in
theorem open_bools2 (h : DataW.trod enc Try.prog w 0 (fun _ => true) true fuel 23 [v] = some x) (hl : Light Try.prog 23 x.1) : ∃ l : List Bool, Sl w v l PBool ∧ Ok v ∧ l.length ≤ 140737488351232 := by
  obtain ⟨l, h1, h2, h3⟩ := open_sl (Pr := PBool) Try.underlying23 cells_tBool h hl (fun n u y hy _ => by
    obtain ⟨a, ha⟩ := open_tf Try.underlying4 hy
    exact ⟨a, ha⟩)
  rw [bytes_tBool] at h3
  exact ⟨l, h1, h2, by omega⟩
set_option maxRecDepth 100000 in
theorem open_rows2 (h : DataW.trod enc Try.prog w 0 (fun _ => true) true fuel 22 [v] = some x) (hl : Light Try.prog 22 x.1) :
    ∃ l : List (List Int), Sl w v l PRow ∧ Ok v ∧ l.length * 24 ≤ 140737488351232 ∧ ∀ r ∈ l, r.length * 8 ≤ 140737488351232 := by
  obtain ⟨l, h1, h2, h3⟩ := open_sl (Pr := PRowB) Try.underlying22 cells_tInts h hl (fun n u y hy hly => open_ints2 hy hly)
  rw [bytes_tInts] at h3
  obtain ⟨a, b, o, cap, rfl, g1, g2, g3, g4⟩ := h1
  refine ⟨l, ⟨a, b, o, cap, rfl, g1, g2, g3, fun i hi => ?_⟩, h2, h3, fun r hr => ?_⟩
  · obtain ⟨u, u1, u2⟩ := g4 i hi
    exact ⟨u, u1, u2.1⟩
  · obtain ⟨i, hi, rfl⟩ := List.mem_iff_getElem.1 hr
    obtain ⟨u, u1, u2⟩ := g4 i hi
    exact u2.2
structure MaIn (w : World) (L s : Int) (next : List (List Int)) (fin : List Bool) (vn ve : Value) : Prop where
  ma : Ma w L s next fin vn ve
  nb : next.length * 24 ≤ 140737488351232
  rb : ∀ r ∈ next, r.length * 8 ≤ 140737488351232
  fb : fin.length ≤ 140737488351232
set_option maxRecDepth 100000 in
theorem open_machine {d : DataW H} {ps : List MemPlace} (h : DataW.Trod enc Try.prog w 0 (fun _ => true) true 25 v d ps) (hl : Light Try.prog 25 d) :
    ∃ (L s : Int) (next : List (List Int)) (fin : List Bool) (vn ve : Value), v = .agg #[.int .i64 L, .int .i64 s, vn, ve] ∧ MaIn w L s next fin vn ve := by
  obtain ⟨fuel, hf⟩ := h
  obtain ⟨xs, n, rfl, hx, hlen, hxl, hfs⟩ := DataW.trod_struct Try.underlying25 hf
  rw [show Try.prog.cellsOf 25 = 4 by kernel_rfl] at hlen
  simp only [Prod.mk.injEq] at hx
  obtain ⟨rfl, -⟩ := hx
  have hv : ∃ a b c d, v = .agg #[a, b, c, d] := by
    cases v <;> simp [Value.cells] at hlen
    rename_i cs
    obtain ⟨l⟩ := cs
    match l, hlen with
    | [a, b, c, d], _ => exact ⟨a, b, c, d, rfl⟩
  obtain ⟨va, vb, vc, vd, rfl⟩ := hv
  have f0 : DataW.trod enc Try.prog w 0 (fun _ => true) true n 3 ([va, vb, vc, vd].take (Try.prog.cellsOf 3)) = xs[0]? := hfs 0 _ rfl
  have f1 : DataW.trod enc Try.prog w 0 (fun _ => true) true n 3 ([vb, vc, vd].take (Try.prog.cellsOf 3)) = xs[1]? := hfs 1 _ rfl
  have f2 : DataW.trod enc Try.prog w 0 (fun _ => true) true n 22 ([vc, vd].take (Try.prog.cellsOf 22)) = xs[2]? := hfs 2 _ rfl
  have f3 : DataW.trod enc Try.prog w 0 (fun _ => true) true n 23 ([vd].take (Try.prog.cellsOf 23)) = xs[3]? := hfs 3 _ rfl
  rw [cells_tInt] at f0 f1
  rw [cells_tRows] at f2
  rw [cells_tBools] at f3
  match xs, hxl with
  | [x0, x1, x2, x3], _ =>
    replace f0 : DataW.trod enc Try.prog w 0 (fun _ => true) true n 3 [va] = some x0 := f0
    replace f1 : DataW.trod enc Try.prog w 0 (fun _ => true) true n 3 [vb] = some x1 := f1
    replace f2 : DataW.trod enc Try.prog w 0 (fun _ => true) true n 22 [vc] = some x2 := f2
    replace f3 : DataW.trod enc Try.prog w 0 (fun _ => true) true n 23 [vd] = some x3 := f3
    have hw : ∀ (i : Nat) (t : TypeId) (y : DataW H × List MemPlace), [(3 : TypeId), 3, 22, 23][i]? = some t → [x0, x1, x2, x3][i]? = some y → Light Try.prog t y.1 := fun i t y ht hy m hm => by
      refine hl m ?_
      simp only [DataW.weights, Try.underlying25]
      refine DataW.weights_mem_each (j := i) (t := t) (d := y.1) ?_ ?_ m hm
      · simpa using ht
      · rw [List.getElem?_map, hy]; rfl
    obtain ⟨L, rfl, hL⟩ := open_i64 Try.underlying3 f0
    obtain ⟨s, rfl, hs⟩ := open_i64 Try.underlying3 f1
    obtain ⟨next, n1, n2, n3, n4⟩ := open_rows2 f2 (hw 2 _ _ rfl rfl)
    obtain ⟨fin, e1, e2, e3⟩ := open_bools2 f3 (hw 3 _ _ rfl rfl)
    exact ⟨L, s, next, fin, vc, vd, rfl, ⟨⟨n1, e1, hL, hs, n2, e2⟩, n3, n4, e3⟩⟩
end
section
variable {H : Type} {enc : TypeId × Value → H}
set_option maxRecDepth 100000 in
theorem args_stay {P : Program} (hl : laidOutB P = true) {W W' : World} (hb : RowKit.Below W.heap.size W W') : ∀ {ts : List TypeId} {vs : List Value} {ds : List (DataW H)} {ps : List MemPlace},
    (∀ t ∈ ts, P.readableRec t = true ∧ t < P.types.size) → (∀ p ∈ ps, p.block < W.heap.size) → DataW.TrodAll enc P W 0 (fun _ => true) true ts vs ds ps → DataW.TrodAll enc P W' 0 (fun b => decide (b < W.heap.size)) true ts vs ds ps
  | [], vs, ds, ps, _, _, h => by
    cases vs <;> cases ds <;> simp only [DataW.TrodAll] at h ⊢
    exact h
  | t :: ts, vs, ds, ps, hr, hlt, h => by
    obtain ⟨v, vs', d, ds', p, q, rfl, rfl, rfl, h1, h2⟩ := trodAll_cons h
    exact ⟨p, q, RowKit.Below.trod hl (hr t (List.mem_cons_self ..)).1 (hr t (List.mem_cons_self ..)).2 h1 hb (fun x hx => hlt x (List.mem_append_left _ hx)),
      args_stay hl hb (fun u hu => hr u (List.mem_cons_of_mem _ hu)) (fun x hx => hlt x (List.mem_append_right _ hx)) h2, rfl⟩
set_option maxRecDepth 100000 in
theorem law_post {f : Func} {s : ChangeSpec} {W W' : World} {args : Array Value} {ds gs : List (DataW H)} {before : List MemPlace} {tb : TypeId}
    (hW : DataW.Whole enc Try.prog f.params.toList s.vars false W args.toList ds gs before) (hs0 : s.vars = []) (hsp : s.fn H ds = { results := [.lit (.bool true)], args := ds }) (hr : f.resultTypes = #[tb]) (hbool : Try.prog.underlying tb = some .bool)
    (hl : laidOutB Try.prog = true) (hts : ∀ t ∈ f.params.toList, Try.prog.readableRec t = true ∧ t < Try.prog.types.size) (hb : RowKit.Below W.heap.size W W') : s.post enc Try.prog f false true false false W args (.bool true) W' := by
  have hW' := hW
  obtain ⟨p, q, hA, hV, rfl, _, _⟩ := hW
  rw [hs0] at hV
  obtain ⟨rfl, rfl⟩ := trodVars_none hV
  have hlt : ∀ x ∈ p, x.block < W.heap.size := fun x hx => hW'.lt x (List.mem_append_left _ hx)
  have hsp' : s.fn H (ds ++ []) = { results := [.lit (.bool true)], args := ds } := by rw [List.append_nil]; exact hsp
  refine ⟨ds, [], p ++ [], [], p, [], hW', ?_, ?_, ?_, (hb.frame _), fun h => by cases h⟩
  · rw [hsp', hr]
    exact trodAll_mk1 (RowKit.shut_bool hbool true)
  · rw [hsp']
    exact args_stay hl hb hts hlt hA
  · rw [hsp', hs0]
    exact rfl
end
end Go.Proofs.Ythkabbgaikociaa
namespace Go.Proofs.Ythkabbgaikociaa
open Go Sym
theorem Rows.lit {base : Nat} {w : World} {l : List Ow} (h : Rows base w l) (hb : base ≤ w.heap.size) (cs : List Value) (e n : Nat) (hn : cs.length = n) (hm : n ≤ 9223372036854775807) : Rows base (w.alloc (.cells cs.toArray e)) (⟨.slice (some ⟨w.heap.size, 0, none⟩) n n, e, 1, n, cs⟩ :: l) := by
  refine h.new (World.grownBy_alloc w _ none) ?_ (.inr ⟨_, rfl, Nat.le_refl _⟩)
  have h1 := World.ownsRow_lit (base := base) (e := e) (size := 1) w cs.toArray n hb (by unfold maxLen; exact hm) (by simp [hn])
  simpa [Ow.ok] using h1
theorem Rows.slRows {base : Nat} {w : World} {l : List Ow} (h : Rows base w l) {i : Nat} {v : Value} {e : Nat} {vs : List Value} {next : List (List Int)} (hi : l[i]? = some ⟨v, e, 1, vs.length, vs⟩) (hl : vs.length = next.length)
    (hr : ∀ j (h1 : j < vs.length) (h2 : j < next.length), ∃ k : Nat, l[k]? = some (oI vs[j] next[j]) ∧ ∀ x ∈ next[j], I64 x) : Sl w v next PRow ∧ Ok v := by
  refine sl_own (P := PRow) (h.1 i _ hi) hl fun j hj => ⟨vs[j], by simp [hl, hj], ?_⟩
  obtain ⟨k, h1, h2⟩ := hr j (by omega) hj
  exact h.slI h1 h2
theorem fillS3 (g0 g1 g2 : Option Addr) (n0 n1 n2 c0 c1 c2 : Nat) (z : Value) : Instr.fill (fun i => some (i * 1, 1)) (madeCells #[z] 3) [(0, .slice g0 n0 c0), (1, .slice g1 n1 c1), (2, .slice g2 n2 c2)] = some #[.slice g0 n0 c0, .slice g1 n1 c1, .slice g2 n2 c2] := by
  have h : ∀ g n c, (Value.slice g n c).cells = #[.slice g n c] := fun _ _ _ => rfl
  simp [Instr.fill, madeCells, h, Array.range, Array.foldl]
  rfl
theorem fillB3 (a b c : Bool) (z : Value) : Instr.fill (fun i => some (i * 1, 1)) (madeCells #[z] 3) [(0, .bool a), (1, .bool b), (2, .bool c)] = some #[.bool a, .bool b, .bool c] := by
  have h : ∀ b, (Value.bool b).cells = #[.bool b] := fun _ => rfl
  simp [Instr.fill, madeCells, h, Array.range, Array.foldl]
  rfl
set_option maxRecDepth 100000 in
theorem even_any (w : World) : Calls Try.prog 34 #[] w fun e w' => ∃ vn ve, e = .returned (.agg #[.int .i64 1, .int .i64 0, vn, ve]) ∧ Ma w' 1 0 evenN evenF vn ve ∧ RowKit.Below w.heap.size w w' := by
  refine Sym.enter (args := []) Try.func34 rfl rfl rfl (fun a0 hS0 => ?_)
  obtain ⟨N, hN⟩ : ∃ N, N = w.heap.size := ⟨_, rfl⟩
  refine wp_seq (seq_cut [(0, .pointer (some ⟨N, 0, none⟩))] (· = w.alloc (.cells #[.int .i64 0, .int .i64 0, .slice none 0 0, .slice none 0 0] 25)) tab_ok hS0 ?_ (fun a wc hS hw => ?_))
  · subst hN
    refine o_new rfl rfl rfl (fun _ => rfl) ?_
    repeat (first | refine o_pure rfl rfl rfl (fun _ => rfl) ?_ | refine o_skip rfl rfl rfl ?_)
    exact o_nil ⟨⟨rfl, trivial⟩, rfl⟩
  have hB : RowKit.Below w.heap.size w wc := by rw [hw]; exact below_alloc _ _
  have ho : OwnB wc N 25 [.int .i64 0, .int .i64 0, .slice none 0 0, .slice none 0 0] := by rw [hw, hN]; exact OwnB.new _ _ _
  clear hw
  refine wp_seq (seq_cutx (α := Value × Value) (fun _ => [(0, .pointer (some ⟨N, 0, none⟩))]) (fun x w' => RowKit.Below w.heap.size w w' ∧ Ma w' 1 0 evenN evenF x.1 x.2 ∧ OwnB w' N 25 [.int .i64 1, .int .i64 0, x.1, x.2]) tab_ok hS ?_ (fun x a w1 hS h1 => ?_))
  · have R0 := Rows.nil wc.heap.size wc
    have R1 := R0.lit (Nat.le_refl _) [.int .i64 1] 3 1 rfl (by decide)
    obtain ⟨w1, hw1⟩ : ∃ w1, wc.alloc (.cells #[.int .i64 1] 3) = w1 := ⟨_, rfl⟩
    have hB1 : RowKit.Below wc.heap.size wc w1 := by rw [← hw1]; exact below_alloc _ _
    rw [show wc.alloc (.cells [Value.int .i64 1].toArray 3) = w1 from hw1] at R1
    have R2 := R1.lit hB1.size [.int .i64 2] 3 1 rfl (by decide)
    obtain ⟨w2, hw2⟩ : ∃ w2, w1.alloc (.cells #[.int .i64 2] 3) = w2 := ⟨_, rfl⟩
    have hB2 : RowKit.Below wc.heap.size wc w2 := below_trans hB1 (by rw [← hw2]; exact below_alloc _ _)
    rw [show w1.alloc (.cells [Value.int .i64 2].toArray 3) = w2 from hw2] at R2
    have R3 := R2.lit hB2.size [.int .i64 1] 3 1 rfl (by decide)
    obtain ⟨w3, hw3⟩ : ∃ w3, w2.alloc (.cells #[.int .i64 1] 3) = w3 := ⟨_, rfl⟩
    have hB3 : RowKit.Below wc.heap.size wc w3 := below_trans hB2 (by rw [← hw3]; exact below_alloc _ _)
    rw [show w2.alloc (.cells [Value.int .i64 1].toArray 3) = w3 from hw3] at R3
    have R4 := R3.lit hB3.size [.slice (some ⟨wc.heap.size, 0, none⟩) 1 1, .slice (some ⟨w1.heap.size, 0, none⟩) 1 1, .slice (some ⟨w2.heap.size, 0, none⟩) 1 1] 26 3 rfl (by decide)
    obtain ⟨w4, hw4⟩ : ∃ w4, w3.alloc (.cells #[.slice (some ⟨wc.heap.size, 0, none⟩) 1 1, .slice (some ⟨w1.heap.size, 0, none⟩) 1 1, .slice (some ⟨w2.heap.size, 0, none⟩) 1 1] 26) = w4 := ⟨_, rfl⟩
    have hB4 : RowKit.Below wc.heap.size wc w4 := below_trans hB3 (by rw [← hw4]; exact below_alloc _ _)
    rw [show w3.alloc (.cells [Value.slice (some ⟨wc.heap.size, 0, none⟩) 1 1, .slice (some ⟨w1.heap.size, 0, none⟩) 1 1, .slice (some ⟨w2.heap.size, 0, none⟩) 1 1].toArray 26) = w4 from hw4] at R4
    have R5 := R4.lit hB4.size [.bool true, .bool false, .bool true] 4 3 rfl (by decide)
    obtain ⟨w5, hw5⟩ : ∃ w5, w4.alloc (.cells #[.bool true, .bool false, .bool true] 4) = w5 := ⟨_, rfl⟩
    have hB5 : RowKit.Below wc.heap.size wc w5 := below_trans hB4 (by rw [← hw5]; exact below_alloc _ _)
    rw [show w4.alloc (.cells [Value.bool true, .bool false, .bool true].toArray 4) = w5 from hw5] at R5
    have ho5 := ho.keep hB5 ho.lt
    have hg := grown_sets N [.int .i64 1, .int .i64 0, .slice (some ⟨w3.heap.size, 0, none⟩) 3 3, .slice (some ⟨w4.heap.size, 0, none⟩) 3 3] 0 w5
    have hNc : N < wc.heap.size := ho.lt
    have R6 := R5.keptLow hg (fun k hk => by cases hk; exact hNc)
    have hn := R6.slRows (i := 1) (vs := [.slice (some ⟨wc.heap.size, 0, none⟩) 1 1, .slice (some ⟨w1.heap.size, 0, none⟩) 1 1, .slice (some ⟨w2.heap.size, 0, none⟩) 1 1]) (next := evenN) rfl rfl (fun j h1 h2 => by
      match j, h1 with
      | 0, _ => exact ⟨4, rfl, fun x hx => by simp [evenN] at hx; subst hx; exact ⟨by decide, by decide⟩⟩
      | 1, _ => exact ⟨3, rfl, fun x hx => by simp [evenN] at hx; subst hx; exact ⟨by decide, by decide⟩⟩
      | 2, _ => exact ⟨2, rfl, fun x hx => by simp [evenN] at hx; subst hx; exact ⟨by decide, by decide⟩⟩)
    have he := R6.slB (i := 0) (xs := evenF) rfl
    have hma : Ma _ 1 0 evenN evenF (.slice (some ⟨w3.heap.size, 0, none⟩) 3 3) (.slice (some ⟨w4.heap.size, 0, none⟩) 3 3) := ⟨hn.1, he.1, ⟨by decide, by decide⟩, ⟨by decide, by decide⟩, hn.2, he.2⟩
    have hlow : RowKit.Below w.heap.size w _ := below_of_grown (below_trans hB hB5) hg (fun k hk => by cases hk; omega)
    refine o_step rfl rfl rfl ?_
    refine Exists.intro [(0, .int .i64 (1))] (Exists.intro #[.int .i64 (1)] (And.intro (And.intro rfl rfl) (And.intro (by decide) (And.intro (fillI _ _ _) ?_))))
    rw [hw1]
    refine o_step rfl rfl rfl ?_
    refine Exists.intro [(0, .int .i64 (2))] (Exists.intro #[.int .i64 (2)] (And.intro (And.intro rfl rfl) (And.intro (by decide) (And.intro (fillI _ _ _) ?_))))
    rw [hw2]
    refine o_step rfl rfl rfl ?_
    refine Exists.intro [(0, .int .i64 (1))] (Exists.intro #[.int .i64 (1)] (And.intro (And.intro rfl rfl) (And.intro (by decide) (And.intro (fillI _ _ _) ?_))))
    rw [hw3]
    refine o_step rfl rfl rfl ?_
    refine Exists.intro [(0, .slice (some ⟨wc.heap.size, 0, none⟩) 1 1), (1, .slice (some ⟨w1.heap.size, 0, none⟩) 1 1), (2, .slice (some ⟨w2.heap.size, 0, none⟩) 1 1)] (Exists.intro _ (And.intro (And.intro rfl rfl) (And.intro (by decide) (And.intro (fillS3 ..) ?_))))
    rw [hw4]
    refine o_step rfl rfl rfl ?_
    refine Exists.intro [(0, .bool true), (1, .bool false), (2, .bool true)] (Exists.intro _ (And.intro (And.intro rfl rfl) (And.intro (by decide) (And.intro (fillB3 ..) ?_))))
    rw [hw5]
    repeat (first | refine o_pure rfl rfl rfl (fun _ => rfl) ?_ | refine o_skip rfl rfl rfl ?_)
    refine o_step0 rfl rfl (And.intro rfl (And.intro rfl (And.intro (own_cells4 ho5) ?_)))
    exact o_nil ⟨(.slice (some ⟨w3.heap.size, 0, none⟩) 3 3, .slice (some ⟨w4.heap.size, 0, none⟩) 3 3), ⟨rfl, trivial⟩, hlow, hma, ho5.sets rfl⟩
  obtain ⟨h1, h2, h3⟩ := h1
  refine wp_ret ?_
  repeat (first | refine then_ret ?_ | refine block_ret ?_)
  refine retc1 tab_ok hS rfl rfl rfl rfl (o := 0) (vs := [.int .i64 1, .int .i64 0, x.1, x.2]) ⟨h3.cell (i := 0) rfl, h3.cell (i := 1) rfl, h3.cell (i := 2) rfl, h3.cell (i := 3) rfl, trivial⟩ rfl ⟨x.1, x.2, rfl, h2, h1⟩
end Go.Proofs.Ythkabbgaikociaa
namespace Go.Proofs.Ythkabbgaikociaa
open Go Sym
def ValidC (f : Nat) : Prop := ∀ (L s : Int) (vn ve : Value) (next : List (List Int)) (fin : List Bool) (w : World), Ma w L s next fin vn ve →
  Calls Try.prog f #[.agg #[.int .i64 L, .int .i64 s, vn, ve]] w fun e w' => e = .returned (.int .i64 (validM L s next fin)) ∧ RowKit.Below w.heap.size w w'
def AcceptsC (f : Nat) : Prop := ∀ (L s : Int) (vn ve vw : Value) (next : List (List Int)) (fin : List Bool) (word : List Int) (w : World), Ma w L s next fin vn ve → Sl w vw word PInt →
  Calls Try.prog f #[.agg #[.int .i64 L, .int .i64 s, vn, ve], vw] w fun e w' => e = .returned (.bool (acceptsM L s next fin word)) ∧ RowKit.Below w.heap.size w w'
def LeastC (f : Nat) : Prop := ∀ (L s : Int) (vn ve : Value) (next : List (List Int)) (fin : List Bool) (w : World), Ma w L s next fin vn ve → next.length ≤ 100 →
  Calls Try.prog f #[.agg #[.int .i64 L, .int .i64 s, vn, ve]] w fun e w' => ∃ (L' s' r : Int) (vn' ve' : Value) (n' : List (List Int)) (f' : List Bool), e = .returned (.tuple #[.agg #[.int .i64 L', .int .i64 s', vn', ve'], .int .i64 r]) ∧ Ma w' L' s' n' f' vn' ve' ∧ RowKit.Below w.heap.size w w' ∧ LeastI L s next fin L' s' n' f' r
def DifferC (f : Nat) : Prop := ∀ (L1 s1 L2 s2 : Int) (vn1 ve1 vn2 ve2 : Value) (n1 n2 : List (List Int)) (f1 f2 : List Bool) (w : World), Ma w L1 s1 n1 f1 vn1 ve1 → Ma w L2 s2 n2 f2 vn2 ve2 → n1.length ≤ 100 → n2.length ≤ 100 →
  Calls Try.prog f #[.agg #[.int .i64 L1, .int .i64 s1, vn1, ve1], .agg #[.int .i64 L2, .int .i64 s2, vn2, ve2]] w fun e w' => ∃ (vw : Value) (word : List Nat) (b : Bool) (r : Int), e = .returned (.tuple #[vw, .bool b, .int .i64 r]) ∧ Sl w' vw (word.map Int.ofNat) PInt ∧ Ok vw ∧ RowKit.Below w.heap.size w w' ∧ DiffE L1 s1 n1 f1 L2 s2 n2 f2 word b r
def RelateC (f : Nat) : Prop := ∀ (L1 s1 L2 s2 : Int) (vn1 ve1 vn2 ve2 : Value) (n1 n2 : List (List Int)) (f1 f2 : List Bool) (w : World), Ma w L1 s1 n1 f1 vn1 ve1 → Ma w L2 s2 n2 f2 vn2 ve2 → n1.length ≤ 100 → n2.length ≤ 100 →
  Calls Try.prog f #[.agg #[.int .i64 L1, .int .i64 s1, vn1, ve1], .agg #[.int .i64 L2, .int .i64 s2, vn2, ve2]] w fun e w' => ∃ (vl : Value) (l : List (Int × Int)) (r : Int), e = .returned (.tuple #[vl, .int .i64 r]) ∧ SlP w' vl l ∧ RowKit.Below w.heap.size w w' ∧ RelE L1 s1 n1 f1 L2 s2 n2 f2 l r
def CheckC (f : Nat) : Prop := ∀ (L1 s1 L2 s2 : Int) (vn1 ve1 vn2 ve2 v : Value) (n1 n2 : List (List Int)) (f1 f2 : List Bool) (l : List (Int × Int)) (w : World), Ma w L1 s1 n1 f1 vn1 ve1 → Ma w L2 s2 n2 f2 vn2 ve2 → SlP w v l →
  Calls Try.prog f #[.agg #[.int .i64 L1, .int .i64 s1, vn1, ve1], .agg #[.int .i64 L2, .int .i64 s2, vn2, ve2], v] w fun e w' => e = .returned (.int .i64 (checkM L1 s1 n1 f1 L2 s2 n2 f2 l)) ∧ RowKit.Below w.heap.size w w'
def CountC (f : Nat) : Prop := ∀ (L s len : Int) (vn ve : Value) (next : List (List Int)) (fin : List Bool) (w : World), Ma w L s next fin vn ve → I64 len → next.length ≤ 4000 →
  Calls Try.prog f #[.agg #[.int .i64 L, .int .i64 s, vn, ve], .int .i64 len] w fun e w' => e = .returned (.tuple #[.int .u64 (countM L s next fin len).1, .int .i64 (countM L s next fin len).2]) ∧ RowKit.Below w.heap.size w w'
structure AwakeC : Prop where
  least : LeastC 20
  differ : DifferC 23
  relate : RelateC 24
  check : CheckC 25
  count : CountC 28
  accepts : AcceptsC 17
theorem en_even : enters Try.prog 34 = true := by kernel_rfl
theorem en_aLeast : enters Try.prog 20 = true := by kernel_rfl
theorem en_aDiffer : enters Try.prog 23 = true := by kernel_rfl
theorem en_aRelate : enters Try.prog 24 = true := by kernel_rfl
theorem en_aCheck : enters Try.prog 25 = true := by kernel_rfl
theorem en_aCount : enters Try.prog 28 = true := by kernel_rfl
theorem en_aAccepts : enters Try.prog 17 = true := by kernel_rfl
theorem fillI2 (k : IntKind) (a b : Int) (z : Value) : Instr.fill (fun i => some (i * 1, 1)) (madeCells #[z] 2) [(0, .int k a), (1, .int k b)] = some #[.int k a, .int k b] := by
  have h : ∀ a, (Value.int k a).cells = #[.int k a] := fun _ => rfl
  simp [Instr.fill, madeCells, h, Array.range, Array.foldl]
  rfl
theorem fillB1 (a : Bool) (z : Value) : Instr.fill (fun i => some (i * 1, 1)) (madeCells #[z] 1) [(0, .bool a)] = some #[.bool a] := by
  have h : ∀ b, (Value.bool b).cells = #[.bool b] := fun _ => rfl
  simp [Instr.fill, madeCells, h, Array.range, Array.foldl]
  rfl
theorem sl_lit (w : World) (l : List Int) (n : Nat) (hn : n = l.length) (hI : ∀ x ∈ l, I64 x) (hm : l.length ≤ 9223372036854775807) : Sl (w.alloc (.cells (ints l).toArray 3)) (.slice (some ⟨w.heap.size, 0, none⟩) n n) l PInt := by
  subst hn
  have R := (Rows.nil w.heap.size w).lit (Nat.le_refl _) (ints l) 3 l.length (by simp) hm
  exact (R.slI (i := 0) (xs := l) (v := .slice (some ⟨w.heap.size, 0, none⟩) l.length l.length) (by simp [oI]) hI).1
theorem SlP.take {w : World} {g : Option Addr} {n c : Nat} {l : List (Int × Int)} (h : SlP w (.slice g n c) l) (k : Nat) (hk : k ≤ l.length) : SlP w (.slice g k c) (l.take k) := by
  obtain ⟨a, b, o, cap, e, h1, h2, h3, h4⟩ := h
  simp only [Value.slice.injEq] at e
  obtain ⟨rfl, rfl, rfl⟩ := e
  have hl : (l.take k).length = k := by simp; omega
  exact ⟨g, b, o, c, by rw [hl], fun h0 => h1 (by omega), by omega, h3, fun i hi => by
    have hi' : i < l.length := by omega
    rw [List.getElem_take]
    exact h4 i hi'⟩
theorem SlP.len {w : World} {v : Value} {l : List (Int × Int)} (h : SlP w v l) : ∃ g c, v = .slice g l.length c ∧ l.length ≤ c := by
  obtain ⟨a, b, o, cap, e, h1, h2, h3, h4⟩ := h
  exact ⟨a, cap, e, h2⟩
set_option maxRecDepth 100000 in
theorem awake_r3 (C : AwakeC) {w : World} {M1 M2 : Nat} {vn2 ve2 : Value} (hx2 : Box w M2 1 0 vn2 ve2) (hm2 : Ma w 1 0 allN allF vn2 ve2)
    {Q : Exit → Act → World → Prop} {a : Act} {ops : Array Oper} {id : Nat} (hops : Sym.regionOf Try.f12.body 3 = some (id, ops))
    (hS : St Try.f12.ntmps a [(1, .pointer (some ⟨M1, 0, none⟩)), (2, .int .i64 0), (3, .pointer (some ⟨M2, 0, none⟩))])
    (hq : ∀ vw a' w', St Try.f12.ntmps a' [(1, .pointer (some ⟨M1, 0, none⟩)), (2, .int .i64 0), (4, vw), (5, .bool false), (6, .int .i64 0)] → RowKit.Below w.heap.size w w' ∧ Sl w' vw [0] PInt → Q .normal a' w') : (Code.region id ops true).wp Try.prog Q a w := by
  cases hops
  refine any_cutx (α := Value) 10 (fun vw => [(1, .pointer (some ⟨M1, 0, none⟩)), (2, .int .i64 0), (4, vw), (5, .bool false), (6, .int .i64 0)]) (fun vw w' => RowKit.Below w.heap.size w w' ∧ Sl w' vw [0] PInt) mixed hS ?_ hq
  have hy : RowKit.Below w.drew.heap.size w.drew w.drew := RowKit.Below.refl _ _
  have hkm := fun w1 (h : RowKit.Below w.drew.heap.size w.drew w1) => hm2.keep (show RowKit.Below w.heap.size w w1 from undrew h)
  refine y_take 1 tab_ok rfl (by kernel_rfl) (by kernel_rfl) (by kernel_rfl) rfl (by kernel_rfl) rfl hy rfl rfl rfl (Exists.intro ([.int .i64 1, .int .i64 0, vn2, ve2]) (And.intro rfl (And.intro (hx2.cells) rfl))) ?_
  refine y_one 0 (by kernel_rfl) (y_op 0 tab_ok rfl rfl rfl rfl ?_)
  refine And.intro en_even ((even_any _).mono ?_)
  rintro e w1 ⟨vn, ve, rfl, hm1, h1⟩
  refine ⟨_, rfl, ?_⟩
  refine And.intro (.inr h1) ?_
  refine y_one 2 (by kernel_rfl) (y_op 2 tab_ok rfl rfl rfl rfl ?_)
  refine And.intro en_aDiffer ((C.differ 1 0 1 0 vn ve vn2 ve2 evenN allN evenF allF w1 hm1 (hkm w1 h1) (by decide) (by decide)).mono ?_)
  rintro e w2 ⟨vw, word, b, r, rfl, hs2, _, h2, hI⟩
  obtain ⟨rfl, rfl, rfl⟩ := even_differ hI
  refine ⟨_, rfl, ?_⟩
  have hy2 := below_trans h1 h2
  refine And.intro (.inr hy2) ?_
  refine y_take 3 tab_ok rfl (by kernel_rfl) (by kernel_rfl) (by kernel_rfl) rfl (by kernel_rfl) rfl hy2 rfl rfl rfl (rfl) ?_
  refine y_take 4 tab_ok rfl (by kernel_rfl) (by kernel_rfl) (by kernel_rfl) rfl (by kernel_rfl) rfl hy2 rfl rfl rfl (rfl) ?_
  refine y_take 5 tab_ok rfl (by kernel_rfl) (by kernel_rfl) (by kernel_rfl) rfl (by kernel_rfl) rfl hy2 rfl rfl rfl (rfl) ?_
  refine y_take 6 tab_ok rfl (by kernel_rfl) (by kernel_rfl) (by kernel_rfl) rfl (by kernel_rfl) rfl hy2 rfl rfl rfl (rfl) ?_
  refine y_take 7 tab_ok rfl (by kernel_rfl) (by kernel_rfl) (by kernel_rfl) rfl (by kernel_rfl) rfl hy2 rfl rfl rfl (rfl) ?_
  refine y_take 8 tab_ok rfl (by kernel_rfl) (by kernel_rfl) (by kernel_rfl) rfl (by kernel_rfl) rfl hy2 rfl rfl rfl (rfl) ?_
  refine y_take 9 tab_ok rfl (by kernel_rfl) (by kernel_rfl) (by kernel_rfl) rfl (by kernel_rfl) rfl hy2 rfl rfl rfl (rfl) ?_
  exact y_endx _ (by kernel_rfl) ⟨rfl, rfl, rfl, rfl, rfl, trivial⟩ ⟨undrew hy2, hs2⟩
set_option maxRecDepth 100000 in
theorem awake_r4 (C : AwakeC) {w : World} {M1 : Nat} {vn1 ve1 vw : Value} (hx1 : Box w M1 1 0 vn1 ve1) (hm1 : Ma w 1 0 twoN twoF vn1 ve1)
    {Q : Exit → Act → World → Prop} {a : Act} {ops : Array Oper} {id : Nat} (hops : Sym.regionOf Try.f12.body 4 = some (id, ops))
    (hS : St Try.f12.ntmps a [(1, .pointer (some ⟨M1, 0, none⟩)), (2, .int .i64 0), (4, vw), (5, .bool false), (6, .int .i64 0)])
    (hq : ∀ vl a' w', St Try.f12.ntmps a' [(1, .pointer (some ⟨M1, 0, none⟩)), (2, .int .i64 0), (4, vw), (5, .bool false), (6, .int .i64 0), (7, vl), (8, .int .i64 0)] → RowKit.Below w.heap.size w w' ∧ SlP w' vl evenP → Q .normal a' w') : (Code.region id ops true).wp Try.prog Q a w := by
  cases hops
  refine any_cutx (α := Value) 8 (fun vl => [(1, .pointer (some ⟨M1, 0, none⟩)), (2, .int .i64 0), (4, vw), (5, .bool false), (6, .int .i64 0), (7, vl), (8, .int .i64 0)]) (fun vl w' => RowKit.Below w.heap.size w w' ∧ SlP w' vl evenP) mixed hS ?_ hq
  have hy : RowKit.Below w.drew.heap.size w.drew w.drew := RowKit.Below.refl _ _
  have hkm := fun w1 (h : RowKit.Below w.drew.heap.size w.drew w1) => hm1.keep (show RowKit.Below w.heap.size w w1 from undrew h)
  refine y_take 1 tab_ok rfl (by kernel_rfl) (by kernel_rfl) (by kernel_rfl) rfl (by kernel_rfl) rfl hy rfl rfl rfl (Exists.intro ([.int .i64 1, .int .i64 0, vn1, ve1]) (And.intro rfl (And.intro (hx1.cells) rfl))) ?_
  refine y_one 0 (by kernel_rfl) (y_op 0 tab_ok rfl rfl rfl rfl ?_)
  refine And.intro en_even ((even_any _).mono ?_)
  rintro e w1 ⟨vn, ve, rfl, hme, h1⟩
  refine ⟨_, rfl, ?_⟩
  refine And.intro (.inr h1) ?_
  refine y_one 2 (by kernel_rfl) (y_op 2 tab_ok rfl rfl rfl rfl ?_)
  refine And.intro en_aRelate ((C.relate 1 0 1 0 vn ve vn1 ve1 evenN twoN evenF twoF w1 hme (hkm w1 h1) (by decide) (by decide)).mono ?_)
  rintro e w2 ⟨vl, l, r, rfl, hs2, h2, hI⟩
  obtain ⟨rfl, rfl⟩ := even_relate hI
  refine ⟨_, rfl, ?_⟩
  have hy2 := below_trans h1 h2
  refine And.intro (.inr hy2) ?_
  refine y_take 3 tab_ok rfl (by kernel_rfl) (by kernel_rfl) (by kernel_rfl) rfl (by kernel_rfl) rfl hy2 rfl rfl rfl (rfl) ?_
  refine y_take 4 tab_ok rfl (by kernel_rfl) (by kernel_rfl) (by kernel_rfl) rfl (by kernel_rfl) rfl hy2 rfl rfl rfl (rfl) ?_
  refine y_take 5 tab_ok rfl (by kernel_rfl) (by kernel_rfl) (by kernel_rfl) rfl (by kernel_rfl) rfl hy2 rfl rfl rfl (rfl) ?_
  refine y_take 6 tab_ok rfl (by kernel_rfl) (by kernel_rfl) (by kernel_rfl) rfl (by kernel_rfl) rfl hy2 rfl rfl rfl (rfl) ?_
  refine y_take 7 tab_ok rfl (by kernel_rfl) (by kernel_rfl) (by kernel_rfl) rfl (by kernel_rfl) rfl hy2 rfl rfl rfl (rfl) ?_
  exact y_endx _ (by kernel_rfl) ⟨rfl, rfl, rfl, rfl, rfl, rfl, rfl, trivial⟩ ⟨undrew hy2, hs2⟩
set_option maxRecDepth 100000 in
set_option maxHeartbeats 2000000 in
theorem awake_r8 (C : AwakeC) {w : World} {M1 : Nat} {vn1 ve1 vl : Value} (hx1 : Box w M1 1 0 vn1 ve1) (hm1 : Ma w 1 0 twoN twoF vn1 ve1) (hl : SlP w vl evenP)
    {Q : Exit → Act → World → Prop} {a : Act} {ops : Array Oper} {id : Nat} (hops : Sym.regionOf Try.f12.body 8 = some (id, ops))
    (hS : St Try.f12.ntmps a [(1, .pointer (some ⟨M1, 0, none⟩)), (7, vl), (74, .bool false)])
    (hq : ∀ a' w', St Try.f12.ntmps a' [(0, .bool true)] → RowKit.Below w.heap.size w w' → Q .normal a' w') : (Code.region id ops true).wp Try.prog Q a w := by
  cases hops
  refine any_cut 25 [(0, .bool true)] (fun w' => RowKit.Below w.heap.size w w') mixed hS ?_ hq
  have hy : RowKit.Below w.drew.heap.size w.drew w.drew := RowKit.Below.refl _ _
  have hkm := fun w1 (h : RowKit.Below w.drew.heap.size w.drew w1) => hm1.keep (show RowKit.Below w.heap.size w w1 from undrew h)
  have hkl := fun w1 (h : RowKit.Below w.drew.heap.size w.drew w1) => hl.keep (show RowKit.Below w.heap.size w w1 from undrew h)
  obtain ⟨gl, cl, rfl, hcl⟩ := hl.len
  have hcl : 3 ≤ cl := hcl
  refine y_two 0 1 (by kernel_rfl) (y_op 0 tab_ok rfl rfl rfl rfl ?_) (y_op 1 tab_ok rfl rfl rfl rfl ?_)
  ·
    refine And.intro en_even ((even_any _).mono ?_)
    rintro e wA1 ⟨vnA, veA, rfl, hmA, hA1⟩
    refine ⟨_, rfl, ?_⟩
    have hyA1 := below_trans hy hA1
    refine And.intro (.inr hyA1) ?_
    refine y_one 1 (by kernel_rfl) (y_op 1 tab_ok rfl rfl rfl rfl ?_)
    refine Exists.intro [(0, .int .i64 0), (1, .int .i64 0)] (Exists.intro _ (And.intro (And.intro rfl rfl) (And.intro (by decide) (And.intro (fillI2 ..) ?_))))
    have hyA2 := hyA1.alloc hyA1.size (.cells #[.int .i64 0, .int .i64 0] 3)
    refine And.intro (.inr hyA2) ?_
    have hsA : Sl _ (.slice (some ⟨wA1.heap.size, 0, none⟩) 2 2) [0, 0] PInt := sl_lit wA1 [0, 0] 2 rfl (by simp [I64]) (by decide)
    replace hmA := hmA.keep (below_alloc wA1 (.cells #[.int .i64 0, .int .i64 0] 3))
    refine y_one 2 (by kernel_rfl) (y_op 2 tab_ok rfl rfl rfl rfl ?_)
    have hacA := C.accepts 1 0 vnA veA _ evenN evenF [0, 0] _ hmA hsA
    rw [even_accepts2] at hacA
    refine And.intro en_aAccepts (hacA.mono ?_)
    rintro e wA3 ⟨rfl, hA3⟩
    refine ⟨_, rfl, ?_⟩
    have hyA3 := below_trans hyA2 hA3
    refine And.intro (.inr hyA3) ?_
    refine y_take 3 tab_ok rfl (by kernel_rfl) (by kernel_rfl) (by kernel_rfl) rfl (by kernel_rfl) rfl hyA3 rfl rfl rfl (rfl) ?_
    refine y_two 4 5 (by kernel_rfl) (y_op 4 tab_ok rfl rfl rfl rfl ?_) (y_op 5 tab_ok rfl rfl rfl rfl ?_)
    ·
      refine And.intro en_even ((even_any _).mono ?_)
      rintro e wB1 ⟨vnB, veB, rfl, hmB, hB1⟩
      refine ⟨_, rfl, ?_⟩
      have hyB1 := below_trans hyA3 hB1
      refine And.intro (.inr hyB1) ?_
      refine y_one 5 (by kernel_rfl) (y_op 5 tab_ok rfl rfl rfl rfl ?_)
      refine Exists.intro [(0, .int .i64 (0))] (Exists.intro #[.int .i64 (0)] (And.intro (And.intro rfl rfl) (And.intro (by decide) (And.intro (fillI _ _ _) ?_))))
      have hyB2 := hyB1.alloc hyB1.size (.cells #[.int .i64 0] 3)
      refine And.intro (.inr hyB2) ?_
      have hsB : Sl _ (.slice (some ⟨wB1.heap.size, 0, none⟩) 1 1) [0] PInt := sl_lit wB1 [0] 1 rfl (by simp [I64]) (by decide)
      replace hmB := hmB.keep (below_alloc wB1 (.cells #[.int .i64 0] 3))
      refine y_one 6 (by kernel_rfl) (y_op 6 tab_ok rfl rfl rfl rfl ?_)
      have hacB := C.accepts 1 0 vnB veB _ evenN evenF [0] _ hmB hsB
      rw [even_accepts1] at hacB
      refine And.intro en_aAccepts (hacB.mono ?_)
      rintro e wB3 ⟨rfl, hB3⟩
      refine ⟨_, rfl, ?_⟩
      have hyB3 := below_trans hyB2 hB3
      refine And.intro (.inr hyB3) ?_
      refine y_take 7 tab_ok rfl (by kernel_rfl) (by kernel_rfl) (by kernel_rfl) rfl (by kernel_rfl) rfl hyB3 rfl rfl rfl (rfl) ?_
      refine y_take 8 tab_ok rfl (by kernel_rfl) (by kernel_rfl) (by kernel_rfl) rfl (by kernel_rfl) rfl hyB3 rfl rfl rfl (rfl) ?_
      refine y_take 9 tab_ok rfl (by kernel_rfl) (by kernel_rfl) (by kernel_rfl) rfl (by kernel_rfl) rfl hyB3 rfl rfl rfl (rfl) ?_
      refine y_take 11 tab_ok rfl (by kernel_rfl) (by kernel_rfl) (by kernel_rfl) rfl (by kernel_rfl) rfl hyB3 rfl rfl rfl (Exists.intro ([.int .i64 1, .int .i64 0, vn1, ve1]) (And.intro rfl (And.intro (hx1.cells) rfl))) ?_
      refine y_take 12 tab_ok rfl (by kernel_rfl) (by kernel_rfl) (by kernel_rfl) rfl (by kernel_rfl) rfl hyB3 rfl rfl rfl (rfl) ?_
      refine y_one 10 (by kernel_rfl) (y_op 10 tab_ok rfl rfl rfl rfl ?_)
      refine And.intro en_even ((even_any _).mono ?_)
      rintro e wC1 ⟨vnC, veC, rfl, hmC, hC1⟩
      refine ⟨_, rfl, ?_⟩
      have hyC1 := below_trans hyB3 hC1
      refine And.intro (.inr hyC1) ?_
      refine y_one 13 (by kernel_rfl) (y_op 13 tab_ok rfl rfl rfl rfl ?_)
      have hck := C.check 1 0 1 0 vnC veC vn1 ve1 _ evenN twoN evenF twoF evenP wC1 hmC (hkm _ hyC1) (hkl _ hyC1)
      rw [even_check3] at hck
      refine And.intro en_aCheck (hck.mono ?_)
      rintro e wC2 ⟨rfl, hC2⟩
      refine ⟨_, rfl, ?_⟩
      have hyC2 := below_trans hyC1 hC2
      refine And.intro (.inr hyC2) ?_
      refine y_take 14 tab_ok rfl (by kernel_rfl) (by kernel_rfl) (by kernel_rfl) rfl (by kernel_rfl) rfl hyC2 rfl rfl rfl (Exists.intro _ (And.intro (rfl) rfl)) ?_
      refine y_take 15 tab_ok rfl (by kernel_rfl) (by kernel_rfl) (by kernel_rfl) rfl (by kernel_rfl) rfl hyC2 rfl rfl rfl (rfl) ?_
      refine y_take 16 tab_ok rfl (by kernel_rfl) (by kernel_rfl) (by kernel_rfl) rfl (by kernel_rfl) rfl hyC2 rfl rfl rfl (rfl) ?_
      refine y_take 18 tab_ok rfl (by kernel_rfl) (by kernel_rfl) (by kernel_rfl) rfl (by kernel_rfl) rfl hyC2 rfl rfl rfl (Exists.intro ([.int .i64 1, .int .i64 0, vn1, ve1]) (And.intro rfl (And.intro (hx1.cells) rfl))) ?_
      refine y_take 19 tab_ok rfl (by kernel_rfl) (by kernel_rfl) (by kernel_rfl) rfl (by kernel_rfl) rfl hyC2 rfl rfl rfl (rfl) ?_
      refine y_take 20 tab_ok rfl (by kernel_rfl) (by kernel_rfl) (by kernel_rfl) rfl (by kernel_rfl) rfl hyC2 rfl rfl rfl (Exists.intro 0 (Exists.intro 2 (And.intro rfl (And.intro (Exists.intro _ (Exists.intro _ (And.intro rfl rfl))) (And.intro (by decide) (And.intro (by omega) (And.intro hcl rfl))))))) ?_
      refine y_one 17 (by kernel_rfl) (y_op 17 tab_ok rfl rfl rfl rfl ?_)
      refine And.intro en_even ((even_any _).mono ?_)
      rintro e wD1 ⟨vnD, veD, rfl, hmD, hD1⟩
      refine ⟨_, rfl, ?_⟩
      have hyD1 := below_trans hyC2 hD1
      refine And.intro (.inr hyD1) ?_
      refine y_one 21 (by kernel_rfl) (y_op 21 tab_ok rfl rfl rfl rfl ?_)
      have hsl : SlP wD1 (.slice (if cl = 0 then gl else gl.map (·.add (0 * 2))) (2 - 0) (cl - 0)) (evenP.take 2) := by
        have := (hkl _ hyD1).take 2 (by decide)
        rw [if_neg (by omega)]
        cases gl <;> simpa [Addr.add] using this
      have hck2 := C.check 1 0 1 0 vnD veD vn1 ve1 _ evenN twoN evenF twoF (evenP.take 2) wD1 hmD (hkm _ hyD1) hsl
      rw [even_check2] at hck2
      refine And.intro en_aCheck (hck2.mono ?_)
      rintro e wD2 ⟨rfl, hD2⟩
      refine ⟨_, rfl, ?_⟩
      have hyD2 := below_trans hyD1 hD2
      refine And.intro (.inr hyD2) ?_
      refine y_take 22 tab_ok rfl (by kernel_rfl) (by kernel_rfl) (by kernel_rfl) rfl (by kernel_rfl) rfl hyD2 rfl rfl rfl (Exists.intro _ (And.intro (rfl) rfl)) ?_
      refine y_take 23 tab_ok rfl (by kernel_rfl) (by kernel_rfl) (by kernel_rfl) rfl (by kernel_rfl) rfl hyD2 rfl rfl rfl (rfl) ?_
      refine y_take 24 tab_ok rfl (by kernel_rfl) (by kernel_rfl) (by kernel_rfl) rfl (by kernel_rfl) rfl hyD2 rfl rfl rfl (rfl) ?_
      exact y_end (by kernel_rfl) ⟨rfl, trivial⟩ (undrew hyD2)
    ·
      refine Exists.intro [(0, .int .i64 (0))] (Exists.intro #[.int .i64 (0)] (And.intro (And.intro rfl rfl) (And.intro (by decide) (And.intro (fillI _ _ _) ?_))))
      have hyB1 := hyA3.alloc hyA3.size (.cells #[.int .i64 0] 3)
      refine And.intro (.inr hyB1) ?_
      have hsB : Sl _ (.slice (some ⟨(wA3).heap.size, 0, none⟩) 1 1) [0] PInt := sl_lit (wA3) [0] 1 rfl (by simp [I64]) (by decide)
      refine y_one 4 (by kernel_rfl) (y_op 4 tab_ok rfl rfl rfl rfl ?_)
      refine And.intro en_even ((even_any _).mono ?_)
      rintro e wB2 ⟨vnB, veB, rfl, hmB, hB2⟩
      refine ⟨_, rfl, ?_⟩
      have hyB2 := below_trans hyB1 hB2
      refine And.intro (.inr hyB2) ?_
      replace hsB := hsB.keep hB2 (fun _ _ h => h)
      refine y_one 6 (by kernel_rfl) (y_op 6 tab_ok rfl rfl rfl rfl ?_)
      have hacB := C.accepts 1 0 vnB veB _ evenN evenF [0] _ hmB hsB
      rw [even_accepts1] at hacB
      refine And.intro en_aAccepts (hacB.mono ?_)
      rintro e wB3 ⟨rfl, hB3⟩
      refine ⟨_, rfl, ?_⟩
      have hyB3 := below_trans hyB2 hB3
      refine And.intro (.inr hyB3) ?_
      refine y_take 7 tab_ok rfl (by kernel_rfl) (by kernel_rfl) (by kernel_rfl) rfl (by kernel_rfl) rfl hyB3 rfl rfl rfl (rfl) ?_
      refine y_take 8 tab_ok rfl (by kernel_rfl) (by kernel_rfl) (by kernel_rfl) rfl (by kernel_rfl) rfl hyB3 rfl rfl rfl (rfl) ?_
      refine y_take 9 tab_ok rfl (by kernel_rfl) (by kernel_rfl) (by kernel_rfl) rfl (by kernel_rfl) rfl hyB3 rfl rfl rfl (rfl) ?_
      refine y_take 11 tab_ok rfl (by kernel_rfl) (by kernel_rfl) (by kernel_rfl) rfl (by kernel_rfl) rfl hyB3 rfl rfl rfl (Exists.intro ([.int .i64 1, .int .i64 0, vn1, ve1]) (And.intro rfl (And.intro (hx1.cells) rfl))) ?_
      refine y_take 12 tab_ok rfl (by kernel_rfl) (by kernel_rfl) (by kernel_rfl) rfl (by kernel_rfl) rfl hyB3 rfl rfl rfl (rfl) ?_
      refine y_one 10 (by kernel_rfl) (y_op 10 tab_ok rfl rfl rfl rfl ?_)
      refine And.intro en_even ((even_any _).mono ?_)
      rintro e wC1 ⟨vnC, veC, rfl, hmC, hC1⟩
      refine ⟨_, rfl, ?_⟩
      have hyC1 := below_trans hyB3 hC1
      refine And.intro (.inr hyC1) ?_
      refine y_one 13 (by kernel_rfl) (y_op 13 tab_ok rfl rfl rfl rfl ?_)
      have hck := C.check 1 0 1 0 vnC veC vn1 ve1 _ evenN twoN evenF twoF evenP wC1 hmC (hkm _ hyC1) (hkl _ hyC1)
      rw [even_check3] at hck
      refine And.intro en_aCheck (hck.mono ?_)
      rintro e wC2 ⟨rfl, hC2⟩
      refine ⟨_, rfl, ?_⟩
      have hyC2 := below_trans hyC1 hC2
      refine And.intro (.inr hyC2) ?_
      refine y_take 14 tab_ok rfl (by kernel_rfl) (by kernel_rfl) (by kernel_rfl) rfl (by kernel_rfl) rfl hyC2 rfl rfl rfl (Exists.intro _ (And.intro (rfl) rfl)) ?_
      refine y_take 15 tab_ok rfl (by kernel_rfl) (by kernel_rfl) (by kernel_rfl) rfl (by kernel_rfl) rfl hyC2 rfl rfl rfl (rfl) ?_
      refine y_take 16 tab_ok rfl (by kernel_rfl) (by kernel_rfl) (by kernel_rfl) rfl (by kernel_rfl) rfl hyC2 rfl rfl rfl (rfl) ?_
      refine y_take 18 tab_ok rfl (by kernel_rfl) (by kernel_rfl) (by kernel_rfl) rfl (by kernel_rfl) rfl hyC2 rfl rfl rfl (Exists.intro ([.int .i64 1, .int .i64 0, vn1, ve1]) (And.intro rfl (And.intro (hx1.cells) rfl))) ?_
      refine y_take 19 tab_ok rfl (by kernel_rfl) (by kernel_rfl) (by kernel_rfl) rfl (by kernel_rfl) rfl hyC2 rfl rfl rfl (rfl) ?_
      refine y_take 20 tab_ok rfl (by kernel_rfl) (by kernel_rfl) (by kernel_rfl) rfl (by kernel_rfl) rfl hyC2 rfl rfl rfl (Exists.intro 0 (Exists.intro 2 (And.intro rfl (And.intro (Exists.intro _ (Exists.intro _ (And.intro rfl rfl))) (And.intro (by decide) (And.intro (by omega) (And.intro hcl rfl))))))) ?_
      refine y_one 17 (by kernel_rfl) (y_op 17 tab_ok rfl rfl rfl rfl ?_)
      refine And.intro en_even ((even_any _).mono ?_)
      rintro e wD1 ⟨vnD, veD, rfl, hmD, hD1⟩
      refine ⟨_, rfl, ?_⟩
      have hyD1 := below_trans hyC2 hD1
      refine And.intro (.inr hyD1) ?_
      refine y_one 21 (by kernel_rfl) (y_op 21 tab_ok rfl rfl rfl rfl ?_)
      have hsl : SlP wD1 (.slice (if cl = 0 then gl else gl.map (·.add (0 * 2))) (2 - 0) (cl - 0)) (evenP.take 2) := by
        have := (hkl _ hyD1).take 2 (by decide)
        rw [if_neg (by omega)]
        cases gl <;> simpa [Addr.add] using this
      have hck2 := C.check 1 0 1 0 vnD veD vn1 ve1 _ evenN twoN evenF twoF (evenP.take 2) wD1 hmD (hkm _ hyD1) hsl
      rw [even_check2] at hck2
      refine And.intro en_aCheck (hck2.mono ?_)
      rintro e wD2 ⟨rfl, hD2⟩
      refine ⟨_, rfl, ?_⟩
      have hyD2 := below_trans hyD1 hD2
      refine And.intro (.inr hyD2) ?_
      refine y_take 22 tab_ok rfl (by kernel_rfl) (by kernel_rfl) (by kernel_rfl) rfl (by kernel_rfl) rfl hyD2 rfl rfl rfl (Exists.intro _ (And.intro (rfl) rfl)) ?_
      refine y_take 23 tab_ok rfl (by kernel_rfl) (by kernel_rfl) (by kernel_rfl) rfl (by kernel_rfl) rfl hyD2 rfl rfl rfl (rfl) ?_
      refine y_take 24 tab_ok rfl (by kernel_rfl) (by kernel_rfl) (by kernel_rfl) rfl (by kernel_rfl) rfl hyD2 rfl rfl rfl (rfl) ?_
      exact y_end (by kernel_rfl) ⟨rfl, trivial⟩ (undrew hyD2)
  ·
    refine Exists.intro [(0, .int .i64 0), (1, .int .i64 0)] (Exists.intro _ (And.intro (And.intro rfl rfl) (And.intro (by decide) (And.intro (fillI2 ..) ?_))))
    have hyA1 := hy.alloc hy.size (.cells #[.int .i64 0, .int .i64 0] 3)
    refine And.intro (.inr hyA1) ?_
    have hsA : Sl _ (.slice (some ⟨(w.drew).heap.size, 0, none⟩) 2 2) [0, 0] PInt := sl_lit (w.drew) [0, 0] 2 rfl (by simp [I64]) (by decide)
    refine y_one 0 (by kernel_rfl) (y_op 0 tab_ok rfl rfl rfl rfl ?_)
    refine And.intro en_even ((even_any _).mono ?_)
    rintro e wA2 ⟨vnA, veA, rfl, hmA, hA2⟩
    refine ⟨_, rfl, ?_⟩
    have hyA2 := below_trans hyA1 hA2
    refine And.intro (.inr hyA2) ?_
    replace hsA := hsA.keep hA2 (fun _ _ h => h)
    refine y_one 2 (by kernel_rfl) (y_op 2 tab_ok rfl rfl rfl rfl ?_)
    have hacA := C.accepts 1 0 vnA veA _ evenN evenF [0, 0] _ hmA hsA
    rw [even_accepts2] at hacA
    refine And.intro en_aAccepts (hacA.mono ?_)
    rintro e wA3 ⟨rfl, hA3⟩
    refine ⟨_, rfl, ?_⟩
    have hyA3 := below_trans hyA2 hA3
    refine And.intro (.inr hyA3) ?_
    refine y_take 3 tab_ok rfl (by kernel_rfl) (by kernel_rfl) (by kernel_rfl) rfl (by kernel_rfl) rfl hyA3 rfl rfl rfl (rfl) ?_
    refine y_two 4 5 (by kernel_rfl) (y_op 4 tab_ok rfl rfl rfl rfl ?_) (y_op 5 tab_ok rfl rfl rfl rfl ?_)
    ·
      refine And.intro en_even ((even_any _).mono ?_)
      rintro e wB1 ⟨vnB, veB, rfl, hmB, hB1⟩
      refine ⟨_, rfl, ?_⟩
      have hyB1 := below_trans hyA3 hB1
      refine And.intro (.inr hyB1) ?_
      refine y_one 5 (by kernel_rfl) (y_op 5 tab_ok rfl rfl rfl rfl ?_)
      refine Exists.intro [(0, .int .i64 (0))] (Exists.intro #[.int .i64 (0)] (And.intro (And.intro rfl rfl) (And.intro (by decide) (And.intro (fillI _ _ _) ?_))))
      have hyB2 := hyB1.alloc hyB1.size (.cells #[.int .i64 0] 3)
      refine And.intro (.inr hyB2) ?_
      have hsB : Sl _ (.slice (some ⟨wB1.heap.size, 0, none⟩) 1 1) [0] PInt := sl_lit wB1 [0] 1 rfl (by simp [I64]) (by decide)
      replace hmB := hmB.keep (below_alloc wB1 (.cells #[.int .i64 0] 3))
      refine y_one 6 (by kernel_rfl) (y_op 6 tab_ok rfl rfl rfl rfl ?_)
      have hacB := C.accepts 1 0 vnB veB _ evenN evenF [0] _ hmB hsB
      rw [even_accepts1] at hacB
      refine And.intro en_aAccepts (hacB.mono ?_)
      rintro e wB3 ⟨rfl, hB3⟩
      refine ⟨_, rfl, ?_⟩
      have hyB3 := below_trans hyB2 hB3
      refine And.intro (.inr hyB3) ?_
      refine y_take 7 tab_ok rfl (by kernel_rfl) (by kernel_rfl) (by kernel_rfl) rfl (by kernel_rfl) rfl hyB3 rfl rfl rfl (rfl) ?_
      refine y_take 8 tab_ok rfl (by kernel_rfl) (by kernel_rfl) (by kernel_rfl) rfl (by kernel_rfl) rfl hyB3 rfl rfl rfl (rfl) ?_
      refine y_take 9 tab_ok rfl (by kernel_rfl) (by kernel_rfl) (by kernel_rfl) rfl (by kernel_rfl) rfl hyB3 rfl rfl rfl (rfl) ?_
      refine y_take 11 tab_ok rfl (by kernel_rfl) (by kernel_rfl) (by kernel_rfl) rfl (by kernel_rfl) rfl hyB3 rfl rfl rfl (Exists.intro ([.int .i64 1, .int .i64 0, vn1, ve1]) (And.intro rfl (And.intro (hx1.cells) rfl))) ?_
      refine y_take 12 tab_ok rfl (by kernel_rfl) (by kernel_rfl) (by kernel_rfl) rfl (by kernel_rfl) rfl hyB3 rfl rfl rfl (rfl) ?_
      refine y_one 10 (by kernel_rfl) (y_op 10 tab_ok rfl rfl rfl rfl ?_)
      refine And.intro en_even ((even_any _).mono ?_)
      rintro e wC1 ⟨vnC, veC, rfl, hmC, hC1⟩
      refine ⟨_, rfl, ?_⟩
      have hyC1 := below_trans hyB3 hC1
      refine And.intro (.inr hyC1) ?_
      refine y_one 13 (by kernel_rfl) (y_op 13 tab_ok rfl rfl rfl rfl ?_)
      have hck := C.check 1 0 1 0 vnC veC vn1 ve1 _ evenN twoN evenF twoF evenP wC1 hmC (hkm _ hyC1) (hkl _ hyC1)
      rw [even_check3] at hck
      refine And.intro en_aCheck (hck.mono ?_)
      rintro e wC2 ⟨rfl, hC2⟩
      refine ⟨_, rfl, ?_⟩
      have hyC2 := below_trans hyC1 hC2
      refine And.intro (.inr hyC2) ?_
      refine y_take 14 tab_ok rfl (by kernel_rfl) (by kernel_rfl) (by kernel_rfl) rfl (by kernel_rfl) rfl hyC2 rfl rfl rfl (Exists.intro _ (And.intro (rfl) rfl)) ?_
      refine y_take 15 tab_ok rfl (by kernel_rfl) (by kernel_rfl) (by kernel_rfl) rfl (by kernel_rfl) rfl hyC2 rfl rfl rfl (rfl) ?_
      refine y_take 16 tab_ok rfl (by kernel_rfl) (by kernel_rfl) (by kernel_rfl) rfl (by kernel_rfl) rfl hyC2 rfl rfl rfl (rfl) ?_
      refine y_take 18 tab_ok rfl (by kernel_rfl) (by kernel_rfl) (by kernel_rfl) rfl (by kernel_rfl) rfl hyC2 rfl rfl rfl (Exists.intro ([.int .i64 1, .int .i64 0, vn1, ve1]) (And.intro rfl (And.intro (hx1.cells) rfl))) ?_
      refine y_take 19 tab_ok rfl (by kernel_rfl) (by kernel_rfl) (by kernel_rfl) rfl (by kernel_rfl) rfl hyC2 rfl rfl rfl (rfl) ?_
      refine y_take 20 tab_ok rfl (by kernel_rfl) (by kernel_rfl) (by kernel_rfl) rfl (by kernel_rfl) rfl hyC2 rfl rfl rfl (Exists.intro 0 (Exists.intro 2 (And.intro rfl (And.intro (Exists.intro _ (Exists.intro _ (And.intro rfl rfl))) (And.intro (by decide) (And.intro (by omega) (And.intro hcl rfl))))))) ?_
      refine y_one 17 (by kernel_rfl) (y_op 17 tab_ok rfl rfl rfl rfl ?_)
      refine And.intro en_even ((even_any _).mono ?_)
      rintro e wD1 ⟨vnD, veD, rfl, hmD, hD1⟩
      refine ⟨_, rfl, ?_⟩
      have hyD1 := below_trans hyC2 hD1
      refine And.intro (.inr hyD1) ?_
      refine y_one 21 (by kernel_rfl) (y_op 21 tab_ok rfl rfl rfl rfl ?_)
      have hsl : SlP wD1 (.slice (if cl = 0 then gl else gl.map (·.add (0 * 2))) (2 - 0) (cl - 0)) (evenP.take 2) := by
        have := (hkl _ hyD1).take 2 (by decide)
        rw [if_neg (by omega)]
        cases gl <;> simpa [Addr.add] using this
      have hck2 := C.check 1 0 1 0 vnD veD vn1 ve1 _ evenN twoN evenF twoF (evenP.take 2) wD1 hmD (hkm _ hyD1) hsl
      rw [even_check2] at hck2
      refine And.intro en_aCheck (hck2.mono ?_)
      rintro e wD2 ⟨rfl, hD2⟩
      refine ⟨_, rfl, ?_⟩
      have hyD2 := below_trans hyD1 hD2
      refine And.intro (.inr hyD2) ?_
      refine y_take 22 tab_ok rfl (by kernel_rfl) (by kernel_rfl) (by kernel_rfl) rfl (by kernel_rfl) rfl hyD2 rfl rfl rfl (Exists.intro _ (And.intro (rfl) rfl)) ?_
      refine y_take 23 tab_ok rfl (by kernel_rfl) (by kernel_rfl) (by kernel_rfl) rfl (by kernel_rfl) rfl hyD2 rfl rfl rfl (rfl) ?_
      refine y_take 24 tab_ok rfl (by kernel_rfl) (by kernel_rfl) (by kernel_rfl) rfl (by kernel_rfl) rfl hyD2 rfl rfl rfl (rfl) ?_
      exact y_end (by kernel_rfl) ⟨rfl, trivial⟩ (undrew hyD2)
    ·
      refine Exists.intro [(0, .int .i64 (0))] (Exists.intro #[.int .i64 (0)] (And.intro (And.intro rfl rfl) (And.intro (by decide) (And.intro (fillI _ _ _) ?_))))
      have hyB1 := hyA3.alloc hyA3.size (.cells #[.int .i64 0] 3)
      refine And.intro (.inr hyB1) ?_
      have hsB : Sl _ (.slice (some ⟨(wA3).heap.size, 0, none⟩) 1 1) [0] PInt := sl_lit (wA3) [0] 1 rfl (by simp [I64]) (by decide)
      refine y_one 4 (by kernel_rfl) (y_op 4 tab_ok rfl rfl rfl rfl ?_)
      refine And.intro en_even ((even_any _).mono ?_)
      rintro e wB2 ⟨vnB, veB, rfl, hmB, hB2⟩
      refine ⟨_, rfl, ?_⟩
      have hyB2 := below_trans hyB1 hB2
      refine And.intro (.inr hyB2) ?_
      replace hsB := hsB.keep hB2 (fun _ _ h => h)
      refine y_one 6 (by kernel_rfl) (y_op 6 tab_ok rfl rfl rfl rfl ?_)
      have hacB := C.accepts 1 0 vnB veB _ evenN evenF [0] _ hmB hsB
      rw [even_accepts1] at hacB
      refine And.intro en_aAccepts (hacB.mono ?_)
      rintro e wB3 ⟨rfl, hB3⟩
      refine ⟨_, rfl, ?_⟩
      have hyB3 := below_trans hyB2 hB3
      refine And.intro (.inr hyB3) ?_
      refine y_take 7 tab_ok rfl (by kernel_rfl) (by kernel_rfl) (by kernel_rfl) rfl (by kernel_rfl) rfl hyB3 rfl rfl rfl (rfl) ?_
      refine y_take 8 tab_ok rfl (by kernel_rfl) (by kernel_rfl) (by kernel_rfl) rfl (by kernel_rfl) rfl hyB3 rfl rfl rfl (rfl) ?_
      refine y_take 9 tab_ok rfl (by kernel_rfl) (by kernel_rfl) (by kernel_rfl) rfl (by kernel_rfl) rfl hyB3 rfl rfl rfl (rfl) ?_
      refine y_take 11 tab_ok rfl (by kernel_rfl) (by kernel_rfl) (by kernel_rfl) rfl (by kernel_rfl) rfl hyB3 rfl rfl rfl (Exists.intro ([.int .i64 1, .int .i64 0, vn1, ve1]) (And.intro rfl (And.intro (hx1.cells) rfl))) ?_
      refine y_take 12 tab_ok rfl (by kernel_rfl) (by kernel_rfl) (by kernel_rfl) rfl (by kernel_rfl) rfl hyB3 rfl rfl rfl (rfl) ?_
      refine y_one 10 (by kernel_rfl) (y_op 10 tab_ok rfl rfl rfl rfl ?_)
      refine And.intro en_even ((even_any _).mono ?_)
      rintro e wC1 ⟨vnC, veC, rfl, hmC, hC1⟩
      refine ⟨_, rfl, ?_⟩
      have hyC1 := below_trans hyB3 hC1
      refine And.intro (.inr hyC1) ?_
      refine y_one 13 (by kernel_rfl) (y_op 13 tab_ok rfl rfl rfl rfl ?_)
      have hck := C.check 1 0 1 0 vnC veC vn1 ve1 _ evenN twoN evenF twoF evenP wC1 hmC (hkm _ hyC1) (hkl _ hyC1)
      rw [even_check3] at hck
      refine And.intro en_aCheck (hck.mono ?_)
      rintro e wC2 ⟨rfl, hC2⟩
      refine ⟨_, rfl, ?_⟩
      have hyC2 := below_trans hyC1 hC2
      refine And.intro (.inr hyC2) ?_
      refine y_take 14 tab_ok rfl (by kernel_rfl) (by kernel_rfl) (by kernel_rfl) rfl (by kernel_rfl) rfl hyC2 rfl rfl rfl (Exists.intro _ (And.intro (rfl) rfl)) ?_
      refine y_take 15 tab_ok rfl (by kernel_rfl) (by kernel_rfl) (by kernel_rfl) rfl (by kernel_rfl) rfl hyC2 rfl rfl rfl (rfl) ?_
      refine y_take 16 tab_ok rfl (by kernel_rfl) (by kernel_rfl) (by kernel_rfl) rfl (by kernel_rfl) rfl hyC2 rfl rfl rfl (rfl) ?_
      refine y_take 18 tab_ok rfl (by kernel_rfl) (by kernel_rfl) (by kernel_rfl) rfl (by kernel_rfl) rfl hyC2 rfl rfl rfl (Exists.intro ([.int .i64 1, .int .i64 0, vn1, ve1]) (And.intro rfl (And.intro (hx1.cells) rfl))) ?_
      refine y_take 19 tab_ok rfl (by kernel_rfl) (by kernel_rfl) (by kernel_rfl) rfl (by kernel_rfl) rfl hyC2 rfl rfl rfl (rfl) ?_
      refine y_take 20 tab_ok rfl (by kernel_rfl) (by kernel_rfl) (by kernel_rfl) rfl (by kernel_rfl) rfl hyC2 rfl rfl rfl (Exists.intro 0 (Exists.intro 2 (And.intro rfl (And.intro (Exists.intro _ (Exists.intro _ (And.intro rfl rfl))) (And.intro (by decide) (And.intro (by omega) (And.intro hcl rfl))))))) ?_
      refine y_one 17 (by kernel_rfl) (y_op 17 tab_ok rfl rfl rfl rfl ?_)
      refine And.intro en_even ((even_any _).mono ?_)
      rintro e wD1 ⟨vnD, veD, rfl, hmD, hD1⟩
      refine ⟨_, rfl, ?_⟩
      have hyD1 := below_trans hyC2 hD1
      refine And.intro (.inr hyD1) ?_
      refine y_one 21 (by kernel_rfl) (y_op 21 tab_ok rfl rfl rfl rfl ?_)
      have hsl : SlP wD1 (.slice (if cl = 0 then gl else gl.map (·.add (0 * 2))) (2 - 0) (cl - 0)) (evenP.take 2) := by
        have := (hkl _ hyD1).take 2 (by decide)
        rw [if_neg (by omega)]
        cases gl <;> simpa [Addr.add] using this
      have hck2 := C.check 1 0 1 0 vnD veD vn1 ve1 _ evenN twoN evenF twoF (evenP.take 2) wD1 hmD (hkm _ hyD1) hsl
      rw [even_check2] at hck2
      refine And.intro en_aCheck (hck2.mono ?_)
      rintro e wD2 ⟨rfl, hD2⟩
      refine ⟨_, rfl, ?_⟩
      have hyD2 := below_trans hyD1 hD2
      refine And.intro (.inr hyD2) ?_
      refine y_take 22 tab_ok rfl (by kernel_rfl) (by kernel_rfl) (by kernel_rfl) rfl (by kernel_rfl) rfl hyD2 rfl rfl rfl (Exists.intro _ (And.intro (rfl) rfl)) ?_
      refine y_take 23 tab_ok rfl (by kernel_rfl) (by kernel_rfl) (by kernel_rfl) rfl (by kernel_rfl) rfl hyD2 rfl rfl rfl (rfl) ?_
      refine y_take 24 tab_ok rfl (by kernel_rfl) (by kernel_rfl) (by kernel_rfl) rfl (by kernel_rfl) rfl hyD2 rfl rfl rfl (rfl) ?_
      exact y_end (by kernel_rfl) ⟨rfl, trivial⟩ (undrew hyD2)
set_option maxRecDepth 100000 in
theorem awake_any (C : AwakeC) (w : World) : Calls Try.prog 12 #[] w fun e w' => e = .returned (.bool true) ∧ RowKit.Below w.heap.size w w' := by
  refine Sym.enter (args := []) Try.func12 rfl rfl rfl (fun a0 hS0 => ?_)
  refine wp_seq (seq_cut [(0, .bool false)] (· = w) tab_ok hS0 ?_ (fun a wc hS hw => ?_))
  · repeat (first | refine o_pure rfl rfl rfl (fun _ => rfl) ?_ | refine o_skip rfl rfl rfl ?_)
    exact o_nil ⟨⟨rfl, trivial⟩, rfl⟩
  subst hw
  refine wp_seq (seq_cutx (α := Nat × Value × Value) (fun x => [(1, .pointer (some ⟨x.1, 0, none⟩)), (2, .int .i64 0)]) (fun x w' => RowKit.Below wc.heap.size wc w' ∧ Box w' x.1 1 0 x.2.1 x.2.2 ∧ Ma w' 1 0 twoN twoF x.2.1 x.2.2) tab_ok hS ?_ (fun x a w1 hS h1 => ?_))
  · refine o_call rfl rfl rfl (fun _ => rfl) (en_even) (even_any _) ?_
    rintro e w1 ⟨vn, ve, rfl, hm1, h1⟩
    refine ⟨_, rfl, ?_⟩
    refine o_call rfl rfl rfl (fun _ => rfl) (en_aLeast) (C.least 1 0 vn ve evenN evenF w1 hm1 (by decide)) ?_
    rintro e w2 ⟨L', s', r, vn', ve', n', f', rfl, hm2, h2, hI⟩
    obtain ⟨rfl, rfl, rfl, rfl, rfl⟩ := even_least hI
    refine ⟨_, rfl, ?_⟩
    have ho := OwnB.new w2 [.int .i64 0, .int .i64 0, .slice none 0 0, .slice none 0 0] 25
    have hb2 := below_trans h1 h2
    have hb3 := below_trans hb2 (below_alloc w2 (.cells #[.int .i64 0, .int .i64 0, .slice none 0 0, .slice none 0 0] 25))
    have hg := grown_sets w2.heap.size [.int .i64 1, .int .i64 0, vn', ve'] 0 (w2.alloc (.cells #[.int .i64 0, .int .i64 0, .slice none 0 0, .slice none 0 0] 25))
    have hB4 := below_of_grown (w0 := w2) (below_alloc w2 (.cells #[.int .i64 0, .int .i64 0, .slice none 0 0, .slice none 0 0] 25)) hg (fun k hk => by cases hk; exact Nat.le_refl _)
    have hoF : OwnB _ w2.heap.size 25 [.int .i64 1, .int .i64 0, vn', ve'] := ho.sets (us := [.int .i64 1, .int .i64 0, vn', ve']) rfl
    have hm4 := hm2.keep hB4
    obtain ⟨_, _, rfl⟩ := hm2.n.len
    obtain ⟨_, _, rfl⟩ := hm2.e.len
    repeat (first | refine o_pure rfl rfl rfl (fun _ => rfl) ?_ | refine o_skip rfl rfl rfl ?_)
    refine o_new rfl rfl rfl (fun _ => rfl) ?_
    refine o_step0 rfl rfl (And.intro rfl (And.intro rfl (And.intro (own_cells4 ho) ?_)))
    repeat (first | refine o_pure rfl rfl rfl (fun _ => rfl) ?_ | refine o_skip rfl rfl rfl ?_)
    exact o_nil ⟨(w2.heap.size, _, _), ⟨rfl, rfl, trivial⟩, below_trans hb2 hB4, ⟨hoF.cell (i := 0) rfl, hoF.cell (i := 1) rfl, hoF.cell (i := 2) rfl, hoF.cell (i := 3) rfl⟩, hm4⟩
  obtain ⟨M1, vn1, ve1⟩ := x
  obtain ⟨hB, hx1, hm1⟩ := h1
  dsimp only at hS hx1 hm1
  refine wp_seq (seq_cutx (α := Nat × Value × Value) (fun x => [(1, .pointer (some ⟨M1, 0, none⟩)), (2, .int .i64 0), (3, .pointer (some ⟨x.1, 0, none⟩))]) (fun x w' => RowKit.Below w1.heap.size w1 w' ∧ Box w' x.1 1 0 x.2.1 x.2.2 ∧ Ma w' 1 0 allN allF x.2.1 x.2.2) tab_ok hS ?_ (fun x a w2 hS h2 => ?_))
  · have R0 := Rows.nil w1.heap.size w1
    have R1 := R0.lit (Nat.le_refl _) [.int .i64 0] 3 1 rfl (by decide)
    obtain ⟨w2, hw2⟩ : ∃ w2, w1.alloc (.cells #[.int .i64 0] 3) = w2 := ⟨_, rfl⟩
    have hB2 : RowKit.Below w1.heap.size w1 w2 := by rw [← hw2]; exact below_alloc _ _
    rw [show w1.alloc (.cells [Value.int .i64 0].toArray 3) = w2 from hw2] at R1
    have R2 := R1.lit hB2.size [.slice (some ⟨w1.heap.size, 0, none⟩) 1 1] 26 1 rfl (by decide)
    obtain ⟨w3, hw3⟩ : ∃ w3, w2.alloc (.cells #[.slice (some ⟨w1.heap.size, 0, none⟩) 1 1] 26) = w3 := ⟨_, rfl⟩
    have hB3 : RowKit.Below w1.heap.size w1 w3 := below_trans hB2 (by rw [← hw3]; exact below_alloc _ _)
    rw [show w2.alloc (.cells [Value.slice (some ⟨w1.heap.size, 0, none⟩) 1 1].toArray 26) = w3 from hw3] at R2
    have R3 := R2.lit hB3.size [.bool true] 4 1 rfl (by decide)
    obtain ⟨w4, hw4⟩ : ∃ w4, w3.alloc (.cells #[.bool true] 4) = w4 := ⟨_, rfl⟩
    have hB4 : RowKit.Below w1.heap.size w1 w4 := below_trans hB3 (by rw [← hw4]; exact below_alloc _ _)
    rw [show w3.alloc (.cells [Value.bool true].toArray 4) = w4 from hw4] at R3
    have hn := R3.slRows (i := 1) (vs := [.slice (some ⟨w1.heap.size, 0, none⟩) 1 1]) (next := allN) rfl rfl (fun j h1 h2 => by
      match j, h1 with
      | 0, _ => exact ⟨2, rfl, fun x hx => by simp [allN] at hx; subst hx; exact ⟨by decide, by decide⟩⟩)
    have he := R3.slB (i := 0) (xs := allF) rfl
    have hma : Ma w4 1 0 allN allF (.slice (some ⟨w2.heap.size, 0, none⟩) 1 1) (.slice (some ⟨w3.heap.size, 0, none⟩) 1 1) := ⟨hn.1, he.1, ⟨by decide, by decide⟩, ⟨by decide, by decide⟩, hn.2, he.2⟩
    have ho := OwnB.new w4 [.int .i64 0, .int .i64 0, .slice none 0 0, .slice none 0 0] 25
    have hg := grown_sets w4.heap.size [.int .i64 1, .int .i64 0, .slice (some ⟨w2.heap.size, 0, none⟩) 1 1, .slice (some ⟨w3.heap.size, 0, none⟩) 1 1] 0 (w4.alloc (.cells #[.int .i64 0, .int .i64 0, .slice none 0 0, .slice none 0 0] 25))
    have hB6 := below_of_grown (w0 := w4) (below_alloc w4 (.cells #[.int .i64 0, .int .i64 0, .slice none 0 0, .slice none 0 0] 25)) hg (fun k hk => by cases hk; exact Nat.le_refl _)
    have hoF : OwnB _ w4.heap.size 25 [.int .i64 1, .int .i64 0, .slice (some ⟨w2.heap.size, 0, none⟩) 1 1, .slice (some ⟨w3.heap.size, 0, none⟩) 1 1] := ho.sets (us := [.int .i64 1, .int .i64 0, .slice (some ⟨w2.heap.size, 0, none⟩) 1 1, .slice (some ⟨w3.heap.size, 0, none⟩) 1 1]) rfl
    refine o_step rfl rfl rfl ?_
    refine Exists.intro [(0, .int .i64 (0))] (Exists.intro #[.int .i64 (0)] (And.intro (And.intro rfl rfl) (And.intro (by decide) (And.intro (fillI _ _ _) ?_))))
    rw [hw2]
    refine o_step rfl rfl rfl ?_
    refine Exists.intro [(0, .slice (some ⟨w1.heap.size, 0, none⟩) 1 1)] (Exists.intro #[.slice (some ⟨w1.heap.size, 0, none⟩) 1 1] (And.intro (And.intro rfl rfl) (And.intro (by decide) (And.intro (fill1 _ _ _ _) ?_))))
    rw [hw3]
    refine o_step rfl rfl rfl ?_
    refine Exists.intro [(0, .bool true)] (Exists.intro _ (And.intro (And.intro rfl rfl) (And.intro (by decide) (And.intro (fillB1 ..) ?_))))
    rw [hw4]
    repeat (first | refine o_pure rfl rfl rfl (fun _ => rfl) ?_ | refine o_skip rfl rfl rfl ?_)
    refine o_new rfl rfl rfl (fun _ => rfl) ?_
    refine o_step0 rfl rfl (And.intro rfl (And.intro rfl (And.intro (own_cells4 ho) ?_)))
    repeat (first | refine o_pure rfl rfl rfl (fun _ => rfl) ?_ | refine o_skip rfl rfl rfl ?_)
    exact o_nil ⟨(w4.heap.size, _, _), ⟨rfl, rfl, rfl, trivial⟩, below_trans hB4 hB6, ⟨hoF.cell (i := 0) rfl, hoF.cell (i := 1) rfl, hoF.cell (i := 2) rfl, hoF.cell (i := 3) rfl⟩, hma.keep hB6⟩
  obtain ⟨M2, vn2, ve2⟩ := x
  obtain ⟨hB2, hx2, hm2⟩ := h2
  dsimp only at hS hx2 hm2
  replace hx1 := hx1.keep hB2
  replace hm1 := hm1.keep hB2
  replace hB := below_trans hB hB2
  clear hB2
  refine wp_seq (awake_r3 C hx2 hm2 (by rfl) hS (fun vw a w3 hS h3 => ?_))
  obtain ⟨hB3, hw3⟩ := h3
  replace hx1 := hx1.keep hB3
  replace hm1 := hm1.keep hB3
  replace hB := below_trans hB hB3
  clear hB3 hx2 hm2
  refine wp_seq (awake_r4 C hx1 hm1 (by rfl) hS (fun vl a w4 hS h4 => ?_))
  obtain ⟨hB4, hl4⟩ := h4
  replace hx1 := hx1.keep hB4
  replace hm1 := hm1.keep hB4
  replace hw3 := hw3.keep hB4 (fun _ _ h => h)
  replace hB := below_trans hB hB4
  clear hB4
  refine wp_seq (seq_cut [(1, .pointer (some ⟨M1, 0, none⟩)), (2, .int .i64 0), (4, vw), (5, .bool false), (6, .int .i64 0), (7, vl), (8, .int .i64 0), (9, .int .u64 1), (10, .int .i64 0)] (fun w' => RowKit.Below w4.heap.size w4 w') tab_ok hS ?_ (fun a w5 hS hw => ?_))
  · refine o_call rfl rfl rfl (fun _ => rfl) (en_even) (even_any _) ?_
    rintro e w5 ⟨vn, ve, rfl, hm5, h5⟩
    refine ⟨_, rfl, ?_⟩
    have hc := C.count 1 0 4 vn ve evenN evenF w5 hm5 ⟨by decide, by decide⟩ (by decide)
    rw [even_count] at hc
    refine o_call rfl rfl rfl (fun _ => rfl) (en_aCount) (hc) ?_
    rintro e w6 ⟨rfl, h6⟩
    refine ⟨_, rfl, ?_⟩
    repeat (first | refine o_pure rfl rfl rfl (fun _ => rfl) ?_ | refine o_skip rfl rfl rfl ?_)
    exact o_nil ⟨⟨rfl, rfl, rfl, rfl, rfl, rfl, rfl, rfl, rfl, trivial⟩, below_trans h5 h6⟩
  replace hx1 := hx1.keep hw
  replace hm1 := hm1.keep hw
  replace hw3 := hw3.keep hw (fun _ _ h => h)
  replace hl4 := hl4.keep hw
  replace hB := below_trans hB hw
  clear hw
  refine wp_seq (wp_seq (seq_cut [(1, .pointer (some ⟨M1, 0, none⟩)), (7, vl), (74, .bool false)] (· = w5) tab_ok hS ?_ (fun a w6 hS hw => ?_)))
  · obtain ⟨gw, cw, rfl⟩ := hw3.len
    obtain ⟨gl, cl, rfl, _⟩ := hl4.len
    obtain ⟨gn, cn, hvn⟩ := hm1.n.len
    repeat (first | refine o_pure rfl rfl rfl (fun _ => rfl) ?_ | refine o_skip rfl rfl rfl ?_)
    refine o_cmp rfl rfl rfl (fun _ => rfl) (rfl) ?_
    repeat (first | refine o_pure rfl rfl rfl (fun _ => rfl) ?_ | refine o_skip rfl rfl rfl ?_)
    refine o_cmp rfl rfl rfl (fun _ => rfl) (rfl) ?_
    repeat (first | refine o_pure rfl rfl rfl (fun _ => rfl) ?_ | refine o_skip rfl rfl rfl ?_)
    refine o_cmp rfl rfl rfl (fun _ => rfl) (rfl) ?_
    repeat (first | refine o_pure rfl rfl rfl (fun _ => rfl) ?_ | refine o_skip rfl rfl rfl ?_)
    refine o_cmp rfl rfl rfl (fun _ => rfl) (rfl) ?_
    repeat (first | refine o_pure rfl rfl rfl (fun _ => rfl) ?_ | refine o_skip rfl rfl rfl ?_)
    refine o_load rfl rfl rfl (fun _ => rfl) (hvn ▸ hx1.c2) ?_
    repeat (first | refine o_pure rfl rfl rfl (fun _ => rfl) ?_ | refine o_skip rfl rfl rfl ?_)
    refine o_cmp rfl rfl rfl (fun _ => rfl) (rfl) ?_
    repeat (first | refine o_pure rfl rfl rfl (fun _ => rfl) ?_ | refine o_skip rfl rfl rfl ?_)
    refine o_cmp rfl rfl rfl (fun _ => rfl) (rfl) ?_
    repeat (first | refine o_pure rfl rfl rfl (fun _ => rfl) ?_ | refine o_skip rfl rfl rfl ?_)
    refine o_cmp rfl rfl rfl (fun _ => rfl) (rfl) ?_
    repeat (first | refine o_pure rfl rfl rfl (fun _ => rfl) ?_ | refine o_skip rfl rfl rfl ?_)
    refine o_cmp rfl rfl rfl (fun _ => rfl) (rfl) ?_
    repeat (first | refine o_pure rfl rfl rfl (fun _ => rfl) ?_ | refine o_skip rfl rfl rfl ?_)
    exact o_nil ⟨⟨rfl, rfl, rfl, trivial⟩, rfl⟩
  subst hw
  refine cond hS rfl (fun hT => by cases hT) (fun _ => ?_)
  refine wp_skip ?_
  refine wp_seq (awake_r8 C hx1 hm1 hl4 (by rfl) hS (fun a w7 hS h7 => ?_))
  refine wp_ret ?_
  repeat (first | refine then_ret ?_ | refine block_ret ?_)
  exact ret1 hS rfl rfl ⟨rfl, below_trans hB h7⟩
end Go.Proofs.Ythkabbgaikociaa
namespace Go.Proofs.Ythkabbgaikociaa
open Go Sym
theorem en_awellFormed : enters Try.prog 38 = true := by kernel_rfl
theorem en_aValid : enters Try.prog 15 = true := by kernel_rfl
theorem en_afit : enters Try.prog 43 = true := by kernel_rfl
theorem en_afollow : enters Try.prog 39 = true := by kernel_rfl
theorem en_aends : enters Try.prog 40 = true := by kernel_rfl
theorem box_new {w wc : World} {L s : Int} {vn ve : Value} (hw : wc = w.alloc (.cells #[.int .i64 L, .int .i64 s, vn, ve] 25)) : RowKit.Below w.heap.size w wc ∧ Box wc w.heap.size L s vn ve := by
  rw [hw]
  exact ⟨below_alloc _ _, cell_alloc_new rfl, cell_alloc_new rfl, cell_alloc_new rfl, cell_alloc_new rfl⟩
set_option maxRecDepth 100000 in
theorem wellFormed_any (L s : Int) (vn ve : Value) (next : List (List Int)) (fin : List Bool) (w : World) (hm : Ma w L s next fin vn ve) :
    Calls Try.prog 38 #[.agg #[.int .i64 L, .int .i64 s, vn, ve]] w fun e w' => e = .returned (.bool (shapedM L s next fin)) ∧ RowKit.Below w.heap.size w w' := by
  refine Sym.enter (args := [.agg #[.int .i64 L, .int .i64 s, vn, ve]]) Try.func38 rfl rfl rfl (fun a0 hS0 => ?_)
  obtain ⟨B, hBB⟩ : ∃ B, B = w.heap.size := ⟨_, rfl⟩
  refine wp_seq (seq_cut [(1, .pointer (some ⟨B, 0, none⟩))] (· = w.alloc (.cells #[.int .i64 L, .int .i64 s, vn, ve] 25)) tab_ok hS0 ?_ (fun a wc hS hw => ?_))
  · subst hBB
    refine o_new rfl rfl rfl (fun _ => rfl) ?_
    repeat (first | refine o_pure rfl rfl rfl (fun _ => rfl) ?_ | refine o_skip rfl rfl rfl ?_)
    exact o_nil ⟨⟨rfl, trivial⟩, rfl⟩
  obtain ⟨hB, hx⟩ := box_new hw
  rw [← hBB] at hx
  clear hw
  replace hm := hm.keep hB
  obtain ⟨hn, he, hL, hs, -, -⟩ := id hm
  obtain ⟨an, bn, on, cn, hvn, hna, hn1, hn2, hn3⟩ := hn
  obtain ⟨ae, be, oe, ce, hve, hea, he1, he2, he3⟩ := he
  refine wp_seq (seq_cut [(1, .pointer (some ⟨B, 0, none⟩)), (3, .int .i64 next.length)] (· = wc) tab_ok hS ?_ (fun a w' hS hw => ?_))
  · subst hvn
    repeat (first | refine o_pure rfl rfl rfl (fun _ => rfl) ?_ | refine o_skip rfl rfl rfl ?_)
    refine o_load rfl rfl rfl (fun _ => rfl) (hx.c2) ?_
    repeat (first | refine o_pure rfl rfl rfl (fun _ => rfl) ?_ | refine o_skip rfl rfl rfl ?_)
    exact o_nil ⟨⟨rfl, rfl, trivial⟩, rfl⟩
  subst hw
  have bad : ∀ {b : Bool}, b = shapedM L s next fin → Ending.returned (.bool b) = Ending.returned (.bool (shapedM L s next fin)) := fun h => by rw [h]
  refine wp_seq (wp_seq (seq_cut [(1, .pointer (some ⟨B, 0, none⟩)), (3, .int .i64 next.length), (20, .bool (decide (L < 0) || decide ((fin.length : Int) ≠ next.length)))] (· = w') tab_ok hS ?_ (fun a w2 hS hw => ?_)))
  · subst hve
    repeat (first | refine o_pure rfl rfl rfl (fun _ => rfl) ?_ | refine o_skip rfl rfl rfl ?_)
    refine o_load rfl rfl rfl (fun _ => rfl) (hx.c0) ?_
    cases h1 : decide (L < 0)
    case true =>
      refine o_cmp rfl rfl rfl (fun _ => rfl) (h1) ?_
      repeat (first | refine o_pure rfl rfl rfl (fun _ => rfl) ?_ | refine o_skip rfl rfl rfl ?_)
      exact o_nil ⟨⟨rfl, rfl, rfl, trivial⟩, rfl⟩
    refine o_cmp rfl rfl rfl (fun _ => rfl) (h1) ?_
    repeat (first | refine o_pure rfl rfl rfl (fun _ => rfl) ?_ | refine o_skip rfl rfl rfl ?_)
    refine o_load rfl rfl rfl (fun _ => rfl) (hx.c3) ?_
    repeat (first | refine o_pure rfl rfl rfl (fun _ => rfl) ?_ | refine o_skip rfl rfl rfl ?_)
    refine o_cmp rfl rfl rfl (fun _ => rfl) (rfl) ?_
    repeat (first | refine o_pure rfl rfl rfl (fun _ => rfl) ?_ | refine o_skip rfl rfl rfl ?_)
    exact o_nil ⟨⟨rfl, rfl, rfl, trivial⟩, rfl⟩
  subst hw
  refine cond hS rfl (fun hT => ?_) (fun hF => ?_)
  · refine wp_seq (seq_cut [(2, .bool false)] (· = w2) tab_ok hS ?_ (fun a w3 hS hw => ?_))
    · repeat (first | refine o_pure rfl rfl rfl (fun _ => rfl) ?_ | refine o_skip rfl rfl rfl ?_)
      exact o_nil ⟨⟨rfl, trivial⟩, rfl⟩
    subst hw
    refine wp_ret ?_
    repeat (first | refine then_ret ?_ | refine block_ret ?_)
    refine ret1 hS rfl rfl ⟨bad ?_, hB⟩
    unfold shapedM headBad
    rw [← Bool.or_assoc, hT]; rfl
  refine wp_skip ?_
  refine wp_seq (wp_seq (seq_cut [(1, .pointer (some ⟨B, 0, none⟩)), (3, .int .i64 next.length), (37, .bool (decide (s < -1) || (decide ((next.length : Int) ≤ s) || (decide (s = -1) != decide ((next.length : Int) = 0)))))] (· = w2) tab_ok hS ?_ (fun a w3 hS hw => ?_)))
  · repeat (first | refine o_pure rfl rfl rfl (fun _ => rfl) ?_ | refine o_skip rfl rfl rfl ?_)
    refine o_load rfl rfl rfl (fun _ => rfl) (hx.c1) ?_
    cases h1 : decide (s < -1)
    case true =>
      refine o_cmp rfl rfl rfl (fun _ => rfl) (h1) ?_
      repeat (first | refine o_pure rfl rfl rfl (fun _ => rfl) ?_ | refine o_skip rfl rfl rfl ?_)
      exact o_nil ⟨⟨rfl, rfl, rfl, trivial⟩, rfl⟩
    refine o_cmp rfl rfl rfl (fun _ => rfl) (h1) ?_
    repeat (first | refine o_pure rfl rfl rfl (fun _ => rfl) ?_ | refine o_skip rfl rfl rfl ?_)
    refine o_load rfl rfl rfl (fun _ => rfl) (hx.c1) ?_
    repeat (first | refine o_pure rfl rfl rfl (fun _ => rfl) ?_ | refine o_skip rfl rfl rfl ?_)
    cases h2 : decide ((next.length : Int) ≤ s)
    case true =>
      refine o_cmp rfl rfl rfl (fun _ => rfl) (h2) ?_
      repeat (first | refine o_pure rfl rfl rfl (fun _ => rfl) ?_ | refine o_skip rfl rfl rfl ?_)
      exact o_nil ⟨⟨rfl, rfl, rfl, trivial⟩, rfl⟩
    refine o_cmp rfl rfl rfl (fun _ => rfl) (h2) ?_
    repeat (first | refine o_pure rfl rfl rfl (fun _ => rfl) ?_ | refine o_skip rfl rfl rfl ?_)
    refine o_load rfl rfl rfl (fun _ => rfl) (hx.c1) ?_
    refine o_cmp rfl rfl rfl (fun _ => rfl) (rfl) ?_
    repeat (first | refine o_pure rfl rfl rfl (fun _ => rfl) ?_ | refine o_skip rfl rfl rfl ?_)
    refine o_cmp rfl rfl rfl (fun _ => rfl) (rfl) ?_
    refine o_cmp rfl rfl rfl (fun _ => rfl) (rfl) ?_
    repeat (first | refine o_pure rfl rfl rfl (fun _ => rfl) ?_ | refine o_skip rfl rfl rfl ?_)
    exact o_nil ⟨⟨rfl, rfl, rfl, trivial⟩, rfl⟩
  subst hw
  refine cond hS rfl (fun hT2 => ?_) (fun hF2 => ?_)
  · refine wp_seq (seq_cut [(2, .bool false)] (· = w3) tab_ok hS ?_ (fun a w4 hS hw => ?_))
    · repeat (first | refine o_pure rfl rfl rfl (fun _ => rfl) ?_ | refine o_skip rfl rfl rfl ?_)
      exact o_nil ⟨⟨rfl, trivial⟩, rfl⟩
    subst hw
    refine wp_ret ?_
    repeat (first | refine then_ret ?_ | refine block_ret ?_)
    refine ret1 hS rfl rfl ⟨bad ?_, hB⟩
    refine (Bool.eq_false_iff.2 fun h => ?_).symm
    have hsh := shape_of h
    have h1 := hsh.s1
    have h2 := hsh.s2
    have h3 := hsh.start
    simp only [Bool.or_eq_true, decide_eq_true_eq, bne_iff_ne, ne_eq, decide_eq_decide] at hT2
    omega
  have hhead : headBad L s next.length fin.length = false := by
    unfold headBad
    rw [← Bool.or_assoc, hF, Bool.false_or]
    simp only [Bool.or_eq_false_iff, decide_eq_false_iff_not, bne_eq_false_iff_eq, decide_eq_decide] at hF2
    simp only [Bool.or_eq_false_iff, Bool.and_eq_false_iff, decide_eq_false_iff_not, ne_eq, Decidable.not_not]
    omega
  refine wp_skip ?_
  refine wp_seq (wp_seq (seq_cut [(1, .pointer (some ⟨B, 0, none⟩)), (3, .int .i64 next.length), (39, vn), (40, .int .i64 next.length), (41, .int .i64 ((0 : Nat) : Int))] (· = w3) tab_ok hS ?_ (fun a w4 hS hw => ?_)))
  · subst hvn
    repeat (first | refine o_pure rfl rfl rfl (fun _ => rfl) ?_ | refine o_skip rfl rfl rfl ?_)
    refine o_load rfl rfl rfl (fun _ => rfl) (hx.c2) ?_
    repeat (first | refine o_pure rfl rfl rfl (fun _ => rfl) ?_ | refine o_skip rfl rfl rfl ?_)
    exact o_nil ⟨⟨rfl, rfl, rfl, rfl, rfl, trivial⟩, rfl⟩
  subst hw
  refine wp_block (loop0 hS (fun g E wr => ∃ k : Nat, k ≤ next.length ∧ g = next.length - k ∧ E = [(1, .pointer (some ⟨B, 0, none⟩)), (3, .int .i64 next.length), (39, vn), (40, .int .i64 next.length), (41, .int .i64 (k : Int))] ∧ wr = w4 ∧ (next.take k).all (rowOk next.length L) = true) next.length ⟨0, by omega, by omega, rfl, rfl, rfl⟩ ?_)
  clear hS
  rintro g E w5 a ⟨k, hk, rfl, rfl, rfl, hall⟩ hS
  refine wp_seq (seq_cut [(1, .pointer (some ⟨B, 0, none⟩)), (3, .int .i64 next.length), (39, vn), (40, .int .i64 next.length), (41, .int .i64 (k : Int)), (42, .bool (decide (k < next.length)))] (· = w5) tab_ok hS ?_ (fun a w6 hS hw => ?_))
  · repeat (first | refine o_pure rfl rfl rfl (fun _ => rfl) ?_ | refine o_skip rfl rfl rfl ?_)
    refine o_cmp rfl rfl rfl (fun _ => rfl) (lt_nat _ _) ?_
    repeat (first | refine o_pure rfl rfl rfl (fun _ => rfl) ?_ | refine o_skip rfl rfl rfl ?_)
    exact o_nil ⟨⟨rfl, rfl, rfl, rfl, rfl, rfl, trivial⟩, rfl⟩
  subst hw
  refine wp_seq (cond hS rfl (fun hT => wp_skip ?_) (fun hF => ?_))
  rotate_left
  · have hkk : k = next.length := by have := of_decide_eq_false hF; omega
    subst hkk
    rw [List.take_length] at hall
    refine wp_exit ?_
    repeat (first | refine then_exit ?_ | refine block_exit ?_ | refine block_other rfl ?_)
    refine wp_seq (seq_cut [(2, .bool true)] (· = w6) tab_ok hS ?_ (fun a w7 hS hw => ?_))
    · repeat (first | refine o_pure rfl rfl rfl (fun _ => rfl) ?_ | refine o_skip rfl rfl rfl ?_)
      exact o_nil ⟨⟨rfl, trivial⟩, rfl⟩
    subst hw
    refine wp_ret ?_
    repeat (first | refine then_ret ?_ | refine block_ret ?_)
    refine ret1 hS rfl rfl ⟨bad ?_, hB⟩
    unfold shapedM
    rw [hhead, hall]; rfl
  have hkk : k < next.length := of_decide_eq_true hT
  obtain ⟨bn', on', cn', hvn', ar, cr, hrow, hcol⟩ := hm.cell hkk
  have bad2 : rowOk next.length L next[k] = false → shapedM L s next fin = false := fun h => by
    unfold shapedM
    rw [all_of_take hkk h]; simp
  refine wp_seq (wp_block (wp_seq (seq_cut [(1, .pointer (some ⟨B, 0, none⟩)), (3, .int .i64 next.length), (39, vn), (40, .int .i64 next.length), (41, .int .i64 (k : Int)), (5, .slice ar next[k].length cr)] (· = w6) tab_ok hS ?_ (fun a w7 hS hw => ?_))))
  · subst hvn'
    repeat (first | refine o_pure rfl rfl rfl (fun _ => rfl) ?_ | refine o_skip rfl rfl rfl ?_)
    refine o_ix rfl rfl rfl (fun _ => rfl) (rfl) (hkk) ?_
    refine o_load rfl rfl rfl (fun _ => rfl) (hrow) ?_
    repeat (first | refine o_pure rfl rfl rfl (fun _ => rfl) ?_ | refine o_skip rfl rfl rfl ?_)
    exact o_nil ⟨⟨rfl, rfl, rfl, rfl, rfl, rfl, trivial⟩, rfl⟩
  subst hw
  refine wp_seq (wp_seq (seq_cut [(1, .pointer (some ⟨B, 0, none⟩)), (3, .int .i64 next.length), (39, vn), (40, .int .i64 next.length), (41, .int .i64 (k : Int)), (5, .slice ar next[k].length cr), (49, .bool (decide ((next[k].length : Int) ≠ L)))] (· = w7) tab_ok hS ?_ (fun a w8 hS hw => ?_)))
  · repeat (first | refine o_pure rfl rfl rfl (fun _ => rfl) ?_ | refine o_skip rfl rfl rfl ?_)
    refine o_load rfl rfl rfl (fun _ => rfl) (hx.c0) ?_
    refine o_cmp rfl rfl rfl (fun _ => rfl) (rfl) ?_
    repeat (first | refine o_pure rfl rfl rfl (fun _ => rfl) ?_ | refine o_skip rfl rfl rfl ?_)
    exact o_nil ⟨⟨rfl, rfl, rfl, rfl, rfl, rfl, rfl, trivial⟩, rfl⟩
  subst hw
  refine cond hS rfl (fun hT => ?_) (fun hF => ?_)
  · refine wp_seq (seq_cut [(2, .bool false)] (· = w8) tab_ok hS ?_ (fun a w9 hS hw => ?_))
    · repeat (first | refine o_pure rfl rfl rfl (fun _ => rfl) ?_ | refine o_skip rfl rfl rfl ?_)
      exact o_nil ⟨⟨rfl, trivial⟩, rfl⟩
    subst hw
    refine wp_ret ?_
    repeat (first | refine then_ret ?_ | refine block_ret ?_)
    refine ret1 hS rfl rfl ⟨bad (bad2 ?_).symm, hB⟩
    have := of_decide_eq_true hT
    unfold rowOk
    rw [decide_eq_false this]; rfl
  have hrl := Decidable.not_not.1 (of_decide_eq_false hF)
  refine wp_skip ?_
  refine wp_seq (seq_cut [(1, .pointer (some ⟨B, 0, none⟩)), (3, .int .i64 next.length), (39, vn), (40, .int .i64 next.length), (41, .int .i64 (k : Int)), (50, .slice ar next[k].length cr), (51, .int .i64 (next[k].length : Int)), (52, .int .i64 ((0 : Nat) : Int))] (· = w8) tab_ok hS ?_ (fun a w9 hS hw => ?_))
  · repeat (first | refine o_pure rfl rfl rfl (fun _ => rfl) ?_ | refine o_skip rfl rfl rfl ?_)
    exact o_nil ⟨⟨rfl, rfl, rfl, rfl, rfl, rfl, rfl, rfl, trivial⟩, rfl⟩
  subst hw
  refine wp_block (loop0 hS (fun g E wr => ∃ j : Nat, j ≤ next[k].length ∧ g = next[k].length - j ∧ E = [(1, .pointer (some ⟨B, 0, none⟩)), (3, .int .i64 next.length), (39, vn), (40, .int .i64 next.length), (41, .int .i64 (k : Int)), (50, .slice ar next[k].length cr), (51, .int .i64 (next[k].length : Int)), (52, .int .i64 (j : Int))] ∧ wr = w9 ∧ (next[k].take j).all (fun x => decide (-1 ≤ x) && decide (x < next.length)) = true) next[k].length ⟨0, by omega, by omega, rfl, rfl, rfl⟩ ?_)
  clear hS
  rintro g E w10 a ⟨j, hj, rfl, rfl, rfl, hall2⟩ hS
  refine wp_seq (seq_cut [(1, .pointer (some ⟨B, 0, none⟩)), (3, .int .i64 next.length), (39, vn), (40, .int .i64 next.length), (41, .int .i64 (k : Int)), (50, .slice ar next[k].length cr), (51, .int .i64 (next[k].length : Int)), (52, .int .i64 (j : Int)), (53, .bool (decide (j < next[k].length)))] (· = w10) tab_ok hS ?_ (fun a w11 hS hw => ?_))
  · repeat (first | refine o_pure rfl rfl rfl (fun _ => rfl) ?_ | refine o_skip rfl rfl rfl ?_)
    refine o_cmp rfl rfl rfl (fun _ => rfl) (lt_nat _ _) ?_
    repeat (first | refine o_pure rfl rfl rfl (fun _ => rfl) ?_ | refine o_skip rfl rfl rfl ?_)
    exact o_nil ⟨⟨rfl, rfl, rfl, rfl, rfl, rfl, rfl, rfl, rfl, trivial⟩, rfl⟩
  subst hw
  refine wp_seq (cond hS rfl (fun hT => wp_skip ?_) (fun hF => ?_))
  rotate_left
  · have hjj : j = next[k].length := by have := of_decide_eq_false hF; omega
    subst hjj
    rw [List.take_length] at hall2
    refine wp_exit ?_
    repeat (first | refine then_exit ?_ | refine block_exit ?_ | refine block_other rfl ?_)
    refine block_normal ?_
    refine seq_cut [(1, .pointer (some ⟨B, 0, none⟩)), (3, .int .i64 next.length), (39, vn), (40, .int .i64 next.length), (41, .int .i64 ((k + 1 : Nat) : Int))] (· = w11) tab_ok hS ?_ (fun a w12 hS hw => ?_)
    · repeat (first | refine o_pure rfl rfl rfl (fun _ => rfl) ?_ | refine o_skip rfl rfl rfl ?_)
      refine o_num rfl rfl rfl (fun _ => rfl) (i64_add k 1 (by omega)) ?_
      repeat (first | refine o_pure rfl rfl rfl (fun _ => rfl) ?_ | refine o_skip rfl rfl rfl ?_)
      exact o_nil ⟨⟨rfl, rfl, rfl, rfl, rfl, trivial⟩, rfl⟩
    subst hw
    refine ⟨next.length - (k + 1), _, by omega, ⟨k + 1, by omega, rfl, rfl, rfl, ?_⟩, hS⟩
    rw [all_take_succ next _ k hkk, hall]
    unfold rowOk
    rw [decide_eq_true hrl, hall2]; rfl
  have hjj : j < next[k].length := of_decide_eq_true hT
  obtain ⟨br, orr, har, hcell⟩ := hcol j hjj
  refine wp_seq (wp_block (wp_seq (seq_cut [(1, .pointer (some ⟨B, 0, none⟩)), (3, .int .i64 next.length), (39, vn), (40, .int .i64 next.length), (41, .int .i64 (k : Int)), (50, .slice ar next[k].length cr), (51, .int .i64 (next[k].length : Int)), (52, .int .i64 (j : Int)), (7, .int .i64 next[k][j])] (· = w11) tab_ok hS ?_ (fun a w12 hS hw => ?_))))
  · subst har
    repeat (first | refine o_pure rfl rfl rfl (fun _ => rfl) ?_ | refine o_skip rfl rfl rfl ?_)
    refine o_ix rfl rfl rfl (fun _ => rfl) (rfl) (hjj) ?_
    refine o_load rfl rfl rfl (fun _ => rfl) (hcell) ?_
    repeat (first | refine o_pure rfl rfl rfl (fun _ => rfl) ?_ | refine o_skip rfl rfl rfl ?_)
    exact o_nil ⟨⟨rfl, rfl, rfl, rfl, rfl, rfl, rfl, rfl, rfl, trivial⟩, rfl⟩
  subst hw
  refine wp_seq (seq_cut [(1, .pointer (some ⟨B, 0, none⟩)), (3, .int .i64 next.length), (39, vn), (40, .int .i64 next.length), (41, .int .i64 (k : Int)), (50, .slice ar next[k].length cr), (51, .int .i64 (next[k].length : Int)), (52, .int .i64 (j : Int)), (62, .bool (decide (next[k][j] < -1) || decide ((next.length : Int) ≤ next[k][j])))] (· = w12) tab_ok hS ?_ (fun a w13 hS hw => ?_))
  · repeat (first | refine o_pure rfl rfl rfl (fun _ => rfl) ?_ | refine o_skip rfl rfl rfl ?_)
    cases h1 : decide (next[k][j] < -1)
    case true =>
      refine o_cmp rfl rfl rfl (fun _ => rfl) (h1) ?_
      repeat (first | refine o_pure rfl rfl rfl (fun _ => rfl) ?_ | refine o_skip rfl rfl rfl ?_)
      exact o_nil ⟨⟨rfl, rfl, rfl, rfl, rfl, rfl, rfl, rfl, rfl, trivial⟩, rfl⟩
    refine o_cmp rfl rfl rfl (fun _ => rfl) (h1) ?_
    repeat (first | refine o_pure rfl rfl rfl (fun _ => rfl) ?_ | refine o_skip rfl rfl rfl ?_)
    refine o_cmp rfl rfl rfl (fun _ => rfl) (rfl) ?_
    repeat (first | refine o_pure rfl rfl rfl (fun _ => rfl) ?_ | refine o_skip rfl rfl rfl ?_)
    exact o_nil ⟨⟨rfl, rfl, rfl, rfl, rfl, rfl, rfl, rfl, rfl, trivial⟩, rfl⟩
  subst hw
  refine cond hS rfl (fun hT => ?_) (fun hF => ?_)
  · refine wp_seq (seq_cut [(2, .bool false)] (· = w13) tab_ok hS ?_ (fun a w14 hS hw => ?_))
    · repeat (first | refine o_pure rfl rfl rfl (fun _ => rfl) ?_ | refine o_skip rfl rfl rfl ?_)
      exact o_nil ⟨⟨rfl, trivial⟩, rfl⟩
    subst hw
    refine wp_ret ?_
    repeat (first | refine then_ret ?_ | refine block_ret ?_)
    refine ret1 hS rfl rfl ⟨bad (bad2 ?_).symm, hB⟩
    simp only [Bool.or_eq_true, decide_eq_true_eq] at hT
    unfold rowOk
    rw [all_of_take hjj]
    · simp
    · simp only [Bool.and_eq_false_iff, decide_eq_false_iff_not]; omega
  refine wp_skip ?_
  refine block_normal ?_
  refine seq_cut [(1, .pointer (some ⟨B, 0, none⟩)), (3, .int .i64 next.length), (39, vn), (40, .int .i64 next.length), (41, .int .i64 (k : Int)), (50, .slice ar next[k].length cr), (51, .int .i64 (next[k].length : Int)), (52, .int .i64 ((j + 1 : Nat) : Int))] (· = w13) tab_ok hS ?_ (fun a w14 hS hw => ?_)
  · have : next[k].length ≤ 9223372036854775807 := by have := hL.2; omega
    repeat (first | refine o_pure rfl rfl rfl (fun _ => rfl) ?_ | refine o_skip rfl rfl rfl ?_)
    refine o_num rfl rfl rfl (fun _ => rfl) (i64_add j 1 (by omega)) ?_
    repeat (first | refine o_pure rfl rfl rfl (fun _ => rfl) ?_ | refine o_skip rfl rfl rfl ?_)
    exact o_nil ⟨⟨rfl, rfl, rfl, rfl, rfl, rfl, rfl, rfl, trivial⟩, rfl⟩
  subst hw
  refine ⟨next[k].length - (j + 1), _, by omega, ⟨j + 1, by omega, rfl, rfl, rfl, ?_⟩, hS⟩
  rw [all_take_succ _ _ j hjj, hall2]
  simp only [Bool.or_eq_false_iff, decide_eq_false_iff_not] at hF
  simp only [Bool.true_and, Bool.and_eq_true, decide_eq_true_eq]
  omega
set_option maxRecDepth 100000 in
theorem aValid_any (L s : Int) (vn ve : Value) (next : List (List Int)) (fin : List Bool) (w : World) (hm : Ma w L s next fin vn ve) :
    Calls Try.prog 15 #[.agg #[.int .i64 L, .int .i64 s, vn, ve]] w fun e w' => e = .returned (.int .i64 (validM L s next fin)) ∧ RowKit.Below w.heap.size w w' := by
  refine Sym.enter (args := [.agg #[.int .i64 L, .int .i64 s, vn, ve]]) Try.func15 rfl rfl rfl (fun a0 hS0 => ?_)
  obtain ⟨B, hBB⟩ : ∃ B, B = w.heap.size := ⟨_, rfl⟩
  refine wp_seq (seq_cut [(1, .pointer (some ⟨B, 0, none⟩))] (· = w.alloc (.cells #[.int .i64 L, .int .i64 s, vn, ve] 25)) tab_ok hS0 ?_ (fun a wc hS hw => ?_))
  · subst hBB
    refine o_new rfl rfl rfl (fun _ => rfl) ?_
    repeat (first | refine o_pure rfl rfl rfl (fun _ => rfl) ?_ | refine o_skip rfl rfl rfl ?_)
    exact o_nil ⟨⟨rfl, trivial⟩, rfl⟩
  obtain ⟨hB, hx⟩ := box_new hw
  rw [← hBB] at hx
  clear hw
  replace hm := hm.keep hB
  obtain ⟨an, bn, on, cn, hvn, -⟩ := id hm.n
  refine wp_seq (wp_seq (seq_cut [(1, .pointer (some ⟨B, 0, none⟩)), (5, .bool (!shapedM L s next fin))] (fun w' => RowKit.Below wc.heap.size wc w') tab_ok hS ?_ (fun a w2 hS hw => ?_)))
  · refine o_loads (vs := [.int .i64 L, .int .i64 s, vn, ve]) rfl rfl rfl (fun _ => rfl) rfl (⟨hx.c0, hx.c1, hx.c2, hx.c3, trivial⟩) ?_
    refine o_call rfl rfl rfl (fun _ => rfl) (en_awellFormed) (wellFormed_any L s vn ve next fin wc hm) ?_
    rintro e w3 ⟨rfl, h3⟩
    refine ⟨_, rfl, ?_⟩
    repeat (first | refine o_pure rfl rfl rfl (fun _ => rfl) ?_ | refine o_skip rfl rfl rfl ?_)
    exact o_nil ⟨⟨rfl, rfl, trivial⟩, h3⟩
  replace hx := hx.keep hw
  replace hB := below_trans hB hw
  clear hw
  refine cond hS rfl (fun hT => ?_) (fun hF => ?_)
  · refine wp_seq (seq_cut [(2, .int .i64 1)] (· = w2) tab_ok hS ?_ (fun a w3 hS hw => ?_))
    · repeat (first | refine o_pure rfl rfl rfl (fun _ => rfl) ?_ | refine o_skip rfl rfl rfl ?_)
      exact o_nil ⟨⟨rfl, trivial⟩, rfl⟩
    subst hw
    refine wp_ret ?_
    repeat (first | refine then_ret ?_ | refine block_ret ?_)
    exact ret1 hS rfl rfl ⟨by unfold validM; rw [hT], hB⟩
  refine wp_skip ?_
  refine wp_seq (wp_seq (seq_cut [(1, .pointer (some ⟨B, 0, none⟩)), (14, .bool (decide (300 < L) || decide (4000 < (next.length : Int))))] (· = w2) tab_ok hS ?_ (fun a w3 hS hw => ?_)))
  · subst hvn
    repeat (first | refine o_pure rfl rfl rfl (fun _ => rfl) ?_ | refine o_skip rfl rfl rfl ?_)
    refine o_load rfl rfl rfl (fun _ => rfl) (hx.c0) ?_
    cases h1 : decide (300 < L)
    case true =>
      refine o_cmp rfl rfl rfl (fun _ => rfl) (h1) ?_
      repeat (first | refine o_pure rfl rfl rfl (fun _ => rfl) ?_ | refine o_skip rfl rfl rfl ?_)
      exact o_nil ⟨⟨rfl, rfl, trivial⟩, rfl⟩
    refine o_cmp rfl rfl rfl (fun _ => rfl) (h1) ?_
    repeat (first | refine o_pure rfl rfl rfl (fun _ => rfl) ?_ | refine o_skip rfl rfl rfl ?_)
    refine o_load rfl rfl rfl (fun _ => rfl) (hx.c2) ?_
    repeat (first | refine o_pure rfl rfl rfl (fun _ => rfl) ?_ | refine o_skip rfl rfl rfl ?_)
    refine o_cmp rfl rfl rfl (fun _ => rfl) (rfl) ?_
    repeat (first | refine o_pure rfl rfl rfl (fun _ => rfl) ?_ | refine o_skip rfl rfl rfl ?_)
    exact o_nil ⟨⟨rfl, rfl, trivial⟩, rfl⟩
  subst hw
  refine cond hS rfl (fun hT => ?_) (fun hF2 => ?_)
  · refine wp_seq (seq_cut [(2, .int .i64 5)] (· = w3) tab_ok hS ?_ (fun a w4 hS hw => ?_))
    · repeat (first | refine o_pure rfl rfl rfl (fun _ => rfl) ?_ | refine o_skip rfl rfl rfl ?_)
      exact o_nil ⟨⟨rfl, trivial⟩, rfl⟩
    subst hw
    refine wp_ret ?_
    repeat (first | refine then_ret ?_ | refine block_ret ?_)
    exact ret1 hS rfl rfl ⟨by unfold validM; rw [hF, hT], hB⟩
  refine wp_skip ?_
  refine wp_seq (seq_cut [(2, .int .i64 0)] (· = w3) tab_ok hS ?_ (fun a w4 hS hw => ?_))
  · repeat (first | refine o_pure rfl rfl rfl (fun _ => rfl) ?_ | refine o_skip rfl rfl rfl ?_)
    exact o_nil ⟨⟨rfl, trivial⟩, rfl⟩
  subst hw
  refine wp_ret ?_
  repeat (first | refine then_ret ?_ | refine block_ret ?_)
  exact ret1 hS rfl rfl ⟨by unfold validM; rw [hF, hF2], hB⟩
theorem aValid_c : ValidC 15 := fun L s vn ve next fin w hm => aValid_any L s vn ve next fin w hm
end Go.Proofs.Ythkabbgaikociaa
namespace Go.Proofs.Ythkabbgaikociaa
open Go Sym
set_option maxRecDepth 100000 in
theorem afollow_any (L s : Int) (vn ve : Value) (next : List (List Int)) (st l : Int) (w : World) (hn : Sl w vn next PRow) (h1 : st < next.length) (h2 : 0 ≤ st → 0 ≤ l ∧ l < (next.getD st.toNat []).length) :
    Calls Try.prog 39 #[.agg #[.int .i64 L, .int .i64 s, vn, ve], .int .i64 st, .int .i64 l] w fun e w' => e = .returned (.int .i64 (stepM next st l)) ∧ RowKit.Below w.heap.size w w' := by
  refine Sym.enter (args := [.agg #[.int .i64 L, .int .i64 s, vn, ve], .int .i64 st, .int .i64 l]) Try.func39 rfl rfl rfl (fun a0 hS0 => ?_)
  refine wp_seq (seq_cut [(1, .int .i64 st), (2, .int .i64 l), (3, .pointer (some ⟨w.heap.size, 0, none⟩))] (· = w.alloc (.cells #[.int .i64 L, .int .i64 s, vn, ve] 25)) tab_ok hS0 ?_ (fun a wc hS hw => ?_))
  · refine o_new rfl rfl rfl (fun _ => rfl) ?_
    repeat (first | refine o_pure rfl rfl rfl (fun _ => rfl) ?_ | refine o_skip rfl rfl rfl ?_)
    exact o_nil ⟨⟨rfl, rfl, rfl, trivial⟩, rfl⟩
  obtain ⟨hB, hx⟩ := box_new hw
  clear hw
  refine wp_seq (wp_seq (seq_cut [(1, .int .i64 st), (2, .int .i64 l), (3, .pointer (some ⟨w.heap.size, 0, none⟩)), (8, .bool (decide (st < 0)))] (· = wc) tab_ok hS ?_ (fun a w2 hS hw => ?_)))
  · repeat (first | refine o_pure rfl rfl rfl (fun _ => rfl) ?_ | refine o_skip rfl rfl rfl ?_)
    refine o_cmp rfl rfl rfl (fun _ => rfl) (rfl) ?_
    exact o_nil ⟨⟨rfl, rfl, rfl, rfl, trivial⟩, rfl⟩
  subst hw
  refine cond hS rfl (fun hlt => ?_) (fun hge => ?_)
  · refine wp_seq (seq_cut [(6, .int .i64 (-1))] (· = w2) tab_ok hS ?_ (fun a w3 hS hw => ?_))
    · repeat (first | refine o_pure rfl rfl rfl (fun _ => rfl) ?_ | refine o_skip rfl rfl rfl ?_)
      exact o_nil ⟨⟨rfl, trivial⟩, rfl⟩
    subst hw
    have : st < 0 := of_decide_eq_true hlt
    refine wp_ret ?_
    repeat (first | refine then_ret ?_ | refine block_ret ?_)
    refine ret1 hS rfl rfl ⟨by rw [stepM, if_pos this], hB⟩
  · have hge : ¬ st < 0 := of_decide_eq_false hge
    obtain ⟨k, rfl⟩ := Int.eq_ofNat_of_zero_le (Int.not_lt.1 hge)
    obtain ⟨h3, h4⟩ := h2 (by omega)
    obtain ⟨j, rfl⟩ := Int.eq_ofNat_of_zero_le h3
    have hk : k < next.length := by omega
    obtain ⟨an, b, o, cap, rfl, ha, hc1, hc2, hc⟩ := hn
    obtain rfl := ha (by omega)
    obtain ⟨x, hxc, hr⟩ := hc k hk
    have hrow : next.getD (k : Int).toNat [] = next[k] := by simp [List.getD_eq_getElem?_getD, hk]
    rw [hrow] at h4
    obtain ⟨ar, br, orr, cr, rfl, har, hr1, hr2, hr3⟩ := hr.1
    obtain rfl := har (by omega)
    have hj : j < (next[k]).length := by omega
    obtain ⟨y, hy, rfl, hy2⟩ := hr3 j hj
    refine wp_skip ?_
    refine wp_seq (seq_cut [(6, .int .i64 (next[k][j]))] (· = w2) tab_ok hS ?_ (fun a w3 hS hw => ?_))
    · repeat (first | refine o_pure rfl rfl rfl (fun _ => rfl) ?_ | refine o_skip rfl rfl rfl ?_)
      refine o_load rfl rfl rfl (fun _ => rfl) (hx.c2) ?_
      repeat (first | refine o_pure rfl rfl rfl (fun _ => rfl) ?_ | refine o_skip rfl rfl rfl ?_)
      refine o_ix rfl rfl rfl (fun _ => rfl) (rfl) (hk) ?_
      refine o_load rfl rfl rfl (fun _ => rfl) (keep hB hxc) ?_
      repeat (first | refine o_pure rfl rfl rfl (fun _ => rfl) ?_ | refine o_skip rfl rfl rfl ?_)
      refine o_ix rfl rfl rfl (fun _ => rfl) (rfl) (hj) ?_
      refine o_load rfl rfl rfl (fun _ => rfl) (keep hB hy) ?_
      repeat (first | refine o_pure rfl rfl rfl (fun _ => rfl) ?_ | refine o_skip rfl rfl rfl ?_)
      exact o_nil ⟨⟨rfl, trivial⟩, rfl⟩
    subst hw
    have hk0 : ¬ (k : Int) < 0 := by omega
    refine wp_ret ?_
    repeat (first | refine then_ret ?_ | refine block_ret ?_)
    refine ret1 hS rfl rfl ⟨by simp [stepM, hk, hj, hk0], hB⟩
set_option maxRecDepth 100000 in
theorem aends_any (L s : Int) (vn ve : Value) (fin : List Bool) (st : Int) (w : World) (he : Sl w ve fin PBool) (h1 : st < fin.length) :
    Calls Try.prog 40 #[.agg #[.int .i64 L, .int .i64 s, vn, ve], .int .i64 st] w fun e w' => e = .returned (.bool (endsM fin st)) ∧ RowKit.Below w.heap.size w w' := by
  refine Sym.enter (args := [.agg #[.int .i64 L, .int .i64 s, vn, ve], .int .i64 st]) Try.func40 rfl rfl rfl (fun a0 hS0 => ?_)
  refine wp_seq (seq_cut [(1, .int .i64 st), (2, .pointer (some ⟨w.heap.size, 0, none⟩))] (· = w.alloc (.cells #[.int .i64 L, .int .i64 s, vn, ve] 25)) tab_ok hS0 ?_ (fun a wc hS hw => ?_))
  · refine o_new rfl rfl rfl (fun _ => rfl) ?_
    repeat (first | refine o_pure rfl rfl rfl (fun _ => rfl) ?_ | refine o_skip rfl rfl rfl ?_)
    exact o_nil ⟨⟨rfl, rfl, trivial⟩, rfl⟩
  obtain ⟨hB, hx⟩ := box_new hw
  clear hw
  replace he := he.keep hB (fun _ _ h => h)
  obtain ⟨hb, hhb⟩ : ∃ b, endsM fin st = b := ⟨_, rfl⟩
  refine wp_seq (seq_cut [(4, .bool hb)] (· = wc) tab_ok hS ?_ (fun a w2 hS hw => ?_))
  · repeat (first | refine o_pure rfl rfl rfl (fun _ => rfl) ?_ | refine o_skip rfl rfl rfl ?_)
    cases e1 : decide (0 ≤ st)
    case false =>
      obtain rfl : hb = false := by rw [← hhb, endsM, e1]; rfl
      refine o_cmp rfl rfl rfl (fun _ => rfl) (e1) ?_
      repeat (first | refine o_pure rfl rfl rfl (fun _ => rfl) ?_ | refine o_skip rfl rfl rfl ?_)
      exact o_nil ⟨⟨rfl, trivial⟩, rfl⟩
    case true =>
      obtain ⟨k, rfl⟩ := Int.eq_ofNat_of_zero_le (of_decide_eq_true e1)
      obtain ⟨ae, be, oe, ce, rfl, hea, he1, he2, he3⟩ := he
      have hk : k < fin.length := by omega
      obtain rfl := hea (by omega)
      obtain ⟨y, hy, rfl⟩ := he3 k hk
      obtain rfl : hb = fin[k] := by rw [← hhb]; simp [endsM, hk]
      refine o_cmp rfl rfl rfl (fun _ => rfl) (e1) ?_
      repeat (first | refine o_pure rfl rfl rfl (fun _ => rfl) ?_ | refine o_skip rfl rfl rfl ?_)
      refine o_load rfl rfl rfl (fun _ => rfl) (hx.c3) ?_
      repeat (first | refine o_pure rfl rfl rfl (fun _ => rfl) ?_ | refine o_skip rfl rfl rfl ?_)
      refine o_ix rfl rfl rfl (fun _ => rfl) (rfl) (hk) ?_
      refine o_load rfl rfl rfl (fun _ => rfl) (hy) ?_
      repeat (first | refine o_pure rfl rfl rfl (fun _ => rfl) ?_ | refine o_skip rfl rfl rfl ?_)
      exact o_nil ⟨⟨rfl, trivial⟩, rfl⟩
  subst hw
  refine wp_ret ?_
  repeat (first | refine then_ret ?_ | refine block_ret ?_)
  refine ret1 hS rfl rfl ⟨by rw [hhb], hB⟩
theorem alloc_size (w : World) (o : Obj) : (w.alloc o).heap.size = w.heap.size + 1 := Array.size_push _
theorem box_two {w wc : World} {L1 s1 L2 s2 : Int} {vn1 ve1 vn2 ve2 : Value} (hw : wc = (w.alloc (.cells #[.int .i64 L1, .int .i64 s1, vn1, ve1] 25)).alloc (.cells #[.int .i64 L2, .int .i64 s2, vn2, ve2] 25)) :
    RowKit.Below w.heap.size w wc ∧ Box wc w.heap.size L1 s1 vn1 ve1 ∧ Box wc (w.heap.size + 1) L2 s2 vn2 ve2 := by
  have h1 := below_alloc w (.cells #[.int .i64 L1, .int .i64 s1, vn1, ve1] 25)
  have h2 := below_alloc (w.alloc (.cells #[.int .i64 L1, .int .i64 s1, vn1, ve1] 25)) (.cells #[.int .i64 L2, .int .i64 s2, vn2, ve2] 25)
  have hs : (w.alloc (.cells #[.int .i64 L1, .int .i64 s1, vn1, ve1] 25)).heap.size = w.heap.size + 1 := alloc_size _ _
  rw [hw]
  refine ⟨below_trans h1 h2, (Box.new w L1 s1 vn1 ve1 25).keep h2, ?_⟩
  have := Box.new (w.alloc (.cells #[.int .i64 L1, .int .i64 s1, vn1, ve1] 25)) L2 s2 vn2 ve2 25
  rw [hs] at this
  exact this
set_option maxRecDepth 100000 in
theorem afit_any (L1 s1 L2 s2 : Int) (vn1 ve1 vn2 ve2 : Value) (n1 n2 : List (List Int)) (f1 f2 : List Bool) (w : World) (hm : Ma w L1 s1 n1 f1 vn1 ve1) (hm2 : Ma w L2 s2 n2 f2 vn2 ve2) :
    Calls Try.prog 43 #[.agg #[.int .i64 L1, .int .i64 s1, vn1, ve1], .agg #[.int .i64 L2, .int .i64 s2, vn2, ve2]] w fun e w' => e = .returned (.int .i64 (twoM L1 s1 n1 f1 L2 s2 n2 f2)) ∧ RowKit.Below w.heap.size w w' := by
  refine Sym.enter (args := [.agg #[.int .i64 L1, .int .i64 s1, vn1, ve1], .agg #[.int .i64 L2, .int .i64 s2, vn2, ve2]]) Try.func43 rfl rfl rfl (fun a0 hS0 => ?_)
  obtain ⟨B, hBB⟩ : ∃ B, B = w.heap.size := ⟨_, rfl⟩
  refine wp_seq (seq_cut [(2, .pointer (some ⟨B, 0, none⟩)), (3, .pointer (some ⟨B + 1, 0, none⟩))] (· = (w.alloc (.cells #[.int .i64 L1, .int .i64 s1, vn1, ve1] 25)).alloc (.cells #[.int .i64 L2, .int .i64 s2, vn2, ve2] 25)) tab_ok hS0 ?_ (fun a wc hS hw => ?_))
  · subst hBB
    refine o_new rfl rfl rfl (fun _ => rfl) ?_
    refine o_new rfl rfl rfl (fun _ => rfl) ?_
    rw [alloc_size]
    repeat (first | refine o_pure rfl rfl rfl (fun _ => rfl) ?_ | refine o_skip rfl rfl rfl ?_)
    exact o_nil ⟨⟨rfl, rfl, trivial⟩, rfl⟩
  obtain ⟨hB, hx1, hx2⟩ := box_two hw
  rw [← hBB] at hx1 hx2
  clear hw
  replace hm := hm.keep hB
  replace hm2 := hm2.keep hB
  refine wp_seq (wp_seq (seq_cut [(2, .pointer (some ⟨B, 0, none⟩)), (3, .pointer (some ⟨B + 1, 0, none⟩)), (12, .bool (decide (validM L1 s1 n1 f1 ≠ 0) || decide (validM L2 s2 n2 f2 ≠ 0)))] (fun w' => RowKit.Below wc.heap.size wc w') tab_ok hS ?_ (fun a w2 hS hw => ?_)))
  · refine o_loads (vs := [.int .i64 L1, .int .i64 s1, vn1, ve1]) rfl rfl rfl (fun _ => rfl) rfl (⟨hx1.c0, hx1.c1, hx1.c2, hx1.c3, trivial⟩) ?_
    refine o_call rfl rfl rfl (fun _ => rfl) (en_aValid) (aValid_any L1 s1 vn1 ve1 n1 f1 wc hm) ?_
    rintro e w3 ⟨rfl, h3⟩
    refine ⟨_, rfl, ?_⟩
    have hx2' := hx2.keep h3
    have hm2' := hm2.keep h3
    cases h1 : decide (validM L1 s1 n1 f1 ≠ 0)
    case true =>
      refine o_cmp rfl rfl rfl (fun _ => rfl) (h1) ?_
      repeat (first | refine o_pure rfl rfl rfl (fun _ => rfl) ?_ | refine o_skip rfl rfl rfl ?_)
      exact o_nil ⟨⟨rfl, rfl, rfl, trivial⟩, h3⟩
    refine o_cmp rfl rfl rfl (fun _ => rfl) (h1) ?_
    repeat (first | refine o_pure rfl rfl rfl (fun _ => rfl) ?_ | refine o_skip rfl rfl rfl ?_)
    refine o_loads (vs := [.int .i64 L2, .int .i64 s2, vn2, ve2]) rfl rfl rfl (fun _ => rfl) rfl (⟨hx2'.c0, hx2'.c1, hx2'.c2, hx2'.c3, trivial⟩) ?_
    refine o_call rfl rfl rfl (fun _ => rfl) (en_aValid) (aValid_any L2 s2 vn2 ve2 n2 f2 w3 hm2') ?_
    rintro e w4 ⟨rfl, h4⟩
    refine ⟨_, rfl, ?_⟩
    refine o_cmp rfl rfl rfl (fun _ => rfl) (rfl) ?_
    repeat (first | refine o_pure rfl rfl rfl (fun _ => rfl) ?_ | refine o_skip rfl rfl rfl ?_)
    exact o_nil ⟨⟨rfl, rfl, rfl, trivial⟩, below_trans h3 h4⟩
  replace hx1 := hx1.keep hw
  replace hx2 := hx2.keep hw
  replace hB := below_trans hB hw
  clear hw
  refine cond hS rfl (fun hT => ?_) (fun hF => ?_)
  · refine wp_seq (seq_cut [(4, .int .i64 1)] (· = w2) tab_ok hS ?_ (fun a w3 hS hw => ?_))
    · repeat (first | refine o_pure rfl rfl rfl (fun _ => rfl) ?_ | refine o_skip rfl rfl rfl ?_)
      exact o_nil ⟨⟨rfl, trivial⟩, rfl⟩
    subst hw
    refine wp_ret ?_
    repeat (first | refine then_ret ?_ | refine block_ret ?_)
    refine ret1 hS rfl rfl ⟨?_, hB⟩
    simp only [Bool.or_eq_true, decide_eq_true_eq] at hT
    unfold twoM
    split
    · rfl
    · rename_i h
      rw [if_pos (hT.resolve_left h)]
  simp only [Bool.or_eq_false_iff, decide_eq_false_iff_not] at hF
  refine wp_skip ?_
  refine wp_seq (wp_seq (seq_cut [(17, .bool (decide (L1 ≠ L2)))] (· = w2) tab_ok hS ?_ (fun a w3 hS hw => ?_)))
  · repeat (first | refine o_pure rfl rfl rfl (fun _ => rfl) ?_ | refine o_skip rfl rfl rfl ?_)
    refine o_load rfl rfl rfl (fun _ => rfl) (hx1.c0) ?_
    repeat (first | refine o_pure rfl rfl rfl (fun _ => rfl) ?_ | refine o_skip rfl rfl rfl ?_)
    refine o_load rfl rfl rfl (fun _ => rfl) (hx2.c0) ?_
    refine o_cmp rfl rfl rfl (fun _ => rfl) (rfl) ?_
    repeat (first | refine o_pure rfl rfl rfl (fun _ => rfl) ?_ | refine o_skip rfl rfl rfl ?_)
    exact o_nil ⟨⟨rfl, trivial⟩, rfl⟩
  subst hw
  refine cond hS rfl (fun hT => ?_) (fun hF2 => ?_)
  · refine wp_seq (seq_cut [(4, .int .i64 4)] (· = w3) tab_ok hS ?_ (fun a w4 hS hw => ?_))
    · repeat (first | refine o_pure rfl rfl rfl (fun _ => rfl) ?_ | refine o_skip rfl rfl rfl ?_)
      exact o_nil ⟨⟨rfl, trivial⟩, rfl⟩
    subst hw
    refine wp_ret ?_
    repeat (first | refine then_ret ?_ | refine block_ret ?_)
    exact ret1 hS rfl rfl ⟨by unfold twoM; rw [if_neg hF.1, if_neg hF.2, if_pos (of_decide_eq_true hT)], hB⟩
  refine wp_skip ?_
  refine wp_seq (seq_cut [(4, .int .i64 0)] (· = w3) tab_ok hS ?_ (fun a w4 hS hw => ?_))
  · repeat (first | refine o_pure rfl rfl rfl (fun _ => rfl) ?_ | refine o_skip rfl rfl rfl ?_)
    exact o_nil ⟨⟨rfl, trivial⟩, rfl⟩
  subst hw
  refine wp_ret ?_
  repeat (first | refine then_ret ?_ | refine block_ret ?_)
  exact ret1 hS rfl rfl ⟨by unfold twoM; rw [if_neg hF.1, if_neg hF.2, if_neg (of_decide_eq_false hF2)], hB⟩
theorem goM_neg (L : Int) (next : List (List Int)) (fin : List Bool) {st : Int} (h : st < 0) : ∀ l, goM L next fin st l = false
  | [] => by
    have : decide (0 ≤ st) = false := decide_eq_false (by omega)
    simp [goM, endsM, this]
  | x :: r => by
    have : decide (0 ≤ st) = false := decide_eq_false (by omega)
    simp [goM, endsM, this]
theorem goM_step (L : Int) (next : List (List Int)) (fin : List Bool) (st x : Int) (r : List Int) (hx : (decide (x < 0) || decide (L ≤ x)) = false) : goM L next fin st (x :: r) = goM L next fin (stepM next st x) r := by
  by_cases h : st < 0
  · rw [goM_neg L next fin h, stepM_neg next h, goM_neg L next fin (by omega)]
  · have : decide (0 ≤ st) = true := decide_eq_true (by omega)
    rw [goM, this, hx]
theorem goM_bad (L : Int) (next : List (List Int)) (fin : List Bool) (st x : Int) (r : List Int) (hx : (decide (x < 0) || decide (L ≤ x)) = true) : goM L next fin st (x :: r) = false := by
  by_cases h : st < 0
  · rw [goM_neg L next fin h]
  · have : decide (0 ≤ st) = true := decide_eq_true (by omega)
    rw [goM, this, hx]
set_option maxRecDepth 100000 in
theorem aAccepts_any (L s : Int) (vn ve vw : Value) (next : List (List Int)) (fin : List Bool) (word : List Int) (w : World) (hm : Ma w L s next fin vn ve) (hwd : Sl w vw word PInt) :
    Calls Try.prog 17 #[.agg #[.int .i64 L, .int .i64 s, vn, ve], vw] w fun e w' => e = .returned (.bool (acceptsM L s next fin word)) ∧ RowKit.Below w.heap.size w w' := by
  refine Sym.enter (args := [.agg #[.int .i64 L, .int .i64 s, vn, ve], vw]) Try.func17 rfl rfl rfl (fun a0 hS0 => ?_)
  obtain ⟨B, hBB⟩ : ∃ B, B = w.heap.size := ⟨_, rfl⟩
  refine wp_seq (seq_cut [(1, vw), (2, .pointer (some ⟨B, 0, none⟩))] (· = w.alloc (.cells #[.int .i64 L, .int .i64 s, vn, ve] 25)) tab_ok hS0 ?_ (fun a wc hS hw => ?_))
  · subst hBB
    refine o_new rfl rfl rfl (fun _ => rfl) ?_
    repeat (first | refine o_pure rfl rfl rfl (fun _ => rfl) ?_ | refine o_skip rfl rfl rfl ?_)
    exact o_nil ⟨⟨rfl, rfl, trivial⟩, rfl⟩
  obtain ⟨hB, hx⟩ := box_new hw
  rw [← hBB] at hx
  clear hw
  replace hm := hm.keep hB
  replace hwd := hwd.keep hB (fun _ _ h => h)
  refine wp_seq (wp_seq (seq_cut [(1, vw), (2, .pointer (some ⟨B, 0, none⟩)), (10, .bool (decide (validM L s next fin ≠ 0)))] (fun w' => RowKit.Below wc.heap.size wc w') tab_ok hS ?_ (fun a w2 hS hw => ?_)))
  · refine o_loads (vs := [.int .i64 L, .int .i64 s, vn, ve]) rfl rfl rfl (fun _ => rfl) rfl (⟨hx.c0, hx.c1, hx.c2, hx.c3, trivial⟩) ?_
    refine o_call rfl rfl rfl (fun _ => rfl) (en_aValid) (aValid_any L s vn ve next fin wc hm) ?_
    rintro e w3 ⟨rfl, h3⟩
    refine ⟨_, rfl, ?_⟩
    refine o_cmp rfl rfl rfl (fun _ => rfl) (rfl) ?_
    repeat (first | refine o_pure rfl rfl rfl (fun _ => rfl) ?_ | refine o_skip rfl rfl rfl ?_)
    exact o_nil ⟨⟨rfl, rfl, rfl, trivial⟩, h3⟩
  replace hx := hx.keep hw
  replace hm := hm.keep hw
  replace hwd := hwd.keep hw (fun _ _ h => h)
  replace hB := below_trans hB hw
  clear hw
  refine cond hS rfl (fun hT => ?_) (fun hF => ?_)
  · refine wp_seq (seq_cut [(4, .bool false)] (· = w2) tab_ok hS ?_ (fun a w3 hS hw => ?_))
    · repeat (first | refine o_pure rfl rfl rfl (fun _ => rfl) ?_ | refine o_skip rfl rfl rfl ?_)
      exact o_nil ⟨⟨rfl, trivial⟩, rfl⟩
    subst hw
    refine wp_ret ?_
    repeat (first | refine then_ret ?_ | refine block_ret ?_)
    exact ret1 hS rfl rfl ⟨by unfold acceptsM; rw [hT], hB⟩
  have hacc : acceptsM L s next fin word = goM L next fin s word := by unfold acceptsM; rw [hF]
  have hv := Decidable.not_not.1 (of_decide_eq_false hF)
  obtain ⟨hsh, hL3, -⟩ := shape_of_valid hv
  refine wp_skip ?_
  refine wp_seq (seq_cut [(1, vw), (2, .pointer (some ⟨B, 0, none⟩)), (5, .int .i64 s)] (· = w2) tab_ok hS ?_ (fun a w3 hS hw => ?_))
  · repeat (first | refine o_pure rfl rfl rfl (fun _ => rfl) ?_ | refine o_skip rfl rfl rfl ?_)
    refine o_load rfl rfl rfl (fun _ => rfl) (hx.c1) ?_
    repeat (first | refine o_pure rfl rfl rfl (fun _ => rfl) ?_ | refine o_skip rfl rfl rfl ?_)
    exact o_nil ⟨⟨rfl, rfl, rfl, trivial⟩, rfl⟩
  subst hw
  obtain ⟨aw, bw, ow, cw, hvw, haw, hw1, hw2, hw3⟩ := hwd
  refine wp_seq (wp_seq (seq_cut [(2, .pointer (some ⟨B, 0, none⟩)), (5, .int .i64 s), (13, vw), (14, .int .i64 (word.length : Int)), (15, .int .i64 ((0 : Nat) : Int))] (· = w3) tab_ok hS ?_ (fun a w4 hS hw => ?_)))
  · subst hvw
    repeat (first | refine o_pure rfl rfl rfl (fun _ => rfl) ?_ | refine o_skip rfl rfl rfl ?_)
    exact o_nil ⟨⟨rfl, rfl, rfl, rfl, rfl, trivial⟩, rfl⟩
  subst hw
  refine wp_block (loop0 hS (fun g E wr => ∃ (k : Nat) (st : Int), k ≤ word.length ∧ g = word.length - k ∧ E = [(2, .pointer (some ⟨B, 0, none⟩)), (5, .int .i64 st), (13, vw), (14, .int .i64 (word.length : Int)), (15, .int .i64 (k : Int))] ∧ RowKit.Below w4.heap.size w4 wr ∧ -1 ≤ st ∧ st < next.length ∧ goM L next fin s word = goM L next fin st (word.drop k)) word.length ⟨0, s, by omega, by omega, rfl, RowKit.Below.refl _ _, hsh.s1, hsh.s2, rfl⟩ ?_)
  clear hS
  rintro g E w5 a ⟨k, st, hk, rfl, rfl, hK, hst1, hst2, hgo⟩ hS
  refine wp_seq (seq_cut [(2, .pointer (some ⟨B, 0, none⟩)), (5, .int .i64 st), (13, vw), (14, .int .i64 (word.length : Int)), (15, .int .i64 (k : Int)), (16, .bool (decide (k < word.length)))] (· = w5) tab_ok hS ?_ (fun a w6 hS hw => ?_))
  · repeat (first | refine o_pure rfl rfl rfl (fun _ => rfl) ?_ | refine o_skip rfl rfl rfl ?_)
    refine o_cmp rfl rfl rfl (fun _ => rfl) (lt_nat _ _) ?_
    repeat (first | refine o_pure rfl rfl rfl (fun _ => rfl) ?_ | refine o_skip rfl rfl rfl ?_)
    exact o_nil ⟨⟨rfl, rfl, rfl, rfl, rfl, rfl, trivial⟩, rfl⟩
  subst hw
  refine wp_seq (cond hS rfl (fun hT => wp_skip ?_) (fun hF => ?_))
  rotate_left
  · have hkk : k = word.length := by have := of_decide_eq_false hF; omega
    subst hkk
    rw [List.drop_length] at hgo
    refine wp_exit ?_
    repeat (first | refine then_exit ?_ | refine block_exit ?_ | refine block_other rfl ?_)
    refine wp_seq (seq_cut [(4, .bool (endsM fin st))] (fun w' => RowKit.Below w6.heap.size w6 w') tab_ok hS ?_ (fun a w7 hS hw => ?_))
    · refine o_loads (vs := [.int .i64 L, .int .i64 s, vn, ve]) rfl rfl rfl (fun _ => rfl) rfl (⟨keep hK hx.c0, keep hK hx.c1, keep hK hx.c2, keep hK hx.c3, trivial⟩) ?_
      repeat (first | refine o_pure rfl rfl rfl (fun _ => rfl) ?_ | refine o_skip rfl rfl rfl ?_)
      refine o_call rfl rfl rfl (fun _ => rfl) (en_aends) (aends_any L s vn ve fin st w6 (hm.e.keep hK (fun _ _ h => h)) (by rw [hsh.fin]; exact hst2)) ?_
      rintro e w3 ⟨rfl, h3⟩
      refine ⟨_, rfl, ?_⟩
      repeat (first | refine o_pure rfl rfl rfl (fun _ => rfl) ?_ | refine o_skip rfl rfl rfl ?_)
      exact o_nil ⟨⟨rfl, trivial⟩, h3⟩
    refine wp_ret ?_
    repeat (first | refine then_ret ?_ | refine block_ret ?_)
    refine ret1 hS rfl rfl ⟨?_, below_trans (below_trans hB hK) hw⟩
    rw [hacc, hgo]; rfl
  have hkk : k < word.length := of_decide_eq_true hT
  obtain rfl := haw (by omega)
  obtain ⟨x, hxw, rfl, -⟩ := hw3 k hkk
  rw [List.drop_eq_getElem_cons hkk] at hgo
  refine wp_seq (wp_block (wp_seq (seq_cut [(2, .pointer (some ⟨B, 0, none⟩)), (5, .int .i64 st), (13, vw), (14, .int .i64 (word.length : Int)), (15, .int .i64 (k : Int)), (7, .int .i64 word[k])] (· = w6) tab_ok hS ?_ (fun a w7 hS hw => ?_))))
  · subst hvw
    refine o_ix rfl rfl rfl (fun _ => rfl) (rfl) (hkk) ?_
    refine o_load rfl rfl rfl (fun _ => rfl) (keep hK hxw) ?_
    repeat (first | refine o_pure rfl rfl rfl (fun _ => rfl) ?_ | refine o_skip rfl rfl rfl ?_)
    exact o_nil ⟨⟨rfl, rfl, rfl, rfl, rfl, rfl, trivial⟩, rfl⟩
  subst hw
  refine wp_seq (wp_seq (seq_cut [(2, .pointer (some ⟨B, 0, none⟩)), (5, .int .i64 st), (13, vw), (14, .int .i64 (word.length : Int)), (15, .int .i64 (k : Int)), (7, .int .i64 word[k]), (26, .bool (decide (word[k] < 0) || decide (L ≤ word[k])))] (· = w7) tab_ok hS ?_ (fun a w8 hS hw => ?_)))
  · repeat (first | refine o_pure rfl rfl rfl (fun _ => rfl) ?_ | refine o_skip rfl rfl rfl ?_)
    cases h1 : decide (word[k] < 0)
    case true =>
      refine o_cmp rfl rfl rfl (fun _ => rfl) (h1) ?_
      repeat (first | refine o_pure rfl rfl rfl (fun _ => rfl) ?_ | refine o_skip rfl rfl rfl ?_)
      exact o_nil ⟨⟨rfl, rfl, rfl, rfl, rfl, rfl, rfl, trivial⟩, rfl⟩
    refine o_cmp rfl rfl rfl (fun _ => rfl) (h1) ?_
    repeat (first | refine o_pure rfl rfl rfl (fun _ => rfl) ?_ | refine o_skip rfl rfl rfl ?_)
    refine o_load rfl rfl rfl (fun _ => rfl) (keep hK hx.c0) ?_
    refine o_cmp rfl rfl rfl (fun _ => rfl) (rfl) ?_
    repeat (first | refine o_pure rfl rfl rfl (fun _ => rfl) ?_ | refine o_skip rfl rfl rfl ?_)
    exact o_nil ⟨⟨rfl, rfl, rfl, rfl, rfl, rfl, rfl, trivial⟩, rfl⟩
  subst hw
  refine cond hS rfl (fun hT => ?_) (fun hF => ?_)
  · refine wp_seq (seq_cut [(4, .bool false)] (· = w8) tab_ok hS ?_ (fun a w9 hS hw => ?_))
    · repeat (first | refine o_pure rfl rfl rfl (fun _ => rfl) ?_ | refine o_skip rfl rfl rfl ?_)
      exact o_nil ⟨⟨rfl, trivial⟩, rfl⟩
    subst hw
    refine wp_ret ?_
    repeat (first | refine then_ret ?_ | refine block_ret ?_)
    refine ret1 hS rfl rfl ⟨?_, below_trans hB hK⟩
    rw [hacc, hgo, goM_bad _ _ _ _ _ _ hT]
  refine wp_skip ?_
  have hrange := hF
  simp only [Bool.or_eq_false_iff, decide_eq_false_iff_not] at hrange
  refine seq_cut [(2, .pointer (some ⟨B, 0, none⟩)), (5, .int .i64 (stepM next st word[k])), (13, vw), (14, .int .i64 (word.length : Int)), (15, .int .i64 (k : Int))] (fun w' => RowKit.Below w8.heap.size w8 w') tab_ok hS ?_ (fun a w9 hS hw => ?_)
  · refine o_loads (vs := [.int .i64 L, .int .i64 s, vn, ve]) rfl rfl rfl (fun _ => rfl) rfl (⟨keep hK hx.c0, keep hK hx.c1, keep hK hx.c2, keep hK hx.c3, trivial⟩) ?_
    repeat (first | refine o_pure rfl rfl rfl (fun _ => rfl) ?_ | refine o_skip rfl rfl rfl ?_)
    refine o_call rfl rfl rfl (fun _ => rfl) (en_afollow) (afollow_any L s vn ve next st word[k] w8 (hm.n.keep hK (fun _ _ h => PRow.keep hK h)) hst2 (fun h0 => ⟨by omega, by rw [row_len hsh h0 hst2]; omega⟩)) ?_
    rintro e w3 ⟨rfl, h3⟩
    refine ⟨_, rfl, ?_⟩
    repeat (first | refine o_pure rfl rfl rfl (fun _ => rfl) ?_ | refine o_skip rfl rfl rfl ?_)
    exact o_nil ⟨⟨rfl, rfl, rfl, rfl, rfl, trivial⟩, h3⟩
  refine block_normal ?_
  refine seq_cut [(2, .pointer (some ⟨B, 0, none⟩)), (5, .int .i64 (stepM next st word[k])), (13, vw), (14, .int .i64 (word.length : Int)), (15, .int .i64 ((k + 1 : Nat) : Int))] (· = w9) tab_ok hS ?_ (fun a w10 hS hw2 => ?_)
  · repeat (first | refine o_pure rfl rfl rfl (fun _ => rfl) ?_ | refine o_skip rfl rfl rfl ?_)
    refine o_num rfl rfl rfl (fun _ => rfl) (i64_add k 1 (by omega)) ?_
    repeat (first | refine o_pure rfl rfl rfl (fun _ => rfl) ?_ | refine o_skip rfl rfl rfl ?_)
    exact o_nil ⟨⟨rfl, rfl, rfl, rfl, rfl, trivial⟩, rfl⟩
  subst hw2
  have hr := stepM_range hsh (st := st) (l := word[k]) hst2 (by omega) (by omega)
  exact ⟨word.length - (k + 1), _, by omega, ⟨k + 1, stepM next st word[k], by omega, rfl, rfl, below_trans hK hw, hr.1, hr.2, by rw [hgo, goM_step _ _ _ _ _ _ hF]⟩, hS⟩
theorem aAccepts_c : AcceptsC 17 := fun L s vn ve vw next fin word w hm hw => aAccepts_any L s vn ve vw next fin word w hm hw
end Go.Proofs.Ythkabbgaikociaa
namespace Go.Proofs.Ythkabbgaikociaa
open Go Sym
abbrev DU := DataW Unit
def MapF {α : Type} (kl : α → Lit) (k : TypeId) (w : World) (b n : Nat) (f : α → Option Nat) : Prop :=
  ∃ D : DU, w.ownsMap Try.prog k (plainElem Try.prog 3) b n D ∧ ∀ x, Maps.has D (kl x) = (f x).isSome ∧ ∀ v, f x = some v → D.atKey (kl x) (.lit (.int .i64 0)) = .lit (.int .i64 (v : Int))
section
variable {α : Type} {kl : α → Lit} {kv : α → Value} {k t : TypeId} {w w' : World} {b n : Nat} {f : α → Option Nat}
theorem wf_nat {v : Nat} (h : v ≤ 9223372036854775807) : (Lit.int .i64 (v : Int)).wf = true := by
  simp only [Lit.wf, Bool.and_eq_true, decide_eq_true_eq]
  simp only [IntKind.min, IntKind.max, IntKind.bits, IntKind.signed]
  constructor <;> simp <;> omega
theorem MapF.made (kl : α → Lit) (k : TypeId) (w : World) : MapF kl k (w.alloc (.map #[] 0)) w.heap.size 0 (fun _ => none) :=
  ⟨.map [], World.ownsMap_made w _ _ _, fun x => ⟨rfl, fun v h => by cases h⟩⟩
theorem MapF.lt (h : MapF kl k w b n f) : b < w.heap.size := by
  obtain ⟨D, h, _⟩ := h
  exact h.lt
theorem MapF.kept {row : Option Nat} (h : MapF kl k w b n f) (hg : w.grownBy w' row) (hne : some b ≠ row) : MapF kl k w' b n f := by
  obtain ⟨D, h, h2⟩ := h
  exact ⟨D, h.kept hg hne, h2⟩
theorem MapF.below (h : MapF kl k w b n f) (hb : RowKit.Below w.heap.size w w') : MapF kl k w' b n f := h.kept (grown_below hb) (by simp)
theorem MapF.mono {m : Nat} (h : MapF kl k w b n f) (hm : n ≤ m) : MapF kl k w b m f := by
  obtain ⟨D, h, h2⟩ := h
  exact ⟨D, h.mono hm, h2⟩
theorem zero_int (w : World) : (zeroValue 3).run Try.prog w = .ok (.int .i64 0) w := by
  have hi : (Try.prog.info? 3).map (fun i => i.zero) = some (some (.int .i64 0)) := by kernel_rfl
  obtain ⟨i, h1, h2⟩ := Option.map_eq_some_iff.1 hi
  simp [zeroValue, typeInfo, h1, h2]
theorem und_int' : Try.prog.underlying 3 = some (.int .i64) := by kernel_rfl
theorem MapF.look (h : MapF kl k w b n f) (K : Maps.Keyed Try.prog k) (ht : Try.prog.underlying t = some (.map k 3)) (x : α) (hk : keyOf Try.prog k (kv x) = some (kl x)) :
    (Instr.lookup t (.map (some b)) (kv x) true).run Try.prog w = .ok (.tuple #[.int .i64 (((f x).getD 0 : Nat) : Int), .bool (f x).isSome]) w := by
  obtain ⟨D, h, h2⟩ := h
  obtain ⟨v, ps, hrun, hv⟩ := h.look_ok K ht (zero_int w) (plainElem_int und_int' (wf_nat (v := 0) (by omega))) hk
  obtain ⟨a, rfl, hz⟩ := plainElem_int_inv und_int' hv
  obtain ⟨hz1, hz2⟩ := hz
  simp only [Prod.mk.injEq] at hz1
  obtain ⟨h3, h4⟩ := h2 x
  rw [h3] at hrun
  have key : a = (((f x).getD 0 : Nat) : Int) := by
    cases hf : f x with
    | none =>
      rw [hf] at h3
      have e := Maps.atKey_of_not_has h3 (.lit (.int .i64 0))
      have e2 := hz1.1
      rw [e] at e2
      simp only [DataW.lit.injEq, Lit.int.injEq, true_and] at e2
      simp [← e2]
    | some u =>
      have e := h4 u hf
      have e2 := hz1.1
      rw [e] at e2
      simp only [DataW.lit.injEq, Lit.int.injEq, true_and] at e2
      simp [e2]
  rw [hrun, key]
theorem MapF.put [DecidableEq α] (h : MapF kl k w b n f) (K : Maps.Keyed Try.prog k) (ht : Try.prog.underlying t = some (.map k 3)) (hn : n < maxLen) (x : α) (hk : keyOf Try.prog k (kv x) = some (kl x)) (hinj : ∀ y, kl y = kl x → y = x) {v : Nat} (hv : v ≤ 9223372036854775807) :
    ∃ w', (Instr.mapUpdate t (.map (some b)) (kv x) (.int .i64 (v : Int))).run Try.prog w = .ok () w' ∧ MapF kl k w' b (n + 1) (fun y => if y = x then some v else f y) ∧ w.grownBy w' (some b) := by
  obtain ⟨D, h, h2⟩ := h
  obtain ⟨w', hrun, ho, hg⟩ := h.update K ht hn hk (plainElem_int und_int' (wf_nat hv))
  refine ⟨w', hrun, ⟨_, ho, fun y => ?_⟩, hg⟩
  by_cases hy : y = x
  · subst hy
    dsimp only
    rw [if_pos rfl, Maps.has_put_same h.isMap (K.key hk)]
    refine ⟨rfl, fun u hu => ?_⟩
    try rw [if_pos rfl] at hu
    simp only [Option.some.injEq] at hu
    subst hu
    exact Maps.atKey_put_same h.isMap (K.key hk) _ _
  · have hne : kl y ≠ kl x := fun e => hy (hinj y e)
    simp only [if_neg hy]
    rw [Maps.has_put_other hne]
    refine ⟨(h2 y).1, fun u hu => ?_⟩
    rw [Maps.atKey_put_other hne]
    exact (h2 y).2 u hu
variable {base : Nat} {w0 : World} {l : List Ow}
theorem map_row {e s m : Nat} {v : Value} {xs : List Value} (h : MapF kl k w b n f) (hr : w.ownsRow base e s v m xs) : some b ≠ v.ownBlock := by
  obtain ⟨D, ⟨es, clock, hb, _⟩, _⟩ := h
  rcases hr.2 with ⟨rfl, _⟩ | ⟨g, cap, cur, rfl, _, hg, _⟩
  · simp [Value.ownBlock]
  · intro e
    simp only [Value.ownBlock, Option.some.injEq] at e
    subst e
    rw [hb] at hg
    cases hg
theorem MapF.row {i : Nat} {o : Ow} (h : MapF kl k w b n f) (hr : Rows base w l) (hi : l[i]? = some o) (hg : w.grownBy w' o.v.ownBlock) : MapF kl k w' b n f :=
  h.kept hg (map_row h (hr.1 i o hi))
theorem MapF.store {i g m m' c e s j : Nat} {xs : List Value} {u : Value} (h : MapF kl k w b n f) (hr : Rows base w l) (hi : l[i]? = some ⟨.slice (some ⟨g, 0, none⟩) m c, e, s, m', xs⟩) : MapF kl k (w.setCell ⟨g, j, none⟩ u) b n f :=
  h.row hr hi (grown_set w g j u)
theorem Hold.map (h : Hold base w0 w l) (hm : MapF kl k w b n f) (hb : base ≤ b) (hg : w.grownBy w' (some b)) : Hold base w0 w' l :=
  ⟨⟨fun i o hi => (h.r.1 i o hi).kept hg (by
    cases ho : o.v.ownBlock with
    | none => exact .inl rfl
    | some x =>
      have := map_row hm (h.r.1 i o hi)
      rw [ho] at this
      exact .inr (Ne.symm this)), h.r.2⟩,
   ⟨hg.os.trans h.b.os, hg.tape.trans h.b.tape, hg.output.trans h.b.output, Nat.le_trans h.b.size hg.size, fun q hq => (hg.block q (Nat.lt_of_lt_of_le hq h.s) (fun e => by simp only [Option.some.injEq] at e; omega)).trans (h.b.block q hq)⟩,
   Nat.le_trans h.s hg.size⟩
end
abbrev natL (x : Nat) : Lit := .int .i64 (x : Int)
abbrev natV (x : Nat) : Value := .int .i64 (x : Int)
theorem natK : Maps.Keyed Try.prog 3 := Maps.int_keyed und_int'
theorem natL_inj (x : Nat) : ∀ y, natL y = natL x → y = x := fun y h => by
  simp only [natL, Lit.int.injEq, true_and] at h
  omega
theorem natKey {x : Nat} (h : x ≤ 9223372036854775807) : keyOf Try.prog 3 (natV x) = some (natL x) := Maps.keyOf_int_mk und_int' (wf_nat h)
theorem und_mapI : Try.prog.underlying 126 = some (.map 3 3) := by kernel_rfl
abbrev MapN (w : World) (b n : Nat) (f : Nat → Option Nat) : Prop := MapF natL 3 w b n f
theorem MapN.look {w : World} {b n : Nat} {f : Nat → Option Nat} (h : MapN w b n f) {x : Nat} (hx : x ≤ 9223372036854775807) :
    (Instr.lookup 126 (.map (some b)) (.int .i64 (x : Int)) true).run Try.prog w = .ok (.tuple #[.int .i64 (((f x).getD 0 : Nat) : Int), .bool (f x).isSome]) w := MapF.look (kv := natV) h natK und_mapI x (natKey hx)
theorem MapN.put {w : World} {b n : Nat} {f : Nat → Option Nat} (h : MapN w b n f) (hn : n < maxLen) {x v : Nat} (hx : x ≤ 9223372036854775807) (hv : v ≤ 9223372036854775807) :
    ∃ w', (Instr.mapUpdate 126 (.map (some b)) (.int .i64 (x : Int)) (.int .i64 (v : Int))).run Try.prog w = .ok () w' ∧ MapN w' b (n + 1) (fun y => if y = x then some v else f y) ∧ w.grownBy w' (some b) :=
  MapF.put (kv := natV) h natK und_mapI hn x (natKey hx) (natL_inj x) hv
end Go.Proofs.Ythkabbgaikociaa
