/- AutoRelates holds of the program as it landed: the relation of two machines is just that of the pairs that are found from both starts, and any pairs are taken for one just if they show it; for any machines of at most 30 states and 8 letters, and at most 1000 pairs. -/
import Derived.Test.YthcoppfiahnpoaaVf2
set_option maxRecDepth 100000
namespace Go.Proofs.Ythcoppfiahnpoaa
open Go Sym
theorem en_live : enters Try.prog 96 = true := by kernel_rfl
theorem en_alike : enters Try.prog 97 = true := by kernel_rfl
def clsStart (fin lv : List Bool) (i : Nat) : Int := if lv.getD i false = true then (if fin.getD i false = true then 1 else 0) else -1
structure FillI (n i : Nat) (f : Nat → Int) (l : List Int) : Prop where
 len : l.length = n
 val : ∀ j, j < i → l.getD j 0 = f j
theorem FillI.set {n i : Nat} {f : Nat → Int} {l : List Int} (h : FillI n i f l) {x : Int} (hi : i < n) (hx : x = f i) : FillI n (i + 1) f (l.set i x) :=
 ⟨by simp [h.len], fun j hj => by
  rw [getD_set]
  split
  ·rename_i e; rw [hx, e.1]
  ·rename_i e
   refine h.val j ?_
   have : ¬ i = j := fun e2 => e ⟨e2, by rw [h.len]; exact hi⟩
   omega⟩
theorem classes_any (L s : Int) (vn ve : Value) (next : List (List Int)) (fin : List Bool) (w : World) (hm : Ma w L s next fin vn ve) (hs : Shape L s next fin) (hn : next.length ≤ 100000000) :
  Calls Try.prog 69 #[.agg #[Vi L, Vi s, vn, ve]] w fun e w' => ∃ (g c : Nat) (cls : List Int) (m : Nat), e = .returned (Vs g next.length c) ∧ Rows w.heap.size w' [oI (Vs g next.length c) cls] ∧ RowKit.Below w.heap.size w w' ∧ Cls L.toNat next fin cls m := by
 refine Sym.enter (args := [.agg #[Vi L, Vi s, vn, ve]]) Try.func69 rfl rfl rfl (fun a0 hS0 => ?_)
 have hs' : Shape (L.toNat : Int) s next fin := by rw [Int.toNat_of_nonneg hs.L0]; exact hs
 obtain ⟨M, hM⟩ : ∃ M, M = w.heap.size := ⟨_, rfl⟩
 refine wp_seq (seq_cut [(1, Vp M)] (· = w.alloc (.cells #[Vi L, Vi s, vn, ve] 25)) tab_ok hS0 ?_ (fun a wc hS hw => ?_))
 ·subst hM
  refine zB rfl ?_
  repeat first|refine zP rfl ?_|refine zK rfl ?_
  exact o_nil ⟨⟨rfl, trivial⟩, rfl⟩
 have hB : RowKit.Below w.heap.size w wc := by rw [hw]; exact below_alloc _ _
 have hx : Box wc M L s vn ve := by rw [hw, hM]; exact Box.new _ _ _ _ _ _
 clear hw
 replace hm := hm.keep hB
 have hfn := hs.fin
 have hfn' := hs.fin
 refine wp_seq (seq_cutx (α := Nat × Nat × List Bool) (fun x => [(1, Vp M), (3, Vs x.1 next.length x.2.1)]) (fun x w' => Rows wc.heap.size w' [oB (Vs x.1 next.length x.2.1) x.2.2] ∧ RowKit.Below wc.heap.size wc w' ∧ x.2.2.length = next.length ∧ ∀ i : Nat, i < next.length → (x.2.2.getD i false = true ↔ Live L.toNat next fin i)) tab_ok hS ?_ (fun x a w1 hS h1 => ?_))
 ·refine zA ([Vi L, Vi s, vn, ve]) rfl rfl (hx.cells) ?_
  refine zF rfl (en_live) (live_any L s vn ve next fin _ hm hs hn) ?_
  rintro e w1 ⟨g, c, lv, rfl, h1, h2, h3, h4⟩
  refine ⟨_, rfl, ?_⟩
  repeat first|refine zP rfl ?_|refine zK rfl ?_
  exact o_nil ⟨(g, c, lv), ⟨rfl, rfl, trivial⟩, h1, h2, h3, h4⟩
 obtain ⟨G, cG, lv⟩ := x
 obtain ⟨hR, hK, hlvl, hlv⟩ := h1
 dsimp only at hS hR hlvl hlv
 obtain ⟨O, hO⟩ : ∃ O, O = w1.heap.size := ⟨_, rfl⟩
 refine wp_seq (seq_cut [(1, Vp M), (3, Vs G next.length cG), (4, Vs O next.length next.length)] (· = w1.alloc (.cells (madeCells #[Vi 0] next.length) 3)) tab_ok hS ?_ (fun a w2 hS hw => ?_))
 ·obtain ⟨an, cn, hvn⟩ := hm.n.len
  subst hvn
  subst hO
  repeat first|refine zP rfl ?_|refine zK rfl ?_
  refine zL rfl ((hx.keep hK).c2) ?_
  repeat first|refine zP rfl ?_|refine zK rfl ?_
  refine zM (next.length) rfl rfl rfl rfl rfl ((by show 8 * _ ≤ _; omega)) ((by omega)) ?_
  repeat first|refine zP rfl ?_|refine zK rfl ?_
  exact o_nil ⟨⟨rfl, rfl, rfl, trivial⟩, rfl⟩
 have hR2 := hR.makeI hK.size (n := next.length) (by omega)
 have hK2 := below_trans hK (below_alloc w1 (.cells (madeCells #[Vi 0] next.length) 3))
 rw [← hw, ← hO] at hR2
 rw [← hw] at hK2
 clear hw hR hK hO
 refine wp_seq (wp_seq (seq_cut [(1, Vp M), (3, Vs G next.length cG), (4, Vs O next.length next.length), (5, Vi 0)] (· = w2) tab_ok hS ?_ (fun a w3 hS hw => ?_)))
 ·repeat first|refine zP rfl ?_|refine zK rfl ?_
  exact o_nil ⟨⟨rfl, rfl, rfl, rfl, trivial⟩, rfl⟩
 subst hw
 refine wp_block (loop0 hS (fun g E wr => ∃ (i : Nat) (out : List Int), i ≤ next.length ∧ g = next.length - i ∧ E = [(1, Vp M), (3, Vs G next.length cG), (4, Vs O next.length next.length), (5, Vi i)] ∧ RowKit.Below wc.heap.size wc wr ∧ Rows wc.heap.size wr [oI (Vs O next.length next.length) out, oB (Vs G next.length cG) lv] ∧ FillI next.length i (clsStart fin lv) out)
  next.length ⟨0, _, Nat.zero_le _, rfl, rfl, hK2, hR2, ⟨by simp, fun j hj => by omega⟩⟩ ?_)
 clear hK2 hR2 hS
 rintro g0 E wr a1 ⟨i, out, hi, rfl, rfl, hK, hR, hI⟩ hS
 have hol := hI.len
 refine wp_seq (wp_seq (seq_cut [(1, Vp M), (3, Vs G next.length cG), (4, Vs O next.length next.length), (5, Vi i), (20, .bool (decide ((i : Int) < next.length)))] (· = wr) tab_ok hS ?_ (fun a w3 hS hw => ?_)))
 ·repeat first|refine zP rfl ?_|refine zK rfl ?_
  refine zC rfl (rfl) ?_
  exact o_nil ⟨⟨rfl, rfl, rfl, rfl, rfl, trivial⟩, rfl⟩
 subst hw
 refine cond hS rfl (fun hT => ?_) (fun hF => ?_)
 case refine_1 =>
  have hlt : i < next.length := by have := of_decide_eq_true hT; omega
  have hio : i < out.length := by omega
  refine wp_skip ?_
  refine wp_seq (wp_block ?_)
  refine wp_seq (seq_cut [(1, Vp M), (3, Vs G next.length cG), (4, Vs O next.length next.length), (5, Vi i)] (· = w3.setCell ⟨O, 0 + i, none⟩ (Vi (-1))) tab_ok hS ?_ (fun a w4 hS hw => ?_))
  ·repeat first|refine zP rfl ?_|refine zK rfl ?_
   refine zI rfl (rfl) (hlt) ?_
   refine zS rfl rfl (hR.cellI (i := 0) rfl hio) (hR.freeI (i := 0) rfl i) ?_
   exact o_nil ⟨⟨rfl, rfl, rfl, rfl, trivial⟩, rfl⟩
  obtain ⟨hR4, hg4⟩ := hR.storeI (i := 0) rfl i (-1)
  have hK4 := below_of_grown hK hg4 (fun q hq => by cases hq; exact (hR.lt (i := 0) rfl rfl).1)
  rw [← hw] at hR4 hK4
  clear hw hg4 hR hK
  dsimp only [List.set_cons_zero] at hR4
  refine wp_seq (seq_cut [(1, Vp M), (3, Vs G next.length cG), (4, Vs O next.length next.length), (5, Vi i), (29, .bool lv[i])] (· = w4) tab_ok hS ?_ (fun a w5 hS hw => ?_))
  ·repeat first|refine zP rfl ?_|refine zK rfl ?_
   refine zI rfl (rfl) (hlt) ?_
   refine zL rfl (hR4.cellB (i := 1) rfl (show i < lv.length by omega)) ?_
   exact o_nil ⟨⟨rfl, rfl, rfl, rfl, rfl, trivial⟩, rfl⟩
  subst hw
  have hlvi : lv.getD i false = lv[i] := by simp [List.getD_eq_getElem?_getD, hlvl, hlt]
  have hfi : fin.getD i false = fin[i] := by simp [List.getD_eq_getElem?_getD, hfn, hlt]
  refine cut (F := fun a' w' => ∃ out' : List Int, St Try.f69.ntmps a' [(1, Vp M), (3, Vs G next.length cG), (4, Vs O next.length next.length), (5, Vi i)] ∧ RowKit.Below wc.heap.size wc w' ∧ Rows wc.heap.size w' [oI (Vs O next.length next.length) out', oB (Vs G next.length cG) lv] ∧ FillI next.length (i + 1) (clsStart fin lv) out') ?_ ?_
  ·refine cond hS rfl (fun hT => ?_) (fun hF => ?_)
   ·refine wp_seq (seq_cut [(1, Vp M), (3, Vs G next.length cG), (4, Vs O next.length next.length), (5, Vi i)] (· = w5.setCell ⟨O, 0 + i, none⟩ (Vi 0)) tab_ok hS ?_ (fun a w6 hS hw => ?_))
    ·repeat first|refine zP rfl ?_|refine zK rfl ?_
     refine zI rfl (rfl) (hlt) ?_
     refine zS rfl rfl (hR4.cellI (i := 0) rfl (by simpa using hio)) (hR4.freeI (i := 0) rfl i) ?_
     exact o_nil ⟨⟨rfl, rfl, rfl, rfl, trivial⟩, rfl⟩
    obtain ⟨hR6, hg6⟩ := hR4.storeI (i := 0) rfl i 0
    have hK6 := below_of_grown hK4 hg6 (fun q hq => by cases hq; exact (hR4.lt (i := 0) rfl rfl).1)
    rw [← hw] at hR6 hK6
    clear hw hg6 hR4 hK4
    dsimp only [List.set_cons_zero] at hR6
    rw [List.set_set] at hR6
    refine wp_seq (seq_cut [(1, Vp M), (3, Vs G next.length cG), (4, Vs O next.length next.length), (5, Vi i), (37, .bool fin[i])] (· = w6) tab_ok hS ?_ (fun a w7 hS hw => ?_))
    ·obtain ⟨be, oe, ce, hve, hc⟩ := (hm.keep hK6).end (i := i) (by omega)
     subst hve
     repeat first|refine zP rfl ?_|refine zK rfl ?_
     refine zL rfl ((hx.keep hK6).c3) ?_
     repeat first|refine zP rfl ?_|refine zK rfl ?_
     refine zI rfl (rfl) ((by omega : i < fin.length)) ?_
     refine zL rfl (hc) ?_
     exact o_nil ⟨⟨rfl, rfl, rfl, rfl, rfl, trivial⟩, rfl⟩
    subst hw
    refine cond hS rfl (fun hT2 => ?_) (fun hF2 => ?_)
    ·refine seq_cut [(1, Vp M), (3, Vs G next.length cG), (4, Vs O next.length next.length), (5, Vi i)] (· = w7.setCell ⟨O, 0 + i, none⟩ (Vi 1)) tab_ok hS ?_ (fun a w8 hS hw => ?_)
     ·repeat first|refine zP rfl ?_|refine zK rfl ?_
      refine zI rfl (rfl) (hlt) ?_
      refine zS rfl rfl (hR6.cellI (i := 0) rfl (by simpa using hio)) (hR6.freeI (i := 0) rfl i) ?_
      exact o_nil ⟨⟨rfl, rfl, rfl, rfl, trivial⟩, rfl⟩
     obtain ⟨hR8, hg8⟩ := hR6.storeI (i := 0) rfl i 1
     have hK8 := below_of_grown hK6 hg8 (fun q hq => by cases hq; exact (hR6.lt (i := 0) rfl rfl).1)
     rw [← hw] at hR8 hK8
     dsimp only [List.set_cons_zero] at hR8
     rw [List.set_set] at hR8
     exact ⟨_, hS, hK8, hR8, hI.set hlt (by rw [clsStart, hlvi, hT, hfi, hT2]; rfl)⟩
    ·exact wp_skip ⟨_, hS.sub ⟨rfl, rfl, rfl, rfl, trivial⟩, hK6, hR6, hI.set hlt (by rw [clsStart, hlvi, hT, hfi, hF2]; rfl)⟩
   ·exact wp_skip ⟨_, hS.sub ⟨rfl, rfl, rfl, rfl, trivial⟩, hK4, hR4, hI.set hlt (by rw [clsStart, hlvi, hF]; rfl)⟩
  rintro a w6 ⟨out', hS, hK', hR', hI'⟩
  refine block_normal ?_
  refine then_normal ?_
  refine seq_cut [(1, Vp M), (3, Vs G next.length cG), (4, Vs O next.length next.length), (5, Vi (i + 1 : Nat))] (· = w6) tab_ok hS ?_ (fun a w9 hS hw => ?_)
  ·repeat first|refine zP rfl ?_|refine zK rfl ?_
   refine zN rfl (wrap_succ (by omega)) ?_
   repeat first|refine zP rfl ?_|refine zK rfl ?_
   exact o_nil ⟨⟨rfl, rfl, rfl, rfl, trivial⟩, rfl⟩
  subst hw
  exact ⟨next.length - (i + 1), _, by omega, ⟨i + 1, out', hlt, rfl, rfl, hK', hR', hI'⟩, hS⟩
 refine wp_exit ?_
 repeat (first | refine then_exit ?_ | refine block_exit ?_ | refine block_other rfl ?_)
 obtain rfl : i = next.length := by have := of_decide_eq_false hF; omega
 have href : Ref L.toNat next fin out 0 := ref_start hlv hol (fun i hi => hI.val i hi)
 have hrg : ∀ x ∈ out, -1 ≤ x ∧ x ≤ next.length := fun x hx => by
  obtain ⟨j, hj, rfl⟩ := List.mem_iff_getElem.1 hx
  have := hI.val j (by omega)
  rw [getD_lt hj, clsStart] at this
  rw [this]
  split
  ·split <;> omega
  ·omega
 have hR3 := hR.erase 1
 dsimp only [List.eraseIdx_cons_succ, List.eraseIdx_cons_zero] at hR3
 refine wp_seq (seq_cut [(1, Vp M), (4, Vs O next.length next.length), (6, Vi 0)] (· = w3) tab_ok hS ?_ (fun a w4 hS hw => ?_))
 ·repeat first|refine zP rfl ?_|refine zK rfl ?_
  exact o_nil ⟨⟨rfl, rfl, rfl, trivial⟩, rfl⟩
 subst hw
 refine wp_block (loop0 hS (fun g E wr => ∃ (O cO count : Nat) (out : List Int), count ≤ next.length ∧ g = next.length + 1 - count ∧ E = [(1, Vp M), (4, Vs O next.length cO), (6, Vi count)] ∧ RowKit.Below wc.heap.size wc wr ∧ Rows wc.heap.size wr [oI (Vs O next.length cO) out] ∧ Ref L.toNat next fin out count ∧ (∀ x ∈ out, -1 ≤ x ∧ x ≤ next.length) ∧ (∀ i, i < next.length → out.getD i 0 < count ∨ count = 0))
  (next.length + 1) ⟨O, next.length, 0, out, Nat.zero_le _, rfl, rfl, hK, hR3, href, hrg, fun _ _ => .inr rfl⟩ ?_)
 clear hR hR3 hK hS hI hol hF href hrg hlv hlvl
 rintro g0 E wr a1 ⟨O, cO, count, out, hcn, rfl, rfl, hK, hR, href, hrg, htop⟩ hS
 have hol := href.len
 refine wp_block ?_
 obtain ⟨X, hX⟩ : ∃ X, X = wr.heap.size := ⟨_, rfl⟩
 refine wp_seq (seq_cut [(1, Vp M), (4, Vs O next.length cO), (6, Vi count), (7, Vs X next.length next.length)] (· = wr.alloc (.cells (madeCells #[Vi 0] next.length) 3)) tab_ok hS ?_ (fun a w4 hS hw => ?_))
 ·subst hX
  repeat first|refine zP rfl ?_|refine zK rfl ?_
  refine zM (next.length) rfl rfl rfl rfl rfl ((by show 8 * _ ≤ _; omega)) ((by omega)) ?_
  repeat first|refine zP rfl ?_|refine zK rfl ?_
  exact o_nil ⟨⟨rfl, rfl, rfl, rfl, trivial⟩, rfl⟩
 have hR4 := hR.makeI hK.size (n := next.length) (by omega)
 have hK4 := below_trans hK (below_alloc wr (.cells (madeCells #[Vi 0] next.length) 3))
 rw [← hw, ← hX] at hR4
 rw [← hw] at hK4
 clear hw hR hK hX
 obtain ⟨nx0, hnx0⟩ : ∃ l, List.replicate next.length (0 : Int) = l := ⟨_, rfl⟩
 have hnl : nx0.length = next.length := by rw [← hnx0]; simp
 have hnr : ∀ x ∈ nx0, -1 ≤ x ∧ x ≤ next.length := fun x hx => by
  rw [← hnx0] at hx
  rw [(List.mem_replicate.1 hx).2]; omega
 rw [hnx0] at hR4
 clear hnx0
 refine wp_seq (seq_cutx (α := Value) (fun v => [(1, Vp M), (4, Vs O next.length cO), (6, Vi count), (7, Vs X next.length next.length), (8, v)]) (fun v w' => RowKit.Below wc.heap.size wc w' ∧ Rows wc.heap.size w' [oI v [], oI (Vs X next.length next.length) nx0, oI (Vs O next.length cO) out]) tab_ok hS ?_ (fun vf a w5 hS h5 => ?_))
 ·repeat first|refine zP rfl ?_|refine zK rfl ?_
  refine o_step rfl rfl rfl ?_
  refine Exists.intro [] (Exists.intro #[] (And.intro (And.intro rfl rfl) (And.intro (by decide) (And.intro (by simp [Instr.fill, madeCells]) ?_))))
  repeat first|refine zP rfl ?_|refine zK rfl ?_
  exact o_nil ⟨_, ⟨rfl, rfl, rfl, rfl, rfl, trivial⟩, below_trans hK4 (below_alloc _ _), hR4.litI hK4.size⟩
 clear hK4 hR4
 obtain ⟨hK, hR⟩ := h5
 refine wp_seq (wp_seq (seq_cut [(1, Vp M), (4, Vs O next.length cO), (6, Vi count), (7, Vs X next.length next.length), (8, vf), (9, Vi 0)] (· = w5) tab_ok hS ?_ (fun a w6 hS hw => ?_)))
 ·repeat first|refine zP rfl ?_|refine zK rfl ?_
  exact o_nil ⟨⟨rfl, rfl, rfl, rfl, rfl, rfl, trivial⟩, rfl⟩
 subst hw
 refine wp_block (loop0 hS (fun g E wr => ∃ (i : Nat) (vf : Value) (nx fs : List Int), i ≤ next.length ∧ g = next.length - i ∧ E = [(1, Vp M), (4, Vs O next.length cO), (6, Vi count), (7, Vs X next.length next.length), (8, vf), (9, Vi i)] ∧ RowKit.Below wc.heap.size wc wr ∧ Rows wc.heap.size wr [oI vf fs, oI (Vs X next.length next.length) nx, oI (Vs O next.length cO) out] ∧ PassI L.toNat next out i nx fs ∧ (∀ x ∈ nx, -1 ≤ x ∧ x ≤ next.length))
  next.length ⟨0, vf, nx0, [], Nat.zero_le _, rfl, rfl, hK, hR, PassI.start hnl, hnr⟩ ?_)
 clear hK hR hS hnl hnr
 rintro g1 E wr a1 ⟨i, vf, nx, fs, hi, rfl, rfl, hK, hR, hP, hnr⟩ hS
 have hnl := hP.len
 have hcap := hP.cap hi
 obtain ⟨b48, hb48⟩ : ∃ b, decide ((i : Int) < next.length) = b := ⟨_, rfl⟩
 refine wp_seq (wp_seq (seq_cut [(1, Vp M), (4, Vs O next.length cO), (6, Vi count), (7, Vs X next.length next.length), (8, vf), (9, Vi i), (48, .bool b48)] (· = wr) tab_ok hS ?_ (fun a w6 hS hw => ?_)))
 ·repeat first|refine zP rfl ?_|refine zK rfl ?_
  refine zC rfl (hb48) ?_
  exact o_nil ⟨⟨rfl, rfl, rfl, rfl, rfl, rfl, rfl, trivial⟩, rfl⟩
 subst hw
 have hfsI : ∀ x ∈ fs, I64 x := fun x hx => by
  obtain ⟨k, hk, rfl⟩ := List.mem_iff_getElem.1 hx
  obtain ⟨f, h1, h2, _⟩ := hP.fst k hk
  rw [getD_lt hk] at h1
  rw [h1]
  exact ⟨by omega, by omega⟩
 obtain ⟨⟨av, bv, ov, cv, rfl, v1, v2, v3, -⟩, -⟩ := hR.slI (i := 0) rfl hfsI
 refine cond hS rfl (fun hT => ?_) (fun hF => ?_)
 case refine_2 =>
  refine wp_exit ?_
  repeat (first | refine then_exit ?_ | refine block_exit ?_ | refine block_other rfl ?_)
  rw [hF] at hb48
  obtain rfl : i = next.length := by have := of_decide_eq_false hb48; omega
  have hpass := hP.done
  have href2 := hpass.ref hs' href
  obtain ⟨hle, -⟩ := hpass.count href
  have hR2 := (hR.erase 2).erase 0
  dsimp only [List.eraseIdx_cons_succ, List.eraseIdx_cons_zero] at hR2
  refine wp_seq (seq_cut [(1, Vp M), (4, Vs X next.length next.length), (6, Vi count), (8, .slice av fs.length cv)] (· = w6) tab_ok hS ?_ (fun a w7 hS hw => ?_))
  ·repeat first|refine zP rfl ?_|refine zK rfl ?_
   exact o_nil ⟨⟨rfl, rfl, rfl, rfl, trivial⟩, rfl⟩
  subst hw
  refine wp_seq (wp_seq (seq_cut [(1, Vp M), (4, Vs X next.length next.length), (6, Vi count), (8, .slice av fs.length cv), (104, .bool (decide ((fs.length : Int) = count)))] (· = w7) tab_ok hS ?_ (fun a w8 hS hw => ?_)))
  ·repeat first|refine zP rfl ?_|refine zK rfl ?_
   refine zC rfl (rfl) ?_
   exact o_nil ⟨⟨rfl, rfl, rfl, rfl, rfl, trivial⟩, rfl⟩
  subst hw
  refine cond hS rfl (fun hT => ?_) (fun hF => ?_)
  ·refine wp_seq (seq_cut [(2, Vs X next.length next.length)] (· = w8) tab_ok hS ?_ (fun a w9 hS hw => ?_))
   ·repeat first|refine zP rfl ?_|refine zK rfl ?_
    exact o_nil ⟨⟨rfl, trivial⟩, rfl⟩
   subst hw
   have he : fs.length = count := by have := of_decide_eq_true hT; omega
   rw [he] at hpass
   refine wp_ret ?_
   repeat (first | refine then_ret ?_ | refine block_ret ?_)
   exact ret1 hS rfl rfl ⟨X, next.length, nx, count, rfl, hR2.mono hB.size, below_trans hB hK, hpass.done hs' href htop⟩
  ·have hne : fs.length ≠ count := by have := of_decide_eq_false hF; omega
   refine wp_skip ?_
   refine seq_cut [(1, Vp M), (4, Vs X next.length next.length), (6, Vi (fs.length : Nat))] (· = w8) tab_ok hS ?_ (fun a w9 hS hw => ?_)
   ·repeat first|refine zP rfl ?_|refine zK rfl ?_
    exact o_nil ⟨⟨rfl, rfl, rfl, trivial⟩, rfl⟩
   subst hw
   refine block_normal ?_
   refine ⟨next.length + 1 - fs.length, _, by omega, ⟨X, next.length, fs.length, nx, by omega, rfl, rfl, hK, hR2, href2, hnr, fun i hi => ?_⟩, hS⟩
   by_cases h0 : 0 ≤ out.getD i 0
   ·exact .inl (hpass.pos i hi h0).2
   ·rw [hpass.neg i hi (by omega)]
    exact .inl (by omega)
 rw [hT] at hb48
 have hlt : i < next.length := by have := of_decide_eq_true hb48; omega
 have hinx : i < nx.length := by omega
 have hio : i < out.length := by omega
 refine wp_skip ?_
 refine wp_seq (wp_block ?_)
 refine wp_seq (seq_cut [(1, Vp M), (4, Vs O next.length cO), (6, Vi count), (7, Vs X next.length next.length), (8, .slice av fs.length cv), (9, Vi i)] (· = w6.setCell ⟨X, 0 + i, none⟩ (Vi (-1))) tab_ok hS ?_ (fun a w7 hS hw => ?_))
 ·repeat first|refine zP rfl ?_|refine zK rfl ?_
  refine zI rfl (rfl) (hlt) ?_
  refine zS rfl rfl (hR.cellI (i := 1) rfl hinx) (hR.freeI (i := 1) rfl i) ?_
  exact o_nil ⟨⟨rfl, rfl, rfl, rfl, rfl, rfl, trivial⟩, rfl⟩
 obtain ⟨hR7, hg7⟩ := hR.storeI (i := 1) rfl i (-1)
 have hK7 := below_of_grown hK hg7 (fun q hq => by cases hq; exact (hR.lt (i := 1) rfl rfl).1)
 rw [← hw] at hR7 hK7
 clear hw hg7 hR hK
 dsimp only [List.set_cons_zero, List.set_cons_succ] at hR7
 obtain ⟨o, ho⟩ : ∃ o, out[i] = o := ⟨_, rfl⟩
 have hoi : out.getD i 0 = o := by rw [getD_lt hio, ho]
 refine wp_seq (cut (F := fun a' w' => ∃ nx' : List Int, St Try.f69.ntmps a' [(1, Vp M), (4, Vs O next.length cO), (6, Vi count), (7, Vs X next.length next.length), (8, .slice av fs.length cv), (9, Vi i)] ∧ RowKit.Below wc.heap.size wc w' ∧ Rows wc.heap.size w' [oI (.slice av fs.length cv) fs, oI (Vs X next.length next.length) nx', oI (Vs O next.length cO) out] ∧
   ((o < 0 ∧ nx' = nx.set i (-1)) ∨ (0 ≤ o ∧ ∃ k : Nat, k < fs.length ∧ alikeM next out i (fs.getD k 0).toNat L.toNat = true ∧ nx' = nx.set i k) ∨ (0 ≤ o ∧ nx' = nx.set i (-1) ∧ ∀ k, k < fs.length → alikeM next out i (fs.getD k 0).toNat L.toNat = false))) ?_ ?_)
 ·refine wp_seq (seq_cut [(1, Vp M), (4, Vs O next.length cO), (6, Vi count), (7, Vs X next.length next.length), (8, .slice av fs.length cv), (9, Vi i), (10, Vi 0)] (· = w7) tab_ok hS ?_ (fun a w8 hS hw => ?_))
  ·repeat first|refine zP rfl ?_|refine zK rfl ?_
   exact o_nil ⟨⟨rfl, rfl, rfl, rfl, rfl, rfl, rfl, trivial⟩, rfl⟩
  subst hw
  refine wp_block (loop0 hS (fun g E wr => ∃ k : Nat, k ≤ fs.length ∧ g = fs.length - k ∧ E = [(1, Vp M), (4, Vs O next.length cO), (6, Vi count), (7, Vs X next.length next.length), (8, .slice av fs.length cv), (9, Vi i), (10, Vi k)] ∧ RowKit.Below wc.heap.size wc wr ∧ Rows wc.heap.size wr [oI (.slice av fs.length cv) fs, oI (Vs X next.length next.length) (nx.set i (-1)), oI (Vs O next.length cO) out] ∧ (∀ j, j < k → alikeM next out i (fs.getD j 0).toNat L.toNat = false))
   fs.length ⟨0, Nat.zero_le _, rfl, rfl, hK7, hR7, fun j hj => by omega⟩ ?_)
  clear hK7 hR7 hS
  rintro g2 E wr a1 ⟨k, hk, rfl, rfl, hK, hR, hno⟩ hS
  obtain ⟨b64, hb64⟩ : ∃ b, (decide ((k : Int) < fs.length) && decide (0 ≤ o)) = b := ⟨_, rfl⟩
  refine wp_seq (wp_seq (seq_cut [(1, Vp M), (4, Vs O next.length cO), (6, Vi count), (7, Vs X next.length next.length), (8, .slice av fs.length cv), (9, Vi i), (10, Vi k), (64, .bool b64)] (· = wr) tab_ok hS ?_ (fun a w9 hS hw => ?_)))
  ·repeat first|refine zP rfl ?_|refine zK rfl ?_
   cases e1 : decide ((k : Int) < fs.length)
   case false =>
    rw [e1, Bool.false_and] at hb64; subst hb64
    refine zC rfl (e1) ?_
    repeat first|refine zP rfl ?_|refine zK rfl ?_
    exact o_nil ⟨⟨rfl, rfl, rfl, rfl, rfl, rfl, rfl, rfl, trivial⟩, rfl⟩
   case true =>
    rw [e1, Bool.true_and, ← ho] at hb64
    refine zC rfl (e1) ?_
    repeat first|refine zP rfl ?_|refine zK rfl ?_
    refine zI rfl (rfl) (hlt) ?_
    refine zL rfl (hR.cellI (i := 2) rfl hio) ?_
    refine zC rfl (hb64) ?_
    repeat first|refine zP rfl ?_|refine zK rfl ?_
    exact o_nil ⟨⟨rfl, rfl, rfl, rfl, rfl, rfl, rfl, rfl, trivial⟩, rfl⟩
  subst hw
  refine cond hS rfl (fun hT => ?_) (fun hF => ?_)
  case refine_2 =>
   refine wp_exit ?_
   repeat (first | refine then_exit ?_ | refine block_exit ?_ | refine block_other rfl ?_)
   refine ⟨_, hS.sub ⟨rfl, rfl, rfl, rfl, rfl, rfl, trivial⟩, hK, hR, ?_⟩
   rw [hF, Bool.and_eq_false_iff, decide_eq_false_iff_not, decide_eq_false_iff_not] at hb64
   by_cases h0 : o < 0
   ·exact .inl ⟨h0, rfl⟩
   ·exact .inr (.inr ⟨by omega, rfl, fun j hj => hno j (by omega)⟩)
  rw [hT, Bool.and_eq_true, decide_eq_true_eq, decide_eq_true_eq] at hb64
  have hkf : k < fs.length := by omega
  obtain ⟨f, hf1, hf2, hf3, hf4⟩ := hP.fst k hkf
  have hfk : fs[k] = (f : Int) := by rw [← hf1, getD_lt hkf]
  obtain rfl := v1 (by omega)
  refine wp_skip ?_
  refine wp_seq (wp_block ?_)
  obtain ⟨b74, hb74⟩ : ∃ b, alikeM next out i f L.toNat = b := ⟨_, rfl⟩
  have hoI : ∀ x ∈ out, I64 x := fun x hx => by have := hrg x hx; exact ⟨by omega, by omega⟩
  have hcfs : w9.cell? ⟨bv, ov + k, none⟩ = some (Vi f) := by
   obtain ⟨⟨_, b', o', _, e, u1, _, _, u4⟩, _⟩ := hR.slI (i := 0) rfl hfsI
   have e2 := u1 (by omega)
   subst e2
   simp only [Value.slice.injEq, Option.some.injEq, Addr.mk.injEq] at e
   obtain ⟨y, hy1, hy2, _⟩ := u4 k hkf
   rw [← e.1.1, ← e.1.2.1] at hy1
   rw [hy1, hy2, hfk]
  refine wp_seq (quiet_cut [(1, Vp M), (4, Vs O next.length cO), (6, Vi count), (7, Vs X next.length next.length), (8, .slice (some ⟨bv, ov, none⟩) fs.length cv), (9, Vi i), (10, Vi k), (74, .bool b74)] tab_ok mixed (by kernel_rfl) hS ?_ (fun a w10 hS hw => ?_))
  ·subst hb74
   refine qA ([Vi L, Vi s, vn, ve]) rfl rfl ((hx.keep hK).cells) ?_
   repeat first|refine qP rfl ?_|refine qK rfl ?_
   refine qI rfl (rfl) (hkf) ?_
   refine qL rfl (hcfs) ?_
   refine qF (.bool (alikeM next out i f L.toNat)) rfl (en_alike) (fun w1 h1 => alike_any L s vn ve _ next fin out i f w1 ((hm.keep hK).keep h1) hs ((hR.slI (i := 2) rfl hoI).1.keep h1 (fun _ _ h => h)) hol hlt (by omega)) ?_
   exact q_nil ⟨rfl, rfl, rfl, rfl, rfl, rfl, rfl, rfl, trivial⟩
  have hK10 := below_trans hK hw
  have hR10 := hR.below hw
  clear hw hK hR hcfs
  refine cond hS rfl (fun hT => ?_) (fun hF => ?_)
  ·rw [hT] at hb74
   refine wp_seq (seq_cut [(1, Vp M), (4, Vs O next.length cO), (6, Vi count), (7, Vs X next.length next.length), (8, .slice (some ⟨bv, ov, none⟩) fs.length cv), (9, Vi i)] (· = w10.setCell ⟨X, 0 + i, none⟩ (Vi k)) tab_ok hS ?_ (fun a w11 hS hw => ?_))
   ·repeat first|refine zP rfl ?_|refine zK rfl ?_
    refine zI rfl (rfl) (hlt) ?_
    refine zS rfl rfl (hR10.cellI (i := 1) rfl (by simpa using hinx)) (hR10.freeI (i := 1) rfl i) ?_
    exact o_nil ⟨⟨rfl, rfl, rfl, rfl, rfl, rfl, trivial⟩, rfl⟩
   obtain ⟨hR11, hg11⟩ := hR10.storeI (i := 1) rfl i k
   have hK11 := below_of_grown hK10 hg11 (fun q hq => by cases hq; exact (hR10.lt (i := 1) rfl rfl).1)
   rw [← hw] at hR11 hK11
   dsimp only [List.set_cons_zero, List.set_cons_succ] at hR11
   rw [List.set_set] at hR11
   refine wp_exit ?_
   repeat (first | refine then_exit ?_ | refine block_exit ?_ | refine block_other rfl ?_)
   exact ⟨_, hS, hK11, hR11, .inr (.inl ⟨hb64.2, k, hkf, by rw [hf1, Int.toNat_natCast]; exact hb74, rfl⟩)⟩
  ·rw [hF] at hb74
   refine wp_skip ?_
   refine block_normal ?_
   refine then_normal ?_
   refine seq_cut [(1, Vp M), (4, Vs O next.length cO), (6, Vi count), (7, Vs X next.length next.length), (8, .slice (some ⟨bv, ov, none⟩) fs.length cv), (9, Vi i), (10, Vi (k + 1 : Nat))] (· = w10) tab_ok hS ?_ (fun a w11 hS hw => ?_)
   ·repeat first|refine zP rfl ?_|refine zK rfl ?_
    refine zN rfl (wrap_succ (by omega)) ?_
    repeat first|refine zP rfl ?_|refine zK rfl ?_
    exact o_nil ⟨⟨rfl, rfl, rfl, rfl, rfl, rfl, rfl, trivial⟩, rfl⟩
   subst hw
   refine ⟨fs.length - (k + 1), _, by omega, ⟨k + 1, hkf, rfl, rfl, hK10, hR10, fun j hj => ?_⟩, hS⟩
   rcases Nat.lt_or_ge j k with h1 | h1
   ·exact hno j h1
   ·obtain rfl : j = k := by omega
    rw [hf1, Int.toNat_natCast]; exact hb74
 clear hK7 hR7 hS
 rintro a w8 ⟨nx', hS, hK, hR, hcase⟩
 have hnl' : i < nx'.length := by
  rcases hcase with ⟨_, e⟩ | ⟨_, k, _, _, e⟩ | ⟨_, e, _⟩ <;> rw [e] <;> simpa using hinx
 obtain ⟨b90, hb90⟩ : ∃ b, (decide (0 ≤ o) && decide (nx'[i] < 0)) = b := ⟨_, rfl⟩
 refine wp_seq (seq_cut [(1, Vp M), (4, Vs O next.length cO), (6, Vi count), (7, Vs X next.length next.length), (8, .slice av fs.length cv), (9, Vi i), (90, .bool b90)] (· = w8) tab_ok hS ?_ (fun a w9 hS hw => ?_))
 ·repeat first|refine zP rfl ?_|refine zK rfl ?_
  refine zI rfl (rfl) (hlt) ?_
  refine zL rfl (hR.cellI (i := 2) rfl hio) ?_
  rw [← ho] at hb90
  cases e1 : decide (0 ≤ out[i])
  case false =>
   rw [e1, Bool.false_and] at hb90; subst hb90
   refine zC rfl (e1) ?_
   repeat first|refine zP rfl ?_|refine zK rfl ?_
   exact o_nil ⟨⟨rfl, rfl, rfl, rfl, rfl, rfl, rfl, trivial⟩, rfl⟩
  case true =>
   rw [e1, Bool.true_and] at hb90
   refine zC rfl (e1) ?_
   repeat first|refine zP rfl ?_|refine zK rfl ?_
   refine zI rfl (rfl) (hlt) ?_
   refine zL rfl (hR.cellI (i := 1) rfl hnl') ?_
   refine zC rfl (hb90) ?_
   repeat first|refine zP rfl ?_|refine zK rfl ?_
   exact o_nil ⟨⟨rfl, rfl, rfl, rfl, rfl, rfl, rfl, trivial⟩, rfl⟩
 subst hw
 have hin : ∀ (x : Int), (nx.set i x)[i]'(by simpa using hinx) = x := fun x => by simp
 refine cut (F := fun a' w' => ∃ (vf : Value) (nx fs : List Int), St Try.f69.ntmps a' [(1, Vp M), (4, Vs O next.length cO), (6, Vi count), (7, Vs X next.length next.length), (8, vf), (9, Vi i)] ∧ RowKit.Below wc.heap.size wc w' ∧ Rows wc.heap.size w' [oI vf fs, oI (Vs X next.length next.length) nx, oI (Vs O next.length cO) out] ∧ PassI L.toNat next out (i + 1) nx fs ∧ (∀ x ∈ nx, -1 ≤ x ∧ x ≤ next.length)) ?_ ?_
 ·have hset : ∀ y : Int, -1 ≤ y → y ≤ next.length → ∀ x ∈ nx.set i y, -1 ≤ x ∧ x ≤ next.length := fun y h1 h2 x hx => by
   rcases List.mem_or_eq_of_mem_set hx with h | h
   ·exact hnr x h
   ·rw [h]; exact ⟨h1, h2⟩
  refine cond hS rfl (fun hT => ?_) (fun hF => ?_)
  ·rw [hT, Bool.and_eq_true, decide_eq_true_eq, decide_eq_true_eq] at hb90
   rcases hcase with ⟨h0, e⟩ | ⟨h0, k, hk, ha, e⟩ | ⟨h0, e, ha⟩
   ·omega
   ·exfalso
    subst e
    rw [hin] at hb90
    omega
   subst e
   refine wp_seq (seq_cut [(1, Vp M), (4, Vs O next.length cO), (6, Vi count), (7, Vs X next.length next.length), (8, .slice av fs.length cv), (9, Vi i)] (· = w9.setCell ⟨X, 0 + i, none⟩ (Vi (fs.length : Nat))) tab_ok hS ?_ (fun a w10 hS hw => ?_))
   ·repeat first|refine zP rfl ?_|refine zK rfl ?_
    refine zI rfl (rfl) (hlt) ?_
    refine zS rfl rfl (hR.cellI (i := 1) rfl hnl') (hR.freeI (i := 1) rfl i) ?_
    exact o_nil ⟨⟨rfl, rfl, rfl, rfl, rfl, rfl, trivial⟩, rfl⟩
   obtain ⟨hR10, hg10⟩ := hR.storeI (i := 1) rfl i (fs.length : Nat)
   have hK10 := below_of_grown hK hg10 (fun q hq => by cases hq; exact (hR.lt (i := 1) rfl rfl).1)
   rw [← hw] at hR10 hK10
   dsimp only [List.set_cons_zero, List.set_cons_succ] at hR10
   rw [List.set_set] at hR10
   clear hw hg10 hR hK
   refine seq_cutx (α := Value) (fun v => [(1, Vp M), (4, Vs O next.length cO), (6, Vi count), (7, Vs X next.length next.length), (8, v), (9, Vi i)]) (fun v w' => RowKit.Below wc.heap.size wc w' ∧ Rows wc.heap.size w' [oI v (fs ++ [(i : Int)]), oI (Vs X next.length next.length) (nx.set i (fs.length : Nat)), oI (Vs O next.length cO) out]) tab_ok hS ?_ (fun v a w13 hS h13 => ⟨v, _, _, hS, h13.1, h13.2, hP.new hlt (by rw [hoi]; exact h0) ha, hset _ (by omega) (by omega)⟩)
   repeat first|refine zP rfl ?_|refine zK rfl ?_
   refine o_step rfl rfl rfl ?_
   refine Exists.intro [(0, Vi ((i : Int)))] (Exists.intro #[Vi ((i : Int))] (And.intro (And.intro rfl rfl) (And.intro (by decide) (And.intro (fillI _ _ _) ?_))))
   have hy1 := below_alloc w10 (.cells #[Vi i] 3)
   have hR11 := hR10.alloc (.cells #[Vi i] 3)
   have ask : AppAsk (w10.alloc (.cells #[Vi i] 3)) ⟨3, .int .i64, 1, 8, Vi 0⟩ (.slice av fs.length cv) fs.length (ints fs) (Vs w10.heap.size 1 1) 1 [Vi i] wc.heap.size :=
    ⟨hR11.1 0 _ rfl, .inr ⟨_, 0, _, rfl, cell_alloc_new rfl, trivial⟩, rfl, (by simp [Value.oneCell']), (by omega), (by show (fs.length + 1) * 8 ≤ _; omega), Nat.le_trans hK10.size hy1.size⟩
   refine o_step rfl rfl rfl ?_
   refine Exists.intro _ (Exists.intro _ (Exists.intro _ (Exists.intro _ (Exists.intro _ (And.intro (ask) (And.intro (fun _ h => h.symm) (And.intro (by decide) ?_)))))))
   rintro v' w13 hown hgr - hat
   have hR13 := hR11.appI (i := 0) rfl hown hgr hat
   dsimp only [List.set_cons_zero] at hR13
   have e4 := below_of_grown (below_trans hK10 hy1) hgr (fun q hq => (hR11.lt (i := 0) rfl hq).1)
   repeat first|refine zP rfl ?_|refine zK rfl ?_
   exact o_nil ⟨v', ⟨rfl, rfl, rfl, rfl, rfl, rfl, trivial⟩, e4, hR13⟩
  ·refine wp_skip ⟨_, nx', fs, hS.sub ⟨rfl, rfl, rfl, rfl, rfl, rfl, trivial⟩, hK, hR, ?_⟩
   rw [hF, Bool.and_eq_false_iff, decide_eq_false_iff_not, decide_eq_false_iff_not] at hb90
   rcases hcase with ⟨h0, e⟩ | ⟨h0, k, hk, ha, e⟩ | ⟨h0, e, ha⟩
   ·subst e
    exact ⟨hP.dead hlt (by rw [hoi]; exact h0), hset _ (by omega) (by omega)⟩
   ·subst e
    exact ⟨hP.like hlt (by rw [hoi]; exact h0) hk ha, hset _ (by omega) (by omega)⟩
   ·exfalso
    subst e
    rw [hin] at hb90
    omega
 rintro a w10 ⟨vf, nx2, fs2, hS, hK', hR', hP', hnr'⟩
 refine block_normal ?_
 refine then_normal ?_
 refine seq_cut [(1, Vp M), (4, Vs O next.length cO), (6, Vi count), (7, Vs X next.length next.length), (8, vf), (9, Vi (i + 1 : Nat))] (· = w10) tab_ok hS ?_ (fun a w11 hS hw => ?_)
 ·repeat first|refine zP rfl ?_|refine zK rfl ?_
  refine zN rfl (wrap_succ (by omega)) ?_
  repeat first|refine zP rfl ?_|refine zK rfl ?_
  exact o_nil ⟨⟨rfl, rfl, rfl, rfl, rfl, rfl, trivial⟩, rfl⟩
 subst hw
 exact ⟨next.length - (i + 1), _, by omega, ⟨i + 1, vf, nx2, fs2, hlt, rfl, rfl, hK', hR', hP', hnr'⟩, hS⟩
end Go.Proofs.Ythcoppfiahnpoaa
namespace Go.Proofs.Ythcoppfiahnpoaa
open Go Sym
theorem own_makeG (w : World) (base e m : Nat) (z : Value) (hb : base ≤ w.heap.size) (hm : m ≤ 9223372036854775807) : (w.alloc (.cells (madeCells #[z] m) e)).ownsRow base e 1 (Vs w.heap.size m m) m (List.replicate m z) := by
 have h := World.ownsRow_lit (base := base) (e := e) (size := 1) w (madeCells #[z] m) m hb (by unfold maxLen; exact hm) (by simp [madeCells])
 rw [toList_madeCells_one] at h
 exact h
structure R9 (base : Nat) (w : World) (P Q K m : Nat) (L s' : Int) : Prop where
 p : w.ownsRow base 26 1 (Vs P m m) m (List.replicate m (.slice none 0 0))
 q : w.ownsRow base 4 1 (Vs Q m m) m (List.replicate m (.bool false))
 k : OwnB w K 25 [Vi L, Vi s', Vs P m m, Vs Q m m]
 b : base ≤ K
theorem R9.fin {base : Nat} {w0 w : World} {P Q K m : Nat} {L s' : Int} (hb : RowKit.Below w0.heap.size w0 w) (hK : w0.heap.size ≤ K) (hbK : base ≤ K) (p : w.ownsRow base 26 1 (Vs P m m) m (List.replicate m (.slice none 0 0)))
  (q : w.ownsRow base 4 1 (Vs Q m m) m (List.replicate m (.bool false))) (k : OwnB w K 25 [Vi 0, Vi 0, .slice none 0 0, .slice none 0 0]) :
  RowKit.Below w0.heap.size w0 (w.setCells K 0 [Vi L, Vi s', Vs P m m, Vs Q m m]) ∧ R9 base (w.setCells K 0 [Vi L, Vi s', Vs P m m, Vs Q m m]) P Q K m L s' := by
 have hg := grown_sets K [Vi L, Vi s', Vs P m m, Vs Q m m] 0 w
 refine ⟨below_of_grown hb hg (fun x hx => by cases hx; exact hK), ⟨p.kept hg (.inr fun e => own_neB p k (by decide) e.symm), q.kept hg (.inr fun e => own_neB q k (by decide) e.symm), k.sets rfl, hbK⟩⟩
set_option maxHeartbeats 2000000 in
theorem shrunk_r9 {base : Nat} {w : World} {M N O cO m : Nat} {L : Int} {s : Nat} {vn ve : Value} {cls : List Int} (hx : Box w M L s vn ve) (hO : w.ownsRow base 3 1 (Vs O cls.length cO) cls.length (ints cls)) (hs : s < cls.length) (hb : base ≤ w.heap.size) (hm : m ≤ 100000000)
  {Q : Exit → Act → World → Prop} {a : Act} {ops : Array Oper} {id : Nat} (hops : Sym.regionOf Try.f41.body 9 = some (id, ops))
  (hS : St Try.f41.ntmps a [(1, Vp M), (2, Vp N), (3, Vs O cls.length cO), (4, Vi m)])
  (hq : ∀ (x : Nat × Nat × Nat) (a' : Act) (w' : World), St Try.f41.ntmps a' [(1, Vp M), (2, Vp N), (3, Vs O cls.length cO), (6, Vp x.2.2)] → RowKit.Below w.heap.size w w' ∧ R9 base w' x.1 x.2.1 x.2.2 m L cls[s] → Q .normal a' w') : (Code.region id ops true).wp Try.prog Q a w := by
 cases hops
 refine any_cutx (α := Nat × Nat × Nat) 14 (fun x => [(1, Vp M), (2, Vp N), (3, Vs O cls.length cO), (6, Vp x.2.2)]) (fun x w' => RowKit.Below w.heap.size w w' ∧ R9 base w' x.1 x.2.1 x.2.2 m L cls[s]) mixed hS ?_ hq
 have hy : RowKit.Below w.drew.heap.size w.drew w.drew := RowKit.Below.refl _ _
 have hb' : base ≤ w.drew.heap.size := hb
 have hc : w.cell? ⟨O, 0 + s, none⟩ = some (Vi cls[s]) := by
  rw [Nat.zero_add, World.ownsRow.cellAt hO s (by omega)]
  simp [hs]
 refine yT 0 tab_ok rfl (by kernel_rfl) hy rfl (rfl) ?_
 refine yL 1 tab_ok rfl (by kernel_rfl) hy rfl rfl (hx.c0) ?_
 refine yT 2 tab_ok rfl (by kernel_rfl) hy rfl (rfl) ?_
 refine yT 3 tab_ok rfl (by kernel_rfl) hy rfl (rfl) ?_
 refine yL 4 tab_ok rfl (by kernel_rfl) hy rfl rfl (hx.c1) ?_
 refine yT 5 tab_ok rfl (by kernel_rfl) hy rfl (Exists.intro _ (And.intro (rfl) (And.intro (hs) rfl))) ?_
 refine yL 6 tab_ok rfl (by kernel_rfl) hy rfl rfl (hc) ?_
 refine yT 7 tab_ok rfl (by kernel_rfl) hy rfl (rfl) ?_
 refine yT 9 tab_ok rfl (by kernel_rfl) hy rfl (rfl) ?_
 refine y_three 8 10 12 (by kernel_rfl) (y_op 8 tab_ok rfl rfl rfl rfl ?_) (y_op 10 tab_ok rfl rfl rfl rfl ?_) (y_op 12 tab_ok rfl rfl rfl rfl ?_)
 ·
  refine Exists.intro m (Exists.intro m (And.intro rfl (And.intro rfl (And.intro (Nat.le_refl _) (And.intro rfl (And.intro rfl (And.intro (by show 24 * _ ≤ _; omega) (And.intro (by omega) ?_))))))))
  have hy1 := hy.alloc (Nat.le_refl _) (.cells (madeCells #[.slice none 0 0] m) 26)
  refine And.intro (.inr hy1) ?_
  have ownP := own_makeG (w.drew) base 26 m (.slice none 0 0) hb' (by omega)
  refine y_two 10 12 (by kernel_rfl) (y_op 10 tab_ok rfl rfl rfl rfl ?_) (y_op 12 tab_ok rfl rfl rfl rfl ?_)
  ·
   refine Exists.intro m (Exists.intro m (And.intro rfl (And.intro rfl (And.intro (Nat.le_refl _) (And.intro rfl (And.intro rfl (And.intro (by show 1 * _ ≤ _; omega) (And.intro (by omega) ?_))))))))
   have hy2 := hy1.alloc (hy1.size) (.cells (madeCells #[.bool false] m) 4)
   refine And.intro (.inr hy2) ?_
   replace ownP := ownP.alloc (.cells (madeCells #[.bool false] m) 4)
   have ownQ := own_makeG ((w.drew).alloc (.cells (madeCells #[.slice none 0 0] m) 26)) base 4 m (.bool false) (Nat.le_trans hb' hy1.size) (by omega)
   refine yT 11 tab_ok rfl (by kernel_rfl) hy2 rfl (rfl) ?_
   refine y_one 12 (by kernel_rfl) (y_op 12 tab_ok rfl rfl rfl rfl ?_)
   have hy3 := hy2.alloc (hy2.size) (.cells #[Vi 0, Vi 0, .slice none 0 0, .slice none 0 0] 25)
   refine And.intro (.inr hy3) ?_
   replace ownP := ownP.alloc (.cells #[Vi 0, Vi 0, .slice none 0 0, .slice none 0 0] 25)
   replace ownQ := ownQ.alloc (.cells #[Vi 0, Vi 0, .slice none 0 0, .slice none 0 0] 25)
   have ownK := OwnB.new (((w.drew).alloc (.cells (madeCells #[.slice none 0 0] m) 26)).alloc (.cells (madeCells #[.bool false] m) 4)) [Vi 0, Vi 0, .slice none 0 0, .slice none 0 0] 25
   refine y_one 13 (by kernel_rfl) (y_op0 13 tab_ok rfl rfl rfl ?_)
   have fin := R9.fin (w0 := w) (L := L) (s' := cls[s]) (undrew hy3) (hy2.size) (Nat.le_trans hb' hy2.size) ownP ownQ ownK
   refine And.intro rfl (And.intro rfl (And.intro (own_cells4 ownK) (And.intro (.inr (below_of_grown hy3 (grown_sets _ _ 0 _) (fun k hk => by cases hk; exact hy2.size))) ?_)))
   exact y_endx (_, _, _) (by kernel_rfl) ⟨rfl, rfl, rfl, rfl, trivial⟩ fin
  ·
   have hy2 := hy1.alloc (hy1.size) (.cells #[Vi 0, Vi 0, .slice none 0 0, .slice none 0 0] 25)
   refine And.intro (.inr hy2) ?_
   replace ownP := ownP.alloc (.cells #[Vi 0, Vi 0, .slice none 0 0, .slice none 0 0] 25)
   have ownK := OwnB.new ((w.drew).alloc (.cells (madeCells #[.slice none 0 0] m) 26)) [Vi 0, Vi 0, .slice none 0 0, .slice none 0 0] 25
   refine y_one 10 (by kernel_rfl) (y_op 10 tab_ok rfl rfl rfl rfl ?_)
   refine Exists.intro m (Exists.intro m (And.intro rfl (And.intro rfl (And.intro (Nat.le_refl _) (And.intro rfl (And.intro rfl (And.intro (by show 1 * _ ≤ _; omega) (And.intro (by omega) ?_))))))))
   have hy3 := hy2.alloc (hy2.size) (.cells (madeCells #[.bool false] m) 4)
   refine And.intro (.inr hy3) ?_
   replace ownP := ownP.alloc (.cells (madeCells #[.bool false] m) 4)
   replace ownK : OwnB _ _ _ _ := ownK.kept (row := none) (grown_alloc _ (.cells (madeCells #[.bool false] m) 4)) (by simp)
   have ownQ := own_makeG (((w.drew).alloc (.cells (madeCells #[.slice none 0 0] m) 26)).alloc (.cells #[Vi 0, Vi 0, .slice none 0 0, .slice none 0 0] 25)) base 4 m (.bool false) (Nat.le_trans hb' hy2.size) (by omega)
   refine yT 11 tab_ok rfl (by kernel_rfl) hy3 rfl (rfl) ?_
   refine y_one 13 (by kernel_rfl) (y_op0 13 tab_ok rfl rfl rfl ?_)
   have fin := R9.fin (w0 := w) (L := L) (s' := cls[s]) (undrew hy3) (hy1.size) (Nat.le_trans hb' hy1.size) ownP ownQ ownK
   refine And.intro rfl (And.intro rfl (And.intro (own_cells4 ownK) (And.intro (.inr (below_of_grown hy3 (grown_sets _ _ 0 _) (fun k hk => by cases hk; exact hy1.size))) ?_)))
   exact y_endx (_, _, _) (by kernel_rfl) ⟨rfl, rfl, rfl, rfl, trivial⟩ fin
 ·
  refine Exists.intro m (Exists.intro m (And.intro rfl (And.intro rfl (And.intro (Nat.le_refl _) (And.intro rfl (And.intro rfl (And.intro (by show 1 * _ ≤ _; omega) (And.intro (by omega) ?_))))))))
  have hy1 := hy.alloc (Nat.le_refl _) (.cells (madeCells #[.bool false] m) 4)
  refine And.intro (.inr hy1) ?_
  have ownQ := own_makeG (w.drew) base 4 m (.bool false) hb' (by omega)
  refine y_two 8 12 (by kernel_rfl) (y_op 8 tab_ok rfl rfl rfl rfl ?_) (y_op 12 tab_ok rfl rfl rfl rfl ?_)
  ·
   refine Exists.intro m (Exists.intro m (And.intro rfl (And.intro rfl (And.intro (Nat.le_refl _) (And.intro rfl (And.intro rfl (And.intro (by show 24 * _ ≤ _; omega) (And.intro (by omega) ?_))))))))
   have hy2 := hy1.alloc (hy1.size) (.cells (madeCells #[.slice none 0 0] m) 26)
   refine And.intro (.inr hy2) ?_
   replace ownQ := ownQ.alloc (.cells (madeCells #[.slice none 0 0] m) 26)
   have ownP := own_makeG ((w.drew).alloc (.cells (madeCells #[.bool false] m) 4)) base 26 m (.slice none 0 0) (Nat.le_trans hb' hy1.size) (by omega)
   refine yT 11 tab_ok rfl (by kernel_rfl) hy2 rfl (rfl) ?_
   refine y_one 12 (by kernel_rfl) (y_op 12 tab_ok rfl rfl rfl rfl ?_)
   have hy3 := hy2.alloc (hy2.size) (.cells #[Vi 0, Vi 0, .slice none 0 0, .slice none 0 0] 25)
   refine And.intro (.inr hy3) ?_
   replace ownQ := ownQ.alloc (.cells #[Vi 0, Vi 0, .slice none 0 0, .slice none 0 0] 25)
   replace ownP := ownP.alloc (.cells #[Vi 0, Vi 0, .slice none 0 0, .slice none 0 0] 25)
   have ownK := OwnB.new (((w.drew).alloc (.cells (madeCells #[.bool false] m) 4)).alloc (.cells (madeCells #[.slice none 0 0] m) 26)) [Vi 0, Vi 0, .slice none 0 0, .slice none 0 0] 25
   refine y_one 13 (by kernel_rfl) (y_op0 13 tab_ok rfl rfl rfl ?_)
   have fin := R9.fin (w0 := w) (L := L) (s' := cls[s]) (undrew hy3) (hy2.size) (Nat.le_trans hb' hy2.size) ownP ownQ ownK
   refine And.intro rfl (And.intro rfl (And.intro (own_cells4 ownK) (And.intro (.inr (below_of_grown hy3 (grown_sets _ _ 0 _) (fun k hk => by cases hk; exact hy2.size))) ?_)))
   exact y_endx (_, _, _) (by kernel_rfl) ⟨rfl, rfl, rfl, rfl, trivial⟩ fin
  ·
   have hy2 := hy1.alloc (hy1.size) (.cells #[Vi 0, Vi 0, .slice none 0 0, .slice none 0 0] 25)
   refine And.intro (.inr hy2) ?_
   replace ownQ := ownQ.alloc (.cells #[Vi 0, Vi 0, .slice none 0 0, .slice none 0 0] 25)
   have ownK := OwnB.new ((w.drew).alloc (.cells (madeCells #[.bool false] m) 4)) [Vi 0, Vi 0, .slice none 0 0, .slice none 0 0] 25
   refine y_one 8 (by kernel_rfl) (y_op 8 tab_ok rfl rfl rfl rfl ?_)
   refine Exists.intro m (Exists.intro m (And.intro rfl (And.intro rfl (And.intro (Nat.le_refl _) (And.intro rfl (And.intro rfl (And.intro (by show 24 * _ ≤ _; omega) (And.intro (by omega) ?_))))))))
   have hy3 := hy2.alloc (hy2.size) (.cells (madeCells #[.slice none 0 0] m) 26)
   refine And.intro (.inr hy3) ?_
   replace ownQ := ownQ.alloc (.cells (madeCells #[.slice none 0 0] m) 26)
   replace ownK : OwnB _ _ _ _ := ownK.kept (row := none) (grown_alloc _ (.cells (madeCells #[.slice none 0 0] m) 26)) (by simp)
   have ownP := own_makeG (((w.drew).alloc (.cells (madeCells #[.bool false] m) 4)).alloc (.cells #[Vi 0, Vi 0, .slice none 0 0, .slice none 0 0] 25)) base 26 m (.slice none 0 0) (Nat.le_trans hb' hy2.size) (by omega)
   refine yT 11 tab_ok rfl (by kernel_rfl) hy3 rfl (rfl) ?_
   refine y_one 13 (by kernel_rfl) (y_op0 13 tab_ok rfl rfl rfl ?_)
   have fin := R9.fin (w0 := w) (L := L) (s' := cls[s]) (undrew hy3) (hy1.size) (Nat.le_trans hb' hy1.size) ownP ownQ ownK
   refine And.intro rfl (And.intro rfl (And.intro (own_cells4 ownK) (And.intro (.inr (below_of_grown hy3 (grown_sets _ _ 0 _) (fun k hk => by cases hk; exact hy1.size))) ?_)))
   exact y_endx (_, _, _) (by kernel_rfl) ⟨rfl, rfl, rfl, rfl, trivial⟩ fin
 ·
  have hy1 := hy.alloc (Nat.le_refl _) (.cells #[Vi 0, Vi 0, .slice none 0 0, .slice none 0 0] 25)
  refine And.intro (.inr hy1) ?_
  have ownK := OwnB.new (w.drew) [Vi 0, Vi 0, .slice none 0 0, .slice none 0 0] 25
  refine y_two 8 10 (by kernel_rfl) (y_op 8 tab_ok rfl rfl rfl rfl ?_) (y_op 10 tab_ok rfl rfl rfl rfl ?_)
  ·
   refine Exists.intro m (Exists.intro m (And.intro rfl (And.intro rfl (And.intro (Nat.le_refl _) (And.intro rfl (And.intro rfl (And.intro (by show 24 * _ ≤ _; omega) (And.intro (by omega) ?_))))))))
   have hy2 := hy1.alloc (hy1.size) (.cells (madeCells #[.slice none 0 0] m) 26)
   refine And.intro (.inr hy2) ?_
   replace ownK : OwnB _ _ _ _ := ownK.kept (row := none) (grown_alloc _ (.cells (madeCells #[.slice none 0 0] m) 26)) (by simp)
   have ownP := own_makeG ((w.drew).alloc (.cells #[Vi 0, Vi 0, .slice none 0 0, .slice none 0 0] 25)) base 26 m (.slice none 0 0) (Nat.le_trans hb' hy1.size) (by omega)
   refine y_one 10 (by kernel_rfl) (y_op 10 tab_ok rfl rfl rfl rfl ?_)
   refine Exists.intro m (Exists.intro m (And.intro rfl (And.intro rfl (And.intro (Nat.le_refl _) (And.intro rfl (And.intro rfl (And.intro (by show 1 * _ ≤ _; omega) (And.intro (by omega) ?_))))))))
   have hy3 := hy2.alloc (hy2.size) (.cells (madeCells #[.bool false] m) 4)
   refine And.intro (.inr hy3) ?_
   replace ownK : OwnB _ _ _ _ := ownK.kept (row := none) (grown_alloc _ (.cells (madeCells #[.bool false] m) 4)) (by simp)
   replace ownP := ownP.alloc (.cells (madeCells #[.bool false] m) 4)
   have ownQ := own_makeG (((w.drew).alloc (.cells #[Vi 0, Vi 0, .slice none 0 0, .slice none 0 0] 25)).alloc (.cells (madeCells #[.slice none 0 0] m) 26)) base 4 m (.bool false) (Nat.le_trans hb' hy2.size) (by omega)
   refine yT 11 tab_ok rfl (by kernel_rfl) hy3 rfl (rfl) ?_
   refine y_one 13 (by kernel_rfl) (y_op0 13 tab_ok rfl rfl rfl ?_)
   have fin := R9.fin (w0 := w) (L := L) (s' := cls[s]) (undrew hy3) (Nat.le_refl _) (hb') ownP ownQ ownK
   refine And.intro rfl (And.intro rfl (And.intro (own_cells4 ownK) (And.intro (.inr (below_of_grown hy3 (grown_sets _ _ 0 _) (fun k hk => by cases hk; exact Nat.le_refl _))) ?_)))
   exact y_endx (_, _, _) (by kernel_rfl) ⟨rfl, rfl, rfl, rfl, trivial⟩ fin
  ·
   refine Exists.intro m (Exists.intro m (And.intro rfl (And.intro rfl (And.intro (Nat.le_refl _) (And.intro rfl (And.intro rfl (And.intro (by show 1 * _ ≤ _; omega) (And.intro (by omega) ?_))))))))
   have hy2 := hy1.alloc (hy1.size) (.cells (madeCells #[.bool false] m) 4)
   refine And.intro (.inr hy2) ?_
   replace ownK : OwnB _ _ _ _ := ownK.kept (row := none) (grown_alloc _ (.cells (madeCells #[.bool false] m) 4)) (by simp)
   have ownQ := own_makeG ((w.drew).alloc (.cells #[Vi 0, Vi 0, .slice none 0 0, .slice none 0 0] 25)) base 4 m (.bool false) (Nat.le_trans hb' hy1.size) (by omega)
   refine y_one 8 (by kernel_rfl) (y_op 8 tab_ok rfl rfl rfl rfl ?_)
   refine Exists.intro m (Exists.intro m (And.intro rfl (And.intro rfl (And.intro (Nat.le_refl _) (And.intro rfl (And.intro rfl (And.intro (by show 24 * _ ≤ _; omega) (And.intro (by omega) ?_))))))))
   have hy3 := hy2.alloc (hy2.size) (.cells (madeCells #[.slice none 0 0] m) 26)
   refine And.intro (.inr hy3) ?_
   replace ownK : OwnB _ _ _ _ := ownK.kept (row := none) (grown_alloc _ (.cells (madeCells #[.slice none 0 0] m) 26)) (by simp)
   replace ownQ := ownQ.alloc (.cells (madeCells #[.slice none 0 0] m) 26)
   have ownP := own_makeG (((w.drew).alloc (.cells #[Vi 0, Vi 0, .slice none 0 0, .slice none 0 0] 25)).alloc (.cells (madeCells #[.bool false] m) 4)) base 26 m (.slice none 0 0) (Nat.le_trans hb' hy2.size) (by omega)
   refine yT 11 tab_ok rfl (by kernel_rfl) hy3 rfl (rfl) ?_
   refine y_one 13 (by kernel_rfl) (y_op0 13 tab_ok rfl rfl rfl ?_)
   have fin := R9.fin (w0 := w) (L := L) (s' := cls[s]) (undrew hy3) (Nat.le_refl _) (hb') ownP ownQ ownK
   refine And.intro rfl (And.intro rfl (And.intro (own_cells4 ownK) (And.intro (.inr (below_of_grown hy3 (grown_sets _ _ 0 _) (fun k hk => by cases hk; exact Nat.le_refl _))) ?_)))
   exact y_endx (_, _, _) (by kernel_rfl) ⟨rfl, rfl, rfl, rfl, trivial⟩ fin
end Go.Proofs.Ythcoppfiahnpoaa
namespace Go.Proofs.Ythcoppfiahnpoaa
open Go Sym
structure ShI (base : Nat) (w : World) (P Q m : Nat) (cls : List Int) (next : List (List Int)) (fin : List Bool) (L i : Nat) (vs : List Value) (sn : List (List Int)) (sf : List Bool) : Prop where
 p : w.ownsRow base 26 1 (Vs P m m) m vs
 q : w.ownsRow base 4 1 (Vs Q m m) m (bools sf)
 lv : vs.length = m
 ln : sn.length = m
 lf : sf.length = m
 done : ∀ v : Nat, v < m → (∃ j, j < i ∧ cls.getD j 0 = (v : Int)) → (∃ j : Nat, j < i ∧ cls.getD j 0 = (v : Int) ∧ sn.getD v [] = (List.range L).map (fun c => clsOf cls (tgtM next j c)) ∧ sf.getD v false = fin.getD j false) ∧
  (∃ g c, vs[v]? = some (Vs g L c) ∧ w.ownsRow base 3 1 (Vs g L c) L (ints (sn.getD v [])))
 todo : ∀ v : Nat, v < m → (∀ j, j < i → cls.getD j 0 ≠ (v : Int)) → vs[v]? = some (.slice none 0 0)
section
variable {base : Nat} {w w' : World} {P Q m : Nat} {cls : List Int} {next : List (List Int)} {fin : List Bool} {L i : Nat} {vs : List Value} {sn : List (List Int)} {sf : List Bool}
theorem ShI.kept (h : ShI base w P Q m cls next fin L i vs sn sf) (hg : w.grownBy w' none) : ShI base w' P Q m cls next fin L i vs sn sf :=
 ⟨h.p.kept hg (none_or _), h.q.kept hg (none_or _), h.lv, h.ln, h.lf, fun v hv ha => by
  obtain ⟨h1, g, c, h2, h3⟩ := h.done v hv ha
  exact ⟨h1, g, c, h2, h3.kept hg (none_or _)⟩, h.todo⟩
theorem ShI.skip (h : ShI base w P Q m cls next fin L i vs sn sf) (hs : cls.getD i 0 < 0 ∨ ∃ v : Nat, v < m ∧ cls.getD i 0 = (v : Int) ∧ ∃ j, j < i ∧ cls.getD j 0 = (v : Int)) : ShI base w P Q m cls next fin L (i + 1) vs sn sf := by
 refine ⟨h.p, h.q, h.lv, h.ln, h.lf, fun v hv ha => ?_, fun v hv ha => h.todo v hv fun j hj => ha j (by omega)⟩
 have ha' : ∃ j, j < i ∧ cls.getD j 0 = (v : Int) := by
  obtain ⟨j, hj, e⟩ := ha
  rcases Nat.lt_or_ge j i with h1 | h1
  ·exact ⟨j, h1, e⟩
  ·obtain rfl : j = i := by omega
   rcases hs with h2 | ⟨v', _, e2, j', hj', e3⟩
   ·omega
   ·obtain rfl : v' = v := by omega
    exact ⟨j', hj', e3⟩
 obtain ⟨⟨j, h1, h2, h3, h4⟩, h5⟩ := h.done v hv ha'
 exact ⟨⟨j, by omega, h2, h3, h4⟩, h5⟩
theorem ShI.put (h : ShI base w P Q m cls next fin L i vs sn sf) {c g cg : Nat} (hc : c < m) (hci : cls.getD i 0 = (c : Int)) {row : List Int} (hrow : row = (List.range L).map (fun k => clsOf cls (tgtM next i k)))
  (hown : w.ownsRow base 3 1 (Vs g L cg) L (ints row)) (hnew : ∀ j, j < i → cls.getD j 0 ≠ (c : Int)) :
  ShI base ((w.setCell ⟨P, 0 + c, none⟩ (Vs g L cg)).drew.setCell ⟨Q, 0 + c, none⟩ (.bool (fin.getD i false))) P Q m cls next fin L (i + 1) (vs.set c (Vs g L cg)) (sn.set c row) (sf.set c (fin.getD i false)) := by
 rw [Nat.zero_add]
 obtain ⟨p1, gp⟩ := World.ownsRow.stored h.p c (Vs g L cg)
 have hd : (w.setCell ⟨P, c, none⟩ (Vs g L cg)).grownBy (w.setCell ⟨P, c, none⟩ (Vs g L cg)).drew none := ⟨rfl, rfl, rfl, Nat.le_refl _, fun _ _ _ => rfl⟩
 have q1 := (h.q.kept gp (own_ne h.p h.q (by decide))).kept hd (none_or _)
 obtain ⟨q2, gq⟩ := World.ownsRow.stored q1 c (.bool (fin.getD i false))
 have p2 := (p1.kept hd (none_or _)).kept gq (own_ne q1 (p1.kept hd (none_or _)) (by decide))
 have keepI : ∀ {v : Value} {n : Nat} {xs : List Value}, w.ownsRow base 3 1 v n xs → ((w.setCell ⟨P, c, none⟩ (Vs g L cg)).drew.setCell ⟨Q, c, none⟩ (.bool (fin.getD i false))).ownsRow base 3 1 v n xs := fun hv =>
  ((hv.kept gp (own_ne h.p hv (by decide))).kept hd (none_or _)).kept gq (own_ne q1 ((hv.kept gp (own_ne h.p hv (by decide))).kept hd (none_or _)) (by decide))
 have ex : ∀ {v : Nat}, v ≠ c → (vs.set c (Vs g L cg))[v]? = vs[v]? := fun hv => List.getElem?_set_ne (fun e => hv e.symm)
 refine ⟨p2, ?_, by simp [h.lv], by simp [h.ln], by simp [h.lf], fun v hv ha => ?_, fun v hv ha => ?_⟩
 ·rw [show bools (sf.set c (fin.getD i false)) = (bools sf).set c (.bool (fin.getD i false)) from List.map_set ..]; exact q2
 ·by_cases e : v = c
  ·subst e
   refine ⟨⟨i, Nat.lt_succ_self _, hci, ?_, ?_⟩, g, cg, ?_, ?_⟩
   ·rw [← hrow]; simp [List.getD_eq_getElem?_getD, h.ln, hc]
   ·rw [getD_setB, if_pos ⟨rfl, by rw [h.lf]; exact hc⟩]
   ·simp [h.lv, hc]
   ·have : (sn.set v row).getD v [] = row := by simp [List.getD_eq_getElem?_getD, h.ln, hc]
    rw [this]; exact keepI hown
  ·have ha' : ∃ j, j < i ∧ cls.getD j 0 = (v : Int) := by
    obtain ⟨j, hj, ej⟩ := ha
    rcases Nat.lt_or_ge j i with h1 | h1
    ·exact ⟨j, h1, ej⟩
    ·obtain rfl : j = i := by omega
     omega
   obtain ⟨⟨j, h1, h2, h3, h4⟩, g', c', h5, h6⟩ := h.done v hv ha'
   have hsn : (sn.set c row).getD v [] = sn.getD v [] := by simp [List.getD_eq_getElem?_getD, List.getElem?_set_ne (fun e2 => e e2.symm)]
   refine ⟨⟨j, by omega, h2, by rw [hsn]; exact h3, ?_⟩, g', c', by rw [ex e]; exact h5, by rw [hsn]; exact keepI h6⟩
   rw [getD_setB, if_neg (fun hh => e hh.1.symm)]; exact h4
 ·have e : v ≠ c := fun e => ha i (Nat.lt_succ_self _) (by rw [e]; exact hci)
  rw [ex e]
  exact h.todo v hv fun j hj => ha j (by omega)
end
theorem ShI.end {base : Nat} {w : World} {P Q m : Nat} {cls : List Int} {next : List (List Int)} {fin : List Bool} {L : Nat} {vs : List Value} {sn : List (List Int)} {sf : List Bool} (h : ShI base w P Q m cls next fin L next.length vs sn sf) (hc : Cls L next fin cls m) :
  sn.length = m ∧ SmallI L next fin cls sn sf := by
 refine ⟨h.ln, ⟨by rw [h.lf, h.ln], fun v hv => ?_⟩⟩
 have hv' : v < m := by rw [← h.ln]; exact hv
 obtain ⟨i, h1, h2⟩ := hc.hit v hv'
 obtain ⟨⟨j, a, b, c, d⟩, _⟩ := h.done v hv' ⟨i, h1, h2⟩
 refine ⟨j, a, b, ?_, d⟩
 have : sn.getD v [] = sn[v] := by simp [List.getD_eq_getElem?_getD, hv]
 rw [← this]; exact c
structure MaxI (cls : List Int) (i : Nat) (count : Int) : Prop where
 pos : 0 ≤ count
 up : ∀ j, j < i → cls.getD j 0 + 1 ≤ count
 at' : count = 0 ∨ ∃ j, j < i ∧ cls.getD j 0 + 1 = count
theorem MaxI.end {L : Nat} {next : List (List Int)} {fin : List Bool} {cls : List Int} {m : Nat} (hc : Cls L next fin cls m) {count : Int} (h : MaxI cls next.length count) : count = m := by
 have h1 : count ≤ m := by
  rcases h.at' with h0 | ⟨j, hj, e⟩
  ·omega
  ·have := hc.top j hj; omega
 rcases Nat.eq_zero_or_pos m with h0 | h0
 ·have := h.pos; omega
 ·obtain ⟨i, a, b⟩ := hc.hit (m - 1) (by omega)
  have := h.up i a
  omega
theorem MaxI.step {cls : List Int} {i : Nat} {count x : Int} (h : MaxI cls i count) (hx : cls.getD i 0 = x) : MaxI cls (i + 1) (if x + 1 > count then x + 1 else count) := by
 have := h.pos
 refine ⟨by split <;> omega, fun j hj => ?_, ?_⟩
 ·rcases Nat.lt_or_ge j i with h1 | h1
  ·have := h.up j h1
   split <;> omega
  ·obtain rfl : j = i := by omega
   split <;> omega
 ·split
  ·exact .inr ⟨i, Nat.lt_succ_self _, by omega⟩
  ·rcases h.at' with h0 | ⟨j, hj, e⟩
   ·exact .inl h0
   ·exact .inr ⟨j, by omega, e⟩
end Go.Proofs.Ythcoppfiahnpoaa
namespace Go.Proofs.Ythcoppfiahnpoaa
open Go Sym
theorem fillB (a : Bool) (z : Value) : Instr.fill (fun i => some (i * 1, 1)) (madeCells #[z] 1) [(0, .bool a)] = some #[.bool a] := by
 have h : (Value.bool a).cells = #[.bool a] := rfl
 simp [Instr.fill, madeCells, h, Array.range, Array.foldl]
 rfl
theorem CopyI.below {base : Nat} {w w' : World} {b3 : Nat} {L s : Int} {rows : List (List Int)} {fin : List Bool} (h : CopyI base w b3 L s rows fin) (hb : RowKit.Below w.heap.size w w') : CopyI base w' b3 L s rows fin := by
 obtain ⟨vn, ve, us, ho, hve, hvn, hlu, hus⟩ := h.mem
 have hg := grown_below hb
 exact ⟨h.b, vn, ve, us, ho.keep hb ho.lt, hve.kept hg (none_or _), hvn.kept hg (none_or _), hlu, fun i hi => by
  obtain ⟨u, h1, h2, h3⟩ := hus i hi
  exact ⟨u, h1, h2.kept hg (none_or _), h3⟩⟩
theorem CopyI.add_row {base : Nat} {w w4 : World} {b3 : Nat} {L s : Int} {vn ve v' : Value} {us : List Value} {rows : List (List Int)} {fin : List Bool} {g : Option Addr} {n c : Nat} {row : List Int} (hb : base ≤ b3) (ho : OwnB w b3 25 [Vi L, Vi s, vn, ve])
  (hve : w.ownsRow base 4 1 ve fin.length (fin.map .bool)) (hvn : w.ownsRow base 26 1 vn rows.length us) (hlu : us.length = rows.length)
  (hus : ∀ i (h : i < rows.length), ∃ u, us[i]? = some u ∧ w.ownsRow base 3 1 u rows[i].length (rows[i].map (Value.int .i64)) ∧ ∀ x ∈ rows[i], I64 x)
  (hrow : w.ownsRow base 3 1 (.slice g n c) row.length (row.map (Value.int .i64))) (hI : ∀ x ∈ row, I64 x)
  (hgr : (w.alloc (.cells #[.slice g n c] 26)).grownBy w4 vn.ownBlock) (h4 : w4.ownsRow base 26 1 v' (rows.length + 1) (us ++ [.slice g n c])) :
  OwnB w4 b3 25 [Vi L, Vi s, vn, ve] ∧ CopyI base (w4.setCell ⟨b3, 2, none⟩ v') b3 L s (rows ++ [row]) fin := by
 have hvn3 := hvn.alloc (.cells #[.slice g n c] 26)
 have hve3 := hve.alloc (.cells #[.slice g n c] 26)
 have hu3 : ∀ u q xs, w.ownsRow base 3 1 u q xs → w4.ownsRow base 3 1 u q xs := fun u q xs h => (h.alloc (.cells #[.slice g n c] 26)).kept hgr (own_ne hvn3 (h.alloc _) (by decide))
 have ho3 : OwnB (w.alloc (.cells #[.slice g n c] 26)) b3 25 [Vi L, Vi s, vn, ve] := ho.kept (row := none) (grown_alloc _ _) (by simp)
 have ho4 := ho3.kept hgr (own_neB hvn3 ho3 (by decide))
 have hve4 := hve3.kept hgr (own_ne hvn3 hve3 (by decide))
 have hg5 := grown_set w4 b3 2 v'
 have hnb : ∀ {e q : Nat} {v : Value} {xs : List Value}, w4.ownsRow base e 1 v q xs → e ≠ 25 → v.ownBlock = none ∨ v.ownBlock ≠ some b3 := fun h he => .inr (fun hh => own_neB h ho4 he hh.symm)
 refine ⟨ho4, hb, v', ve, us ++ [.slice g n c], ho4.set 2 _, hve4.kept hg5 (hnb hve4 (by decide)), ?_, ?_, ?_⟩
 ·have := h4.kept hg5 (hnb h4 (by decide))
  simpa using this
 ·simp [hlu]
 ·intro i hi
  rcases Nat.lt_or_ge i rows.length with hlt | hge
  ·obtain ⟨u, hu1, hu2, hu3'⟩ := hus i hlt
   refine ⟨u, ?_, ?_, ?_⟩
   ·rw [List.getElem?_append_left (by omega)]; exact hu1
   ·have e1 := (hu3 _ _ _ hu2).kept hg5 (hnb (hu3 _ _ _ hu2) (by decide))
    rw [List.getElem_append_left hlt]; exact e1
   ·rw [List.getElem_append_left hlt]; exact hu3'
  ·obtain rfl : i = rows.length := by simp at hi; omega
   refine ⟨.slice g n c, ?_, ?_, ?_⟩
   ·rw [List.getElem?_append_right (by omega)]; simp [hlu]
   ·have e1 := (hu3 _ _ _ hrow).kept hg5 (hnb (hu3 _ _ _ hrow) (by decide))
    simpa using e1
   ·simpa using hI
theorem CopyI.add_fin {base : Nat} {w w4 : World} {b3 : Nat} {L s : Int} {vn ve v' : Value} {us : List Value} {rows : List (List Int)} {fin : List Bool} {x : Bool} (hb : base ≤ b3) (ho : OwnB w b3 25 [Vi L, Vi s, vn, ve])
  (hve : w.ownsRow base 4 1 ve fin.length (fin.map .bool)) (hvn : w.ownsRow base 26 1 vn rows.length us) (hlu : us.length = rows.length)
  (hus : ∀ i (h : i < rows.length), ∃ u, us[i]? = some u ∧ w.ownsRow base 3 1 u rows[i].length (rows[i].map (Value.int .i64)) ∧ ∀ x ∈ rows[i], I64 x)
  (hgr : (w.alloc (.cells #[.bool x] 4)).grownBy w4 ve.ownBlock) (h4 : w4.ownsRow base 4 1 v' (fin.length + 1) (fin.map .bool ++ [.bool x])) :
  OwnB w4 b3 25 [Vi L, Vi s, vn, ve] ∧ CopyI base (w4.setCell ⟨b3, 3, none⟩ v') b3 L s rows (fin ++ [x]) := by
 have hve3 := hve.alloc (.cells #[.bool x] 4)
 have hvn3 := hvn.alloc (.cells #[.bool x] 4)
 have hu3 : ∀ u q xs, w.ownsRow base 3 1 u q xs → w4.ownsRow base 3 1 u q xs := fun u q xs h => (h.alloc (.cells #[.bool x] 4)).kept hgr (own_ne hve3 (h.alloc _) (by decide))
 have ho3 : OwnB (w.alloc (.cells #[.bool x] 4)) b3 25 [Vi L, Vi s, vn, ve] := ho.kept (row := none) (grown_alloc _ _) (by simp)
 have ho4 := ho3.kept hgr (own_neB hve3 ho3 (by decide))
 have hvn4 := hvn3.kept hgr (own_ne hve3 hvn3 (by decide))
 have hg5 := grown_set w4 b3 3 v'
 have hnb : ∀ {e q : Nat} {v : Value} {xs : List Value}, w4.ownsRow base e 1 v q xs → e ≠ 25 → v.ownBlock = none ∨ v.ownBlock ≠ some b3 := fun h he => .inr (fun hh => own_neB h ho4 he hh.symm)
 refine ⟨ho4, hb, vn, v', us, ho4.set 3 _, ?_, hvn4.kept hg5 (hnb hvn4 (by decide)), hlu, fun i hi => ?_⟩
 ·have := h4.kept hg5 (hnb h4 (by decide))
  simpa using this
 ·obtain ⟨u, h1, h2, h3⟩ := hus i hi
  exact ⟨u, h1, (hu3 _ _ _ h2).kept hg5 (hnb (hu3 _ _ _ h2) (by decide)), h3⟩
set_option maxHeartbeats 1000000 in
theorem shrunk_r38 {base : Nat} {w0 w : World} {M N K b3 k nr m Q' : Nat} {L s' : Int} {vP va vb : Value} {rows : List Int} {sf : List Bool} {rs : List (List Int)} {fs : List Bool} (h0 : RowKit.Below w0.heap.size w0 w) (hb : base = w0.heap.size)
  (hk : OwnB w K 25 [Vi L, Vi s', vP, Vs Q' m m]) (hq' : w.ownsRow base 4 1 (Vs Q' m m) m (bools sf) ∨ ∀ j (h : j < sf.length), w.cell? ⟨Q', 0 + j, none⟩ = some (.bool sf[j]))
  (hr : Sl w va rows PInt) (hrn : rows.length = nr) (hkr : k < rows.length) {r : Nat} (hrv : rows[k] = (r : Int)) (hrm : r < m) (hsf : sf.length = m) (hC : CopyI base w b3 L 0 rs fs) (hb3 : w0.heap.size ≤ b3) (hfs : fs.length ≤ 100000000)
  {Q : Exit → Act → World → Prop} {a : Act} {ops : Array Oper} {id : Nat} (hops : Sym.regionOf Try.f41.body 38 = some (id, ops))
  (hS : St Try.f41.ntmps a [(1, Vp M), (2, Vp N), (6, Vp K), (11, va), (12, vb), (13, Vp b3), (14, Vi k)])
  (hq : ∀ a' w', St Try.f41.ntmps a' [(1, Vp M), (2, Vp N), (6, Vp K), (11, va), (12, vb), (13, Vp b3), (14, Vi k)] → RowKit.Below w0.heap.size w0 w' ∧ CopyI base w' b3 L 0 rs (fs ++ [sf.getD r false]) → Q .normal a' w') : (Code.region id ops true).wp Try.prog Q a w := by
 cases hops
 refine any_cut 11 [(1, Vp M), (2, Vp N), (6, Vp K), (11, va), (12, vb), (13, Vp b3), (14, Vi k)] (fun w' => RowKit.Below w0.heap.size w0 w' ∧ CopyI base w' b3 L 0 rs (fs ++ [sf.getD r false])) mixed hS ?_ hq
 have hy : RowKit.Below w.drew.heap.size w.drew w.drew := RowKit.Below.refl _ _
 have hbb : w0.heap.size ≤ base := by omega
 replace hb : base ≤ w0.heap.size := by omega
 obtain ⟨vn', ve', us, ho, hve, hvn, hlu, hus⟩ := hC.mem
 have hbw : w0.heap.size ≤ w.heap.size := h0.size
 obtain ⟨ar, br, orr, cr, rfl, r1, r2, r3, r4⟩ := hr
 obtain rfl := r1 (by omega)
 obtain ⟨u, hu, rfl, -⟩ := r4 k hkr
 rw [hrv] at hu
 have hrs : r < sf.length := by omega
 have hcq : w.cell? ⟨Q', 0 + r, none⟩ = some (.bool sf[r]) := by
  rcases hq' with h | h
  ·rw [Nat.zero_add, World.ownsRow.cellAt h r (by omega)]
   simp [bools, hrs]
  ·exact h r hrs
 obtain ⟨ge, ne, ce, hve'⟩ := own_form hve
 subst hve'
 refine yT 0 tab_ok rfl (by kernel_rfl) hy rfl (rfl) ?_
 refine yL 1 tab_ok rfl (by kernel_rfl) hy rfl rfl (ho.cell (i := 3) rfl) ?_
 refine yT 2 tab_ok rfl (by kernel_rfl) hy rfl (rfl) ?_
 refine yL 3 tab_ok rfl (by kernel_rfl) hy rfl rfl (hk.cell (i := 3) rfl) ?_
 refine yT 4 tab_ok rfl (by kernel_rfl) hy rfl (rfl) ?_
 refine yT 5 tab_ok rfl (by kernel_rfl) hy rfl (rfl) ?_
 refine yT 6 tab_ok rfl (by kernel_rfl) hy rfl (Exists.intro _ (And.intro (rfl) (And.intro (hkr) rfl))) ?_
 refine yL 7 tab_ok rfl (by kernel_rfl) hy rfl rfl (hu) ?_
 refine yT 8 tab_ok rfl (by kernel_rfl) hy rfl (Exists.intro _ (And.intro (rfl) (And.intro (hrm) rfl))) ?_
 refine yL 9 tab_ok rfl (by kernel_rfl) hy rfl rfl (hcq) ?_
 refine y_one 10 (by kernel_rfl) (y_op 10 tab_ok rfl rfl rfl rfl ?_)
 refine Exists.intro [(0, .bool (sf[r]))] (Exists.intro #[.bool (sf[r])] (And.intro (And.intro rfl rfl) (And.intro (by decide) (And.intro (fillB _ _) ?_))))
 have hy3 := hy.alloc (Nat.le_refl _) (.cells #[.bool sf[r]] 4)
 refine And.intro (.inr hy3) ?_
 have hve3 := hve.drew.alloc (.cells #[.bool sf[r]] 4)
 have ask : AppAsk (w.drew.alloc (.cells #[.bool sf[r]] 4)) ⟨4, .bool, 1, 1, .bool false⟩ (.slice ge ne ce) fs.length (fs.map .bool) (Vs w.drew.heap.size 1 1) 1 [.bool sf[r]] base :=
  ⟨hve3, .inr ⟨_, 0, _, rfl, cell_alloc_new rfl, trivial⟩, rfl, (by simp [Value.oneCell']), (by omega), (by show (fs.length + 1) * 1 ≤ _; omega), Nat.le_trans (Nat.le_trans hb hbw) hy3.size⟩
 refine y_one 11 (by kernel_rfl) (y_op 11 tab_ok rfl rfl rfl rfl ?_)
 refine Exists.intro _ (Exists.intro _ (Exists.intro _ (Exists.intro _ (Exists.intro _ (And.intro (ask) (And.intro (fun _ h => h.symm) (And.intro (by decide) ?_)))))))
 rintro v' w4 hown4 hgr4 - -
 refine And.intro (.inl (by kernel_rfl)) ?_
 refine y_one 12 (by kernel_rfl) (y_op 12 tab_ok rfl rfl rfl rfl ?_)
 refine And.intro (.inl (by kernel_rfl)) ?_
 refine y_one 13 (by kernel_rfl) (y_op0 13 tab_ok rfl rfl rfl ?_)
 obtain ⟨g4, n4, c4, hv4⟩ := own_form hown4
 subst hv4
 obtain ⟨ho4, hC4⟩ := CopyI.add_fin (w := w.drew) hC.b ho hve.drew hvn.drew hlu (fun i hi => by obtain ⟨u, h1, h2, h3⟩ := hus i hi; exact ⟨u, h1, h2.drew, h3⟩) hgr4 hown4
 refine And.intro rfl (And.intro rfl (And.intro ⟨_, ho4.cell (i := 3) rfl⟩ (And.intro (ho4.free 3) (And.intro (.inl (by kernel_rfl)) ?_))))
 rw [show sf.getD r false = sf[r] from getD_lt hrs]
 refine y_end (by kernel_rfl) ⟨rfl, rfl, rfl, rfl, rfl, rfl, rfl, trivial⟩ (show RowKit.Below w0.heap.size w0 (w4.setCell ⟨b3, 3, none⟩ (.slice g4 n4 c4)) ∧ CopyI base (w4.setCell ⟨b3, 3, none⟩ (.slice g4 n4 c4)) b3 L 0 rs (fs ++ [sf[r]]) from ⟨?_, hC4⟩)
 have e1 : RowKit.Below w0.heap.size w0 (w.drew.alloc (.cells #[.bool sf[r]] 4)) := below_trans h0 (undrew hy3)
 have e2 := below_of_grown e1 hgr4 (fun q hq => Nat.le_trans hbb (hve3.lt q hq).1)
 exact below_of_grown e2 (grown_set _ b3 3 _) (fun q hq => by cases hq; exact hb3)
end Go.Proofs.Ythcoppfiahnpoaa
namespace Go.Proofs.Ythcoppfiahnpoaa
open Go Sym
theorem en_classes : enters Try.prog 69 = true := by kernel_rfl
theorem en_none : enters Try.prog 70 = true := by kernel_rfl
theorem en_found : enters Try.prog 71 = true := by kernel_rfl
set_option maxHeartbeats 4000000 in
theorem shrunk_any (L s : Int) (vn ve : Value) (next : List (List Int)) (fin : List Bool) (w : World) (hm : Ma w L s next fin vn ve) (hs : Shape L s next fin) (hn : next.length ≤ 1000000) (hL : L ≤ 1000) :
  Calls Try.prog 41 #[.agg #[Vi L, Vi s, vn, ve]] w fun e w' => ∃ (s' : Int) (vn' ve' : Value) (n' : List (List Int)) (f' : List Bool), e = .returned (.agg #[Vi L, Vi s', vn', ve']) ∧ OwnM w.heap.size w' n' f' vn' ve' ∧ RowKit.Below w.heap.size w w' ∧
   Canon L s' n' f' ∧ Alike L.toNat n' f' s' next fin s ∧ n'.length ≤ next.length := by
 refine Sym.enter (args := [.agg #[Vi L, Vi s, vn, ve]]) Try.func41 rfl rfl rfl (fun a0 hS0 => ?_)
 have hs' : Shape (L.toNat : Int) s next fin := by rw [Int.toNat_of_nonneg hs.L0]; exact hs
 have hL0 := hs.L0
 obtain ⟨N, hN⟩ : ∃ N, N = (w.alloc (.cells #[Vi L, Vi s, vn, ve] 25)).heap.size := ⟨_, rfl⟩
 obtain ⟨M, hM⟩ : ∃ M, M = w.heap.size := ⟨_, rfl⟩
 refine wp_seq (seq_cut [(1, Vp M), (2, Vp N)] (· = (w.alloc (.cells #[Vi L, Vi s, vn, ve] 25)).alloc (.cells #[Vi 0, Vi 0, .slice none 0 0, .slice none 0 0] 25)) tab_ok hS0 ?_ (fun a wc hS hw => ?_))
 ·subst hN hM
  refine zB rfl ?_
  refine zB rfl ?_
  exact o_nil ⟨⟨rfl, rfl, trivial⟩, rfl⟩
 have hB1 := below_alloc w (.cells #[Vi L, Vi s, vn, ve] 25)
 have hB2 := below_alloc (w.alloc (.cells #[Vi L, Vi s, vn, ve] 25)) (.cells #[Vi 0, Vi 0, .slice none 0 0, .slice none 0 0] 25)
 rw [← hw] at hB2
 have hB := below_trans hB1 hB2
 have hx : Box wc M L s vn ve := by rw [hM]; exact (Box.new w L s vn ve 25).keep hB2
 have hoN : OwnB wc N 25 [Vi 0, Vi 0, .slice none 0 0, .slice none 0 0] := by rw [hw, hN]; exact OwnB.new _ _ _
 have hNw : w.heap.size ≤ N := by rw [hN]; exact hB1.size
 have hNc : N < wc.heap.size := hoN.lt
 clear hw hB1 hB2 hN hM
 replace hm := hm.keep hB
 refine wp_seq (seq_cutx (α := Nat × Nat × List Int × Nat) (fun x => [(1, Vp M), (2, Vp N), (3, Vs x.1 next.length x.2.1)]) (fun x w' => RowKit.Below wc.heap.size wc w' ∧ Rows wc.heap.size w' [oI (Vs x.1 next.length x.2.1) x.2.2.1] ∧ Cls L.toNat next fin x.2.2.1 x.2.2.2) tab_ok hS ?_ (fun x a w1 hS h1 => ?_))
 ·refine zA ([Vi L, Vi s, vn, ve]) rfl rfl (hx.cells) ?_
  refine zF rfl (en_classes) (classes_any L s vn ve next fin _ hm hs (by omega)) ?_
  rintro e w1 ⟨g, c, cls, m, rfl, h1, h2, h3⟩
  refine ⟨_, rfl, ?_⟩
  repeat first|refine zP rfl ?_|refine zK rfl ?_
  exact o_nil ⟨(g, c, cls, m), ⟨rfl, rfl, rfl, trivial⟩, h2, h1, h3⟩
 obtain ⟨O, cO, cls, m⟩ := x
 obtain ⟨hK, hRO, hC⟩ := h1
 dsimp only at hS hRO hC
 have hcl := hC.len
 have hO : w1.ownsRow wc.heap.size 3 1 (Vs O next.length cO) next.length (ints cls) := by
  have this : w1.ownsRow wc.heap.size 3 1 (Vs O next.length cO) cls.length (ints cls) := hRO.1 0 _ rfl
  rw [hcl] at this; exact this
 clear hRO
 have hmn : m ≤ next.length := by
  have hnd : ∃ rep : Nat → Nat, ∀ v, v < m → rep v < next.length ∧ cls.getD (rep v) 0 = (v : Int) := by
   have : ∀ v : Nat, ∃ i : Nat, v < m → i < next.length ∧ cls.getD i 0 = (v : Int) := fun v => by
    by_cases hv : v < m
    ·obtain ⟨i, a, b⟩ := hC.hit v hv
     exact ⟨i, fun _ => ⟨a, b⟩⟩
    ·exact ⟨0, fun h => (hv h).elim⟩
   exact Classical.axiomOfChoice this
  obtain ⟨rep, hrep⟩ := hnd
  have h1 : ((List.range m).map rep).Nodup := by
   refine List.pairwise_map.2 (List.Pairwise.imp_of_mem (R := (· ≠ ·)) (fun {a b} ha hb hab he => hab ?_) List.nodup_range)
   have h2 := (hrep a (List.mem_range.1 ha)).2
   have h3 := (hrep b (List.mem_range.1 hb)).2
   rw [he] at h2
   omega
  have := h1.length_le_of_subset (l₂ := List.range next.length) (fun x hx => by
   obtain ⟨v, hv, rfl⟩ := List.mem_map.1 hx
   exact List.mem_range.2 (hrep v (List.mem_range.1 hv)).1)
  simpa using this
 have hcrng : ∀ x ∈ cls, -1 ≤ x ∧ x < m := fun x hx => by
  obtain ⟨j, hj, rfl⟩ := List.mem_iff_getElem.1 hx
  have a := hC.low j (by omega)
  have b := hC.top j (by omega)
  rw [getD_lt hj] at a b
  exact ⟨a, b⟩
 have hcell : ∀ {w' : World}, w'.ownsRow wc.heap.size 3 1 (Vs O next.length cO) next.length (ints cls) → ∀ {j : Nat} (hj : j < cls.length), w'.cell? ⟨O, 0 + j, none⟩ = some (Vi cls[j]) := fun h j hj => own_cell h hj hcl.symm
 obtain ⟨b30, hb30⟩ : ∃ b, decide (clsOf cls s < 0) = b := ⟨_, rfl⟩
 refine wp_seq (wp_seq (seq_cut [(1, Vp M), (2, Vp N), (3, Vs O next.length cO), (30, .bool b30)] (· = w1) tab_ok hS ?_ (fun a w2 hS hw => ?_)))
 ·repeat first|refine zP rfl ?_|refine zK rfl ?_
  refine zL rfl ((hx.keep hK).c1) ?_
  cases e1 : decide (s < 0)
  case true =>
   rw [clsOf_neg (of_decide_eq_true e1)] at hb30
   subst hb30
   refine zC rfl (e1) ?_
   repeat first|refine zP rfl ?_|refine zK rfl ?_
   exact o_nil ⟨⟨rfl, rfl, rfl, rfl, trivial⟩, rfl⟩
  case false =>
   have h0 := of_decide_eq_false e1
   obtain ⟨z, rfl⟩ := Int.eq_ofNat_of_zero_le (Int.not_lt.1 h0)
   have hz : z < cls.length := by have := hs.s2; omega
   rw [clsOf_nat, getD_lt hz] at hb30
   refine zC rfl (e1) ?_
   repeat first|refine zP rfl ?_|refine zK rfl ?_
   refine zL rfl ((hx.keep hK).c1) ?_
   refine zI rfl (rfl) ((by omega : z < next.length)) ?_
   refine zL rfl (hcell hO hz) ?_
   refine zC rfl (hb30) ?_
   repeat first|refine zP rfl ?_|refine zK rfl ?_
   exact o_nil ⟨⟨rfl, rfl, rfl, rfl, trivial⟩, rfl⟩
 subst hw
 refine cond hS rfl (fun hT => ?_) (fun hF => ?_)
 ·rw [hT] at hb30
  have hneg := of_decide_eq_true hb30
  have hdead : ¬ Live L.toNat next fin s := fun hl => by
   have h0 := hl.pos
   obtain ⟨z, rfl⟩ := Int.eq_ofNat_of_zero_le h0
   rw [clsOf_nat] at hneg
   have := (hC.live z (by have := hs.s2; omega)).2 hl
   omega
  obtain ⟨hcn, hal⟩ := none_canon hL0 hdead
  have hoN2 := hoN.keep hK hNc
  refine wp_seq (seq_cut [(2, Vp N)] (fun w' => RowKit.Below w.heap.size w w' ∧ OwnB w' N 25 [Vi L, Vi (-1), .slice none 0 0, .slice none 0 0]) tab_ok hS ?_ (fun a w3 hS hw => ?_))
  ·repeat first|refine zP rfl ?_|refine zK rfl ?_
   refine zL rfl ((hx.keep hK).c0) ?_
   refine zF rfl (en_none) (none_any L _) ?_
   rintro e w3 ⟨rfl, h3⟩
   refine ⟨_, rfl, ?_⟩
   have hoN3 := hoN2.keep h3 hoN2.lt
   have hg := grown_sets N [Vi L, Vi (-1), .slice none 0 0, .slice none 0 0] 0 w3
   refine o_step0 rfl rfl (And.intro rfl (And.intro rfl (And.intro (own_cells4 hoN3) ?_)))
   exact o_nil ⟨⟨rfl, trivial⟩, below_of_grown (below_trans (below_trans hB hK) h3) hg (fun k hk => by cases hk; exact hNw), hoN3.sets rfl⟩
  obtain ⟨hBf, hoF⟩ := hw
  refine wp_ret ?_
  repeat (first | refine then_ret ?_ | refine block_ret ?_)
  refine retc1 tab_ok hS rfl rfl rfl rfl (o := 0) (vs := [Vi L, Vi (-1), .slice none 0 0, .slice none 0 0]) ⟨hoF.cell (i := 0) rfl, hoF.cell (i := 1) rfl, hoF.cell (i := 2) rfl, hoF.cell (i := 3) rfl, trivial⟩ rfl ⟨-1, _, _, [], [], rfl, ?_, hBf, hcn, hal, Nat.zero_le _⟩
  exact ⟨World.ownsRow_nil _ _ _ _, [], rfl, World.ownsRow_nil _ _ _ _, fun i hi => by simp at hi⟩
 rw [hF] at hb30
 have hcs0 : 0 ≤ clsOf cls s := by have := of_decide_eq_false hb30; omega
 have hsp : 0 ≤ s := by
  refine Int.not_lt.1 fun h => ?_
  rw [clsOf_neg h] at hcs0; omega
 obtain ⟨z, rfl⟩ := Int.eq_ofNat_of_zero_le hsp
 have hz : z < cls.length := by have := hs.s2; omega
 refine wp_skip ?_
 refine wp_seq (seq_cut [(1, Vp M), (2, Vp N), (3, Vs O next.length cO), (4, Vi 0)] (· = w2) tab_ok hS ?_ (fun a w3 hS hw => ?_))
 ·repeat first|refine zP rfl ?_|refine zK rfl ?_
  exact o_nil ⟨⟨rfl, rfl, rfl, rfl, trivial⟩, rfl⟩
 subst hw
 refine wp_seq (cut (F := fun a' w' => w' = w3 ∧ St Try.f41.ntmps a' [(1, Vp M), (2, Vp N), (3, Vs O next.length cO), (4, Vi m)]) ?_ ?_)
 ·refine wp_seq (seq_cut [(1, Vp M), (2, Vp N), (3, Vs O next.length cO), (4, Vi 0), (5, Vi 0)] (· = w3) tab_ok hS ?_ (fun a w4 hS hw => ?_))
  ·repeat first|refine zP rfl ?_|refine zK rfl ?_
   exact o_nil ⟨⟨rfl, rfl, rfl, rfl, rfl, trivial⟩, rfl⟩
  subst hw
  refine wp_block (loop0 hS (fun g E wr => ∃ (i : Nat) (ct : Int), i ≤ next.length ∧ g = next.length - i ∧ E = [(1, Vp M), (2, Vp N), (3, Vs O next.length cO), (4, Vi ct), (5, Vi i)] ∧ wr = w4 ∧ MaxI cls i ct)
   next.length ⟨0, 0, Nat.zero_le _, rfl, rfl, rfl, ⟨Int.le_refl _, fun j hj => by omega, .inl rfl⟩⟩ ?_)
  rintro g E wr a1 ⟨i, ct, hi, rfl, rfl, rfl, hI⟩ hS
  refine wp_seq (wp_seq (seq_cut [(1, Vp M), (2, Vp N), (3, Vs O next.length cO), (4, Vi ct), (5, Vi i), (37, .bool (decide ((i : Int) < next.length)))] (· = wr) tab_ok hS ?_ (fun a w5 hS hw => ?_)))
  ·repeat first|refine zP rfl ?_|refine zK rfl ?_
   refine zC rfl (rfl) ?_
   exact o_nil ⟨⟨rfl, rfl, rfl, rfl, rfl, rfl, trivial⟩, rfl⟩
  subst hw
  refine cond hS rfl (fun hT => ?_) (fun hF => ?_)
  case refine_2 =>
   refine wp_exit ?_
   repeat (first | refine then_exit ?_ | refine block_exit ?_ | refine block_other rfl ?_)
   obtain rfl : i = next.length := by have := of_decide_eq_false hF; omega
   obtain rfl := hI.end hC
   exact ⟨rfl, hS.sub ⟨rfl, rfl, rfl, rfl, trivial⟩⟩
  have hlt : i < next.length := by have := of_decide_eq_true hT; omega
  have hic : i < cls.length := by omega
  have hr := hcrng cls[i] (List.getElem_mem hic)
  refine wp_skip ?_
  refine wp_seq (wp_block ?_)
  refine seq_cut [(1, Vp M), (2, Vp N), (3, Vs O next.length cO), (4, Vi (if cls[i] + 1 > ct then cls[i] + 1 else ct)), (5, Vi i)] (· = w5) tab_ok hS ?_ (fun a w6 hS hw => ?_)
  ·repeat first|refine zP rfl ?_|refine zK rfl ?_
   refine zI rfl (rfl) (hlt) ?_
   refine zL rfl (hcell hO hic) ?_
   refine zN rfl (wrap64 (y := cls[i] + 1) rfl (by omega) (by omega)) ?_
   refine zN rfl (rfl) ?_
   repeat first|refine zP rfl ?_|refine zK rfl ?_
   exact o_nil ⟨⟨rfl, rfl, rfl, rfl, rfl, trivial⟩, rfl⟩
  subst hw
  refine block_normal ?_
  refine then_normal ?_
  refine seq_cut [(1, Vp M), (2, Vp N), (3, Vs O next.length cO), (4, Vi (if cls[i] + 1 > ct then cls[i] + 1 else ct)), (5, Vi (i + 1 : Nat))] (· = w6) tab_ok hS ?_ (fun a w7 hS hw => ?_)
  ·repeat first|refine zP rfl ?_|refine zK rfl ?_
   refine zN rfl (wrap_succ (by omega)) ?_
   repeat first|refine zP rfl ?_|refine zK rfl ?_
   exact o_nil ⟨⟨rfl, rfl, rfl, rfl, rfl, trivial⟩, rfl⟩
  subst hw
  exact ⟨next.length - (i + 1), _, by omega, ⟨i + 1, _, hlt, rfl, rfl, rfl, hI.step (getD_lt hic)⟩, hS⟩
 rintro a w4 ⟨rfl, hS⟩
 have hO' := hO
 rw [← hcl] at hO'
 rw [← hcl] at hS
 refine wp_seq (shrunk_r9 (base := wc.heap.size) (hx.keep hK) hO' hz hK.size (by omega) (by rfl) hS (fun x a w5 hS h5 => ?_))
 rw [hcl] at hS
 obtain ⟨P, Q, K⟩ := x
 obtain ⟨hw5, hR9⟩ := h5
 dsimp only at hS hR9
 have hK5 := below_trans hK hw5
 replace hO := hO.kept (grown_below hw5) (none_or _)
 clear hw5 hO'
 have hKc : wc.heap.size ≤ K := hR9.b
 refine wp_seq (cut (F := fun a' w' => ∃ (vs : List Value) (sn : List (List Int)) (sf : List Bool), St Try.f41.ntmps a' [(1, Vp M), (2, Vp N), (6, Vp K)] ∧ RowKit.Below wc.heap.size wc w' ∧ OwnB w' K 25 [Vi L, Vi cls[z], Vs P m m, Vs Q m m] ∧ ShI wc.heap.size w' P Q m cls next fin L.toNat next.length vs sn sf) ?_ ?_)
 ·refine wp_seq (seq_cut [(1, Vp M), (2, Vp N), (3, Vs O next.length cO), (6, Vp K), (7, Vi 0)] (· = w5) tab_ok hS ?_ (fun a w6 hS hw => ?_))
  ·repeat first|refine zP rfl ?_|refine zK rfl ?_
   exact o_nil ⟨⟨rfl, rfl, rfl, rfl, rfl, trivial⟩, rfl⟩
  subst hw
  have hI0 : ShI wc.heap.size w6 P Q m cls next fin L.toNat 0 (List.replicate m (.slice none 0 0)) (List.replicate m []) (List.replicate m false) :=
   ⟨hR9.p, by simpa using hR9.q, by simp, by simp, by simp, fun v hv ⟨j, hj, _⟩ => by omega, fun v hv _ => by simp [hv]⟩
  refine wp_block (loop0 hS (fun g E wr => ∃ (i : Nat) (vs : List Value) (sn : List (List Int)) (sf : List Bool), i ≤ next.length ∧ g = next.length - i ∧ E = [(1, Vp M), (2, Vp N), (3, Vs O next.length cO), (6, Vp K), (7, Vi i)] ∧ RowKit.Below wc.heap.size wc wr ∧
    wr.ownsRow wc.heap.size 3 1 (Vs O next.length cO) next.length (ints cls) ∧ OwnB wr K 25 [Vi L, Vi cls[z], Vs P m m, Vs Q m m] ∧ ShI wc.heap.size wr P Q m cls next fin L.toNat i vs sn sf)
   next.length ⟨0, _, _, _, Nat.zero_le _, rfl, rfl, hK5, hO, hR9.k, hI0⟩ ?_)
  clear hI0 hR9 hO hK5 hS hK
  rintro g E wr a1 ⟨i, vs, sn, sf, hi, rfl, rfl, hK, hO, hk, hI⟩ hS
  refine wp_seq (wp_seq (seq_cut [(1, Vp M), (2, Vp N), (3, Vs O next.length cO), (6, Vp K), (7, Vi i), (62, .bool (decide ((i : Int) < next.length)))] (· = wr) tab_ok hS ?_ (fun a w7 hS hw => ?_)))
  ·repeat first|refine zP rfl ?_|refine zK rfl ?_
   refine zC rfl (rfl) ?_
   exact o_nil ⟨⟨rfl, rfl, rfl, rfl, rfl, rfl, trivial⟩, rfl⟩
  subst hw
  refine cond hS rfl (fun hT => ?_) (fun hF => ?_)
  case refine_2 =>
   refine wp_exit ?_
   repeat (first | refine then_exit ?_ | refine block_exit ?_ | refine block_other rfl ?_)
   obtain rfl : i = next.length := by have := of_decide_eq_false hF; omega
   exact ⟨vs, sn, sf, hS.sub ⟨rfl, rfl, rfl, trivial⟩, hK, hk, hI⟩
  have hlt : i < next.length := by have := of_decide_eq_true hT; omega
  have hic : i < cls.length := by omega
  obtain ⟨c, hc⟩ : ∃ c, cls[i] = c := ⟨_, rfl⟩
  have hcd : cls.getD i 0 = c := by rw [getD_lt hic, hc]
  have hcr := hcrng cls[i] (List.getElem_mem hic)
  rw [hc] at hcr
  refine wp_skip ?_
  refine wp_seq (cut (F := fun a' w' => ∃ (vs : List Value) (sn : List (List Int)) (sf : List Bool), St Try.f41.ntmps a' [(1, Vp M), (2, Vp N), (3, Vs O next.length cO), (6, Vp K), (7, Vi i)] ∧ RowKit.Below wc.heap.size wc w' ∧
    w'.ownsRow wc.heap.size 3 1 (Vs O next.length cO) next.length (ints cls) ∧ OwnB w' K 25 [Vi L, Vi cls[z], Vs P m m, Vs Q m m] ∧ ShI wc.heap.size w' P Q m cls next fin L.toNat (i + 1) vs sn sf) ?_ ?_)
  ·refine wp_block ?_
   refine wp_seq (seq_cut [(1, Vp M), (2, Vp N), (3, Vs O next.length cO), (6, Vp K), (7, Vi i), (8, Vi c)] (· = w7) tab_ok hS ?_ (fun a w8 hS hw => ?_))
   ·repeat first|refine zP rfl ?_|refine zK rfl ?_
    refine zI rfl (rfl) (hlt) ?_
    refine zL rfl (hc ▸ hcell hO hic) ?_
    repeat first|refine zP rfl ?_|refine zK rfl ?_
    exact o_nil ⟨⟨rfl, rfl, rfl, rfl, rfl, rfl, trivial⟩, rfl⟩
   subst hw
   have hcase : (cls.getD i 0 < 0 ∨ ∃ v : Nat, v < m ∧ cls.getD i 0 = (v : Int) ∧ ∃ j, j < i ∧ cls.getD j 0 = (v : Int)) ∨ ∃ v : Nat, v < m ∧ c = (v : Int) ∧ ∀ j, j < i → cls.getD j 0 ≠ (v : Int) := by
    by_cases h0 : c < 0
    ·exact .inl (.inl (by rw [hcd]; exact h0))
    ·obtain ⟨v, rfl⟩ := Int.eq_ofNat_of_zero_le (Int.not_lt.1 h0)
     by_cases hex : ∃ j, j < i ∧ cls.getD j 0 = (v : Int)
     ·exact .inl (.inr ⟨v, by omega, hcd, hex⟩)
     ·exact .inr ⟨v, by omega, rfl, fun j hj e => hex ⟨j, hj, e⟩⟩
   rcases hcase with hskip | ⟨v, hv, rfl, hnew⟩
   ·refine wp_seq (wp_seq (seq_cut [(1, Vp M), (2, Vp N), (3, Vs O next.length cO), (6, Vp K), (7, Vi i), (78, .bool true)] (· = w8) tab_ok hS ?_ (fun a w9 hS hw => ?_)))
    ·repeat first|refine zP rfl ?_|refine zK rfl ?_
     cases e1 : decide (c < 0)
     case true =>
      refine zC rfl (e1) ?_
      repeat first|refine zP rfl ?_|refine zK rfl ?_
      exact o_nil ⟨⟨rfl, rfl, rfl, rfl, rfl, rfl, trivial⟩, rfl⟩
     case false =>
      have h0 := of_decide_eq_false e1
      rcases hskip with h1 | ⟨v, hv, hcv, hex⟩
      ·rw [hcd] at h1; exact (h0 h1).elim
      ·rw [hcd] at hcv
       subst hcv
       obtain ⟨_, g, cg, hg1, hg2⟩ := hI.done v hv hex
       have hcellP : w8.cell? ⟨P, 0 + v, none⟩ = some (Vs g L.toNat cg) := by
        rw [Nat.zero_add, World.ownsRow.cellAt hI.p v (by omega)]; exact hg1
       refine zC rfl (e1) ?_
       repeat first|refine zP rfl ?_|refine zK rfl ?_
       refine zL rfl (hk.cell (i := 2) rfl) ?_
       repeat first|refine zP rfl ?_|refine zK rfl ?_
       refine zI rfl (rfl) (hv) ?_
       refine zL rfl (hcellP) ?_
       repeat first|refine zP rfl ?_|refine zK rfl ?_
       exact o_nil ⟨⟨rfl, rfl, rfl, rfl, rfl, rfl, trivial⟩, rfl⟩
    subst hw
    refine cond hS rfl (fun _ => ?_) (fun hF => by cases hF)
    refine wp_exit ?_
    repeat (first | refine then_exit ?_ | refine block_exit ?_ | refine block_other rfl ?_)
    exact ⟨vs, sn, sf, hS.sub ⟨rfl, rfl, rfl, rfl, rfl, trivial⟩, hK, hO, hk, hI.skip hskip⟩
   have hnil := hI.todo v hv hnew
   have hcellP : w8.cell? ⟨P, 0 + v, none⟩ = some (.slice none 0 0) := by
    rw [Nat.zero_add, World.ownsRow.cellAt hI.p v (by omega)]; exact hnil
   refine wp_seq (wp_seq (seq_cut [(1, Vp M), (2, Vp N), (3, Vs O next.length cO), (6, Vp K), (7, Vi i), (8, Vi v), (78, .bool false)] (· = w8) tab_ok hS ?_ (fun a w9 hS hw => ?_)))
   ·have h0 : ¬ (v : Int) < 0 := by omega
    repeat first|refine zP rfl ?_|refine zK rfl ?_
    refine zC rfl (decide_eq_false h0) ?_
    repeat first|refine zP rfl ?_|refine zK rfl ?_
    refine zL rfl (hk.cell (i := 2) rfl) ?_
    repeat first|refine zP rfl ?_|refine zK rfl ?_
    refine zI rfl (rfl) (hv) ?_
    refine zL rfl (hcellP) ?_
    repeat first|refine zP rfl ?_|refine zK rfl ?_
    exact o_nil ⟨⟨rfl, rfl, rfl, rfl, rfl, rfl, rfl, trivial⟩, rfl⟩
   subst hw
   refine cond hS rfl (fun hT => by cases hT) (fun _ => ?_)
   refine wp_skip ?_
   obtain ⟨Ln, hLn⟩ : ∃ Ln : Nat, L = (Ln : Int) := ⟨L.toNat, by omega⟩
   obtain ⟨G, hG⟩ : ∃ G, G = w9.heap.size := ⟨_, rfl⟩
   refine wp_seq (seq_cut [(1, Vp M), (2, Vp N), (3, Vs O next.length cO), (6, Vp K), (7, Vi i), (8, Vi v), (9, Vs G L.toNat L.toNat)] (· = w9.alloc (.cells (madeCells #[Vi 0] L.toNat) 3)) tab_ok hS ?_ (fun a w10 hS hw => ?_))
   ·subst hG
    repeat first|refine zP rfl ?_|refine zK rfl ?_
    refine zL rfl ((hx.keep hK).c0) ?_
    rw [hLn, Int.toNat_natCast]
    refine zM (Ln) rfl rfl rfl rfl rfl ((by show 8 * _ ≤ _; omega)) ((by omega)) ?_
    repeat first|refine zP rfl ?_|refine zK rfl ?_
    exact o_nil ⟨⟨rfl, rfl, rfl, rfl, rfl, rfl, rfl, trivial⟩, rfl⟩
   have hown := own_makeG w9 w9.heap.size 3 L.toNat (Vi 0) (Nat.le_refl _) (by omega)
   have hb10 := below_alloc w9 (.cells (madeCells #[Vi 0] L.toNat) 3)
   rw [← hw, ← hG] at hown
   rw [← hw, ← hG] at hb10
   have hown : w10.ownsRow G 3 1 (Vs G L.toNat L.toNat) L.toNat (ints (List.replicate L.toNat 0)) := by simpa using hown
   clear hw
   refine wp_seq (cut (F := fun a' w' => ∃ row : List Int, St Try.f41.ntmps a' [(1, Vp M), (2, Vp N), (3, Vs O next.length cO), (6, Vp K), (7, Vi i), (8, Vi v), (9, Vs G L.toNat L.toNat)] ∧ RowKit.Below G w9 w' ∧
     w'.ownsRow G 3 1 (Vs G L.toNat L.toNat) L.toNat (ints row) ∧ row = (List.range L.toNat).map (fun k => clsOf cls (tgtM next i k))) ?_ ?_)
   ·have hrl : next[i].length = L.toNat := by have := (hs'.rows i hlt).1; omega
    have hrv := (hs'.rows i hlt).2
    have hGs : G ≤ w10.heap.size := by rw [hG]; exact hb10.size
    refine wp_seq (seq_cut [(1, Vp M), (2, Vp N), (3, Vs O next.length cO), (6, Vp K), (7, Vi i), (8, Vi v), (9, Vs G L.toNat L.toNat), (10, Vi 0)] (· = w10) tab_ok hS ?_ (fun a w11 hS hw => ?_))
    ·repeat first|refine zP rfl ?_|refine zK rfl ?_
     exact o_nil ⟨⟨rfl, rfl, rfl, rfl, rfl, rfl, rfl, rfl, trivial⟩, rfl⟩
    subst hw
    refine wp_block (loop0 hS (fun g E wr => ∃ (k : Nat) (row : List Int), k ≤ L.toNat ∧ g = L.toNat - k ∧ E = [(1, Vp M), (2, Vp N), (3, Vs O next.length cO), (6, Vp K), (7, Vi i), (8, Vi v), (9, Vs G L.toNat L.toNat), (10, Vi k)] ∧
      RowKit.Below w9.heap.size w9 wr ∧ wr.ownsRow G 3 1 (Vs G L.toNat L.toNat) L.toNat (ints row) ∧ row.length = L.toNat ∧ ∀ c, c < k → row.getD c 0 = clsOf cls (tgtM next i c))
     L.toNat ⟨0, _, Nat.zero_le _, rfl, rfl, hG ▸ hb10, hown, by simp, fun c hc => by omega⟩ ?_)
    clear hb10 hown hGs hS
    rintro g E wr a1 ⟨k, row, hk', rfl, rfl, hb, hown, hlen, hrow⟩ hS
    refine wp_seq (wp_seq (seq_cut [(1, Vp M), (2, Vp N), (3, Vs O next.length cO), (6, Vp K), (7, Vi i), (8, Vi v), (9, Vs G L.toNat L.toNat), (10, Vi k), (85, .bool (decide ((k : Int) < L)))] (· = wr) tab_ok hS ?_ (fun a w12 hS hw => ?_)))
    ·repeat first|refine zP rfl ?_|refine zK rfl ?_
     refine zL rfl ((hx.keep (below_trans hK hb)).c0) ?_
     refine zC rfl (rfl) ?_
     exact o_nil ⟨⟨rfl, rfl, rfl, rfl, rfl, rfl, rfl, rfl, rfl, trivial⟩, rfl⟩
    subst hw
    refine cond hS rfl (fun hT => ?_) (fun hF => ?_)
    case refine_2 =>
     refine wp_exit ?_
     repeat (first | refine then_exit ?_ | refine block_exit ?_ | refine block_other rfl ?_)
     obtain rfl : k = L.toNat := by have := of_decide_eq_false hF; omega
     refine ⟨row, hS.sub ⟨rfl, rfl, rfl, rfl, rfl, rfl, rfl, trivial⟩, hG ▸ hb, hown, ?_⟩
     refine List.ext_getElem (by simp [hlen]) fun c h1 h2 => ?_
     have := hrow c (by omega)
     rw [getD_lt h1] at this
     simp [this]
    have hkL : k < L.toNat := by have := of_decide_eq_true hT; omega
    have hkr : k < next[i].length := by omega
    obtain ⟨t, ht⟩ : ∃ t, next[i][k] = t := ⟨_, rfl⟩
    have htr := hrv k hkr
    rw [ht] at htr
    have htg : tgtM next i k = t := by rw [tgt_get hlt hkr, ht]
    refine wp_skip ?_
    refine wp_seq (wp_block ?_)
    refine wp_seq (seq_cut [(1, Vp M), (2, Vp N), (3, Vs O next.length cO), (6, Vp K), (7, Vi i), (8, Vi v), (9, Vs G L.toNat L.toNat), (10, Vi k)] (· = w12.setCell ⟨G, 0 + k, none⟩ (Vi (-1))) tab_ok hS ?_ (fun a w13 hS hw => ?_))
    ·repeat first|refine zP rfl ?_|refine zK rfl ?_
     refine zI rfl (rfl) (hkL) ?_
     refine zS rfl rfl (own_cell hown (j := k) (by omega) hlen.symm) (own_frozen hown k) ?_
     exact o_nil ⟨⟨rfl, rfl, rfl, rfl, rfl, rfl, rfl, rfl, trivial⟩, rfl⟩
    rw [Nat.zero_add] at hw
    have hown13 := own_stored hown k (-1)
    have hb13 := below_of_grown hb (hown.stored k (Vi (-1))).2 (fun q hq => by cases hq; omega)
    rw [← hw] at hown13 hb13
    clear hw hown hb
    have hlen13 : (row.set k (-1)).length = L.toNat := by simp [hlen]
    have hrow13 : ∀ c, c < k → (row.set k (-1)).getD c 0 = clsOf cls (tgtM next i c) := fun c hc => by
     rw [← hrow c hc]
     simp [List.getD_eq_getElem?_getD, List.getElem?_set_ne (show k ≠ c by omega)]
    have hat13 : (row.set k (-1)).getD k 0 = -1 := by simp [List.getD_eq_getElem?_getD, hlen, hkL]
    generalize row.set k (-1) = r2 at *
    refine wp_seq (seq_cut [(1, Vp M), (2, Vp N), (3, Vs O next.length cO), (6, Vp K), (7, Vi i), (8, Vi v), (9, Vs G L.toNat L.toNat), (10, Vi k), (99, .bool (decide (0 ≤ t)))] (· = w13) tab_ok hS ?_ (fun a w14 hS hw => ?_))
    ·obtain ⟨bn, on, cn, hvn, ar, cr, hc1, hc2⟩ := (hm.keep (below_trans hK hb13)).cell hlt
     obtain ⟨br, orr, rfl, hc3⟩ := hc2 k hkr
     subst hvn
     rw [ht] at hc3
     repeat first|refine zP rfl ?_|refine zK rfl ?_
     refine zL rfl ((hx.keep (below_trans hK hb13)).c2) ?_
     repeat first|refine zP rfl ?_|refine zK rfl ?_
     refine zI rfl (rfl) (hlt) ?_
     refine zL rfl (hc1) ?_
     repeat first|refine zP rfl ?_|refine zK rfl ?_
     refine zI rfl (rfl) (hkr) ?_
     refine zL rfl (hc3) ?_
     refine zC rfl (rfl) ?_
     exact o_nil ⟨⟨rfl, rfl, rfl, rfl, rfl, rfl, rfl, rfl, rfl, trivial⟩, rfl⟩
    subst hw
    refine cut (F := fun a' w' => ∃ row : List Int, St Try.f41.ntmps a' [(1, Vp M), (2, Vp N), (3, Vs O next.length cO), (6, Vp K), (7, Vi i), (8, Vi v), (9, Vs G L.toNat L.toNat), (10, Vi k)] ∧
      RowKit.Below w9.heap.size w9 w' ∧ w'.ownsRow G 3 1 (Vs G L.toNat L.toNat) L.toNat (ints row) ∧ row.length = L.toNat ∧ ∀ c, c < k + 1 → row.getD c 0 = clsOf cls (tgtM next i c)) ?_ ?_
    ·refine cond hS rfl (fun hT => ?_) (fun hF => ?_)
     ·obtain ⟨tn, rfl⟩ := Int.eq_ofNat_of_zero_le (of_decide_eq_true hT)
      have htc : tn < cls.length := by omega
      refine seq_cut [(1, Vp M), (2, Vp N), (3, Vs O next.length cO), (6, Vp K), (7, Vi i), (8, Vi v), (9, Vs G L.toNat L.toNat), (10, Vi k)] (· = w14.setCell ⟨G, 0 + k, none⟩ (Vi cls[tn])) tab_ok hS ?_ (fun a w15 hS hw => ?_)
      ·obtain ⟨bn, on, cn, hvn, ar, cr, hc1, hc2⟩ := (hm.keep (below_trans hK hb13)).cell hlt
       obtain ⟨br, orr, rfl, hc3⟩ := hc2 k hkr
       subst hvn
       rw [ht] at hc3
       repeat first|refine zP rfl ?_|refine zK rfl ?_
       refine zL rfl ((hx.keep (below_trans hK hb13)).c2) ?_
       repeat first|refine zP rfl ?_|refine zK rfl ?_
       refine zI rfl (rfl) (hlt) ?_
       refine zL rfl (hc1) ?_
       repeat first|refine zP rfl ?_|refine zK rfl ?_
       refine zI rfl (rfl) (hkr) ?_
       refine zL rfl (hc3) ?_
       refine zI rfl (rfl) ((by omega : tn < next.length)) ?_
       refine zL rfl (hcell (hO.kept (grown_below hb13) (none_or _)) htc) ?_
       refine zI rfl (rfl) (hkL) ?_
       refine zS rfl rfl (own_cell hown13 (j := k) (by omega) hlen13.symm) (own_frozen hown13 k) ?_
       exact o_nil ⟨⟨rfl, rfl, rfl, rfl, rfl, rfl, rfl, rfl, trivial⟩, rfl⟩
      rw [Nat.zero_add] at hw
      have hown15 := own_stored hown13 k cls[tn]
      have hb15 := below_of_grown hb13 (hown13.stored k (Vi cls[tn])).2 (fun q hq => by cases hq; omega)
      rw [← hw] at hown15 hb15
      refine ⟨_, hS, hb15, hown15, by simp [hlen13], fun c hc => ?_⟩
      by_cases hck : c = k
      ·subst hck
       rw [htg, clsOf_nat, getD_lt htc]
       simp [List.getD_eq_getElem?_getD, hlen13, hkL]
      ·rw [← hrow13 c (by omega)]
       simp [List.getD_eq_getElem?_getD, List.getElem?_set_ne (fun e => hck e.symm)]
     ·refine wp_skip ⟨r2, hS.sub ⟨rfl, rfl, rfl, rfl, rfl, rfl, rfl, rfl, trivial⟩, hb13, hown13, hlen13, fun c hc => ?_⟩
      by_cases hck : c = k
      ·subst hck
       rw [hat13, htg, clsOf_neg (by have := of_decide_eq_false hF; omega)]
      ·exact hrow13 c (by omega)
    rintro a w15 ⟨row', hS, hb15, hown15, hlen15, hrow15⟩
    refine block_normal ?_
    refine then_normal ?_
    refine seq_cut [(1, Vp M), (2, Vp N), (3, Vs O next.length cO), (6, Vp K), (7, Vi i), (8, Vi v), (9, Vs G L.toNat L.toNat), (10, Vi (k + 1 : Nat))] (· = w15) tab_ok hS ?_ (fun a w16 hS hw => ?_)
    ·repeat first|refine zP rfl ?_|refine zK rfl ?_
     refine zN rfl (wrap_succ (by omega)) ?_
     repeat first|refine zP rfl ?_|refine zK rfl ?_
     exact o_nil ⟨⟨rfl, rfl, rfl, rfl, rfl, rfl, rfl, rfl, trivial⟩, rfl⟩
    subst hw
    exact ⟨L.toNat - (k + 1), _, by omega, ⟨k + 1, row', hkL, rfl, rfl, hb15, hown15, hlen15, hrow15⟩, hS⟩
   rintro a w11 ⟨row, hS, hb11, hown11, hrow⟩
   rw [hG] at hb11
   have hK11 := below_trans hK hb11
   have hI11 := hI.kept (grown_below hb11)
   have hk11 := hk.keep hb11 hk.lt
   have hO11 := hO.kept (grown_below hb11) (none_or _)
   have hown11 : w11.ownsRow wc.heap.size 3 1 (Vs G L.toNat L.toNat) L.toNat (ints row) := own_mono hown11 (by rw [hG]; exact hK.size)
   clear hb11 hK hI hk hO hb10 hown hG
   have hPlt := hI11.p.lt P rfl
   have hQlt := hI11.q.lt Q rfl
   have hfi : i < fin.length := by have := hs.fin; omega
   have hfd : fin.getD i false = fin[i] := getD_lt hfi
   refine wp_seq (seq_cut [(1, Vp M), (2, Vp N), (3, Vs O next.length cO), (6, Vp K), (7, Vi i), (8, Vi v)] (· = w11.setCell ⟨P, 0 + v, none⟩ (Vs G L.toNat L.toNat)) tab_ok hS ?_ (fun a w12 hS hw => ?_))
   ·have hc11 : w11.cell? ⟨P, 0 + v, none⟩ = some (vs[v]'(by have := hI11.lv; omega)) := by
     rw [Nat.zero_add, World.ownsRow.cellAt hI11.p v (by omega)]
     exact List.getElem?_eq_getElem _
    have hf11 : w11.frozen? ⟨P, 0 + v, none⟩ = false := by rw [Nat.zero_add]; exact hI11.p.frozenAt v
    repeat first|refine zP rfl ?_|refine zK rfl ?_
    refine zL rfl (hk11.cell (i := 2) rfl) ?_
    repeat first|refine zP rfl ?_|refine zK rfl ?_
    refine zI rfl (rfl) (hv) ?_
    refine zS rfl rfl (hc11) (hf11) ?_
    exact o_nil ⟨⟨rfl, rfl, rfl, rfl, rfl, rfl, trivial⟩, rfl⟩
   have hg12 : w11.grownBy w12 (some P) := by rw [hw, Nat.zero_add]; exact (World.ownsRow.stored hI11.p v _).2
   have hK12 := below_of_grown hK11 hg12 (fun q hq => by cases hq; exact hPlt.1)
   have hO12 := hO11.kept hg12 (own_ne hI11.p hO11 (by decide))
   have hk12 := hk11.kept hg12 (own_neB hI11.p hk11 (by decide))
   have hQ12 := hI11.q.kept hg12 (own_ne hI11.p hI11.q (by decide))
   refine any_cut 9 [(1, Vp M), (2, Vp N), (3, Vs O next.length cO), (6, Vp K), (7, Vi i)] (· = w12.drew.setCell ⟨Q, 0 + v, none⟩ (.bool fin[i])) mixed hS ?_ (fun a w13 hS hw13 => ?_)
   ·have hy : RowKit.Below w12.drew.heap.size w12.drew w12.drew := RowKit.Below.refl _ _
    obtain ⟨be, oe, ce, hve, hce⟩ := (hm.keep hK12).end hfi
    subst hve
    have hc12 : w12.cell? ⟨Q, 0 + v, none⟩ = some (.bool (sf[v]'(by have := hI11.lf; omega))) := by
     have hvs : v < sf.length := by have := hI11.lf; omega
     rw [Nat.zero_add, World.ownsRow.cellAt hQ12 v (by omega)]
     simp [bools, hvs]
    have hf12 : w12.frozen? ⟨Q, 0 + v, none⟩ = false := by rw [Nat.zero_add]; exact hQ12.frozenAt v
    refine yT 0 tab_ok rfl (by kernel_rfl) hy rfl (rfl) ?_
    refine yL 1 tab_ok rfl (by kernel_rfl) hy rfl rfl (hk12.cell (i := 3) rfl) ?_
    refine yT 2 tab_ok rfl (by kernel_rfl) hy rfl (rfl) ?_
    refine yT 3 tab_ok rfl (by kernel_rfl) hy rfl (rfl) ?_
    refine yL 4 tab_ok rfl (by kernel_rfl) hy rfl rfl ((hx.keep hK12).c3) ?_
    refine yT 5 tab_ok rfl (by kernel_rfl) hy rfl (rfl) ?_
    refine yT 6 tab_ok rfl (by kernel_rfl) hy rfl (Exists.intro _ (And.intro (rfl) (And.intro (hfi) rfl))) ?_
    refine yL 7 tab_ok rfl (by kernel_rfl) hy rfl rfl (hce) ?_
    refine yT 8 tab_ok rfl (by kernel_rfl) hy rfl (Exists.intro _ (And.intro (rfl) (And.intro (hv) rfl))) ?_
    refine y_one 9 (by kernel_rfl) (y_op0 9 tab_ok rfl rfl rfl ?_)
    refine And.intro rfl (And.intro rfl (And.intro ⟨_, hc12⟩ (And.intro hf12 (And.intro (.inl (by kernel_rfl)) ?_))))
    exact y_end (by kernel_rfl) ⟨rfl, rfl, rfl, rfl, rfl, trivial⟩ rfl
   have hput := hI11.put hv hcd hrow hown11 hnew
   rw [hfd, ← hw, ← hw13] at hput
   have hg13 : w12.grownBy w13 (some Q) := by
    have hd := (World.ownsRow.stored (hQ12.drew) v (.bool fin[i])).2
    rw [hw13, Nat.zero_add]
    exact ⟨hd.os, hd.tape, hd.output, hd.size, hd.block⟩
   exact ⟨_, _, _, hS, below_of_grown hK12 hg13 (fun q hq => by cases hq; exact hQlt.1), hO12.kept hg13 (own_ne hQ12 hO12 (by decide)), hk12.kept hg13 (own_neB hQ12 hk12 (by decide)), hput⟩
  rintro a w8 ⟨vs', sn', sf', hS, hK', hO', hk', hI'⟩
  refine seq_cut [(1, Vp M), (2, Vp N), (3, Vs O next.length cO), (6, Vp K), (7, Vi (i + 1 : Nat))] (· = w8) tab_ok hS ?_ (fun a w9 hS hw => ?_)
  ·repeat first|refine zP rfl ?_|refine zK rfl ?_
   refine zN rfl (wrap_succ (by omega)) ?_
   repeat first|refine zP rfl ?_|refine zK rfl ?_
   exact o_nil ⟨⟨rfl, rfl, rfl, rfl, rfl, trivial⟩, rfl⟩
  subst hw
  exact ⟨next.length - (i + 1), _, by omega, ⟨i + 1, vs', sn', sf', hlt, rfl, rfl, hK', hO', hk', hI'⟩, hS⟩
 rintro a w6 ⟨vs, sn, sf, hS, hK6, hk6, hI6⟩
 clear hK hO hR9 hK5 hS0
 obtain ⟨hsnl, hSm⟩ := hI6.end hC
 have hC' : Cls L.toNat next fin cls sn.length := by rw [hsnl]; exact hC
 obtain ⟨hShp, hlive, hdist, hal⟩ := small_ok hs' hC' hSm hcs0
 rw [clsOf_nat, getD_lt hz] at hShp hal hcs0
 rw [Int.toNat_of_nonneg hL0] at hShp
 have hcz := hcrng cls[z] (List.getElem_mem hz)
 have hOM : OwnM wc.heap.size w6 sn sf (Vs P m m) (Vs Q m m) := by
  refine ⟨by rw [hI6.lf]; exact hI6.q, vs, by rw [hI6.lv, hsnl], by rw [hsnl]; exact hI6.p, fun v hv => ?_⟩
  obtain ⟨j, h1, h2⟩ := hC.hit v (by omega)
  obtain ⟨_, g, cg, h5, h6⟩ := hI6.done v (by omega) ⟨j, h1, h2⟩
  have h7 := hShp.rows v hv
  refine ⟨_, h5, ?_, fun x hx => ?_⟩
  ·rw [show sn.getD v [] = sn[v] by simp [List.getD_eq_getElem?_getD, hv]] at h6
   rw [show sn[v].length = L.toNat by have := h7.1; omega]
   exact h6
  ·obtain ⟨c, hc, rfl⟩ := List.mem_iff_getElem.1 hx
   have := h7.2 c hc
   exact ⟨by omega, by omega⟩
 have hMa := hOM.ma hm.L (show I64 cls[z] from ⟨by omega, by omega⟩)
 have hshp' : Shape (L.toNat : Int) cls[z] sn sf := by rw [Int.toNat_of_nonneg hL0]; exact hShp
 refine wp_seq (seq_cutx (α := Value × Value) (fun x => [(1, Vp M), (2, Vp N), (6, Vp K), (11, x.1), (12, x.2)]) (fun x w' => RowKit.Below w6.heap.size w6 w' ∧ TwoRows w6.heap.size w' x.1 x.2 (foundM cls[z] sn L.toNat).rows (foundM cls[z] sn L.toNat).place) tab_ok hS ?_ (fun x a w7 hS h7 => ?_))
 ·refine zA ([Vi L, Vi cls[z], Vs P m m, Vs Q m m]) rfl rfl (⟨hk6.cell (i := 0) rfl, hk6.cell (i := 1) rfl, hk6.cell (i := 2) rfl, hk6.cell (i := 3) rfl, trivial⟩) ?_
  refine zF rfl (en_found) (found_any L cls[z] _ _ sn sf _ hMa hShp (by omega)) ?_
  rintro e w7 ⟨vr, vp, rfl, h1, h2⟩
  refine ⟨_, rfl, ?_⟩
  repeat first|refine zP rfl ?_|refine zK rfl ?_
  exact o_nil ⟨(vr, vp), ⟨rfl, rfl, rfl, rfl, rfl, trivial⟩, h2, h1⟩
 obtain ⟨vr, vp⟩ := x
 obtain ⟨hb7, hT'⟩ := h7
 dsimp only at hS hT'
 have hFd := foundM_found hShp
 obtain ⟨hcn, hal2⟩ := found_canon hShp hFd hlive hdist
 generalize foundM cls[z] sn L.toNat = f at hT' hFd hcn hal2
 have hfr0 : 0 < f.rows.length := by
  have := (hFd.first hcs0).1
  exact (List.getElem?_eq_some_iff.1 this).1
 rw [if_neg (by omega)] at hcn hal2
 have hplen := hFd.inn.ok.p
 have hfcap := hFd.inn.ok.cap
 have hrr : ∀ k (h : k < f.rows.length), ∃ r : Nat, r < sn.length ∧ f.rows[k] = (r : Int) := fun k h => by
  obtain ⟨a, b, _⟩ := hFd.inn.ok.r _ (List.getElem_mem h)
  exact ⟨f.rows[k].toNat, by omega, by omega⟩
 obtain ⟨R, cR, rfl⟩ : ∃ R cR, vr = Vs R f.rows.length cR := by
  rcases hT'.a.2 with ⟨_, h⟩ | ⟨g, cap, cur, h, _⟩
  ·omega
  ·exact ⟨_, _, h⟩
 obtain ⟨S, cS, rfl⟩ : ∃ S cS, vp = Vs S f.place.length cS := by
  rcases hT'.b.2 with ⟨_, h⟩ | ⟨g, cap, cur, h, _⟩
  ·omega
  ·exact ⟨_, _, h⟩
 have hK7 := below_trans hK6 hb7
 have hk7 := hk6.keep hb7 hk6.lt
 have hMa7 := hMa.keep hb7
 have hrI : ∀ x ∈ f.rows, I64 x := fun x hx => by
  obtain ⟨a, b, _⟩ := hFd.inn.ok.r x hx
  exact ⟨by omega, by omega⟩
 have hslR : Sl w7 (Vs R f.rows.length cR) f.rows PInt := (sl_own (P := PInt) (l := f.rows) hT'.a rfl (fun i hi => ⟨_, by simp [hi], rfl, hrI _ (List.getElem_mem hi)⟩)).1
 have hpl : ∀ t : Nat, t < f.place.length → -1 ≤ f.place.getD t 0 ∧ f.place.getD t 0 < f.rows.length := fun t ht => by
  refine ⟨hFd.inn.low t (by omega), ?_⟩
  rcases Int.lt_or_le (f.place.getD t 0) 0 with h | h
  ·omega
  ·obtain ⟨j, hj, hj2⟩ := hFd.inn.of t (by omega) h
   have := (List.getElem?_eq_some_iff.1 hj2).1
   omega
 obtain ⟨b3, hb3⟩ : ∃ b3, b3 = w7.heap.size := ⟨_, rfl⟩
 refine wp_seq (seq_cut [(1, Vp M), (2, Vp N), (6, Vp K), (11, Vs R f.rows.length cR), (12, Vs S f.place.length cS), (13, Vp b3)] (· = (w7.alloc (.cells #[Vi 0, Vi 0, .slice none 0 0, .slice none 0 0] 25)).setCells w7.heap.size 0 [Vi L, Vi 0, .slice none 0 0, .slice none 0 0]) tab_ok hS ?_ (fun a w8 hS hw => ?_))
 ·subst hb3
  repeat first|refine zP rfl ?_|refine zK rfl ?_
  refine zL rfl ((hx.keep hK7).c0) ?_
  repeat first|refine zP rfl ?_|refine zK rfl ?_
  refine zB rfl ?_
  refine o_step0 rfl rfl (And.intro rfl (And.intro rfl (And.intro (own_cells4 (OwnB.new w7 [Vi 0, Vi 0, .slice none 0 0, .slice none 0 0] 25)) ?_)))
  exact o_nil ⟨⟨rfl, rfl, rfl, rfl, rfl, rfl, trivial⟩, rfl⟩
 obtain ⟨hb8, hC8⟩ := copy_fin (base := w7.heap.size) (w0 := w7) (L := L) (s := 0) (fin := []) (below_alloc w7 (.cells #[Vi 0, Vi 0, .slice none 0 0, .slice none 0 0] 25)) (Nat.le_refl _) (Nat.le_refl _) (OwnB.new w7 [Vi 0, Vi 0, .slice none 0 0, .slice none 0 0] 25) (World.ownsRow_nil _ _ _ _)
 rw [← hw] at hb8 hC8
 rw [← hb3] at hC8
 clear hw
 have hb3' : w7.heap.size ≤ b3 := by omega
 refine wp_seq (cut (F := fun a' w' => St Try.f41.ntmps a' [(2, Vp N), (13, Vp b3)] ∧ RowKit.Below w7.heap.size w7 w' ∧ CopyI b3 w' b3 L 0 (f.rows.map (renumM f.place sn L.toNat)) (foundFin f sf)) ?_ ?_)
 ·refine wp_seq (seq_cut [(1, Vp M), (2, Vp N), (6, Vp K), (11, Vs R f.rows.length cR), (12, Vs S f.place.length cS), (13, Vp b3), (14, Vi 0)] (· = w8) tab_ok hS ?_ (fun a w9 hS hw => ?_))
  ·repeat first|refine zP rfl ?_|refine zK rfl ?_
   exact o_nil ⟨⟨rfl, rfl, rfl, rfl, rfl, rfl, rfl, trivial⟩, rfl⟩
  subst hw
  refine wp_block (loop0 hS (fun g E wr => ∃ k : Nat, k ≤ f.rows.length ∧ g = f.rows.length - k ∧ E = [(1, Vp M), (2, Vp N), (6, Vp K), (11, Vs R f.rows.length cR), (12, Vs S f.place.length cS), (13, Vp b3), (14, Vi k)] ∧ RowKit.Below w7.heap.size w7 wr ∧ CopyI b3 wr b3 L 0 ((f.rows.take k).map (renumM f.place sn L.toNat)) ((foundFin f sf).take k))
   f.rows.length ⟨0, Nat.zero_le _, rfl, rfl, hb8, by simpa using hC8⟩ ?_)
  clear hb8 hC8 hS
  rintro g E wr a1 ⟨k, hk, rfl, rfl, hb, hCr⟩ hS
  refine wp_seq (wp_seq (seq_cut [(1, Vp M), (2, Vp N), (6, Vp K), (11, Vs R f.rows.length cR), (12, Vs S f.place.length cS), (13, Vp b3), (14, Vi k), (139, .bool (decide ((k : Int) < f.rows.length)))] (· = wr) tab_ok hS ?_ (fun a w10 hS hw => ?_)))
  ·repeat first|refine zP rfl ?_|refine zK rfl ?_
   refine zC rfl (rfl) ?_
   exact o_nil ⟨⟨rfl, rfl, rfl, rfl, rfl, rfl, rfl, rfl, trivial⟩, rfl⟩
  subst hw
  refine cond hS rfl (fun hT => ?_) (fun hF => ?_)
  case refine_2 =>
   refine wp_exit ?_
   repeat (first | refine then_exit ?_ | refine block_exit ?_ | refine block_other rfl ?_)
   obtain rfl : k = f.rows.length := by have := of_decide_eq_false hF; omega
   rw [List.take_length, List.take_of_length_le (by simp [foundFin])] at hCr
   exact ⟨hS.sub ⟨rfl, rfl, trivial⟩, hb, hCr⟩
  have hlt : k < f.rows.length := by have := of_decide_eq_true hT; omega
  obtain ⟨r, hr, hrv⟩ := hrr k hlt
  obtain ⟨Ln, hLn⟩ : ∃ Ln : Nat, L = (Ln : Int) := ⟨L.toNat, by omega⟩
  have hLb := hm.L.2
  refine wp_skip ?_
  refine wp_seq (wp_block ?_)
  obtain ⟨G, hG⟩ : ∃ G, G = w10.heap.size := ⟨_, rfl⟩
  refine wp_seq (seq_cut [(1, Vp M), (2, Vp N), (6, Vp K), (11, Vs R f.rows.length cR), (12, Vs S f.place.length cS), (13, Vp b3), (14, Vi k), (15, Vs G L.toNat L.toNat)] (· = w10.alloc (.cells (madeCells #[Vi 0] L.toNat) 3)) tab_ok hS ?_ (fun a w11 hS hw => ?_))
  ·subst hG
   repeat first|refine zP rfl ?_|refine zK rfl ?_
   refine zL rfl ((hx.keep (below_trans hK7 hb)).c0) ?_
   rw [hLn, Int.toNat_natCast]
   refine zM (Ln) rfl rfl rfl rfl rfl ((by show 8 * _ ≤ _; omega)) ((by omega)) ?_
   repeat first|refine zP rfl ?_|refine zK rfl ?_
   exact o_nil ⟨⟨rfl, rfl, rfl, rfl, rfl, rfl, rfl, rfl, trivial⟩, rfl⟩
  have hown := own_makeG w10 w10.heap.size 3 L.toNat (Vi 0) (Nat.le_refl _) (by omega)
  have hb11 := below_alloc w10 (.cells (madeCells #[Vi 0] L.toNat) 3)
  rw [← hw, ← hG] at hown
  rw [← hw] at hb11
  have hown : w11.ownsRow G 3 1 (Vs G L.toNat L.toNat) L.toNat (ints (List.replicate L.toNat 0)) := by simpa using hown
  clear hw
  refine wp_seq (cut (F := fun a' w' => St Try.f41.ntmps a' [(1, Vp M), (2, Vp N), (6, Vp K), (11, Vs R f.rows.length cR), (12, Vs S f.place.length cS), (13, Vp b3), (14, Vi k), (15, Vs G L.toNat L.toNat)] ∧ RowKit.Below w10.heap.size w10 w' ∧
    w'.ownsRow G 3 1 (Vs G L.toNat L.toNat) L.toNat (ints (renumM f.place sn L.toNat f.rows[k]))) ?_ ?_)
  ·have hrow := hShp.rows r hr
   have hrl : sn[r].length = L.toNat := by have := hrow.1; omega
   refine wp_seq (seq_cut [(1, Vp M), (2, Vp N), (6, Vp K), (11, Vs R f.rows.length cR), (12, Vs S f.place.length cS), (13, Vp b3), (14, Vi k), (15, Vs G L.toNat L.toNat), (16, Vi 0)] (· = w11) tab_ok hS ?_ (fun a w12 hS hw => ?_))
   ·repeat first|refine zP rfl ?_|refine zK rfl ?_
    exact o_nil ⟨⟨rfl, rfl, rfl, rfl, rfl, rfl, rfl, rfl, rfl, trivial⟩, rfl⟩
   subst hw
   refine wp_block (loop0 hS (fun g E wr => ∃ (j : Nat) (row : List Int), j ≤ L.toNat ∧ g = L.toNat - j ∧ E = [(1, Vp M), (2, Vp N), (6, Vp K), (11, Vs R f.rows.length cR), (12, Vs S f.place.length cS), (13, Vp b3), (14, Vi k), (15, Vs G L.toNat L.toNat), (16, Vi j)] ∧
     RowKit.Below w10.heap.size w10 wr ∧ wr.ownsRow G 3 1 (Vs G L.toNat L.toNat) L.toNat (ints row) ∧ row.length = L.toNat ∧ ∀ c, c < j → row.getD c 0 = plcM f.place (tgtM sn r c))
    L.toNat ⟨0, _, Nat.zero_le _, rfl, rfl, hb11, hown, by simp, fun c hc => by omega⟩ ?_)
   clear hb11 hown hS
   rintro g E wr a1 ⟨j, row, hj', rfl, rfl, hb12, hown, hlen, hrow'⟩ hS
   have hKr := below_trans hb hb12
   refine wp_seq (wp_seq (seq_cut [(1, Vp M), (2, Vp N), (6, Vp K), (11, Vs R f.rows.length cR), (12, Vs S f.place.length cS), (13, Vp b3), (14, Vi k), (15, Vs G L.toNat L.toNat), (16, Vi j), (148, .bool (decide ((j : Int) < L)))] (· = wr) tab_ok hS ?_ (fun a w13 hS hw => ?_)))
   ·repeat first|refine zP rfl ?_|refine zK rfl ?_
    refine zL rfl ((hx.keep (below_trans hK7 hKr)).c0) ?_
    refine zC rfl (rfl) ?_
    exact o_nil ⟨⟨rfl, rfl, rfl, rfl, rfl, rfl, rfl, rfl, rfl, rfl, trivial⟩, rfl⟩
   subst hw
   refine cond hS rfl (fun hT => ?_) (fun hF => ?_)
   case refine_2 =>
    refine wp_exit ?_
    repeat (first | refine then_exit ?_ | refine block_exit ?_ | refine block_other rfl ?_)
    obtain rfl : j = L.toNat := by have := of_decide_eq_false hF; omega
    have he : row = renumM f.place sn L.toNat f.rows[k] := by
     rw [hrv]
     refine List.ext_getElem (by rw [hlen, renumM_len]) fun c h1 h2 => ?_
     rw [renumM_get]
     have := hrow' c (by omega)
     rw [getD_lt h1] at this
     exact this
    rw [he] at hown
    exact ⟨hS.sub ⟨rfl, rfl, rfl, rfl, rfl, rfl, rfl, rfl, trivial⟩, hb12, hown⟩
   have hjL : j < L.toNat := by have := of_decide_eq_true hT; omega
   have hjr : j < sn[r].length := by omega
   obtain ⟨t, ht⟩ : ∃ t, sn[r][j] = t := ⟨_, rfl⟩
   have htr := hrow.2 j hjr
   rw [ht] at htr
   have htg : tgtM sn r j = t := by rw [tgt_get hr hjr, ht]
   refine wp_skip ?_
   refine wp_seq (wp_block ?_)
   refine wp_seq (seq_cut [(1, Vp M), (2, Vp N), (6, Vp K), (11, Vs R f.rows.length cR), (12, Vs S f.place.length cS), (13, Vp b3), (14, Vi k), (15, Vs G L.toNat L.toNat), (16, Vi j)] (· = w13.setCell ⟨G, 0 + j, none⟩ (Vi (-1))) tab_ok hS ?_ (fun a w14 hS hw => ?_))
   ·repeat first|refine zP rfl ?_|refine zK rfl ?_
    refine zI rfl (rfl) (hjL) ?_
    refine zS rfl rfl (own_cell hown (j := j) (by omega) hlen.symm) (own_frozen hown j) ?_
    exact o_nil ⟨⟨rfl, rfl, rfl, rfl, rfl, rfl, rfl, rfl, rfl, trivial⟩, rfl⟩
   rw [Nat.zero_add] at hw
   have hown13 := own_stored hown j (-1)
   have hb13 := below_of_grown hb12 (hown.stored j (Vi (-1))).2 (fun q hq => by cases hq; omega)
   rw [← hw] at hown13 hb13
   clear hw hown hb12 hKr
   have hlen13 : (row.set j (-1)).length = L.toNat := by simp [hlen]
   have hrow13 : ∀ c, c < j → (row.set j (-1)).getD c 0 = plcM f.place (tgtM sn r c) := fun c hc => by
    rw [← hrow' c hc]
    simp [List.getD_eq_getElem?_getD, List.getElem?_set_ne (show j ≠ c by omega)]
   have hat13 : (row.set j (-1)).getD j 0 = -1 := by simp [List.getD_eq_getElem?_getD, hlen, hjL]
   generalize row.set j (-1) = r2 at *
   have hKr := below_trans hb hb13
   refine wp_seq (quiet_cut [(1, Vp M), (2, Vp N), (6, Vp K), (11, Vs R f.rows.length cR), (12, Vs S f.place.length cS), (13, Vp b3), (14, Vi k), (15, Vs G L.toNat L.toNat), (16, Vi j), (17, Vi t)] tab_ok mixed (by kernel_rfl) hS ?_ (fun a w15 hS hw => ?_))
   ·obtain ⟨bn, on, cn, hvn, ar, cr, hc1, hc2⟩ := (hMa7.keep hKr).cell hr
    obtain ⟨br, orr, rfl, hc3⟩ := hc2 j hjr
    rw [ht] at hc3
    have hrc := (hslR.keep hKr (fun _ _ h => h))
    obtain ⟨_, _, _, _, hv, r1, r2', r3, r4⟩ := hrc
    obtain ⟨u, hu, rfl, -⟩ := r4 k hlt
    cases r1 hfr0
    cases hv
    rw [hrv] at hu
    cases hvn
    repeat first|refine qP rfl ?_|refine qK rfl ?_
    refine qL rfl ((hk7.keep hKr hk7.lt).cell (i := 2) rfl) ?_
    repeat first|refine qP rfl ?_|refine qK rfl ?_
    refine qI rfl (rfl) (hlt) ?_
    refine qL rfl (hu) ?_
    refine qI rfl (rfl) (hr) ?_
    refine qL rfl (hc1) ?_
    repeat first|refine qP rfl ?_|refine qK rfl ?_
    refine qI rfl (rfl) (hjr) ?_
    refine qL rfl (hc3) ?_
    repeat first|refine qP rfl ?_|refine qK rfl ?_
    exact q_nil ⟨rfl, rfl, rfl, rfl, rfl, rfl, rfl, rfl, rfl, rfl, trivial⟩
   have hb15 := below_trans hb13 hw
   have hown15 := hown13.kept (grown_below hw) (none_or _)
   clear hw hown13 hb13 hKr
   have hKr := below_trans hb hb15
   refine wp_seq (seq_cut [(1, Vp M), (2, Vp N), (6, Vp K), (11, Vs R f.rows.length cR), (12, Vs S f.place.length cS), (13, Vp b3), (14, Vi k), (15, Vs G L.toNat L.toNat), (16, Vi j), (17, Vi t), (166, .bool (decide (0 ≤ t)))] (· = w15) tab_ok hS ?_ (fun a w16 hS hw => ?_))
   ·repeat first|refine zP rfl ?_|refine zK rfl ?_
    refine zC rfl (rfl) ?_
    exact o_nil ⟨⟨rfl, rfl, rfl, rfl, rfl, rfl, rfl, rfl, rfl, rfl, rfl, trivial⟩, rfl⟩
   subst hw
   refine cut (F := fun a' w' => ∃ row : List Int, St Try.f41.ntmps a' [(1, Vp M), (2, Vp N), (6, Vp K), (11, Vs R f.rows.length cR), (12, Vs S f.place.length cS), (13, Vp b3), (14, Vi k), (15, Vs G L.toNat L.toNat), (16, Vi j)] ∧
     RowKit.Below w10.heap.size w10 w' ∧ w'.ownsRow G 3 1 (Vs G L.toNat L.toNat) L.toNat (ints row) ∧ row.length = L.toNat ∧ ∀ c, c < j + 1 → row.getD c 0 = plcM f.place (tgtM sn r c)) ?_ ?_
   ·refine cond hS rfl (fun hT => ?_) (fun hF => ?_)
    ·obtain ⟨tn, rfl⟩ := Int.eq_ofNat_of_zero_le (of_decide_eq_true hT)
     have htc : tn < f.place.length := by omega
     have hcS : w16.cell? ⟨S, 0 + tn, none⟩ = some (Vi f.place[tn]) := Ythcoppfiahnpoaa.keep hKr (own_cell hT'.b htc rfl)
     refine seq_cut [(1, Vp M), (2, Vp N), (6, Vp K), (11, Vs R f.rows.length cR), (12, Vs S f.place.length cS), (13, Vp b3), (14, Vi k), (15, Vs G L.toNat L.toNat), (16, Vi j)] (· = w16.setCell ⟨G, 0 + j, none⟩ (Vi f.place[tn])) tab_ok hS ?_ (fun a w17 hS hw => ?_)
     ·repeat first|refine zP rfl ?_|refine zK rfl ?_
      refine zI rfl (rfl) (htc) ?_
      refine zL rfl (hcS) ?_
      refine zI rfl (rfl) (hjL) ?_
      refine zS rfl rfl (own_cell hown15 (j := j) (by omega) hlen13.symm) (own_frozen hown15 j) ?_
      exact o_nil ⟨⟨rfl, rfl, rfl, rfl, rfl, rfl, rfl, rfl, rfl, trivial⟩, rfl⟩
     rw [Nat.zero_add] at hw
     have hown17 := own_stored hown15 j f.place[tn]
     have hb17 := below_of_grown hb15 (hown15.stored j (Vi f.place[tn])).2 (fun q hq => by cases hq; omega)
     rw [← hw] at hown17 hb17
     refine ⟨_, hS, hb17, hown17, by simp [hlen13], fun c hc => ?_⟩
     by_cases hck : c = j
     ·subst hck
      rw [htg, plcM_nat htc]
      simp [List.getD_eq_getElem?_getD, hlen13, hjL]
     ·rw [← hrow13 c (by omega)]
      simp [List.getD_eq_getElem?_getD, List.getElem?_set_ne (fun e => hck e.symm)]
    ·refine wp_skip ⟨r2, hS.sub ⟨rfl, rfl, rfl, rfl, rfl, rfl, rfl, rfl, rfl, trivial⟩, hb15, hown15, hlen13, fun c hc => ?_⟩
     by_cases hck : c = j
     ·subst hck
      rw [hat13, htg, plcM_neg (by have := of_decide_eq_false hF; omega)]
     ·exact hrow13 c (by omega)
   rintro a w17 ⟨row'', hS, hb17, hown17, hlen17, hrow17⟩
   refine block_normal ?_
   refine then_normal ?_
   refine seq_cut [(1, Vp M), (2, Vp N), (6, Vp K), (11, Vs R f.rows.length cR), (12, Vs S f.place.length cS), (13, Vp b3), (14, Vi k), (15, Vs G L.toNat L.toNat), (16, Vi (j + 1 : Nat))] (· = w17) tab_ok hS ?_ (fun a w18 hS hw => ?_)
   ·repeat first|refine zP rfl ?_|refine zK rfl ?_
    refine zN rfl (wrap_succ (by omega)) ?_
    repeat first|refine zP rfl ?_|refine zK rfl ?_
    exact o_nil ⟨⟨rfl, rfl, rfl, rfl, rfl, rfl, rfl, rfl, rfl, trivial⟩, rfl⟩
   subst hw
   exact ⟨L.toNat - (j + 1), _, by omega, ⟨j + 1, row'', hjL, rfl, rfl, hb17, hown17, hlen17, hrow17⟩, hS⟩
  rintro a w12 ⟨hS, hb12, hown12⟩
  have hGb : b3 ≤ G := by have := hb.size; omega
  have hC12 := hCr.below hb12
  have hown12 := own_mono hown12 hGb
  have hb' := below_trans hb hb12
  clear hb11 hown hb12 hCr hb hG
  obtain ⟨vn1, ve1, us, ho, hve, hvn, hlu, hus⟩ := hC12.mem
  have hkl : ((f.rows.take k).map (renumM f.place sn L.toNat)).length = k := by simp; omega
  have hrenI : ∀ x ∈ renumM f.place sn L.toNat f.rows[k], I64 x := fun x hx => by
   obtain ⟨c, hc, rfl⟩ := List.mem_iff_getElem.1 hx
   rw [renumM_get hc]
   rcases Int.lt_or_le (tgtM sn f.rows[k] c) 0 with h | h
   ·rw [plcM_neg h]; exact ⟨by decide, by decide⟩
   ·obtain ⟨t, ht⟩ := Int.eq_ofNat_of_zero_le h
    have hc' : c < L.toNat := by rw [renumM_len] at hc; exact hc
    have htr := tgt_range hShp f.rows[k] (by omega) (by omega) c hc'
    rw [ht] at htr
    have htl : t < f.place.length := by omega
    have := hpl t htl
    rw [getD_lt htl] at this
    rw [ht, plcM_nat htl]
    exact ⟨by omega, by omega⟩
  refine wp_seq (seq_cut [(1, Vp M), (2, Vp N), (6, Vp K), (11, Vs R f.rows.length cR), (12, Vs S f.place.length cS), (13, Vp b3), (14, Vi k)] (fun w' => RowKit.Below w7.heap.size w7 w' ∧ CopyI b3 w' b3 L 0 ((f.rows.take k).map (renumM f.place sn L.toNat) ++ [renumM f.place sn L.toNat f.rows[k]]) ((foundFin f sf).take k)) tab_ok hS ?_ (fun a w13 hS hw => ?_))
  ·obtain ⟨gn, nn, cn, hv⟩ := own_form hvn
   subst hv
   repeat first|refine zP rfl ?_|refine zK rfl ?_
   refine zL rfl (ho.cell (i := 2) rfl) ?_
   repeat first|refine zP rfl ?_|refine zK rfl ?_
   refine o_step rfl rfl rfl ?_
   refine Exists.intro [(0, Vs G L.toNat L.toNat)] (Exists.intro #[Vs G L.toNat L.toNat] (And.intro (And.intro rfl rfl) (And.intro (by decide) (And.intro (fill1 _ _ _ _) ?_))))
   have hy1 := below_alloc w12 (.cells #[Vs G L.toNat L.toNat] 26)
   have ask : AppAsk (w12.alloc (.cells #[Vs G L.toNat L.toNat] 26)) ⟨26, .slice 3, 1, 24, .slice none 0 0⟩ (.slice gn nn cn) ((f.rows.take k).map (renumM f.place sn L.toNat)).length us (Vs w12.heap.size 1 1) 1 [Vs G L.toNat L.toNat] b3 :=
    ⟨hvn.alloc _, .inr ⟨_, 0, _, rfl, cell_alloc_new rfl, trivial⟩, rfl, (by simp [Value.oneCell']), (by rw [hkl]; omega), (by rw [hkl]; show (k + 1) * 24 ≤ _; omega), by have := hy1.size; have := ho.lt; omega⟩
   refine o_step rfl rfl rfl ?_
   refine Exists.intro _ (Exists.intro _ (Exists.intro _ (Exists.intro _ (Exists.intro _ (And.intro (ask) (And.intro (fun _ h => h.symm) (And.intro (by decide) ?_)))))))
   rintro v' w4 hown4 hgr - -
   obtain ⟨g4, n4, c4, hv4⟩ := own_form hown4
   subst hv4
   have hown12' : w12.ownsRow b3 3 1 (Vs G L.toNat L.toNat) (renumM f.place sn L.toNat f.rows[k]).length ((renumM f.place sn L.toNat f.rows[k]).map (Value.int .i64)) := by rw [renumM_len]; exact hown12
   obtain ⟨ho4, hC4⟩ := CopyI.add_row hC12.b ho hve hvn hlu hus hown12' hrenI hgr hown4
   repeat first|refine zP rfl ?_|refine zK rfl ?_
   refine zS rfl rfl (ho4.cell (i := 2) rfl) (ho4.free 2) ?_
   refine o_nil ⟨⟨rfl, rfl, rfl, rfl, rfl, rfl, rfl, trivial⟩, ?_, hC4⟩
   have e1 := below_of_grown (below_trans hb' hy1) hgr (fun q hq => by have := (hvn.lt q hq).1; omega)
   exact below_of_grown e1 (grown_set _ b3 2 _) (fun q hq => by cases hq; exact hb3')
  obtain ⟨hb13, hC13⟩ := hw
  have hfl : ((foundFin f sf).take k).length ≤ 100000000 := by simp [foundFin]; omega
  clear hC12 hown12 hb' ho hve hvn hus hlu
  have hqc : ∀ j (h : j < sf.length), w13.cell? ⟨Q, 0 + j, none⟩ = some (.bool sf[j]) := fun j h => by
   obtain ⟨b, o, ce, hv, hc⟩ := (hMa7.keep hb13).end h
   cases hv
   exact hc
  refine shrunk_r38 (k := k) (r := r) hb13 hb3 (hk7.keep hb13 hk7.lt) (.inr hqc) (hslR.keep hb13 (fun _ _ h => h)) rfl hlt hrv (by omega) hI6.lf hC13 hb3' hfl (by rfl) hS (fun a w14 hS h14 => ?_)
  refine block_normal ?_
  refine then_normal ?_
  refine seq_cut [(1, Vp M), (2, Vp N), (6, Vp K), (11, Vs R f.rows.length cR), (12, Vs S f.place.length cS), (13, Vp b3), (14, Vi (k + 1 : Nat))] (· = w14) tab_ok hS ?_ (fun a w15 hS hw => ?_)
  ·repeat first|refine zP rfl ?_|refine zK rfl ?_
   refine zN rfl (wrap_succ (by omega)) ?_
   repeat first|refine zP rfl ?_|refine zK rfl ?_
   exact o_nil ⟨⟨rfl, rfl, rfl, rfl, rfl, rfl, rfl, trivial⟩, rfl⟩
  subst hw
  refine ⟨f.rows.length - (k + 1), _, by omega, ⟨k + 1, hlt, rfl, rfl, h14.1, ?_⟩, hS⟩
  have e1 : (f.rows.take (k + 1)).map (renumM f.place sn L.toNat) = (f.rows.take k).map (renumM f.place sn L.toNat) ++ [renumM f.place sn L.toNat f.rows[k]] := by
   rw [List.take_succ_eq_append_getElem hlt, List.map_append]; rfl
  have e2 : (foundFin f sf).take (k + 1) = (foundFin f sf).take k ++ [sf.getD r false] := by
   rw [List.take_succ_eq_append_getElem (by simpa [foundFin] using hlt)]
   simp [foundFin, hrv]
  rw [e1, e2]
  exact h14.2
 rintro a w9 ⟨hS, hb9, hC9⟩
 obtain ⟨vn', ve', us, ho, hve, hvn, hlu, hus⟩ := hC9.mem
 have hBw := below_trans hB (below_trans hK7 hb9)
 have hoN' : OwnB w9 N 25 [Vi 0, Vi 0, .slice none 0 0, .slice none 0 0] := hoN.keep (below_trans hK7 hb9) hNc
 refine wp_seq (seq_cut [(2, Vp N)] (· = w9.setCells N 0 [Vi L, Vi 0, vn', ve']) tab_ok hS ?_ (fun a w10 hS hw => ?_))
 ·refine zA ([Vi L, Vi 0, vn', ve']) rfl rfl (⟨ho.cell (i := 0) rfl, ho.cell (i := 1) rfl, ho.cell (i := 2) rfl, ho.cell (i := 3) rfl, trivial⟩) ?_
  refine o_step0 rfl rfl (And.intro rfl (And.intro ?_ (And.intro (own_cells4 hoN') ?_)))
  ·obtain ⟨_, _, _, rfl⟩ := own_form hve
   obtain ⟨_, _, _, rfl⟩ := own_form hvn
   rfl
  exact o_nil ⟨⟨rfl, trivial⟩, rfl⟩
 have hg := grown_sets N [Vi L, Vi 0, vn', ve'] 0 w9
 have hnb : ∀ {e q : Nat} {v : Value} {xs : List Value}, w9.ownsRow b3 e 1 v q xs → e ≠ 25 → v.ownBlock = none ∨ v.ownBlock ≠ some N := fun h he => .inr (fun hh => own_neB h hoN' he hh.symm)
 have hbase : w.heap.size ≤ b3 := by have := (below_trans hB hK7).size; omega
 have hoF : OwnB w10 N 25 [Vi L, Vi 0, vn', ve'] := by rw [hw]; exact hoN'.sets rfl
 have hg : w9.grownBy w10 (some N) := by rw [hw]; exact hg
 have hm10 : OwnM w.heap.size w10 (f.rows.map (renumM f.place sn L.toNat)) (foundFin f sf) vn' ve' :=
  ⟨own_mono (hve.kept hg (hnb hve (by decide))) hbase, us, hlu, own_mono (hvn.kept hg (hnb hvn (by decide))) hbase, fun i hi => by
   obtain ⟨u, h1, h2, h3⟩ := hus i hi
   exact ⟨u, h1, own_mono (h2.kept hg (hnb h2 (by decide))) hbase, h3⟩⟩
 refine wp_ret ?_
 repeat (first | refine then_ret ?_ | refine block_ret ?_)
 refine retc1 tab_ok hS rfl rfl rfl rfl (o := 0) (vs := [Vi L, Vi 0, vn', ve']) ⟨hoF.cell (i := 0) rfl, hoF.cell (i := 1) rfl, hoF.cell (i := 2) rfl, hoF.cell (i := 3) rfl, trivial⟩ rfl ⟨0, vn', ve', _, _, rfl, hm10, ?_, hcn, ?_, ?_⟩
 ·exact below_of_grown hBw hg (fun q hq => by cases hq; exact hNw)
 ·exact hal2.trans hal
 ·simp; omega
end Go.Proofs.Ythcoppfiahnpoaa
namespace Go.Proofs.Ythcoppfiahnpoaa
open Go Sym
end Go.Proofs.Ythcoppfiahnpoaa
namespace Go.Proofs.Ythcoppfiahnpoaa
open Go Sym
end Go.Proofs.Ythcoppfiahnpoaa
namespace Go.Proofs.Ythcoppfiahnpoaa
open Go Sym
theorem en_Shrunk : enters Try.prog 41 = true := by kernel_rfl
end Go.Proofs.Ythcoppfiahnpoaa
namespace Go.Proofs.Ythcoppfiahnpoaa
open Go Sym
end Go.Proofs.Ythcoppfiahnpoaa
namespace Go.Proofs.Ythcoppfiahnpoaa
open Go Sym
theorem OwnM.kept {base : Nat} {w w' : World} {next : List (List Int)} {fin : List Bool} {vn ve : Value} (h : OwnM base w next fin vn ve) (hg : w.grownBy w' none) : OwnM base w' next fin vn ve := by
 obtain ⟨us, h1, h2, h3⟩ := h.n
 exact ⟨h.e.kept hg (none_or _), us, h1, h2.kept hg (none_or _), fun i hi => by
  obtain ⟨u, k1, k2, k3⟩ := h3 i hi
  exact ⟨u, k1, k2.kept hg (none_or _), k3⟩⟩
theorem OwnM.mono {base base' : Nat} {w : World} {next : List (List Int)} {fin : List Bool} {vn ve : Value} (h : OwnM base w next fin vn ve) (hb : base' ≤ base) : OwnM base' w next fin vn ve := by
 obtain ⟨us, h1, h2, h3⟩ := h.n
 exact ⟨own_mono h.e hb, us, h1, own_mono h2 hb, fun i hi => by
  obtain ⟨u, k1, k2, k3⟩ := h3 i hi
  exact ⟨u, k1, own_mono k2 hb, k3⟩⟩
theorem OwnM.sets {base : Nat} {w : World} {next : List (List Int)} {fin : List Bool} {vn ve : Value} (h : OwnM base w next fin vn ve) {X : Nat} {vs : List Value} (hX : OwnB w X 25 vs) (us' : List Value) : OwnM base (w.setCells X 0 us') next fin vn ve := by
 have hg := grown_sets X us' 0 w
 have hnb : ∀ {e q : Nat} {v : Value} {xs : List Value}, w.ownsRow base e 1 v q xs → e ≠ 25 → v.ownBlock = none ∨ v.ownBlock ≠ some X := fun h he => .inr (fun hh => own_neB h hX he hh.symm)
 obtain ⟨us, h1, h2, h3⟩ := h.n
 exact ⟨h.e.kept hg (hnb h.e (by decide)), us, h1, h2.kept hg (hnb h2 (by decide)), fun i hi => by
  obtain ⟨u, k1, k2, k3⟩ := h3 i hi
  exact ⟨u, k1, k2.kept hg (hnb k2 (by decide)), k3⟩⟩
theorem OwnM.forms {base : Nat} {w : World} {next : List (List Int)} {fin : List Bool} {vn ve : Value} (h : OwnM base w next fin vn ve) : (∃ g m c, vn = .slice g m c) ∧ ∃ g m c, ve = .slice g m c := by
 obtain ⟨us, h1, h2, h3⟩ := h.n
 exact ⟨own_form h2, own_form h.e⟩
structure LeastV (base : Nat) (w : World) (X : Nat) (L s : Int) (next : List (List Int)) (fin : List Bool) (s' : Int) (vn' ve' : Value) (n' : List (List Int)) (f' : List Bool) : Prop where
 o : OwnB w X 25 [Vi L, Vi s', vn', ve']
 m : OwnM base w n' f' vn' ve'
 canon : Canon L s' n' f'
 alike : Alike L.toNat n' f' s' next fin s
 len : n'.length ≤ next.length
def DiffV (w0 w : World) (X Y : Nat) (L1 s1 : Int) (n1 : List (List Int)) (f1 : List Bool) (L2 s2 : Int) (n2 : List (List Int)) (f2 : List Bool) : Prop :=
 RowKit.Below w0.heap.size w0 w ∧ (∃ s' vn' ve' n' f', LeastV w0.heap.size w X L1 s1 n1 f1 s' vn' ve' n' f') ∧ ∃ s' vn' ve' n' f', LeastV w0.heap.size w Y L2 s2 n2 f2 s' vn' ve' n' f'
theorem diffV_fin {w0 w : World} {X Y : Nat} {L1 s1 : Int} {n1 : List (List Int)} {f1 : List Bool} {L2 s2 : Int} {n2 : List (List Int)} {f2 : List Bool} {sa sb : Int} {vna vea vnb veb : Value} {na nb : List (List Int)} {fa fb : List Bool} {zs : List Value}
  (hy : RowKit.Below w0.heap.size w0 w) (hX : OwnB w X 25 zs) (hY : OwnB w Y 25 zs) (hz : zs.length = 4) (hne : X ≠ Y) (hXle : w0.heap.size ≤ X) (hYle : w0.heap.size ≤ Y) (hA : OwnM w0.heap.size w na fa vna vea) (hB : OwnM w0.heap.size w nb fb vnb veb)
  (cA : Canon L1 sa na fa) (aA : Alike L1.toNat na fa sa n1 f1 s1) (lA : na.length ≤ n1.length) (cB : Canon L2 sb nb fb) (aB : Alike L2.toNat nb fb sb n2 f2 s2) (lB : nb.length ≤ n2.length) :
  RowKit.Below w0.heap.size w0 (w.setCells X 0 [Vi L1, Vi sa, vna, vea]) ∧ OwnB (w.setCells X 0 [Vi L1, Vi sa, vna, vea]) Y 25 zs ∧
  DiffV w0 ((w.setCells X 0 [Vi L1, Vi sa, vna, vea]).setCells Y 0 [Vi L2, Vi sb, vnb, veb]) X Y L1 s1 n1 f1 L2 s2 n2 f2 := by
 have g1 := grown_sets X [Vi L1, Vi sa, vna, vea] 0 w
 have b1 := below_of_grown hy g1 (fun k hk => by cases hk; exact hXle)
 have hY1 := hY.kept g1 (by simp only [ne_eq, Option.some.injEq]; omega)
 have hX1 : OwnB (w.setCells X 0 [Vi L1, Vi sa, vna, vea]) X 25 [Vi L1, Vi sa, vna, vea] := hX.sets (by rw [hz]; rfl)
 have g2 := grown_sets Y [Vi L2, Vi sb, vnb, veb] 0 (w.setCells X 0 [Vi L1, Vi sa, vna, vea])
 refine ⟨b1, hY1, below_of_grown b1 g2 (fun k hk => by cases hk; exact hYle), ⟨sa, vna, vea, na, fa, hX1.kept g2 (by simp only [ne_eq, Option.some.injEq]; omega), (hA.sets hX _).sets hY1 _, cA, aA, lA⟩, ⟨sb, vnb, veb, nb, fb, hY1.sets (by rw [hz]; rfl), (hB.sets hX _).sets hY1 _, cB, aB, lB⟩⟩
set_option maxHeartbeats 4000000 in
theorem differ_r4 {w : World} {M N : Nat} {L1 s1 L2 s2 : Int} {vn1 ve1 vn2 ve2 ve : Value} {n1 n2 : List (List Int)} {f1 f2 : List Bool} (hx : Box w M L1 s1 vn1 ve1) (hx2 : Box w N L2 s2 vn2 ve2) (hm1 : Ma w L1 s1 n1 f1 vn1 ve1) (hm2 : Ma w L2 s2 n2 f2 vn2 ve2) (hs1 : Shape L1 s1 n1 f1) (hs2 : Shape L2 s2 n2 f2)
  (hL1 : L1 ≤ 300) (hL2 : L2 ≤ 300) (hn1 : n1.length ≤ 4000) (hn2 : n2.length ≤ 4000)
  {Q : Exit → Act → World → Prop} {a : Act} {ops : Array Oper} {id : Nat} (hops : Sym.regionOf Try.f26.body 4 = some (id, ops))
  (hS : St Try.f26.ntmps a [(2, Vp M), (3, Vp N), (7, ve)])
  (hq : ∀ (x : Nat × Nat) (a' : Act) (w' : World), St Try.f26.ntmps a' [(8, Vp x.1), (9, Vp x.2)] → DiffV w w' x.1 x.2 L1 s1 n1 f1 L2 s2 n2 f2 → Q .normal a' w') : (Code.region id ops true).wp Try.prog Q a w := by
 cases hops
 refine any_cutx (α := Nat × Nat) 8 (fun x => [(8, Vp x.1), (9, Vp x.2)]) (fun x w' => DiffV w w' x.1 x.2 L1 s1 n1 f1 L2 s2 n2 f2) mixed hS ?_ hq
 have hy : RowKit.Below w.drew.heap.size w.drew w.drew := RowKit.Below.refl _ _
 refine yT 0 tab_ok rfl (by kernel_rfl) hy rfl (Exists.intro ([Vi L1, Vi s1, vn1, ve1]) (And.intro rfl (And.intro (hx.cells) rfl))) ?_
 refine yT 2 tab_ok rfl (by kernel_rfl) hy rfl (Exists.intro ([Vi L2, Vi s2, vn2, ve2]) (And.intro rfl (And.intro (hx2.cells) rfl))) ?_
 refine y_three 1 4 5 (by kernel_rfl) (y_op 1 tab_ok rfl rfl rfl rfl ?_) (y_op 4 tab_ok rfl rfl rfl rfl ?_) (y_op 5 tab_ok rfl rfl rfl rfl ?_)
 ·
  refine And.intro en_Shrunk ((shrunk_any L1 s1 vn1 ve1 n1 f1 _ (hm1.keep (undrew hy)) hs1 (by omega) (by omega)).mono ?_)
  rintro e wA2 ⟨sa, vna, vea, na, fa, rfl, hA0, hA1, cA, aA, lA⟩
  refine ⟨_, rfl, ?_⟩
  have hy1 := below_trans hy hA1
  refine And.intro (.inr hy1) ?_
  have hA : OwnM w.heap.size wA2 _ _ _ _ := hA0.mono hy.size
  obtain ⟨⟨ga1, ma1, ca1, hv1⟩, ga2, ma2, ca2, hv2⟩ := hA.forms
  subst hv1 hv2
  refine y_three 3 4 5 (by kernel_rfl) (y_op 3 tab_ok rfl rfl rfl rfl ?_) (y_op 4 tab_ok rfl rfl rfl rfl ?_) (y_op 5 tab_ok rfl rfl rfl rfl ?_)
  ·
   refine And.intro en_Shrunk ((shrunk_any L2 s2 vn2 ve2 n2 f2 _ (hm2.keep (undrew hy1)) hs2 (by omega) (by omega)).mono ?_)
   rintro e wB4 ⟨sb, vnb, veb, nb, fb, rfl, hB0, hB1, cB, aB, lB⟩
   refine ⟨_, rfl, ?_⟩
   have hy3 := below_trans hy1 hB1
   refine And.intro (.inr hy3) ?_
   have hB : OwnM w.heap.size wB4 _ _ _ _ := hB0.mono hy1.size
   obtain ⟨⟨gb1, mb1, cb1, hv1⟩, gb2, mb2, cb2, hv2⟩ := hB.forms
   subst hv1 hv2
   replace hA := hA.kept (grown_below hB1)
   refine y_two 4 5 (by kernel_rfl) (y_op 4 tab_ok rfl rfl rfl rfl ?_) (y_op 5 tab_ok rfl rfl rfl rfl ?_)
   ·
    have hy5 := hy3.alloc hy3.size (.cells #[Vi 0, Vi 0, .slice none 0 0, .slice none 0 0] 25)
    refine And.intro (.inr hy5) ?_
    have hX := OwnB.new (wB4) [Vi 0, Vi 0, .slice none 0 0, .slice none 0 0] 25
    have hXle : w.heap.size ≤ (wB4).heap.size := hy3.size
    replace hA := hA.kept (grown_alloc _ (.cells #[Vi 0, Vi 0, .slice none 0 0, .slice none 0 0] 25))
    replace hB := hB.kept (grown_alloc _ (.cells #[Vi 0, Vi 0, .slice none 0 0, .slice none 0 0] 25))
    refine y_one 5 (by kernel_rfl) (y_op 5 tab_ok rfl rfl rfl rfl ?_)
    have hy6 := hy5.alloc hy5.size (.cells #[Vi 0, Vi 0, .slice none 0 0, .slice none 0 0] 25)
    refine And.intro (.inr hy6) ?_
    have hY := OwnB.new ((wB4).alloc (.cells #[Vi 0, Vi 0, .slice none 0 0, .slice none 0 0] 25)) [Vi 0, Vi 0, .slice none 0 0, .slice none 0 0] 25
    have hYle : w.heap.size ≤ ((wB4).alloc (.cells #[Vi 0, Vi 0, .slice none 0 0, .slice none 0 0] 25)).heap.size := hy5.size
    have hne : (wB4).heap.size ≠ ((wB4).alloc (.cells #[Vi 0, Vi 0, .slice none 0 0, .slice none 0 0] 25)).heap.size := by have := hX.lt; omega
    replace hX := OwnB.kept (row := none) hX (grown_alloc _ (.cells #[Vi 0, Vi 0, .slice none 0 0, .slice none 0 0] 25)) (by simp)
    replace hA := hA.kept (grown_alloc _ (.cells #[Vi 0, Vi 0, .slice none 0 0, .slice none 0 0] 25))
    replace hB := hB.kept (grown_alloc _ (.cells #[Vi 0, Vi 0, .slice none 0 0, .slice none 0 0] 25))
    obtain ⟨b6, hY6, fin⟩ := diffV_fin (undrew hy6) hX hY rfl hne hXle hYle hA hB cA aA lA cB aB lB
    have hy6 := below_of_grown hy6 (grown_sets ((wB4).heap.size) [Vi L1, Vi sa, .slice ga1 ma1 ca1, .slice ga2 ma2 ca2] 0 (((wB4).alloc (.cells #[Vi 0, Vi 0, .slice none 0 0, .slice none 0 0] 25)).alloc (.cells #[Vi 0, Vi 0, .slice none 0 0, .slice none 0 0] 25))) (fun k hk => by cases hk; exact hXle)
    have hy7 := below_of_grown hy6 (grown_sets (((wB4).alloc (.cells #[Vi 0, Vi 0, .slice none 0 0, .slice none 0 0] 25)).heap.size) [Vi L2, Vi sb, .slice gb1 mb1 cb1, .slice gb2 mb2 cb2] 0 _) (fun k hk => by cases hk; exact hYle)
    refine y_one 6 (by kernel_rfl) (y_op0 6 tab_ok rfl rfl rfl ?_)
    refine And.intro rfl (And.intro rfl (And.intro (own_cells4 hX) (And.intro (.inr hy6) ?_)))
    refine y_one 7 (by kernel_rfl) (y_op0 7 tab_ok rfl rfl rfl ?_)
    refine And.intro rfl (And.intro rfl (And.intro (own_cells4 hY6) (And.intro (.inr hy7) ?_)))
    exact y_endx (_, _) (by kernel_rfl) ⟨rfl, rfl, trivial⟩ fin
   ·
    have hy7 := hy3.alloc hy3.size (.cells #[Vi 0, Vi 0, .slice none 0 0, .slice none 0 0] 25)
    refine And.intro (.inr hy7) ?_
    have hY := OwnB.new (wB4) [Vi 0, Vi 0, .slice none 0 0, .slice none 0 0] 25
    have hYle : w.heap.size ≤ (wB4).heap.size := hy3.size
    replace hA := hA.kept (grown_alloc _ (.cells #[Vi 0, Vi 0, .slice none 0 0, .slice none 0 0] 25))
    replace hB := hB.kept (grown_alloc _ (.cells #[Vi 0, Vi 0, .slice none 0 0, .slice none 0 0] 25))
    refine y_one 4 (by kernel_rfl) (y_op 4 tab_ok rfl rfl rfl rfl ?_)
    have hy8 := hy7.alloc hy7.size (.cells #[Vi 0, Vi 0, .slice none 0 0, .slice none 0 0] 25)
    refine And.intro (.inr hy8) ?_
    have hX := OwnB.new ((wB4).alloc (.cells #[Vi 0, Vi 0, .slice none 0 0, .slice none 0 0] 25)) [Vi 0, Vi 0, .slice none 0 0, .slice none 0 0] 25
    have hXle : w.heap.size ≤ ((wB4).alloc (.cells #[Vi 0, Vi 0, .slice none 0 0, .slice none 0 0] 25)).heap.size := hy7.size
    have hne : ((wB4).alloc (.cells #[Vi 0, Vi 0, .slice none 0 0, .slice none 0 0] 25)).heap.size ≠ (wB4).heap.size := by have := hY.lt; omega
    replace hY := OwnB.kept (row := none) hY (grown_alloc _ (.cells #[Vi 0, Vi 0, .slice none 0 0, .slice none 0 0] 25)) (by simp)
    replace hA := hA.kept (grown_alloc _ (.cells #[Vi 0, Vi 0, .slice none 0 0, .slice none 0 0] 25))
    replace hB := hB.kept (grown_alloc _ (.cells #[Vi 0, Vi 0, .slice none 0 0, .slice none 0 0] 25))
    obtain ⟨b6, hY6, fin⟩ := diffV_fin (undrew hy8) hX hY rfl hne hXle hYle hA hB cA aA lA cB aB lB
    have hy6 := below_of_grown hy8 (grown_sets (((wB4).alloc (.cells #[Vi 0, Vi 0, .slice none 0 0, .slice none 0 0] 25)).heap.size) [Vi L1, Vi sa, .slice ga1 ma1 ca1, .slice ga2 ma2 ca2] 0 (((wB4).alloc (.cells #[Vi 0, Vi 0, .slice none 0 0, .slice none 0 0] 25)).alloc (.cells #[Vi 0, Vi 0, .slice none 0 0, .slice none 0 0] 25))) (fun k hk => by cases hk; exact hXle)
    have hy7 := below_of_grown hy6 (grown_sets ((wB4).heap.size) [Vi L2, Vi sb, .slice gb1 mb1 cb1, .slice gb2 mb2 cb2] 0 _) (fun k hk => by cases hk; exact hYle)
    refine y_one 6 (by kernel_rfl) (y_op0 6 tab_ok rfl rfl rfl ?_)
    refine And.intro rfl (And.intro rfl (And.intro (own_cells4 hX) (And.intro (.inr hy6) ?_)))
    refine y_one 7 (by kernel_rfl) (y_op0 7 tab_ok rfl rfl rfl ?_)
    refine And.intro rfl (And.intro rfl (And.intro (own_cells4 hY6) (And.intro (.inr hy7) ?_)))
    exact y_endx (_, _) (by kernel_rfl) ⟨rfl, rfl, trivial⟩ fin
  ·
   have hy9 := hy1.alloc hy1.size (.cells #[Vi 0, Vi 0, .slice none 0 0, .slice none 0 0] 25)
   refine And.intro (.inr hy9) ?_
   have hX := OwnB.new (wA2) [Vi 0, Vi 0, .slice none 0 0, .slice none 0 0] 25
   have hXle : w.heap.size ≤ (wA2).heap.size := hy1.size
   replace hA := hA.kept (grown_alloc _ (.cells #[Vi 0, Vi 0, .slice none 0 0, .slice none 0 0] 25))
   refine y_two 3 5 (by kernel_rfl) (y_op 3 tab_ok rfl rfl rfl rfl ?_) (y_op 5 tab_ok rfl rfl rfl rfl ?_)
   ·
    refine And.intro en_Shrunk ((shrunk_any L2 s2 vn2 ve2 n2 f2 _ (hm2.keep (undrew hy9)) hs2 (by omega) (by omega)).mono ?_)
    rintro e wB11 ⟨sb, vnb, veb, nb, fb, rfl, hB0, hB1, cB, aB, lB⟩
    refine ⟨_, rfl, ?_⟩
    have hy10 := below_trans hy9 hB1
    refine And.intro (.inr hy10) ?_
    have hB : OwnM w.heap.size wB11 _ _ _ _ := hB0.mono hy9.size
    obtain ⟨⟨gb1, mb1, cb1, hv1⟩, gb2, mb2, cb2, hv2⟩ := hB.forms
    subst hv1 hv2
    replace hA := hA.kept (grown_below hB1)
    replace hX := hX.keep hB1 hX.lt
    refine y_one 5 (by kernel_rfl) (y_op 5 tab_ok rfl rfl rfl rfl ?_)
    have hy12 := hy10.alloc hy10.size (.cells #[Vi 0, Vi 0, .slice none 0 0, .slice none 0 0] 25)
    refine And.intro (.inr hy12) ?_
    have hY := OwnB.new (wB11) [Vi 0, Vi 0, .slice none 0 0, .slice none 0 0] 25
    have hYle : w.heap.size ≤ (wB11).heap.size := hy10.size
    have hne : (wA2).heap.size ≠ (wB11).heap.size := by have := hX.lt; omega
    replace hX := OwnB.kept (row := none) hX (grown_alloc _ (.cells #[Vi 0, Vi 0, .slice none 0 0, .slice none 0 0] 25)) (by simp)
    replace hA := hA.kept (grown_alloc _ (.cells #[Vi 0, Vi 0, .slice none 0 0, .slice none 0 0] 25))
    replace hB := hB.kept (grown_alloc _ (.cells #[Vi 0, Vi 0, .slice none 0 0, .slice none 0 0] 25))
    obtain ⟨b6, hY6, fin⟩ := diffV_fin (undrew hy12) hX hY rfl hne hXle hYle hA hB cA aA lA cB aB lB
    have hy6 := below_of_grown hy12 (grown_sets ((wA2).heap.size) [Vi L1, Vi sa, .slice ga1 ma1 ca1, .slice ga2 ma2 ca2] 0 ((wB11).alloc (.cells #[Vi 0, Vi 0, .slice none 0 0, .slice none 0 0] 25))) (fun k hk => by cases hk; exact hXle)
    have hy7 := below_of_grown hy6 (grown_sets ((wB11).heap.size) [Vi L2, Vi sb, .slice gb1 mb1 cb1, .slice gb2 mb2 cb2] 0 _) (fun k hk => by cases hk; exact hYle)
    refine y_one 6 (by kernel_rfl) (y_op0 6 tab_ok rfl rfl rfl ?_)
    refine And.intro rfl (And.intro rfl (And.intro (own_cells4 hX) (And.intro (.inr hy6) ?_)))
    refine y_one 7 (by kernel_rfl) (y_op0 7 tab_ok rfl rfl rfl ?_)
    refine And.intro rfl (And.intro rfl (And.intro (own_cells4 hY6) (And.intro (.inr hy7) ?_)))
    exact y_endx (_, _) (by kernel_rfl) ⟨rfl, rfl, trivial⟩ fin
   ·
    have hy13 := hy9.alloc hy9.size (.cells #[Vi 0, Vi 0, .slice none 0 0, .slice none 0 0] 25)
    refine And.intro (.inr hy13) ?_
    have hY := OwnB.new ((wA2).alloc (.cells #[Vi 0, Vi 0, .slice none 0 0, .slice none 0 0] 25)) [Vi 0, Vi 0, .slice none 0 0, .slice none 0 0] 25
    have hYle : w.heap.size ≤ ((wA2).alloc (.cells #[Vi 0, Vi 0, .slice none 0 0, .slice none 0 0] 25)).heap.size := hy9.size
    have hne : (wA2).heap.size ≠ ((wA2).alloc (.cells #[Vi 0, Vi 0, .slice none 0 0, .slice none 0 0] 25)).heap.size := by have := hX.lt; omega
    replace hX := OwnB.kept (row := none) hX (grown_alloc _ (.cells #[Vi 0, Vi 0, .slice none 0 0, .slice none 0 0] 25)) (by simp)
    replace hA := hA.kept (grown_alloc _ (.cells #[Vi 0, Vi 0, .slice none 0 0, .slice none 0 0] 25))
    refine y_one 3 (by kernel_rfl) (y_op 3 tab_ok rfl rfl rfl rfl ?_)
    refine And.intro en_Shrunk ((shrunk_any L2 s2 vn2 ve2 n2 f2 _ (hm2.keep (undrew hy13)) hs2 (by omega) (by omega)).mono ?_)
    rintro e wB15 ⟨sb, vnb, veb, nb, fb, rfl, hB0, hB1, cB, aB, lB⟩
    refine ⟨_, rfl, ?_⟩
    have hy14 := below_trans hy13 hB1
    refine And.intro (.inr hy14) ?_
    have hB : OwnM w.heap.size wB15 _ _ _ _ := hB0.mono hy13.size
    obtain ⟨⟨gb1, mb1, cb1, hv1⟩, gb2, mb2, cb2, hv2⟩ := hB.forms
    subst hv1 hv2
    replace hA := hA.kept (grown_below hB1)
    replace hX := hX.keep hB1 hX.lt
    replace hY := hY.keep hB1 hY.lt
    obtain ⟨b6, hY6, fin⟩ := diffV_fin (undrew hy14) hX hY rfl hne hXle hYle hA hB cA aA lA cB aB lB
    have hy6 := below_of_grown hy14 (grown_sets ((wA2).heap.size) [Vi L1, Vi sa, .slice ga1 ma1 ca1, .slice ga2 ma2 ca2] 0 (wB15)) (fun k hk => by cases hk; exact hXle)
    have hy7 := below_of_grown hy6 (grown_sets (((wA2).alloc (.cells #[Vi 0, Vi 0, .slice none 0 0, .slice none 0 0] 25)).heap.size) [Vi L2, Vi sb, .slice gb1 mb1 cb1, .slice gb2 mb2 cb2] 0 _) (fun k hk => by cases hk; exact hYle)
    refine y_one 6 (by kernel_rfl) (y_op0 6 tab_ok rfl rfl rfl ?_)
    refine And.intro rfl (And.intro rfl (And.intro (own_cells4 hX) (And.intro (.inr hy6) ?_)))
    refine y_one 7 (by kernel_rfl) (y_op0 7 tab_ok rfl rfl rfl ?_)
    refine And.intro rfl (And.intro rfl (And.intro (own_cells4 hY6) (And.intro (.inr hy7) ?_)))
    exact y_endx (_, _) (by kernel_rfl) ⟨rfl, rfl, trivial⟩ fin
  ·
   have hy16 := hy1.alloc hy1.size (.cells #[Vi 0, Vi 0, .slice none 0 0, .slice none 0 0] 25)
   refine And.intro (.inr hy16) ?_
   have hY := OwnB.new (wA2) [Vi 0, Vi 0, .slice none 0 0, .slice none 0 0] 25
   have hYle : w.heap.size ≤ (wA2).heap.size := hy1.size
   replace hA := hA.kept (grown_alloc _ (.cells #[Vi 0, Vi 0, .slice none 0 0, .slice none 0 0] 25))
   refine y_two 3 4 (by kernel_rfl) (y_op 3 tab_ok rfl rfl rfl rfl ?_) (y_op 4 tab_ok rfl rfl rfl rfl ?_)
   ·
    refine And.intro en_Shrunk ((shrunk_any L2 s2 vn2 ve2 n2 f2 _ (hm2.keep (undrew hy16)) hs2 (by omega) (by omega)).mono ?_)
    rintro e wB18 ⟨sb, vnb, veb, nb, fb, rfl, hB0, hB1, cB, aB, lB⟩
    refine ⟨_, rfl, ?_⟩
    have hy17 := below_trans hy16 hB1
    refine And.intro (.inr hy17) ?_
    have hB : OwnM w.heap.size wB18 _ _ _ _ := hB0.mono hy16.size
    obtain ⟨⟨gb1, mb1, cb1, hv1⟩, gb2, mb2, cb2, hv2⟩ := hB.forms
    subst hv1 hv2
    replace hA := hA.kept (grown_below hB1)
    replace hY := hY.keep hB1 hY.lt
    refine y_one 4 (by kernel_rfl) (y_op 4 tab_ok rfl rfl rfl rfl ?_)
    have hy19 := hy17.alloc hy17.size (.cells #[Vi 0, Vi 0, .slice none 0 0, .slice none 0 0] 25)
    refine And.intro (.inr hy19) ?_
    have hX := OwnB.new (wB18) [Vi 0, Vi 0, .slice none 0 0, .slice none 0 0] 25
    have hXle : w.heap.size ≤ (wB18).heap.size := hy17.size
    have hne : (wB18).heap.size ≠ (wA2).heap.size := by have := hY.lt; omega
    replace hY := OwnB.kept (row := none) hY (grown_alloc _ (.cells #[Vi 0, Vi 0, .slice none 0 0, .slice none 0 0] 25)) (by simp)
    replace hA := hA.kept (grown_alloc _ (.cells #[Vi 0, Vi 0, .slice none 0 0, .slice none 0 0] 25))
    replace hB := hB.kept (grown_alloc _ (.cells #[Vi 0, Vi 0, .slice none 0 0, .slice none 0 0] 25))
    obtain ⟨b6, hY6, fin⟩ := diffV_fin (undrew hy19) hX hY rfl hne hXle hYle hA hB cA aA lA cB aB lB
    have hy6 := below_of_grown hy19 (grown_sets ((wB18).heap.size) [Vi L1, Vi sa, .slice ga1 ma1 ca1, .slice ga2 ma2 ca2] 0 ((wB18).alloc (.cells #[Vi 0, Vi 0, .slice none 0 0, .slice none 0 0] 25))) (fun k hk => by cases hk; exact hXle)
    have hy7 := below_of_grown hy6 (grown_sets ((wA2).heap.size) [Vi L2, Vi sb, .slice gb1 mb1 cb1, .slice gb2 mb2 cb2] 0 _) (fun k hk => by cases hk; exact hYle)
    refine y_one 6 (by kernel_rfl) (y_op0 6 tab_ok rfl rfl rfl ?_)
    refine And.intro rfl (And.intro rfl (And.intro (own_cells4 hX) (And.intro (.inr hy6) ?_)))
    refine y_one 7 (by kernel_rfl) (y_op0 7 tab_ok rfl rfl rfl ?_)
    refine And.intro rfl (And.intro rfl (And.intro (own_cells4 hY6) (And.intro (.inr hy7) ?_)))
    exact y_endx (_, _) (by kernel_rfl) ⟨rfl, rfl, trivial⟩ fin
   ·
    have hy20 := hy16.alloc hy16.size (.cells #[Vi 0, Vi 0, .slice none 0 0, .slice none 0 0] 25)
    refine And.intro (.inr hy20) ?_
    have hX := OwnB.new ((wA2).alloc (.cells #[Vi 0, Vi 0, .slice none 0 0, .slice none 0 0] 25)) [Vi 0, Vi 0, .slice none 0 0, .slice none 0 0] 25
    have hXle : w.heap.size ≤ ((wA2).alloc (.cells #[Vi 0, Vi 0, .slice none 0 0, .slice none 0 0] 25)).heap.size := hy16.size
    have hne : ((wA2).alloc (.cells #[Vi 0, Vi 0, .slice none 0 0, .slice none 0 0] 25)).heap.size ≠ (wA2).heap.size := by have := hY.lt; omega
    replace hY := OwnB.kept (row := none) hY (grown_alloc _ (.cells #[Vi 0, Vi 0, .slice none 0 0, .slice none 0 0] 25)) (by simp)
    replace hA := hA.kept (grown_alloc _ (.cells #[Vi 0, Vi 0, .slice none 0 0, .slice none 0 0] 25))
    refine y_one 3 (by kernel_rfl) (y_op 3 tab_ok rfl rfl rfl rfl ?_)
    refine And.intro en_Shrunk ((shrunk_any L2 s2 vn2 ve2 n2 f2 _ (hm2.keep (undrew hy20)) hs2 (by omega) (by omega)).mono ?_)
    rintro e wB22 ⟨sb, vnb, veb, nb, fb, rfl, hB0, hB1, cB, aB, lB⟩
    refine ⟨_, rfl, ?_⟩
    have hy21 := below_trans hy20 hB1
    refine And.intro (.inr hy21) ?_
    have hB : OwnM w.heap.size wB22 _ _ _ _ := hB0.mono hy20.size
    obtain ⟨⟨gb1, mb1, cb1, hv1⟩, gb2, mb2, cb2, hv2⟩ := hB.forms
    subst hv1 hv2
    replace hA := hA.kept (grown_below hB1)
    replace hX := hX.keep hB1 hX.lt
    replace hY := hY.keep hB1 hY.lt
    obtain ⟨b6, hY6, fin⟩ := diffV_fin (undrew hy21) hX hY rfl hne hXle hYle hA hB cA aA lA cB aB lB
    have hy6 := below_of_grown hy21 (grown_sets (((wA2).alloc (.cells #[Vi 0, Vi 0, .slice none 0 0, .slice none 0 0] 25)).heap.size) [Vi L1, Vi sa, .slice ga1 ma1 ca1, .slice ga2 ma2 ca2] 0 (wB22)) (fun k hk => by cases hk; exact hXle)
    have hy7 := below_of_grown hy6 (grown_sets ((wA2).heap.size) [Vi L2, Vi sb, .slice gb1 mb1 cb1, .slice gb2 mb2 cb2] 0 _) (fun k hk => by cases hk; exact hYle)
    refine y_one 6 (by kernel_rfl) (y_op0 6 tab_ok rfl rfl rfl ?_)
    refine And.intro rfl (And.intro rfl (And.intro (own_cells4 hX) (And.intro (.inr hy6) ?_)))
    refine y_one 7 (by kernel_rfl) (y_op0 7 tab_ok rfl rfl rfl ?_)
    refine And.intro rfl (And.intro rfl (And.intro (own_cells4 hY6) (And.intro (.inr hy7) ?_)))
    exact y_endx (_, _) (by kernel_rfl) ⟨rfl, rfl, trivial⟩ fin
 ·
  have hy23 := hy.alloc hy.size (.cells #[Vi 0, Vi 0, .slice none 0 0, .slice none 0 0] 25)
  refine And.intro (.inr hy23) ?_
  have hX := OwnB.new (w.drew) [Vi 0, Vi 0, .slice none 0 0, .slice none 0 0] 25
  have hXle : w.heap.size ≤ (w.drew).heap.size := hy.size
  refine y_two 1 5 (by kernel_rfl) (y_op 1 tab_ok rfl rfl rfl rfl ?_) (y_op 5 tab_ok rfl rfl rfl rfl ?_)
  ·
   refine And.intro en_Shrunk ((shrunk_any L1 s1 vn1 ve1 n1 f1 _ (hm1.keep (undrew hy23)) hs1 (by omega) (by omega)).mono ?_)
   rintro e wA25 ⟨sa, vna, vea, na, fa, rfl, hA0, hA1, cA, aA, lA⟩
   refine ⟨_, rfl, ?_⟩
   have hy24 := below_trans hy23 hA1
   refine And.intro (.inr hy24) ?_
   have hA : OwnM w.heap.size wA25 _ _ _ _ := hA0.mono hy23.size
   obtain ⟨⟨ga1, ma1, ca1, hv1⟩, ga2, ma2, ca2, hv2⟩ := hA.forms
   subst hv1 hv2
   replace hX := hX.keep hA1 hX.lt
   refine y_two 3 5 (by kernel_rfl) (y_op 3 tab_ok rfl rfl rfl rfl ?_) (y_op 5 tab_ok rfl rfl rfl rfl ?_)
   ·
    refine And.intro en_Shrunk ((shrunk_any L2 s2 vn2 ve2 n2 f2 _ (hm2.keep (undrew hy24)) hs2 (by omega) (by omega)).mono ?_)
    rintro e wB27 ⟨sb, vnb, veb, nb, fb, rfl, hB0, hB1, cB, aB, lB⟩
    refine ⟨_, rfl, ?_⟩
    have hy26 := below_trans hy24 hB1
    refine And.intro (.inr hy26) ?_
    have hB : OwnM w.heap.size wB27 _ _ _ _ := hB0.mono hy24.size
    obtain ⟨⟨gb1, mb1, cb1, hv1⟩, gb2, mb2, cb2, hv2⟩ := hB.forms
    subst hv1 hv2
    replace hA := hA.kept (grown_below hB1)
    replace hX := hX.keep hB1 hX.lt
    refine y_one 5 (by kernel_rfl) (y_op 5 tab_ok rfl rfl rfl rfl ?_)
    have hy28 := hy26.alloc hy26.size (.cells #[Vi 0, Vi 0, .slice none 0 0, .slice none 0 0] 25)
    refine And.intro (.inr hy28) ?_
    have hY := OwnB.new (wB27) [Vi 0, Vi 0, .slice none 0 0, .slice none 0 0] 25
    have hYle : w.heap.size ≤ (wB27).heap.size := hy26.size
    have hne : (w.drew).heap.size ≠ (wB27).heap.size := by have := hX.lt; omega
    replace hX := OwnB.kept (row := none) hX (grown_alloc _ (.cells #[Vi 0, Vi 0, .slice none 0 0, .slice none 0 0] 25)) (by simp)
    replace hA := hA.kept (grown_alloc _ (.cells #[Vi 0, Vi 0, .slice none 0 0, .slice none 0 0] 25))
    replace hB := hB.kept (grown_alloc _ (.cells #[Vi 0, Vi 0, .slice none 0 0, .slice none 0 0] 25))
    obtain ⟨b6, hY6, fin⟩ := diffV_fin (undrew hy28) hX hY rfl hne hXle hYle hA hB cA aA lA cB aB lB
    have hy6 := below_of_grown hy28 (grown_sets ((w.drew).heap.size) [Vi L1, Vi sa, .slice ga1 ma1 ca1, .slice ga2 ma2 ca2] 0 ((wB27).alloc (.cells #[Vi 0, Vi 0, .slice none 0 0, .slice none 0 0] 25))) (fun k hk => by cases hk; exact hXle)
    have hy7 := below_of_grown hy6 (grown_sets ((wB27).heap.size) [Vi L2, Vi sb, .slice gb1 mb1 cb1, .slice gb2 mb2 cb2] 0 _) (fun k hk => by cases hk; exact hYle)
    refine y_one 6 (by kernel_rfl) (y_op0 6 tab_ok rfl rfl rfl ?_)
    refine And.intro rfl (And.intro rfl (And.intro (own_cells4 hX) (And.intro (.inr hy6) ?_)))
    refine y_one 7 (by kernel_rfl) (y_op0 7 tab_ok rfl rfl rfl ?_)
    refine And.intro rfl (And.intro rfl (And.intro (own_cells4 hY6) (And.intro (.inr hy7) ?_)))
    exact y_endx (_, _) (by kernel_rfl) ⟨rfl, rfl, trivial⟩ fin
   ·
    have hy29 := hy24.alloc hy24.size (.cells #[Vi 0, Vi 0, .slice none 0 0, .slice none 0 0] 25)
    refine And.intro (.inr hy29) ?_
    have hY := OwnB.new (wA25) [Vi 0, Vi 0, .slice none 0 0, .slice none 0 0] 25
    have hYle : w.heap.size ≤ (wA25).heap.size := hy24.size
    have hne : (w.drew).heap.size ≠ (wA25).heap.size := by have := hX.lt; omega
    replace hX := OwnB.kept (row := none) hX (grown_alloc _ (.cells #[Vi 0, Vi 0, .slice none 0 0, .slice none 0 0] 25)) (by simp)
    replace hA := hA.kept (grown_alloc _ (.cells #[Vi 0, Vi 0, .slice none 0 0, .slice none 0 0] 25))
    refine y_one 3 (by kernel_rfl) (y_op 3 tab_ok rfl rfl rfl rfl ?_)
    refine And.intro en_Shrunk ((shrunk_any L2 s2 vn2 ve2 n2 f2 _ (hm2.keep (undrew hy29)) hs2 (by omega) (by omega)).mono ?_)
    rintro e wB31 ⟨sb, vnb, veb, nb, fb, rfl, hB0, hB1, cB, aB, lB⟩
    refine ⟨_, rfl, ?_⟩
    have hy30 := below_trans hy29 hB1
    refine And.intro (.inr hy30) ?_
    have hB : OwnM w.heap.size wB31 _ _ _ _ := hB0.mono hy29.size
    obtain ⟨⟨gb1, mb1, cb1, hv1⟩, gb2, mb2, cb2, hv2⟩ := hB.forms
    subst hv1 hv2
    replace hA := hA.kept (grown_below hB1)
    replace hX := hX.keep hB1 hX.lt
    replace hY := hY.keep hB1 hY.lt
    obtain ⟨b6, hY6, fin⟩ := diffV_fin (undrew hy30) hX hY rfl hne hXle hYle hA hB cA aA lA cB aB lB
    have hy6 := below_of_grown hy30 (grown_sets ((w.drew).heap.size) [Vi L1, Vi sa, .slice ga1 ma1 ca1, .slice ga2 ma2 ca2] 0 (wB31)) (fun k hk => by cases hk; exact hXle)
    have hy7 := below_of_grown hy6 (grown_sets ((wA25).heap.size) [Vi L2, Vi sb, .slice gb1 mb1 cb1, .slice gb2 mb2 cb2] 0 _) (fun k hk => by cases hk; exact hYle)
    refine y_one 6 (by kernel_rfl) (y_op0 6 tab_ok rfl rfl rfl ?_)
    refine And.intro rfl (And.intro rfl (And.intro (own_cells4 hX) (And.intro (.inr hy6) ?_)))
    refine y_one 7 (by kernel_rfl) (y_op0 7 tab_ok rfl rfl rfl ?_)
    refine And.intro rfl (And.intro rfl (And.intro (own_cells4 hY6) (And.intro (.inr hy7) ?_)))
    exact y_endx (_, _) (by kernel_rfl) ⟨rfl, rfl, trivial⟩ fin
  ·
   have hy32 := hy23.alloc hy23.size (.cells #[Vi 0, Vi 0, .slice none 0 0, .slice none 0 0] 25)
   refine And.intro (.inr hy32) ?_
   have hY := OwnB.new ((w.drew).alloc (.cells #[Vi 0, Vi 0, .slice none 0 0, .slice none 0 0] 25)) [Vi 0, Vi 0, .slice none 0 0, .slice none 0 0] 25
   have hYle : w.heap.size ≤ ((w.drew).alloc (.cells #[Vi 0, Vi 0, .slice none 0 0, .slice none 0 0] 25)).heap.size := hy23.size
   have hne : (w.drew).heap.size ≠ ((w.drew).alloc (.cells #[Vi 0, Vi 0, .slice none 0 0, .slice none 0 0] 25)).heap.size := by have := hX.lt; omega
   replace hX := OwnB.kept (row := none) hX (grown_alloc _ (.cells #[Vi 0, Vi 0, .slice none 0 0, .slice none 0 0] 25)) (by simp)
   refine y_one 1 (by kernel_rfl) (y_op 1 tab_ok rfl rfl rfl rfl ?_)
   refine And.intro en_Shrunk ((shrunk_any L1 s1 vn1 ve1 n1 f1 _ (hm1.keep (undrew hy32)) hs1 (by omega) (by omega)).mono ?_)
   rintro e wA34 ⟨sa, vna, vea, na, fa, rfl, hA0, hA1, cA, aA, lA⟩
   refine ⟨_, rfl, ?_⟩
   have hy33 := below_trans hy32 hA1
   refine And.intro (.inr hy33) ?_
   have hA : OwnM w.heap.size wA34 _ _ _ _ := hA0.mono hy32.size
   obtain ⟨⟨ga1, ma1, ca1, hv1⟩, ga2, ma2, ca2, hv2⟩ := hA.forms
   subst hv1 hv2
   replace hX := hX.keep hA1 hX.lt
   replace hY := hY.keep hA1 hY.lt
   refine y_one 3 (by kernel_rfl) (y_op 3 tab_ok rfl rfl rfl rfl ?_)
   refine And.intro en_Shrunk ((shrunk_any L2 s2 vn2 ve2 n2 f2 _ (hm2.keep (undrew hy33)) hs2 (by omega) (by omega)).mono ?_)
   rintro e wB36 ⟨sb, vnb, veb, nb, fb, rfl, hB0, hB1, cB, aB, lB⟩
   refine ⟨_, rfl, ?_⟩
   have hy35 := below_trans hy33 hB1
   refine And.intro (.inr hy35) ?_
   have hB : OwnM w.heap.size wB36 _ _ _ _ := hB0.mono hy33.size
   obtain ⟨⟨gb1, mb1, cb1, hv1⟩, gb2, mb2, cb2, hv2⟩ := hB.forms
   subst hv1 hv2
   replace hA := hA.kept (grown_below hB1)
   replace hX := hX.keep hB1 hX.lt
   replace hY := hY.keep hB1 hY.lt
   obtain ⟨b6, hY6, fin⟩ := diffV_fin (undrew hy35) hX hY rfl hne hXle hYle hA hB cA aA lA cB aB lB
   have hy6 := below_of_grown hy35 (grown_sets ((w.drew).heap.size) [Vi L1, Vi sa, .slice ga1 ma1 ca1, .slice ga2 ma2 ca2] 0 (wB36)) (fun k hk => by cases hk; exact hXle)
   have hy7 := below_of_grown hy6 (grown_sets (((w.drew).alloc (.cells #[Vi 0, Vi 0, .slice none 0 0, .slice none 0 0] 25)).heap.size) [Vi L2, Vi sb, .slice gb1 mb1 cb1, .slice gb2 mb2 cb2] 0 _) (fun k hk => by cases hk; exact hYle)
   refine y_one 6 (by kernel_rfl) (y_op0 6 tab_ok rfl rfl rfl ?_)
   refine And.intro rfl (And.intro rfl (And.intro (own_cells4 hX) (And.intro (.inr hy6) ?_)))
   refine y_one 7 (by kernel_rfl) (y_op0 7 tab_ok rfl rfl rfl ?_)
   refine And.intro rfl (And.intro rfl (And.intro (own_cells4 hY6) (And.intro (.inr hy7) ?_)))
   exact y_endx (_, _) (by kernel_rfl) ⟨rfl, rfl, trivial⟩ fin
 ·
  have hy37 := hy.alloc hy.size (.cells #[Vi 0, Vi 0, .slice none 0 0, .slice none 0 0] 25)
  refine And.intro (.inr hy37) ?_
  have hY := OwnB.new (w.drew) [Vi 0, Vi 0, .slice none 0 0, .slice none 0 0] 25
  have hYle : w.heap.size ≤ (w.drew).heap.size := hy.size
  refine y_two 1 4 (by kernel_rfl) (y_op 1 tab_ok rfl rfl rfl rfl ?_) (y_op 4 tab_ok rfl rfl rfl rfl ?_)
  ·
   refine And.intro en_Shrunk ((shrunk_any L1 s1 vn1 ve1 n1 f1 _ (hm1.keep (undrew hy37)) hs1 (by omega) (by omega)).mono ?_)
   rintro e wA39 ⟨sa, vna, vea, na, fa, rfl, hA0, hA1, cA, aA, lA⟩
   refine ⟨_, rfl, ?_⟩
   have hy38 := below_trans hy37 hA1
   refine And.intro (.inr hy38) ?_
   have hA : OwnM w.heap.size wA39 _ _ _ _ := hA0.mono hy37.size
   obtain ⟨⟨ga1, ma1, ca1, hv1⟩, ga2, ma2, ca2, hv2⟩ := hA.forms
   subst hv1 hv2
   replace hY := hY.keep hA1 hY.lt
   refine y_two 3 4 (by kernel_rfl) (y_op 3 tab_ok rfl rfl rfl rfl ?_) (y_op 4 tab_ok rfl rfl rfl rfl ?_)
   ·
    refine And.intro en_Shrunk ((shrunk_any L2 s2 vn2 ve2 n2 f2 _ (hm2.keep (undrew hy38)) hs2 (by omega) (by omega)).mono ?_)
    rintro e wB41 ⟨sb, vnb, veb, nb, fb, rfl, hB0, hB1, cB, aB, lB⟩
    refine ⟨_, rfl, ?_⟩
    have hy40 := below_trans hy38 hB1
    refine And.intro (.inr hy40) ?_
    have hB : OwnM w.heap.size wB41 _ _ _ _ := hB0.mono hy38.size
    obtain ⟨⟨gb1, mb1, cb1, hv1⟩, gb2, mb2, cb2, hv2⟩ := hB.forms
    subst hv1 hv2
    replace hA := hA.kept (grown_below hB1)
    replace hY := hY.keep hB1 hY.lt
    refine y_one 4 (by kernel_rfl) (y_op 4 tab_ok rfl rfl rfl rfl ?_)
    have hy42 := hy40.alloc hy40.size (.cells #[Vi 0, Vi 0, .slice none 0 0, .slice none 0 0] 25)
    refine And.intro (.inr hy42) ?_
    have hX := OwnB.new (wB41) [Vi 0, Vi 0, .slice none 0 0, .slice none 0 0] 25
    have hXle : w.heap.size ≤ (wB41).heap.size := hy40.size
    have hne : (wB41).heap.size ≠ (w.drew).heap.size := by have := hY.lt; omega
    replace hY := OwnB.kept (row := none) hY (grown_alloc _ (.cells #[Vi 0, Vi 0, .slice none 0 0, .slice none 0 0] 25)) (by simp)
    replace hA := hA.kept (grown_alloc _ (.cells #[Vi 0, Vi 0, .slice none 0 0, .slice none 0 0] 25))
    replace hB := hB.kept (grown_alloc _ (.cells #[Vi 0, Vi 0, .slice none 0 0, .slice none 0 0] 25))
    obtain ⟨b6, hY6, fin⟩ := diffV_fin (undrew hy42) hX hY rfl hne hXle hYle hA hB cA aA lA cB aB lB
    have hy6 := below_of_grown hy42 (grown_sets ((wB41).heap.size) [Vi L1, Vi sa, .slice ga1 ma1 ca1, .slice ga2 ma2 ca2] 0 ((wB41).alloc (.cells #[Vi 0, Vi 0, .slice none 0 0, .slice none 0 0] 25))) (fun k hk => by cases hk; exact hXle)
    have hy7 := below_of_grown hy6 (grown_sets ((w.drew).heap.size) [Vi L2, Vi sb, .slice gb1 mb1 cb1, .slice gb2 mb2 cb2] 0 _) (fun k hk => by cases hk; exact hYle)
    refine y_one 6 (by kernel_rfl) (y_op0 6 tab_ok rfl rfl rfl ?_)
    refine And.intro rfl (And.intro rfl (And.intro (own_cells4 hX) (And.intro (.inr hy6) ?_)))
    refine y_one 7 (by kernel_rfl) (y_op0 7 tab_ok rfl rfl rfl ?_)
    refine And.intro rfl (And.intro rfl (And.intro (own_cells4 hY6) (And.intro (.inr hy7) ?_)))
    exact y_endx (_, _) (by kernel_rfl) ⟨rfl, rfl, trivial⟩ fin
   ·
    have hy43 := hy38.alloc hy38.size (.cells #[Vi 0, Vi 0, .slice none 0 0, .slice none 0 0] 25)
    refine And.intro (.inr hy43) ?_
    have hX := OwnB.new (wA39) [Vi 0, Vi 0, .slice none 0 0, .slice none 0 0] 25
    have hXle : w.heap.size ≤ (wA39).heap.size := hy38.size
    have hne : (wA39).heap.size ≠ (w.drew).heap.size := by have := hY.lt; omega
    replace hY := OwnB.kept (row := none) hY (grown_alloc _ (.cells #[Vi 0, Vi 0, .slice none 0 0, .slice none 0 0] 25)) (by simp)
    replace hA := hA.kept (grown_alloc _ (.cells #[Vi 0, Vi 0, .slice none 0 0, .slice none 0 0] 25))
    refine y_one 3 (by kernel_rfl) (y_op 3 tab_ok rfl rfl rfl rfl ?_)
    refine And.intro en_Shrunk ((shrunk_any L2 s2 vn2 ve2 n2 f2 _ (hm2.keep (undrew hy43)) hs2 (by omega) (by omega)).mono ?_)
    rintro e wB45 ⟨sb, vnb, veb, nb, fb, rfl, hB0, hB1, cB, aB, lB⟩
    refine ⟨_, rfl, ?_⟩
    have hy44 := below_trans hy43 hB1
    refine And.intro (.inr hy44) ?_
    have hB : OwnM w.heap.size wB45 _ _ _ _ := hB0.mono hy43.size
    obtain ⟨⟨gb1, mb1, cb1, hv1⟩, gb2, mb2, cb2, hv2⟩ := hB.forms
    subst hv1 hv2
    replace hA := hA.kept (grown_below hB1)
    replace hX := hX.keep hB1 hX.lt
    replace hY := hY.keep hB1 hY.lt
    obtain ⟨b6, hY6, fin⟩ := diffV_fin (undrew hy44) hX hY rfl hne hXle hYle hA hB cA aA lA cB aB lB
    have hy6 := below_of_grown hy44 (grown_sets ((wA39).heap.size) [Vi L1, Vi sa, .slice ga1 ma1 ca1, .slice ga2 ma2 ca2] 0 (wB45)) (fun k hk => by cases hk; exact hXle)
    have hy7 := below_of_grown hy6 (grown_sets ((w.drew).heap.size) [Vi L2, Vi sb, .slice gb1 mb1 cb1, .slice gb2 mb2 cb2] 0 _) (fun k hk => by cases hk; exact hYle)
    refine y_one 6 (by kernel_rfl) (y_op0 6 tab_ok rfl rfl rfl ?_)
    refine And.intro rfl (And.intro rfl (And.intro (own_cells4 hX) (And.intro (.inr hy6) ?_)))
    refine y_one 7 (by kernel_rfl) (y_op0 7 tab_ok rfl rfl rfl ?_)
    refine And.intro rfl (And.intro rfl (And.intro (own_cells4 hY6) (And.intro (.inr hy7) ?_)))
    exact y_endx (_, _) (by kernel_rfl) ⟨rfl, rfl, trivial⟩ fin
  ·
   have hy46 := hy37.alloc hy37.size (.cells #[Vi 0, Vi 0, .slice none 0 0, .slice none 0 0] 25)
   refine And.intro (.inr hy46) ?_
   have hX := OwnB.new ((w.drew).alloc (.cells #[Vi 0, Vi 0, .slice none 0 0, .slice none 0 0] 25)) [Vi 0, Vi 0, .slice none 0 0, .slice none 0 0] 25
   have hXle : w.heap.size ≤ ((w.drew).alloc (.cells #[Vi 0, Vi 0, .slice none 0 0, .slice none 0 0] 25)).heap.size := hy37.size
   have hne : ((w.drew).alloc (.cells #[Vi 0, Vi 0, .slice none 0 0, .slice none 0 0] 25)).heap.size ≠ (w.drew).heap.size := by have := hY.lt; omega
   replace hY := OwnB.kept (row := none) hY (grown_alloc _ (.cells #[Vi 0, Vi 0, .slice none 0 0, .slice none 0 0] 25)) (by simp)
   refine y_one 1 (by kernel_rfl) (y_op 1 tab_ok rfl rfl rfl rfl ?_)
   refine And.intro en_Shrunk ((shrunk_any L1 s1 vn1 ve1 n1 f1 _ (hm1.keep (undrew hy46)) hs1 (by omega) (by omega)).mono ?_)
   rintro e wA48 ⟨sa, vna, vea, na, fa, rfl, hA0, hA1, cA, aA, lA⟩
   refine ⟨_, rfl, ?_⟩
   have hy47 := below_trans hy46 hA1
   refine And.intro (.inr hy47) ?_
   have hA : OwnM w.heap.size wA48 _ _ _ _ := hA0.mono hy46.size
   obtain ⟨⟨ga1, ma1, ca1, hv1⟩, ga2, ma2, ca2, hv2⟩ := hA.forms
   subst hv1 hv2
   replace hX := hX.keep hA1 hX.lt
   replace hY := hY.keep hA1 hY.lt
   refine y_one 3 (by kernel_rfl) (y_op 3 tab_ok rfl rfl rfl rfl ?_)
   refine And.intro en_Shrunk ((shrunk_any L2 s2 vn2 ve2 n2 f2 _ (hm2.keep (undrew hy47)) hs2 (by omega) (by omega)).mono ?_)
   rintro e wB50 ⟨sb, vnb, veb, nb, fb, rfl, hB0, hB1, cB, aB, lB⟩
   refine ⟨_, rfl, ?_⟩
   have hy49 := below_trans hy47 hB1
   refine And.intro (.inr hy49) ?_
   have hB : OwnM w.heap.size wB50 _ _ _ _ := hB0.mono hy47.size
   obtain ⟨⟨gb1, mb1, cb1, hv1⟩, gb2, mb2, cb2, hv2⟩ := hB.forms
   subst hv1 hv2
   replace hA := hA.kept (grown_below hB1)
   replace hX := hX.keep hB1 hX.lt
   replace hY := hY.keep hB1 hY.lt
   obtain ⟨b6, hY6, fin⟩ := diffV_fin (undrew hy49) hX hY rfl hne hXle hYle hA hB cA aA lA cB aB lB
   have hy6 := below_of_grown hy49 (grown_sets (((w.drew).alloc (.cells #[Vi 0, Vi 0, .slice none 0 0, .slice none 0 0] 25)).heap.size) [Vi L1, Vi sa, .slice ga1 ma1 ca1, .slice ga2 ma2 ca2] 0 (wB50)) (fun k hk => by cases hk; exact hXle)
   have hy7 := below_of_grown hy6 (grown_sets ((w.drew).heap.size) [Vi L2, Vi sb, .slice gb1 mb1 cb1, .slice gb2 mb2 cb2] 0 _) (fun k hk => by cases hk; exact hYle)
   refine y_one 6 (by kernel_rfl) (y_op0 6 tab_ok rfl rfl rfl ?_)
   refine And.intro rfl (And.intro rfl (And.intro (own_cells4 hX) (And.intro (.inr hy6) ?_)))
   refine y_one 7 (by kernel_rfl) (y_op0 7 tab_ok rfl rfl rfl ?_)
   refine And.intro rfl (And.intro rfl (And.intro (own_cells4 hY6) (And.intro (.inr hy7) ?_)))
   exact y_endx (_, _) (by kernel_rfl) ⟨rfl, rfl, trivial⟩ fin
end Go.Proofs.Ythcoppfiahnpoaa
namespace Go.Proofs.Ythcoppfiahnpoaa
open Go Sym
theorem en_walked : enters Try.prog 61 = true := by kernel_rfl
theorem en_ends' : enters Try.prog 37 = true := by kernel_rfl
def PRaw (_ : World) (v : Value) (n : Int) : Prop := v = Vi n
structure WalkV (w : World) (K : Nat) (vp vl vf : Value) (s : WS) : Prop where
 c : cellsAt w.cell? K 0 [vp, vl, vf]
 p : SlP w vp s.ps
 l : Sl w vl s.ls PInt
 f : Sl w vf s.fs PRaw
theorem WalkV.keep {w w' : World} {K : Nat} {vp vl vf : Value} {s : WS} (h : WalkV w K vp vl vf s) (hb : RowKit.Below w.heap.size w w') : WalkV w' K vp vl vf s :=
 ⟨⟨Ythcoppfiahnpoaa.keep hb h.c.1, Ythcoppfiahnpoaa.keep hb h.c.2.1, Ythcoppfiahnpoaa.keep hb h.c.2.2.1, trivial⟩, h.p.keep hb, h.l.keep hb (fun _ _ h => h), h.f.keep hb (fun _ _ h => h)⟩
structure MaV (w : World) (X : Nat) (L s : Int) (next : List (List Int)) (fin : List Bool) (vn ve : Value) : Prop where
 m : Ma w L s next fin vn ve
 b : Box w X L s vn ve
theorem MaV.keep {w w' : World} {X : Nat} {L s : Int} {next : List (List Int)} {fin : List Bool} {vn ve : Value} (h : MaV w X L s next fin vn ve) (hb : RowKit.Below w.heap.size w w') : MaV w' X L s next fin vn ve := ⟨h.m.keep hb, h.b.keep hb⟩
set_option maxHeartbeats 4000000 in
theorem differ_any (L1 s1 L2 s2 : Int) (vn1 ve1 vn2 ve2 : Value) (n1 n2 : List (List Int)) (f1 f2 : List Bool) (w : World) (hm : Ma w L1 s1 n1 f1 vn1 ve1) (hm2 : Ma w L2 s2 n2 f2 vn2 ve2) :
  Calls Try.prog 26 #[.agg #[Vi L1, Vi s1, vn1, ve1], .agg #[Vi L2, Vi s2, vn2, ve2]] w fun e w' => ∃ (vw : Value) (word : List Nat) (b : Bool) (r : Int), e = .returned (.tuple #[vw, .bool b, Vi r]) ∧ Sl w' vw (word.map Int.ofNat) PInt ∧ Ok vw ∧ RowKit.Below w.heap.size w w' ∧ DiffE L1 s1 n1 f1 L2 s2 n2 f2 word b r := by
 refine Sym.enter (args := [.agg #[Vi L1, Vi s1, vn1, ve1], .agg #[Vi L2, Vi s2, vn2, ve2]]) Try.func26 rfl rfl rfl (fun a0 hS0 => ?_)
 obtain ⟨N, hN⟩ : ∃ N, N = (w.alloc (.cells #[Vi L1, Vi s1, vn1, ve1] 25)).heap.size := ⟨_, rfl⟩
 obtain ⟨M, hM⟩ : ∃ M, M = w.heap.size := ⟨_, rfl⟩
 refine wp_seq (seq_cut [(2, Vp M), (3, Vp N)] (· = (w.alloc (.cells #[Vi L1, Vi s1, vn1, ve1] 25)).alloc (.cells #[Vi L2, Vi s2, vn2, ve2] 25)) tab_ok hS0 ?_ (fun a wc hS hw => ?_))
 ·subst hN hM
  refine zB rfl ?_
  refine zB rfl ?_
  repeat first|refine zP rfl ?_|refine zK rfl ?_
  exact o_nil ⟨⟨rfl, rfl, trivial⟩, rfl⟩
 have hB1 := below_alloc w (.cells #[Vi L1, Vi s1, vn1, ve1] 25)
 have hB2 := below_alloc (w.alloc (.cells #[Vi L1, Vi s1, vn1, ve1] 25)) (.cells #[Vi L2, Vi s2, vn2, ve2] 25)
 rw [← hw] at hB2
 have hx : Box wc M L1 s1 vn1 ve1 := by rw [hM]; exact (Box.new w L1 s1 vn1 ve1 25).keep hB2
 have hx2 : Box wc N L2 s2 vn2 ve2 := by rw [hw, hN]; exact Box.new _ _ _ _ _ _
 have hB := below_trans hB1 hB2
 clear hw hB1 hB2 hN hM
 replace hm := hm.keep hB
 replace hm2 := hm2.keep hB
 refine wp_seq (seq_cut [(2, Vp M), (3, Vp N), (7, Vi (twoM L1 s1 n1 f1 L2 s2 n2 f2))] (fun w' => RowKit.Below wc.heap.size wc w') tab_ok hS ?_ (fun a w1 hS hK => ?_))
 ·refine zA ([Vi L1, Vi s1, vn1, ve1]) rfl rfl (hx.cells) ?_
  refine zA ([Vi L2, Vi s2, vn2, ve2]) rfl rfl (hx2.cells) ?_
  refine zF rfl (en_two) (two_any L1 s1 L2 s2 vn1 ve1 vn2 ve2 n1 n2 f1 f2 _ hm hm2) ?_
  rintro e w1 ⟨rfl, h1⟩
  refine ⟨_, rfl, ?_⟩
  repeat first|refine zP rfl ?_|refine zK rfl ?_
  exact o_nil ⟨⟨rfl, rfl, rfl, trivial⟩, h1⟩
 replace hB := below_trans hB hK
 replace hm := hm.keep hK
 replace hm2 := hm2.keep hK
 replace hx := hx.keep hK
 replace hx2 := hx2.keep hK
 clear hK
 refine wp_seq (wp_seq (seq_cut [(2, Vp M), (3, Vp N), (7, Vi (twoM L1 s1 n1 f1 L2 s2 n2 f2)), (19, .bool (decide (twoM L1 s1 n1 f1 L2 s2 n2 f2 ≠ 0)))] (· = w1) tab_ok hS ?_ (fun a w2 hS hw => ?_)))
 ·repeat first|refine zP rfl ?_|refine zK rfl ?_
  refine zC rfl (rfl) ?_
  exact o_nil ⟨⟨rfl, rfl, rfl, rfl, trivial⟩, rfl⟩
 subst hw
 refine cond hS rfl (fun hT => ?_) (fun hF => ?_)
 ·refine wp_seq (seq_cut [(4, .slice none 0 0), (5, .bool false), (6, Vi (twoM L1 s1 n1 f1 L2 s2 n2 f2))] (· = w2) tab_ok hS ?_ (fun a w3 hS hw => ?_))
  ·repeat first|refine zP rfl ?_|refine zK rfl ?_
   exact o_nil ⟨⟨rfl, rfl, rfl, trivial⟩, rfl⟩
  subst hw
  refine wp_ret ?_
  repeat (first | refine then_ret ?_ | refine block_ret ?_)
  exact ret3 hS rfl rfl rfl rfl ⟨_, [], false, _, rfl, ⟨none, 0, 0, 0, rfl, fun h => by simp at h, by simp, by simp, fun i hi => by simp at hi⟩, .inl (.inl rfl), hB, .inl ⟨of_decide_eq_true hT, rfl, rfl, rfl⟩⟩
 have h20 : twoM L1 s1 n1 f1 L2 s2 n2 f2 = 0 := by have := of_decide_eq_false hF; omega
 obtain ⟨v1, v2, hLL⟩ := two_zero h20
 obtain ⟨hs1, hL1, hn1⟩ := shape_of_valid v1
 obtain ⟨hs2, hL2, hn2⟩ := shape_of_valid v2
 refine wp_skip ?_
 refine wp_seq (differ_r4 hx hx2 hm hm2 hs1 hs2 hL1 hL2 hn1 hn2 (by rfl) (hS.sub ⟨rfl, rfl, rfl, trivial⟩) (fun x a w3 hS h3 => ?_))
 obtain ⟨X, Y⟩ := x
 obtain ⟨hK3, ⟨sa, vna, vea, na, fa, hA⟩, sb, vnb, veb, nb, fb, hBv⟩ := h3
 dsimp only at hS hA hBv
 have hB3 := below_trans hB hK3
 have hla := hA.len
 have hlb := hBv.len
 have isA : I64 sa := by
  have a := hA.canon.shape.s1
  have b := hA.canon.shape.s2
  exact ⟨by omega, by omega⟩
 have isB : I64 sb := by
  have a := hBv.canon.shape.s1
  have b := hBv.canon.shape.s2
  exact ⟨by omega, by omega⟩
 have mA : MaV w3 X L1 sa na fa vna vea := ⟨hA.m.ma hm.L isA, ⟨hA.o.cell (i := 0) rfl, hA.o.cell (i := 1) rfl, hA.o.cell (i := 2) rfl, hA.o.cell (i := 3) rfl⟩⟩
 have mB : MaV w3 Y L2 sb nb fb vnb veb := ⟨hBv.m.ma hm2.L isB, ⟨hBv.o.cell (i := 0) rfl, hBv.o.cell (i := 1) rfl, hBv.o.cell (i := 2) rfl, hBv.o.cell (i := 3) rfl⟩⟩
 have sA := hA.canon.shape
 have sB := hBv.canon.shape
 have alA := hA.alike
 have alB := hBv.alike
 rw [← hLL] at sB alB mB
 have hcap : (na.length + 1) * (nb.length + 1) < 100000000 := Nat.lt_of_le_of_lt (Nat.mul_le_mul (by omega : na.length + 1 ≤ 4001) (by omega : nb.length + 1 ≤ 4001)) (by decide)
 have hW := walk_all sA sB false (max := 1073741824) (by decide) (by omega)
 have hfew := hW.few sA sB
 clear hA hBv isA isB hK3 hB hx hx2 hm hm2 hF
 refine wp_seq (seq_cutx (α := Nat × Value × Value × Value) (fun x => [(8, Vp X), (9, Vp Y), (10, Vp x.1)]) (fun x w' => RowKit.Below w3.heap.size w3 w' ∧ WalkV w' x.1 x.2.1 x.2.2.1 x.2.2.2 (walkM L1 sa na sb nb false 1073741824)) tab_ok hS ?_ (fun x a w4 hS h4 => ?_))
 ·refine zA ([Vi L1, Vi sa, vna, vea]) rfl rfl (mA.b.cells) ?_
  refine zA ([Vi L1, Vi sb, vnb, veb]) rfl rfl (mB.b.cells) ?_
  refine zF rfl (en_walked) (walked_any L1 sa L1 sb vna vea vnb veb na nb fa fb false 1073741824 _ mA.m mB.m sA sB rfl hL1 (by decide) hcap) ?_
  rintro e w4 ⟨Wb, vp, vl, vf, rfl, h4, h5⟩
  refine ⟨_, rfl, ?_⟩
  generalize walkM L1 sa na sb nb false 1073741824 = s at *
  have hI : ∀ x ∈ s.ps, I64 x.1 ∧ I64 x.2 := fun x hx => by
   obtain ⟨a, b, c, d⟩ := hW.range sA sB hx
   exact ⟨⟨by omega, by omega⟩, ⟨by omega, by omega⟩⟩
  have hp := h4.slp hI
  have hl := (sl_own (P := PInt) (l := s.ls) h4.l rfl (fun i hi => ⟨_, by simp [hi], rfl, by
   have hi' : i < s.ps.length := by have := hW.f; omega
   rcases Nat.eq_zero_or_pos i with h0 | h0
   ·subst h0
    by_cases hg : goneP false (sa, sb)
    ·have := hW.none hg; rw [this] at hi'; simp at hi'
    ·have := (hW.first hg).2
     rw [getD_lt hi] at this
     rw [this]; exact ⟨by decide, by decide⟩
   ·obtain ⟨f, l, a1, a2, a3, a4, a5, a6⟩ := hW.link i h0 hi'
    rw [getD_lt hi] at a1
    rw [a1]; exact ⟨by omega, by omega⟩⟩)).1
  have hf := (sl_own (P := PRaw) (l := s.fs) h4.f rfl (fun i hi => ⟨_, by simp [hi], rfl⟩)).1
  obtain ⟨g1, m1, c1, hv1⟩ := own_form h4.p
  obtain ⟨g2, m2, c2, hv2⟩ := own_form h4.l
  obtain ⟨g3, m3, c3, hv3⟩ := own_form h4.f
  subst hv1 hv2 hv3
  refine zB rfl ?_
  have hnew := OwnB.new w4 [.slice none 0 0, .slice none 0 0, .slice none 0 0] 86
  refine o_step0 rfl rfl (And.intro rfl (And.intro rfl (And.intro (own_cells3 hnew) ?_)))
  have hg := grown_sets w4.heap.size [.slice g1 m1 c1, .slice g2 m2 c2, .slice g3 m3 c3] 0 (w4.alloc (.cells #[.slice none 0 0, .slice none 0 0, .slice none 0 0] 86))
  have hb := below_of_grown (below_alloc w4 (.cells #[.slice none 0 0, .slice none 0 0, .slice none 0 0] 86)) hg (fun q hq => by cases hq; exact Nat.le_refl _)
  have hs := hnew.sets (us := [.slice g1 m1 c1, .slice g2 m2 c2, .slice g3 m3 c3]) rfl
  repeat first|refine zP rfl ?_|refine zK rfl ?_
  exact o_nil ⟨(w4.heap.size, .slice g1 m1 c1, .slice g2 m2 c2, .slice g3 m3 c3), ⟨rfl, rfl, rfl, trivial⟩, below_trans h5 hb, ⟨⟨hs.cell (i := 0) rfl, hs.cell (i := 1) rfl, hs.cell (i := 2) rfl, trivial⟩, hp.keep hb, hl.keep hb (fun _ _ h => h), hf.keep hb (fun _ _ h => h)⟩⟩
 obtain ⟨K, vp, vl, vf⟩ := x
 obtain ⟨hK4, hV⟩ := h4
 dsimp only at hS hV
 generalize walkM L1 sa na sb nb false 1073741824 = s at hW hfew hV
 have hB4 := below_trans hB3 hK4
 replace mA := mA.keep hK4
 replace mB := mB.keep hK4
 have hpr : ∀ i (h : i < s.ps.length), -1 ≤ s.ps[i].1 ∧ s.ps[i].1 < na.length ∧ -1 ≤ s.ps[i].2 ∧ s.ps[i].2 < nb.length := fun i h => hW.range sA sB (List.getElem_mem h)
 have hlL := hW.f
 have hfL := hW.l
 have hFA := sA.fin
 have hFB := sB.fin
 clear hB3 hK4
 refine wp_seq (wp_seq (seq_cut [(8, Vp X), (9, Vp Y), (10, Vp K), (11, Vi 0)] (· = w4) tab_ok hS ?_ (fun a w5 hS hw => ?_)))
 ·repeat first|refine zP rfl ?_|refine zK rfl ?_
  exact o_nil ⟨⟨rfl, rfl, rfl, rfl, trivial⟩, rfl⟩
 subst hw
 refine wp_block (loop0 hS (fun g E wr => ∃ i : Nat, i ≤ s.ps.length ∧ g = s.ps.length - i ∧ E = [(8, Vp X), (9, Vp Y), (10, Vp K), (11, Vi i)] ∧ RowKit.Below w5.heap.size w5 wr ∧ ∀ j, j < i → apartP fa fb (s.ps.getD j (0, 0)) = false)
  s.ps.length ⟨0, Nat.zero_le _, rfl, rfl, RowKit.Below.refl _ _, fun j hj => by omega⟩ ?_)
 clear hS
 rintro g E wr a1 ⟨i, hi, rfl, rfl, hb, hno⟩ hS
 have hVr := hV.keep hb
 obtain ⟨ap, bp, op, cp, hvp, p1, p2, p3, p4⟩ := id hVr.p
 refine wp_seq (wp_seq (seq_cut [(8, Vp X), (9, Vp Y), (10, Vp K), (11, Vi i), (32, .bool (decide ((i : Int) < s.ps.length)))] (· = wr) tab_ok hS ?_ (fun a w6 hS hw => ?_)))
 ·subst hvp
  repeat first|refine zP rfl ?_|refine zK rfl ?_
  refine zL rfl (hVr.c.1) ?_
  repeat first|refine zP rfl ?_|refine zK rfl ?_
  refine zC rfl (rfl) ?_
  exact o_nil ⟨⟨rfl, rfl, rfl, rfl, rfl, trivial⟩, rfl⟩
 subst hw
 refine cond hS rfl (fun hT => ?_) (fun hF => ?_)
 case refine_2 =>
  refine wp_exit ?_
  repeat (first | refine then_exit ?_ | refine block_exit ?_ | refine block_other rfl ?_)
  obtain rfl : i = s.ps.length := by have := of_decide_eq_false hF; omega
  refine wp_seq (seq_cut [(4, .slice none 0 0), (5, .bool false), (6, Vi 7)] (· = w6) tab_ok hS ?_ (fun a w8 hS hw => ?_))
  ·repeat first|refine zP rfl ?_|refine zK rfl ?_
   exact o_nil ⟨⟨rfl, rfl, rfl, trivial⟩, rfl⟩
  subst hw
  refine wp_ret ?_
  repeat (first | refine then_ret ?_ | refine block_ret ?_)
  exact ret3 hS rfl rfl rfl rfl ⟨_, [], false, _, rfl, ⟨none, 0, 0, 0, rfl, fun h => by simp at h, by simp, by simp, fun i hi => by simp at hi⟩, .inl (.inl rfl), below_trans hB4 hb, .inr ⟨h20, .inr ⟨rfl, rfl, rfl, alA.symm.trans ((diff_none hW hno).trans alB)⟩⟩⟩
 have hlt : i < s.ps.length := by have := of_decide_eq_true hT; omega
 obtain rfl := p1 (by omega)
 obtain ⟨r1, r2, r3, r4⟩ := hpr i hlt
 have hpd : s.ps.getD i (0, 0) = s.ps[i] := getD_lt hlt
 refine wp_skip ?_
 refine wp_seq (wp_block ?_)
 obtain ⟨B, hBq⟩ : ∃ B, B = w6.heap.size := ⟨_, rfl⟩
 refine wp_seq (seq_cut [(8, Vp X), (9, Vp Y), (10, Vp K), (11, Vi i), (12, Vp B)] (· = newP w6 s.ps[i].1 s.ps[i].2) tab_ok hS ?_ (fun a w7 hS hw => ?_))
 ·subst hBq
  subst hvp
  repeat first|refine zP rfl ?_|refine zK rfl ?_
  refine zL rfl (hVr.c.1) ?_
  repeat first|refine zP rfl ?_|refine zK rfl ?_
  refine zI rfl (rfl) (hlt) ?_
  refine zA ([Vi s.ps[i].1, Vi s.ps[i].2]) rfl rfl ((p4 i hlt).1) ?_
  refine zB rfl ?_
  refine o_step0 rfl rfl (And.intro rfl (And.intro rfl (And.intro (own_cells2 (OwnB.new w6 [Vi 0, Vi 0] 50)) ?_)))
  exact o_nil ⟨⟨rfl, rfl, rfl, rfl, rfl, trivial⟩, rfl⟩
 have hP := newP_below w6 s.ps[i].1 s.ps[i].2
 have hp := newP_box w6 s.ps[i].1 s.ps[i].2
 rw [← hw] at hP hp
 rw [← hBq] at hp
 have hb7 := below_trans hb hP
 clear hw hP hBq hb hVr p1 p2 p3 p4 hvp
 obtain ⟨ea, hea⟩ : ∃ ea, endsM fa s.ps[i].1 = ea := ⟨_, rfl⟩
 obtain ⟨eb, heb⟩ : ∃ eb, endsM fb s.ps[i].2 = eb := ⟨_, rfl⟩
 refine wp_seq (quiet_cut [(8, Vp X), (9, Vp Y), (10, Vp K), (11, Vi i), (12, Vp B), (48, .bool (ea != eb))] tab_ok mixed (by kernel_rfl) hS ?_ (fun a w8 hS hw => ?_))
 ·have m1 := mA.keep hb7
  have m2 := mB.keep hb7
  refine qA ([Vi L1, Vi sa, vna, vea]) rfl rfl (m1.b.cells) ?_
  repeat first|refine qP rfl ?_|refine qK rfl ?_
  refine qL rfl (hp.c0) ?_
  refine qF (.bool ea) rfl (en_ends') (fun w1 h1 => hea ▸ ends_any L1 sa vna vea fa s.ps[i].1 w1 ((m1.keep h1).m.e) (by omega)) ?_
  refine qA ([Vi L1, Vi sb, vnb, veb]) rfl rfl (m2.b.cells) ?_
  repeat first|refine qP rfl ?_|refine qK rfl ?_
  refine qL rfl (hp.c1) ?_
  refine qF (.bool eb) rfl (en_ends') (fun w1 h1 => heb ▸ ends_any L1 sb vnb veb fb s.ps[i].2 w1 ((m2.keep h1).m.e) (by omega)) ?_
  refine qC rfl (rfl) ?_
  exact q_nil ⟨rfl, rfl, rfl, rfl, rfl, rfl, trivial⟩
 have hb8 := below_trans hb7 hw
 have hp8 := hp.keep hw
 have hap : apartP fa fb s.ps[i] = (ea != eb) := by rw [apartP, hea, heb]
 clear hb7 hp hw
 refine cond hS rfl (fun hT => ?_) (fun hF => ?_)
 case refine_2 =>
  refine wp_skip ?_
  refine block_normal ?_
  refine then_normal ?_
  refine seq_cut [(8, Vp X), (9, Vp Y), (10, Vp K), (11, Vi (i + 1 : Nat))] (· = w8) tab_ok hS ?_ (fun a w9 hS hw => ?_)
  ·repeat first|refine zP rfl ?_|refine zK rfl ?_
   refine zN rfl (wrap_succ (by omega)) ?_
   repeat first|refine zP rfl ?_|refine zK rfl ?_
   exact o_nil ⟨⟨rfl, rfl, rfl, rfl, trivial⟩, rfl⟩
  subst hw
  refine ⟨s.ps.length - (i + 1), _, by omega, ⟨i + 1, hlt, rfl, rfl, hb8, fun j hj => ?_⟩, hS⟩
  rcases Nat.lt_or_ge j i with h1 | h1
  ·exact hno j h1
  ·obtain rfl : j = i := by omega
   rw [hpd, hap]; exact hF
 have hDI := diff_at hW hlt (by rw [hpd, hap]; exact hT) hno
 have hwl := (hW.words (i + 1) i (Nat.lt_succ_self _) hlt).len
 obtain ⟨O, hO⟩ : ∃ O, O = w8.heap.size := ⟨_, rfl⟩
 refine wp_seq (seq_cut [(8, Vp X), (9, Vp Y), (10, Vp K), (11, Vi i), (12, Vp B), (13, Vs O 0 0)] (· = w8.alloc (.cells #[] 3)) tab_ok hS ?_ (fun a w9 hS hw => ?_))
 ·subst hO
  repeat first|refine zP rfl ?_|refine zK rfl ?_
  refine o_step rfl rfl rfl ?_
  refine Exists.intro [] (Exists.intro #[] (And.intro (And.intro rfl rfl) (And.intro (by decide) (And.intro (by simp [Instr.fill, madeCells]) ?_))))
  repeat first|refine zP rfl ?_|refine zK rfl ?_
  exact o_nil ⟨⟨rfl, rfl, rfl, rfl, rfl, rfl, trivial⟩, rfl⟩
 have hb9 : RowKit.Below w8.heap.size w8 w9 := by rw [hw]; exact below_alloc _ _
 clear hw hO
 refine wp_seq (cut (F := fun a' w' => ∃ v : Value, St Try.f26.ntmps a' [(8, Vp X), (12, Vp B), (13, v)] ∧ RowKit.Below w8.heap.size w8 w' ∧ Sl w' v ((wordW s i).map Int.ofNat) PInt ∧ Ok v) ?_ ?_)
 ·refine wp_seq (seq_cut [(8, Vp X), (9, Vp Y), (10, Vp K), (12, Vp B), (13, Vs O 0 0), (14, Vi i)] (· = w9) tab_ok hS ?_ (fun a w10 hS hw => ?_))
  ·repeat first|refine zP rfl ?_|refine zK rfl ?_
   exact o_nil ⟨⟨rfl, rfl, rfl, rfl, rfl, rfl, trivial⟩, rfl⟩
  subst hw
  refine wp_block (loop0 hS (fun g E wr => ∃ (k : Nat) (u : List Nat) (v : Value), k < s.ps.length ∧ g = k ∧ E = [(8, Vp X), (9, Vp Y), (10, Vp K), (12, Vp B), (13, v), (14, Vi k)] ∧ RowKit.Below w8.heap.size w8 wr ∧ Sl wr v (u.map Int.ofNat) PInt ∧ Ok v ∧ wordW s i = wordW s k ++ u)
   i ⟨i, [], _, hlt, rfl, rfl, hb9, ⟨_, O, 0, 0, rfl, fun _ => rfl, by simp, by simp, fun j hj => by simp at hj⟩, .inr ⟨_, _, _, _, rfl⟩, by simp⟩ ?_)
  clear hS hb9
  rintro k E wr a1 ⟨_, u, v, hk, rfl, rfl, hbr, hsv, hokv, hword⟩ hS
  have hVr := hV.keep (below_trans hb8 hbr)
  obtain ⟨al, bl, ol, cl, hvl, l1, l2, l3, l4⟩ := id hVr.l
  obtain ⟨af, bf, of', cf, hvf, q1, q2, q3, q4⟩ := id hVr.f
  obtain rfl := l1 (by omega)
  obtain rfl := q1 (by omega)
  obtain ⟨x, hx1, rfl, -⟩ := l4 k (by omega)
  refine wp_seq (wp_seq (seq_cut [(8, Vp X), (9, Vp Y), (10, Vp K), (12, Vp B), (13, v), (14, Vi k), (56, .bool (decide (0 ≤ s.ls[k]'(by omega))))] (· = wr) tab_ok hS ?_ (fun a w11 hS hw => ?_)))
  ·subst hvl
   repeat first|refine zP rfl ?_|refine zK rfl ?_
   refine zL rfl (hVr.c.2.1) ?_
   repeat first|refine zP rfl ?_|refine zK rfl ?_
   refine zI rfl (rfl) ((by omega : k < s.ls.length)) ?_
   refine zL rfl (hx1) ?_
   refine zC rfl (rfl) ?_
   exact o_nil ⟨⟨rfl, rfl, rfl, rfl, rfl, rfl, rfl, trivial⟩, rfl⟩
  subst hw
  have hls : s.ls.getD k 0 = s.ls[k]'(by omega) := getD_lt (by omega)
  rcases Nat.eq_zero_or_pos k with hk0 | hk0
  ·subst hk0
   have hng : ¬ goneP false (sa, sb) := fun hg => by
    have := hW.none hg
    rw [this] at hk; simp at hk
   have h1 := (hW.first hng).2
   rw [hls] at h1
   refine cond hS rfl (fun hT => ?_) (fun hF => ?_)
   ·exfalso
    have := of_decide_eq_true hT
    omega
   refine wp_exit ?_
   repeat (first | refine then_exit ?_ | refine block_exit ?_ | refine block_other rfl ?_)
   rw [wordW_zero hW hk, List.nil_append] at hword
   rw [hword]
   exact ⟨v, hS.sub ⟨rfl, rfl, rfl, trivial⟩, hbr, hsv, hokv⟩
  obtain ⟨f, l, a1', a2, a3, a4, a5, a6⟩ := hW.link k hk0 hk
  have hwk := wordW_link hW hk0 hk a1' a2 a3
  rw [hls] at a1'
  refine cond hS rfl (fun hT => ?_) (fun hF => ?_)
  case refine_2 =>
   exfalso
   have := of_decide_eq_false hF
   omega
  refine wp_skip ?_
  refine wp_seq (wp_block ?_)
  obtain ⟨y, hy1, rfl⟩ := q4 k (by omega)
  have hfs : s.fs[k]'(by omega) = (l : Int) := by rw [← a2]; exact (getD_lt (by omega)).symm
  rw [hfs] at hy1
  have hul : u.length ≤ i := by
   have := congrArg List.length hword
   rw [List.length_append] at this
   omega
  obtain ⟨au, cu, hvu⟩ := hsv.len
  refine seq_cutx (α := Value) (fun v' => [(8, Vp X), (9, Vp Y), (10, Vp K), (12, Vp B), (13, v'), (14, Vi k)]) (fun v' w' => RowKit.Below w11.heap.size w11 w' ∧ Sl w' v' ((l :: u).map Int.ofNat) PInt ∧ Ok v') tab_ok hS ?_ (fun v' a w12 hS h12 => ?_)
  ·subst hvf
   repeat first|refine zP rfl ?_|refine zK rfl ?_
   refine zL rfl (hVr.c.2.2.1) ?_
   repeat first|refine zP rfl ?_|refine zK rfl ?_
   refine zI rfl (rfl) ((by omega : k < s.fs.length)) ?_
   refine zL rfl (hy1) ?_
   repeat first|refine zP rfl ?_|refine zK rfl ?_
   refine o_step rfl rfl rfl ?_
   refine Exists.intro [(0, Vi ((l : Int)))] (Exists.intro #[Vi ((l : Int))] (And.intro (And.intro rfl rfl) (And.intro (by decide) (And.intro (fillI _ _ _) ?_))))
   have hy2 := below_alloc w11 (.cells #[Vi l] 3)
   have hl := World.ownsRow_lit (base := w11.heap.size) (e := 3) (size := 1) w11 #[Vi l] 1 (Nat.le_refl _) (by unfold maxLen; omega) (by simp)
   have ask := ask_of (e := ⟨3, .int .i64, 1, 8, Vi 0⟩) hl (src_of (f := Value.int .i64) (hsv.keep hy2 (fun _ _ h => h)) hokv (fun _ _ h => h.1)) rfl (fun _ => rfl) (by simp; omega) (by simp only [List.length_map]; show (1 + _) * 8 ≤ _; omega) hy2.size
   subst hvu
   repeat first|refine zP rfl ?_|refine zK rfl ?_
   refine o_step rfl rfl rfl ?_
   refine Exists.intro _ (Exists.intro _ (Exists.intro _ (Exists.intro _ (Exists.intro _ (And.intro (ask) (And.intro (fun _ h => h.symm) (And.intro (by decide) ?_)))))))
   rintro v' w12 hown hgr - -
   have h12 := below_of_grown hy2 hgr (fun q hq => by simp only [Value.ownBlock, Option.some.injEq] at hq; omega)
   have hIu : ∀ x ∈ (l :: u).map Int.ofNat, I64 x := fun x hx => by
    rw [List.map_cons, List.mem_cons] at hx
    rcases hx with rfl | hx
    ·exact ⟨by show _ ≤ (l : Int); omega, by show (l : Int) ≤ _; omega⟩
    ·obtain ⟨j, hj, rfl⟩ := List.mem_iff_getElem.1 hx
     obtain ⟨_, _, _, _, _, _, _, _, g4⟩ := hsv
     obtain ⟨_, _, _, hI⟩ := g4 j hj
     exact hI
   have hcs : (#[Vi l].toList ++ (u.map Int.ofNat).map (Value.int .i64)) = ((l :: u).map Int.ofNat).map (Value.int .i64) := rfl
   rw [hcs] at hown
   have hsl := sl_own (P := PInt) (l := (l :: u).map Int.ofNat) hown (by simp; omega) (fun j hj => ⟨_, by rw [List.getElem?_map, List.getElem?_eq_getElem hj]; rfl, rfl, hIu _ (List.getElem_mem hj)⟩)
   repeat first|refine zP rfl ?_|refine zK rfl ?_
   exact o_nil ⟨v', ⟨rfl, rfl, rfl, rfl, rfl, rfl, trivial⟩, h12, hsl⟩
  obtain ⟨hb12, hsv12, hok12⟩ := h12
  have hVr2 := hVr.keep hb12
  refine block_normal ?_
  refine then_normal ?_
  refine seq_cut [(8, Vp X), (9, Vp Y), (10, Vp K), (12, Vp B), (13, v'), (14, Vi f)] (· = w12) tab_ok hS ?_ (fun a w13 hS hw => ?_)
  ·subst hvl
   have hx2 := Ythcoppfiahnpoaa.keep hb12 hx1
   rw [a1'] at hx2
   repeat first|refine zP rfl ?_|refine zK rfl ?_
   refine zL rfl (hVr2.c.2.1) ?_
   repeat first|refine zP rfl ?_|refine zK rfl ?_
   refine zI rfl (rfl) ((by omega : k < s.ls.length)) ?_
   refine zL rfl (hx2) ?_
   repeat first|refine zP rfl ?_|refine zK rfl ?_
   exact o_nil ⟨⟨rfl, rfl, rfl, rfl, rfl, rfl, trivial⟩, rfl⟩
  subst hw
  exact ⟨f, _, a3, ⟨f, l :: u, v', by omega, rfl, rfl, below_trans hbr hb12, hsv12, hok12, by rw [hword, hwk]; simp⟩, hS⟩
 rintro a w10 ⟨v, hS, hb10, hsv, hokv⟩
 have hb10' := below_trans hb8 hb10
 have m10 := mA.keep hb10'
 have hp10 := hp8.keep hb10
 refine wp_seq (seq_cut [(4, v), (5, .bool ea), (6, Vi 0)] (fun w' => RowKit.Below w10.heap.size w10 w') tab_ok hS ?_ (fun a w11 hS h11 => ?_))
 ·repeat first|refine zP rfl ?_|refine zK rfl ?_
  refine zA ([Vi L1, Vi sa, vna, vea]) rfl rfl (m10.b.cells) ?_
  repeat first|refine zP rfl ?_|refine zK rfl ?_
  refine zL rfl (hp10.c0) ?_
  refine zF rfl (en_ends') (hea ▸ ends_any L1 sa vna vea fa s.ps[i].1 _ m10.m.e (by omega)) ?_
  rintro e w11 ⟨rfl, h11⟩
  refine ⟨_, rfl, ?_⟩
  repeat first|refine zP rfl ?_|refine zK rfl ?_
  exact o_nil ⟨⟨rfl, rfl, rfl, trivial⟩, h11⟩
 rw [hpd, hea] at hDI
 refine wp_ret ?_
 repeat (first | refine then_ret ?_ | refine block_ret ?_)
 exact ret3 hS rfl rfl rfl rfl ⟨v, wordW s i, ea, 0, rfl, hsv.keep h11 (fun _ _ h => h), hokv, below_trans (below_trans hB4 hb10') h11, .inr ⟨h20, hDI.of_alike alA alB⟩⟩
end Go.Proofs.Ythcoppfiahnpoaa
namespace Go.Proofs.Ythcoppfiahnpoaa
def insL (l : List (Int × Int)) (x : Int × Int) (k : Nat) : List (Int × Int) := l.take k ++ x :: l.drop k
theorem insL_len (l : List (Int × Int)) (x : Int × Int) (k : Nat) : (insL l x k).length = l.length + 1 := by
 simp only [insL, List.length_append, List.length_take, List.length_cons, List.length_drop]
 omega
theorem insL_end (l : List (Int × Int)) (x : Int × Int) : insL l x l.length = l ++ [x] := by simp [insL]
theorem insL_mem {l : List (Int × Int)} {x : Int × Int} {k : Nat} (y : Int × Int) : y ∈ insL l x k ↔ y = x ∨ y ∈ l := by
 have : y ∈ l ↔ y ∈ l.take k ∨ y ∈ l.drop k := by rw [← List.mem_append, List.take_append_drop]
 simp only [insL, List.mem_append, List.mem_cons, this]
 constructor
 ·rintro (h | h | h)
  ·exact .inr (.inl h)
  ·exact .inl h
  ·exact .inr (.inr h)
 ·rintro (h | h | h)
  ·exact .inr (.inl h)
  ·exact .inl h
  ·exact .inr (.inr h)
theorem insL_at {l : List (Int × Int)} {x : Int × Int} {k : Nat} (hk : k ≤ l.length) : (insL l x k)[k]? = some x := by
 rw [insL, List.getElem?_append_right (by simp; omega)]
 simp [Nat.min_eq_left hk]
theorem insL_ahead {l : List (Int × Int)} {x : Int × Int} {k : Nat} (hk : k < l.length) : (insL l x (k + 1))[k]? = some l[k] := by
 rw [insL, List.getElem?_append_left (by simp; omega)]
 simp [hk]
theorem insL_swap {l : List (Int × Int)} {x : Int × Int} {k : Nat} (hk : k < l.length) : ((insL l x (k + 1)).set k x).set (k + 1) l[k] = insL l x k := by
 refine List.ext_getElem? fun i => ?_
 have h1 : (insL l x (k + 1)).length = l.length + 1 := insL_len ..
 rcases Nat.lt_trichotomy i k with h | rfl | h
 ·rw [List.getElem?_set_ne (by omega), List.getElem?_set_ne (by omega), insL, insL, List.getElem?_append_left (by simp; omega), List.getElem?_append_left (by simp; omega)]
  simp [h, Nat.lt_succ_of_lt h]
 ·rw [List.getElem?_set_ne (by omega), List.getElem?_set_self (by omega), insL_at (by omega)]
 ·rcases Nat.lt_or_ge (k + 1) i with h2 | h2
  ·rw [List.getElem?_set_ne (by omega), List.getElem?_set_ne (by omega), insL, insL, List.getElem?_append_right (by simp; omega), List.getElem?_append_right (by simp; omega)]
   have e1 : (l.take (k + 1)).length = k + 1 := by simp; omega
   have e2 : (l.take k).length = k := by simp; omega
   rw [e1, e2]
   obtain ⟨d, rfl⟩ : ∃ d, i = k + 2 + d := ⟨i - (k + 2), by omega⟩
   rw [show k + 2 + d - (k + 1) = d + 1 by omega, show k + 2 + d - k = d + 1 + 1 by omega, List.getElem?_cons_succ, List.getElem?_cons_succ, List.getElem?_drop, List.getElem?_drop]
   congr 1; omega
  ·obtain rfl : i = k + 1 := by omega
   rw [List.getElem?_set_self (by simp [h1]; omega), insL, List.getElem?_append_right (by simp; omega)]
   have e2 : (l.take k).length = k := by simp; omega
   rw [e2, show k + 1 - k = 0 + 1 by omega, List.getElem?_cons_succ, List.getElem?_drop, Nat.add_zero, List.getElem?_eq_getElem hk]
theorem insL_sorted {l : List (Int × Int)} {x : Int × Int} {k : Nat} (hl : l.Pairwise befP) (hk : k ≤ l.length) (hafter : ∀ y ∈ l.drop k, befP x y) (hx : x ∉ l) (hb : ∀ j (h : j < l.length), k = j + 1 → ¬ befP x l[j]) : (insL l x k).Pairwise befP := by
 have h0 : (l.take k ++ l.drop k).Pairwise befP := by rw [List.take_append_drop]; exact hl
 rw [List.pairwise_append] at h0
 rw [insL, List.pairwise_append, List.pairwise_cons]
 refine ⟨h0.1, ⟨hafter, h0.2.1⟩, fun a ha b hb' => ?_⟩
 have hax : befP a x := by
  cases k with
  | zero => simp at ha
  | succ j =>
    have hj : j < l.length := by omega
    have h1 := hb j hj rfl
    have h2 : befP l[j] x := befP.tri h1 (fun e => hx (e ▸ List.getElem_mem hj))
    obtain ⟨i, hi, rfl⟩ := List.mem_iff_getElem.1 ha
    rw [List.length_take] at hi
    rw [List.getElem_take]
    rcases Nat.lt_or_ge i j with h3 | h3
    ·exact (List.pairwise_iff_getElem.1 hl i j (by omega) hj h3).trans h2
    ·obtain rfl : i = j := by omega
     exact h2
 rcases List.mem_cons.1 hb' with rfl | h
 ·exact hax
 ·exact hax.trans (hafter b h)
theorem insL_step {l : List (Int × Int)} {x : Int × Int} {k : Nat} (hk : k < l.length) (hafter : ∀ y ∈ l.drop (k + 1), befP x y) (hb : befP x l[k]) : ∀ y ∈ l.drop k, befP x y := fun y hy => by
 rw [List.drop_eq_getElem_cons hk] at hy
 rcases List.mem_cons.1 hy with rfl | h
 ·exact hb
 ·exact hafter y h
end Go.Proofs.Ythcoppfiahnpoaa
namespace Go.Proofs.Ythcoppfiahnpoaa
open Go Sym
theorem pairCells_get : ∀ (ps : List (Int × Int)) (i : Nat) (hi : i < ps.length), (pairCells ps)[i * 2]? = some (Vi ps[i].1) ∧ (pairCells ps)[i * 2 + 1]? = some (Vi ps[i].2)
 | [], i, hi => by simp at hi
 | x :: r, 0, _ => ⟨rfl, rfl⟩
 | x :: r, i + 1, hi => by
   have := pairCells_get r i (by simpa using hi)
   rw [show (i + 1) * 2 = i * 2 + 2 by omega]
   exact this
section
variable {w : World} {base g n c : Nat} {l : List (Int × Int)}
theorem ownP_cells (h : w.ownsRow base 50 2 (Vs g n c) n (pairCells l)) (hn : n = l.length) {j : Nat} (hj : j < l.length) : cellsAt w.cell? g (0 + j * 2) [Vi l[j].1, Vi l[j].2] := by
 subst hn
 obtain ⟨h1, h2⟩ := pairCells_get l j hj
 rw [Nat.zero_add]
 exact ⟨by rw [World.ownsRow.cellAt h (j * 2) (by omega)]; exact h1, by rw [World.ownsRow.cellAt h (j * 2 + 1) (by omega)]; exact h2, trivial⟩
theorem ownP_slp {v : Value} (h : w.ownsRow base 50 2 v n (pairCells l)) (hn : n = l.length) (hI : ∀ x ∈ l, I64 x.1 ∧ I64 x.2) : SlP w v l := by
 subst hn
 rcases h.2 with ⟨rfl, h0⟩ | ⟨g, cap, cur, rfl, _, hg, h1, h2, _⟩
 ·exact ⟨none, 0, 0, 0, by rw [h0], by omega, by omega, by omega, fun i hi => by omega⟩
 ·exact ⟨some ⟨g, 0, none⟩, g, 0, cap, rfl, fun _ => rfl, h1, by unfold maxLen at h2; omega, fun i hi => ⟨ownP_cells h rfl hi, hI _ (List.getElem_mem hi)⟩⟩
end
end Go.Proofs.Ythcoppfiahnpoaa
namespace Go.Proofs.Ythcoppfiahnpoaa
open Go Sym
theorem pairCells_set : ∀ (ps : List (Int × Int)) (i : Nat) (p : Int × Int), ((pairCells ps).set (i * 2) (Vi p.1)).set (i * 2 + 1) (Vi p.2) = pairCells (ps.set i p)
 | [], i, p => by simp [pairCells]
 | x :: r, 0, p => rfl
 | x :: r, i + 1, p => by
   have := pairCells_set r i p
   rw [show (i + 1) * 2 = i * 2 + 1 + 1 by omega]
   show ((Vi x.1 :: Vi x.2 :: pairCells r).set (i * 2 + 1 + 1) _).set (i * 2 + 1 + 1 + 1) _ = Vi x.1 :: Vi x.2 :: pairCells (r.set i p)
   simp only [List.set_cons_succ]
   rw [this]
section
variable {w : World} {base g n c : Nat} {l : List (Int × Int)}
theorem ownP_over (h : w.ownsRow base 50 2 (Vs g n c) n (pairCells l)) (hn : n = l.length) {j : Nat} (hj : j < l.length) : ∀ k, k < 2 → (w.cell? ⟨g, 0 + j * 2 + k, none⟩).isSome = true ∧ w.frozen? ⟨g, 0 + j * 2 + k, none⟩ = false := fun k hk => by
 have := ownP_cells h hn hj
 refine ⟨?_, by rw [Nat.zero_add]; exact h.frozenAt _⟩
 rcases (show k = 0 ∨ k = 1 by omega) with rfl | rfl
 ·rw [Nat.add_zero, this.1]; rfl
 ·rw [this.2.1]; rfl
theorem ownP_set (h : w.ownsRow base 50 2 (Vs g n c) n (pairCells l)) (j : Nat) (p : Int × Int) :
  (w.setCells g (0 + j * 2) [Vi p.1, Vi p.2]).ownsRow base 50 2 (Vs g n c) n (pairCells (l.set j p)) := by
 rw [Nat.zero_add, ← pairCells_set]
 exact ((h.stored (j * 2) (Vi p.1)).1.stored (j * 2 + 1) (Vi p.2)).1
end
end Go.Proofs.Ythcoppfiahnpoaa
namespace Go.Proofs.Ythcoppfiahnpoaa
open Go Sym
theorem en_Differ : enters Try.prog 26 = true := by kernel_rfl
end Go.Proofs.Ythcoppfiahnpoaa
namespace Go.Proofs.Ythcoppfiahnpoaa
open Go Sym
theorem two_small {L1 s1 L2 s2 : Int} {n1 n2 : List (List Int)} {f1 f2 : List Bool} : twoM L1 s1 n1 f1 L2 s2 n2 f2 = 0 ∨ twoM L1 s1 n1 f1 L2 s2 n2 f2 = 1 ∨ twoM L1 s1 n1 f1 L2 s2 n2 f2 = 4 := by
 unfold twoM
 split
 ·exact .inr (.inl rfl)
 ·split
  ·exact .inr (.inl rfl)
  ·split
   ·exact .inr (.inr rfl)
   ·exact .inl rfl
set_option maxHeartbeats 4000000 in
theorem relate_any (L1 s1 L2 s2 : Int) (vn1 ve1 vn2 ve2 : Value) (n1 n2 : List (List Int)) (f1 f2 : List Bool) (w : World) (hm : Ma w L1 s1 n1 f1 vn1 ve1) (hm2 : Ma w L2 s2 n2 f2 vn2 ve2) (hn1 : n1.length ≤ 100) (hn2 : n2.length ≤ 100) :
  Calls Try.prog 29 #[.agg #[Vi L1, Vi s1, vn1, ve1], .agg #[Vi L2, Vi s2, vn2, ve2]] w fun e w' => ∃ (vl : Value) (l : List (Int × Int)) (r : Int), e = .returned (.tuple #[vl, Vi r]) ∧ SlP w' vl l ∧ RowKit.Below w.heap.size w w' ∧ RelE L1 s1 n1 f1 L2 s2 n2 f2 l r := by
 refine Sym.enter (args := [.agg #[Vi L1, Vi s1, vn1, ve1], .agg #[Vi L2, Vi s2, vn2, ve2]]) Try.func29 rfl rfl rfl (fun a0 hS0 => ?_)
 obtain ⟨N, hN⟩ : ∃ N, N = (w.alloc (.cells #[Vi L1, Vi s1, vn1, ve1] 25)).heap.size := ⟨_, rfl⟩
 obtain ⟨M, hM⟩ : ∃ M, M = w.heap.size := ⟨_, rfl⟩
 refine wp_seq (seq_cut [(2, Vp M), (3, Vp N)] (· = (w.alloc (.cells #[Vi L1, Vi s1, vn1, ve1] 25)).alloc (.cells #[Vi L2, Vi s2, vn2, ve2] 25)) tab_ok hS0 ?_ (fun a wc hS hw => ?_))
 ·subst hN hM
  refine zB rfl ?_
  refine zB rfl ?_
  repeat first|refine zP rfl ?_|refine zK rfl ?_
  exact o_nil ⟨⟨rfl, rfl, trivial⟩, rfl⟩
 have hB1 := below_alloc w (.cells #[Vi L1, Vi s1, vn1, ve1] 25)
 have hB2 := below_alloc (w.alloc (.cells #[Vi L1, Vi s1, vn1, ve1] 25)) (.cells #[Vi L2, Vi s2, vn2, ve2] 25)
 rw [← hw] at hB2
 have hx : Box wc M L1 s1 vn1 ve1 := by rw [hM]; exact (Box.new w L1 s1 vn1 ve1 25).keep hB2
 have hx2 : Box wc N L2 s2 vn2 ve2 := by rw [hw, hN]; exact Box.new _ _ _ _ _ _
 have hB := below_trans hB1 hB2
 clear hw hB1 hB2 hN hM
 replace hm := hm.keep hB
 replace hm2 := hm2.keep hB
 have hnil : ∀ w' : World, SlP w' (.slice none 0 0) [] := fun w' => ⟨none, 0, 0, 0, rfl, fun h => by simp at h, by simp, by simp, fun i hi => by simp at hi⟩
 refine wp_seq (seq_cutx (α := List Nat × Bool × Int) (fun x => [(2, Vp M), (3, Vp N), (8, Vi x.2.2)]) (fun x w' => RowKit.Below wc.heap.size wc w' ∧ DiffE L1 s1 n1 f1 L2 s2 n2 f2 x.1 x.2.1 x.2.2) tab_ok hS ?_ (fun x a w1 hS h1 => ?_))
 ·refine zA ([Vi L1, Vi s1, vn1, ve1]) rfl rfl (hx.cells) ?_
  refine zA ([Vi L2, Vi s2, vn2, ve2]) rfl rfl (hx2.cells) ?_
  refine zF rfl (en_Differ) (differ_any L1 s1 L2 s2 vn1 ve1 vn2 ve2 n1 n2 f1 f2 _ hm hm2) ?_
  rintro e w1 ⟨vw, word, b, r, rfl, -, -, h3, h4⟩
  refine ⟨_, rfl, ?_⟩
  repeat first|refine zP rfl ?_|refine zK rfl ?_
  exact o_nil ⟨(word, b, r), ⟨rfl, rfl, rfl, trivial⟩, h3, h4⟩
 obtain ⟨word, b, r⟩ := x
 obtain ⟨hK, hD⟩ := h1
 dsimp only at hS hD
 replace hB := below_trans hB hK
 replace hm := hm.keep hK
 replace hm2 := hm2.keep hK
 replace hx := hx.keep hK
 replace hx2 := hx2.keep hK
 clear hK
 refine wp_seq (wp_seq (seq_cut [(2, Vp M), (3, Vp N), (8, Vi r), (21, .bool (decide (r = 0)))] (· = w1) tab_ok hS ?_ (fun a w2 hS hw => ?_)))
 ·repeat first|refine zP rfl ?_|refine zK rfl ?_
  refine zC rfl (rfl) ?_
  exact o_nil ⟨⟨rfl, rfl, rfl, rfl, trivial⟩, rfl⟩
 subst hw
 have h2s := two_small (L1 := L1) (s1 := s1) (n1 := n1) (f1 := f1) (L2 := L2) (s2 := s2) (n2 := n2) (f2 := f2)
 refine cond hS rfl (fun hT => ?_) (fun hF => ?_)
 ·have hr0 := of_decide_eq_true hT
  refine wp_seq (seq_cut [(4, .slice none 0 0), (5, Vi 8)] (· = w2) tab_ok hS ?_ (fun a w3 hS hw => ?_))
  ·repeat first|refine zP rfl ?_|refine zK rfl ?_
   exact o_nil ⟨⟨rfl, rfl, trivial⟩, rfl⟩
  subst hw
  refine wp_ret ?_
  repeat (first | refine then_ret ?_ | refine block_ret ?_)
  refine ret2 hS rfl rfl rfl ⟨_, [], 8, rfl, hnil _, hB, ?_⟩
  rcases hD with ⟨a, b', _⟩ | ⟨a, ⟨_, h1, h2, _⟩ | ⟨h1, _⟩⟩
  ·omega
  ·exact .inr (.inl ⟨a, fun hal => h2 (hal word h1), rfl, rfl⟩)
  ·omega
 have hr0 := of_decide_eq_false hF
 refine wp_skip ?_
 refine wp_seq (wp_seq (seq_cut [(2, Vp M), (3, Vp N), (8, Vi r), (23, .bool (decide (r ≠ 7)))] (· = w2) tab_ok hS ?_ (fun a w3 hS hw => ?_)))
 ·repeat first|refine zP rfl ?_|refine zK rfl ?_
  refine zC rfl (rfl) ?_
  exact o_nil ⟨⟨rfl, rfl, rfl, rfl, trivial⟩, rfl⟩
 subst hw
 refine cond hS rfl (fun hT => ?_) (fun hF => ?_)
 ·have hr7 := of_decide_eq_true hT
  refine wp_seq (seq_cut [(4, .slice none 0 0), (5, Vi r)] (· = w3) tab_ok hS ?_ (fun a w4 hS hw => ?_))
  ·repeat first|refine zP rfl ?_|refine zK rfl ?_
   exact o_nil ⟨⟨rfl, rfl, trivial⟩, rfl⟩
  subst hw
  refine wp_ret ?_
  repeat (first | refine then_ret ?_ | refine block_ret ?_)
  refine ret2 hS rfl rfl rfl ⟨_, [], r, rfl, hnil _, hB, ?_⟩
  rcases hD with ⟨a, b', _⟩ | ⟨a, ⟨h1, _⟩ | ⟨h1, _⟩⟩
  ·exact .inl ⟨a, b', rfl⟩
  ·omega
  ·omega
 have hr7 : r = 7 := by have := of_decide_eq_false hF; omega
 subst hr7
 have hDD : twoM L1 s1 n1 f1 L2 s2 n2 f2 = 0 ∧ Alike L1.toNat n1 f1 s1 n2 f2 s2 := by
  rcases hD with ⟨a, b', _⟩ | ⟨a, ⟨h1, _⟩ | ⟨_, _, _, h1⟩⟩
  ·omega
  ·omega
  ·exact ⟨a, h1⟩
 obtain ⟨h20, hal⟩ := hDD
 clear hD hr0 h2s
 obtain ⟨v1, v2, hLL⟩ := two_zero h20
 obtain ⟨sA, hL1, -⟩ := shape_of_valid v1
 obtain ⟨sB, -, -⟩ := shape_of_valid v2
 rw [← hLL] at sB hm2 hx2
 have hcap : (n1.length + 1) * (n2.length + 1) ≤ 10201 := Nat.le_trans (Nat.mul_le_mul (by omega : n1.length + 1 ≤ 101) (by omega : n2.length + 1 ≤ 101)) (by decide)
 have hW := walk_all sA sB false (max := 20000) (by decide) (by omega)
 have hfew := hW.few sA sB
 refine wp_skip ?_
 refine wp_seq (seq_cutx (α := Nat × Value × Value × Value) (fun x => [(9, Vp x.1)]) (fun x w' => RowKit.Below w3.heap.size w3 w' ∧ cellsAt w'.cell? x.1 0 [x.2.1, x.2.2.1, x.2.2.2] ∧ SlP w' x.2.1 (walkM L1 s1 n1 s2 n2 false 20000).ps) tab_ok hS ?_ (fun x a w4 hS h4 => ?_))
 ·refine zA ([Vi L1, Vi s1, vn1, ve1]) rfl rfl (hx.cells) ?_
  refine zA ([Vi L1, Vi s2, vn2, ve2]) rfl rfl (hx2.cells) ?_
  refine zF rfl (en_walked) (walked_any L1 s1 L1 s2 vn1 ve1 vn2 ve2 n1 n2 f1 f2 false 20000 _ hm hm2 sA sB rfl hL1 (by decide) (by omega)) ?_
  rintro e w4 ⟨Wb, vp, vl, vf, rfl, h4, h5⟩
  refine ⟨_, rfl, ?_⟩
  generalize walkM L1 s1 n1 s2 n2 false 20000 = s at *
  have hI : ∀ x ∈ s.ps, I64 x.1 ∧ I64 x.2 := fun x hx => by
   obtain ⟨a, b, c, d⟩ := hW.range sA sB hx
   exact ⟨⟨by omega, by omega⟩, ⟨by omega, by omega⟩⟩
  have hp := h4.slp hI
  obtain ⟨g1, m1, c1, hv1⟩ := own_form h4.p
  obtain ⟨g2, m2, c2, hv2⟩ := own_form h4.l
  obtain ⟨g3, m3, c3, hv3⟩ := own_form h4.f
  subst hv1 hv2 hv3
  refine zB rfl ?_
  have hnew := OwnB.new w4 [.slice none 0 0, .slice none 0 0, .slice none 0 0] 86
  refine o_step0 rfl rfl (And.intro rfl (And.intro rfl (And.intro (own_cells3 hnew) ?_)))
  have hg := grown_sets w4.heap.size [.slice g1 m1 c1, .slice g2 m2 c2, .slice g3 m3 c3] 0 (w4.alloc (.cells #[.slice none 0 0, .slice none 0 0, .slice none 0 0] 86))
  have hb := below_of_grown (below_alloc w4 (.cells #[.slice none 0 0, .slice none 0 0, .slice none 0 0] 86)) hg (fun q hq => by cases hq; exact Nat.le_refl _)
  have hs := hnew.sets (us := [.slice g1 m1 c1, .slice g2 m2 c2, .slice g3 m3 c3]) rfl
  repeat first|refine zP rfl ?_|refine zK rfl ?_
  exact o_nil ⟨(w4.heap.size, .slice g1 m1 c1, .slice g2 m2 c2, .slice g3 m3 c3), ⟨rfl, trivial⟩, below_trans h5 hb, ⟨hs.cell (i := 0) rfl, hs.cell (i := 1) rfl, hs.cell (i := 2) rfl, trivial⟩, hp.keep hb⟩
 obtain ⟨K, vp, vl, vf⟩ := x
 obtain ⟨hK4, hc4, hp4⟩ := h4
 dsimp only at hS hc4 hp4
 generalize walkM L1 s1 n1 s2 n2 false 20000 = s at hW hfew hp4
 have hB4 := below_trans hB hK4
 have hd := hW.d
 have hI : ∀ x ∈ s.ps, I64 x.1 ∧ I64 x.2 := fun x hx => by
  obtain ⟨a, b, c, d⟩ := hW.range sA sB hx
  exact ⟨⟨by omega, by omega⟩, ⟨by omega, by omega⟩⟩
 clear hK4 hB hx hx2 hm hm2
 obtain ⟨ap, bp, op, cp, hvp, p1, p2, p3, p4⟩ := id hp4
 refine wp_seq (wp_seq (seq_cut [(9, Vp K), (31, .bool (decide ((20000 : Int) < s.ps.length)))] (· = w4) tab_ok hS ?_ (fun a w5 hS hw => ?_)))
 ·subst hvp
  repeat first|refine zP rfl ?_|refine zK rfl ?_
  refine zL rfl (hc4.1) ?_
  repeat first|refine zP rfl ?_|refine zK rfl ?_
  refine zC rfl (rfl) ?_
  exact o_nil ⟨⟨rfl, rfl, trivial⟩, rfl⟩
 subst hw
 refine cond hS rfl (fun hT => ?_) (fun hF => ?_)
 ·exfalso
  have := of_decide_eq_true hT
  omega
 refine wp_skip ?_
 obtain ⟨base, hbase⟩ : ∃ base, base = w5.heap.size := ⟨_, rfl⟩
 refine wp_seq (seq_cut [(9, Vp K), (10, Vs base 0 0)] (· = w5.alloc (.cells #[] 50)) tab_ok hS ?_ (fun a w6 hS hw => ?_))
 ·subst hbase
  repeat first|refine zP rfl ?_|refine zK rfl ?_
  refine o_step rfl rfl rfl ?_
  refine Exists.intro [] (Exists.intro #[] (And.intro (And.intro rfl rfl) (And.intro (by decide) (And.intro (by simp [Instr.fill, madeCells]) ?_))))
  repeat first|refine zP rfl ?_|refine zK rfl ?_
  exact o_nil ⟨⟨rfl, rfl, trivial⟩, rfl⟩
 have hb6 := below_alloc w5 (.cells #[] 50)
 have hr6 : (w5.alloc (.cells #[] 50)).ownsRow w5.heap.size 50 2 (Vs w5.heap.size 0 0) 0 (pairCells []) := World.ownsRow_lit (base := w5.heap.size) (e := 50) (size := 2) w5 #[] 0 (Nat.le_refl _) (by unfold maxLen; omega) (by simp)
 rw [← hw] at hb6 hr6
 rw [← hbase] at hr6
 clear hw
 refine wp_seq (cut (F := fun a' w' => ∃ (v : Value) (l : List (Int × Int)), St Try.f29.ntmps a' [(10, v)] ∧ RowKit.Below w5.heap.size w5 w' ∧ w'.ownsRow base 50 2 v l.length (pairCells l) ∧ l.Pairwise befP ∧ ∀ y, y ∈ l ↔ y ∈ s.ps) ?_ ?_)
 ·refine wp_seq (seq_cut [(9, Vp K), (10, Vs base 0 0), (11, Vi 0)] (· = w6) tab_ok hS ?_ (fun a w7 hS hw => ?_))
  ·repeat first|refine zP rfl ?_|refine zK rfl ?_
   exact o_nil ⟨⟨rfl, rfl, rfl, trivial⟩, rfl⟩
  subst hw
  refine wp_block (loop0 hS (fun g E wr => ∃ (i : Nat) (v : Value) (l : List (Int × Int)), i ≤ s.ps.length ∧ g = s.ps.length - i ∧ E = [(9, Vp K), (10, v), (11, Vi i)] ∧ RowKit.Below w5.heap.size w5 wr ∧ wr.ownsRow base 50 2 v l.length (pairCells l) ∧ l.Pairwise befP ∧ l.length = i ∧ ∀ y, y ∈ l ↔ y ∈ s.ps.take i)
   s.ps.length ⟨0, _, [], Nat.zero_le _, rfl, rfl, hb6, hr6, List.Pairwise.nil, rfl, by simp⟩ ?_)
  clear hS hb6 hr6
  rintro g E wr a1 ⟨i, v, l, hi, rfl, rfl, hb, hr, hsort, hlen, hmem⟩ hS
  have hc := (⟨Ythcoppfiahnpoaa.keep hb hc4.1, trivial⟩ : _ ∧ True)
  have hpr := hp4.keep hb
  refine wp_seq (wp_seq (seq_cut [(9, Vp K), (10, v), (11, Vi i), (37, .bool (decide ((i : Int) < s.ps.length)))] (· = wr) tab_ok hS ?_ (fun a w8 hS hw => ?_)))
  ·subst hvp
   repeat first|refine zP rfl ?_|refine zK rfl ?_
   refine zL rfl (hc.1) ?_
   repeat first|refine zP rfl ?_|refine zK rfl ?_
   refine zC rfl (rfl) ?_
   exact o_nil ⟨⟨rfl, rfl, rfl, rfl, trivial⟩, rfl⟩
  subst hw
  refine cond hS rfl (fun hT => ?_) (fun hF => ?_)
  case refine_2 =>
   refine wp_exit ?_
   repeat (first | refine then_exit ?_ | refine block_exit ?_ | refine block_other rfl ?_)
   obtain rfl : i = s.ps.length := by have := of_decide_eq_false hF; omega
   rw [List.take_length] at hmem
   exact ⟨v, l, hS.sub ⟨rfl, trivial⟩, hb, hr, hsort, hmem⟩
  have hlt : i < s.ps.length := by have := of_decide_eq_true hT; omega
  obtain rfl := p1 (by omega)
  obtain ⟨x, hx⟩ : ∃ x, s.ps[i] = x := ⟨_, rfl⟩
  have hxl : x ∉ l := fun h => by
   have h1 := (hmem x).1 h
   obtain ⟨j, hj, e⟩ := List.mem_iff_getElem.1 h1
   rw [List.length_take] at hj
   rw [List.getElem_take] at e
   have := (List.getElem_inj hd).1 (e.trans hx.symm)
   omega
  refine wp_skip ?_
  refine wp_seq (wp_block ?_)
  refine wp_seq (seq_cutx (α := Value) (fun v' => [(9, Vp K), (10, v'), (11, Vi i)]) (fun v' w' => RowKit.Below w5.heap.size w5 w' ∧ w'.ownsRow base 50 2 v' (l.length + 1) (pairCells (l ++ [x]))) tab_ok hS ?_ (fun v' a w9 hS h9 => ?_))
  ·subst hvp
   obtain ⟨g1, m1, c1, hv⟩ := own_form hr
   subst hv
   have hpc := (hp4.keep hb)
   obtain ⟨_, _, _, _, hv2, p1', _, _, p4'⟩ := hpc
   cases p1' (by omega)
   cases hv2
   have hcx := (p4' i hlt).1
   rw [hx] at hcx
   repeat first|refine zP rfl ?_|refine zK rfl ?_
   refine zL rfl (hc.1) ?_
   repeat first|refine zP rfl ?_|refine zK rfl ?_
   refine zI rfl (rfl) (hlt) ?_
   refine zA ([Vi x.1, Vi x.2]) rfl rfl (hcx) ?_
   refine o_step rfl rfl rfl ?_
   refine Exists.intro [(0, .agg #[Vi x.1,  Vi x.2])] (Exists.intro #[Vi x.1,  Vi x.2] (And.intro (And.intro rfl rfl) (And.intro (by decide) (And.intro (fill2 _ _ _ rfl) ?_))))
   have hy1 := below_alloc w8 (.cells #[Vi x.1, Vi x.2] 50)
   have ask : AppAsk (w8.alloc (.cells #[Vi x.1, Vi x.2] 50)) ⟨50, .struct [(0, 3), (1, 3)], 2, 16, .agg #[Vi 0, Vi 0]⟩ (.slice g1 m1 c1) l.length (pairCells l) (Vs w8.heap.size 1 1) 1 [Vi x.1, Vi x.2] base :=
    ⟨hr.alloc _, .inr ⟨_, 0, _, rfl, cell_alloc_new rfl, cell_alloc_new rfl, trivial⟩, rfl, (by simp [Value.oneCell']), (by omega), (by show (l.length + 1) * 16 ≤ _; omega), by have := hb.size; have := hy1.size; omega⟩
   refine o_step rfl rfl rfl ?_
   refine Exists.intro _ (Exists.intro _ (Exists.intro _ (Exists.intro _ (Exists.intro _ (And.intro (ask) (And.intro (fun _ h => h.symm) (And.intro (by decide) ?_)))))))
   rintro v' w9 hown hgr - -
   rw [pairCells_append l x] at hown
   have h9 := below_of_grown (below_trans hb hy1) hgr (fun q hq => by have := (hr.lt q hq).1; omega)
   repeat first|refine zP rfl ?_|refine zK rfl ?_
   exact o_nil ⟨v', ⟨rfl, rfl, rfl, trivial⟩, h9, hown⟩
  obtain ⟨hb9, hr9⟩ := h9
  obtain ⟨G, cG, rfl⟩ : ∃ G cG, v' = Vs G (l.length + 1) cG := by
   rcases hr9.2 with ⟨_, h⟩ | ⟨g, cap, cur, h, _⟩
   ·omega
   ·exact ⟨_, _, h⟩
  clear hb hr hc hpr p2 p3 p4
  refine wp_seq (seq_cut [(9, Vp K), (10, Vs G (l.length + 1) cG), (11, Vi i), (12, Vi (l.length : Nat))] (· = w9) tab_ok hS ?_ (fun a w10 hS hw => ?_))
  ·repeat first|refine zP rfl ?_|refine zK rfl ?_
   refine zN rfl (wrap64 (y := (l.length : Nat)) (by omega) (by omega) (by omega)) ?_
   repeat first|refine zP rfl ?_|refine zK rfl ?_
   exact o_nil ⟨⟨rfl, rfl, rfl, rfl, trivial⟩, rfl⟩
  subst hw
  refine cut (F := fun a' w' => ∃ k : Nat, St Try.f29.ntmps a' [(9, Vp K), (10, Vs G (l.length + 1) cG), (11, Vi i)] ∧ RowKit.Below w5.heap.size w5 w' ∧ w'.ownsRow base 50 2 (Vs G (l.length + 1) cG) (l.length + 1) (pairCells (insL l x k)) ∧ k ≤ l.length ∧ (∀ y ∈ l.drop k, befP x y) ∧ ∀ j (h : j < l.length), k = j + 1 → ¬ befP x l[j]) ?_ ?_
  ·refine wp_block (loop0 hS (fun g E wr => ∃ k : Nat, k ≤ l.length ∧ g = k ∧ E = [(9, Vp K), (10, Vs G (l.length + 1) cG), (11, Vi i), (12, Vi (k : Nat))] ∧ RowKit.Below w5.heap.size w5 wr ∧ wr.ownsRow base 50 2 (Vs G (l.length + 1) cG) (l.length + 1) (pairCells (insL l x k)) ∧ ∀ y ∈ l.drop k, befP x y)
    l.length ⟨l.length, Nat.le_refl _, rfl, rfl, hb9, by rw [insL_end]; exact hr9, by simp⟩ ?_)
   clear hS hb9 hr9
   rintro k E wr a1 ⟨_, hk, rfl, rfl, hb, hr, haft⟩ hS
   cases k with
   | zero =>
     refine wp_seq (wp_seq (quiet_cut [(9, Vp K), (10, Vs G (l.length + 1) cG), (11, Vi i), (12, Vi (0 : Nat)), (64, .bool false)] tab_ok mixed (by kernel_rfl) hS ?_ (fun a w11 hS hw => ?_)))
     ·repeat first|refine qP rfl ?_|refine qK rfl ?_
      refine qC rfl (decide_eq_false (by decide)) ?_
      repeat first|refine qP rfl ?_|refine qK rfl ?_
      exact q_nil ⟨rfl, rfl, rfl, rfl, rfl, trivial⟩
     refine cond hS rfl (fun hT => by cases hT) (fun _ => ?_)
     refine wp_exit ?_
     repeat (first | refine then_exit ?_ | refine block_exit ?_ | refine block_other rfl ?_)
     exact ⟨0, hS.sub ⟨rfl, rfl, rfl, trivial⟩, below_trans hb hw, hr.kept (grown_below hw) (none_or _), Nat.zero_le _, haft, fun j h e => by omega⟩
   | succ k =>
     have hkl : k < l.length := by omega
     have hil : (insL l x (k + 1)).length = l.length + 1 := insL_len ..
     have hx1 : (insL l x (k + 1))[k + 1]'(by omega) = x := by
      have := insL_at (x := x) hk
      rw [List.getElem?_eq_getElem (by omega)] at this
      exact Option.some.inj this
     have hx0 : (insL l x (k + 1))[k]'(by omega) = l[k] := by
      have := insL_ahead (x := x) hkl
      rw [List.getElem?_eq_getElem (by omega)] at this
      exact Option.some.inj this
     have c1 := ownP_cells hr hil.symm (j := k + 1) (by omega)
     have c0 := ownP_cells hr hil.symm (j := k) (by omega)
     rw [hx1] at c1
     rw [hx0] at c0
     obtain ⟨q, hq⟩ : ∃ q, l[k] = q := ⟨_, rfl⟩
     rw [hq] at c0 hx0
     obtain ⟨b64, hb64⟩ : ∃ b, beforeM x.1 x.2 q.1 q.2 = b := ⟨_, rfl⟩
     have hbP : b64 = true ↔ befP x q := by
      rw [← hb64]
      simp only [beforeM, Bool.or_eq_true, Bool.and_eq_true, decide_eq_true_eq, befP]
     refine wp_seq (wp_seq (quiet_cut [(9, Vp K), (10, Vs G (l.length + 1) cG), (11, Vi i), (12, Vi (k + 1 : Nat)), (64, .bool b64)] tab_ok mixed (by kernel_rfl) hS ?_ (fun a w11 hS hw => ?_)))
     ·repeat first|refine qP rfl ?_|refine qK rfl ?_
      refine qC rfl (decide_eq_true (by omega)) ?_
      repeat first|refine qP rfl ?_|refine qK rfl ?_
      refine qI rfl (rfl) ((by omega : k + 1 < l.length + 1)) ?_
      refine qA ([Vi x.1, Vi x.2]) rfl rfl (c1) ?_
      repeat first|refine qP rfl ?_|refine qK rfl ?_
      refine qN rfl (wrap64 (y := (k : Nat)) (by omega) (by omega) (by omega)) ?_
      refine qI rfl (rfl) ((by omega : k < l.length + 1)) ?_
      refine qA ([Vi q.1, Vi q.2]) rfl rfl (c0) ?_
      refine qF (.bool b64) rfl (en_before) (fun w1 h1 => hb64 ▸ before_any x.1 x.2 q.1 q.2 w1) ?_
      repeat first|refine qP rfl ?_|refine qK rfl ?_
      exact q_nil ⟨rfl, rfl, rfl, rfl, rfl, trivial⟩
     have hb11 := below_trans hb hw
     have hr11 := hr.kept (grown_below hw) (none_or _)
     clear hb hr hw c1 c0
     refine cond hS rfl (fun hT => ?_) (fun hF => ?_)
     case refine_2 =>
      refine wp_exit ?_
      repeat (first | refine then_exit ?_ | refine block_exit ?_ | refine block_other rfl ?_)
      refine ⟨k + 1, hS.sub ⟨rfl, rfl, rfl, trivial⟩, hb11, hr11, hk, haft, fun j h e => ?_⟩
      obtain rfl : j = k := by omega
      rw [hq]
      exact fun hh => by rw [hbP.2 hh] at hF; cases hF
     have hbef := hbP.1 hT
     refine wp_skip ?_
     refine wp_seq (wp_block ?_)
     have hGb := (hr11.lt G rfl).1
     have hil' : ((insL l x (k + 1)).set k x).length = l.length + 1 := by rw [List.length_set, hil]
     have hrd := hr11.drew
     have hr2 := ownP_set hrd k x
     have hr3 := ownP_set hr2 (k + 1) q
     have c1 := ownP_cells hrd hil.symm (j := k + 1) (by omega)
     have c0 := ownP_cells hrd hil.symm (j := k) (by omega)
     rw [hx1] at c1
     rw [hx0] at c0
     have hbd := below_trans hb11 (below_drew w11)
     have hg2 := grown_sets G [Vi x.1, Vi x.2] (0 + k * 2) w11.drew
     have hb2 := below_of_grown hbd hg2 (fun y hy => by cases hy; omega)
     have hg3 := grown_sets G [Vi q.1, Vi q.2] (0 + (k + 1) * 2) (w11.drew.setCells G (0 + k * 2) [Vi x.1, Vi x.2])
     have hb3 := below_of_grown hb2 hg3 (fun y hy => by cases hy; omega)
     refine any_cut 15 [(9, Vp K), (10, Vs G (l.length + 1) cG), (11, Vi i), (12, Vi (k + 1 : Nat))] (· = (w11.drew.setCells G (0 + k * 2) [Vi x.1, Vi x.2]).setCells G (0 + (k + 1) * 2) [Vi q.1, Vi q.2]) mixed hS ?_ (fun a w12 hS hw => ?_)
     ·have hy : RowKit.Below w11.drew.heap.size w11.drew w11.drew := RowKit.Below.refl _ _
      refine yT 0 tab_ok rfl (by kernel_rfl) hy rfl (rfl) ?_
      refine yT 1 tab_ok rfl (by kernel_rfl) hy rfl (rfl) ?_
      refine yT 2 tab_ok rfl (by kernel_rfl) hy rfl (Exists.intro _ (And.intro (wrap64 (y := (k : Nat)) (by omega) (by omega) (by omega)) rfl)) ?_
      refine yT 5 tab_ok rfl (by kernel_rfl) hy rfl (rfl) ?_
      refine yT 6 tab_ok rfl (by kernel_rfl) hy rfl (rfl) ?_
      refine yT 7 tab_ok rfl (by kernel_rfl) hy rfl (Exists.intro _ (And.intro (rfl) (And.intro ((by omega : k + 1 < l.length + 1)) rfl))) ?_
      refine yT 8 tab_ok rfl (by kernel_rfl) hy rfl (Exists.intro ([Vi x.1, Vi x.2]) (And.intro rfl (And.intro (c1) rfl))) ?_
      refine yT 9 tab_ok rfl (by kernel_rfl) hy rfl (rfl) ?_
      refine yT 10 tab_ok rfl (by kernel_rfl) hy rfl (rfl) ?_
      refine yT 11 tab_ok rfl (by kernel_rfl) hy rfl (Exists.intro _ (And.intro (wrap64 (y := (k : Nat)) (by omega) (by omega) (by omega)) rfl)) ?_
      refine yT 12 tab_ok rfl (by kernel_rfl) hy rfl (Exists.intro _ (And.intro (rfl) (And.intro ((by omega : k < l.length + 1)) rfl))) ?_
      refine yT 13 tab_ok rfl (by kernel_rfl) hy rfl (Exists.intro ([Vi q.1, Vi q.2]) (And.intro rfl (And.intro (c0) rfl))) ?_
      refine yT 14 tab_ok rfl (by kernel_rfl) hy rfl (Exists.intro _ (And.intro (rfl) (And.intro ((by omega : k < l.length + 1)) rfl))) ?_
      refine yG 3 tab_ok rfl (by kernel_rfl) (.inr hy) rfl rfl ?_
      refine yG 4 tab_ok rfl (by kernel_rfl) (.inr hy) rfl rfl ?_
      refine y_one 15 (by kernel_rfl) (y_op0 15 tab_ok rfl rfl rfl ?_)
      refine And.intro rfl (And.intro rfl (And.intro (ownP_over hrd hil.symm (j := k) (by omega)) (And.intro (.inl (by kernel_rfl)) ?_)))
      refine y_one 16 (by kernel_rfl) (y_op 16 tab_ok rfl rfl rfl rfl ?_)
      refine Exists.intro (k + 1) (And.intro rfl (And.intro (by omega) (And.intro (.inl (by kernel_rfl)) ?_)))
      refine y_one 17 (by kernel_rfl) (y_op0 17 tab_ok rfl rfl rfl ?_)
      refine And.intro rfl (And.intro rfl (And.intro (ownP_over hr2 hil'.symm (j := k + 1) (by omega)) (And.intro (.inl (by kernel_rfl)) ?_)))
      exact y_end (by kernel_rfl) ⟨rfl, rfl, rfl, rfl, trivial⟩ rfl
     rw [← hw] at hr3 hb3
     rw [← hq, insL_swap hkl] at hr3
     refine block_normal ?_
     refine then_normal ?_
     refine seq_cut [(9, Vp K), (10, Vs G (l.length + 1) cG), (11, Vi i), (12, Vi (k : Nat))] (· = w12) tab_ok hS ?_ (fun a w13 hS hw => ?_)
     ·repeat first|refine zP rfl ?_|refine zK rfl ?_
      refine zN rfl (wrap64 (y := (k : Nat)) (by omega) (by omega) (by omega)) ?_
      repeat first|refine zP rfl ?_|refine zK rfl ?_
      exact o_nil ⟨⟨rfl, rfl, rfl, rfl, trivial⟩, rfl⟩
     subst hw
     exact ⟨k, _, by omega, ⟨k, by omega, rfl, rfl, hb3, hr3, insL_step hkl haft (hq ▸ hbef)⟩, hS⟩
  rintro a w10 ⟨k, hS, hb10, hr10, hk, haft, hstop⟩
  refine block_normal ?_
  refine then_normal ?_
  refine seq_cut [(9, Vp K), (10, Vs G (l.length + 1) cG), (11, Vi (i + 1 : Nat))] (· = w10) tab_ok hS ?_ (fun a w11 hS hw => ?_)
  ·repeat first|refine zP rfl ?_|refine zK rfl ?_
   refine zN rfl (wrap_succ (by omega)) ?_
   repeat first|refine zP rfl ?_|refine zK rfl ?_
   exact o_nil ⟨⟨rfl, rfl, rfl, trivial⟩, rfl⟩
  subst hw
  refine ⟨s.ps.length - (i + 1), _, by omega, ⟨i + 1, _, insL l x k, hlt, rfl, rfl, hb10, by rw [insL_len]; exact hr10, insL_sorted hsort hk haft hxl hstop, by rw [insL_len, hlen], fun y => ?_⟩, hS⟩
  rw [insL_mem, hmem, List.take_succ_eq_append_getElem hlt, hx]
  simp [or_comm]
 rintro a w7 ⟨v, l, hS, hb7, hr7, hsort, hmem⟩
 refine wp_seq (seq_cut [(4, v), (5, Vi 0)] (· = w7) tab_ok hS ?_ (fun a w8 hS hw => ?_))
 ·repeat first|refine zP rfl ?_|refine zK rfl ?_
  exact o_nil ⟨⟨rfl, rfl, trivial⟩, rfl⟩
 subst hw
 refine wp_ret ?_
 repeat (first | refine then_ret ?_ | refine block_ret ?_)
 refine ret2 hS rfl rfl rfl ⟨v, l, 0, rfl, ownP_slp hr7 rfl (fun x hx => hI x ((hmem x).1 hx)), below_trans hB4 hb7, .inr (.inr ⟨h20, hal, rfl, hsort, fun p => (hmem p).trans (hW.mem p)⟩)⟩
end Go.Proofs.Ythcoppfiahnpoaa
namespace Go.Proofs.Ythcoppfiahnpoaa
open Go Sym
theorem cells_pairs {f : Addr → Option Value} {b : Nat} : ∀ (l : List (Int × Int)) (o : Nat), (∀ i (h : i < l.length), cellsAt f b (o + i * 2) [Vi l[i].1, Vi l[i].2]) → cellsAt f b o (pairCells l)
 | [], _, _ => trivial
 | x :: r, o, h => by
   have h0 := h 0 (by simp)
   have := cells_pairs r (o + 1 + 1) (fun i hi => by
    have := h (i + 1) (by simpa using hi)
    rw [show o + (i + 1) * 2 = o + 1 + 1 + i * 2 by omega] at this
    exact this)
   exact ⟨h0.1, h0.2.1, this⟩
theorem slp_src {w : World} {v : Value} {l : List (Int × Int)} (h : SlP w v l) (hok : Ok v) :
  ((v = .slice none 0 0 ∨ ∃ ad c, v = .slice (some ad) 0 c) ∧ l.length = 0 ∧ pairCells l = []) ∨ ∃ b o c, v = .slice (some ⟨b, o, none⟩) l.length c ∧ cellsAt w.cell? b o (pairCells l) := by
 obtain ⟨a, b, o, cap, rfl, h1, h2, h3, h4⟩ := h
 rcases Nat.eq_zero_or_pos l.length with h0 | h0
 ·have hl : l = [] := List.length_eq_zero_iff.1 h0
  subst hl
  refine .inl ⟨?_, rfl, rfl⟩
  rcases hok with (e | ⟨ad, c, e⟩) | ⟨b', o', n', c', e⟩
  ·exact .inl e
  ·exact .inr ⟨ad, c, e⟩
  ·cases e
   exact .inr ⟨_, _, rfl⟩
 ·obtain rfl := h1 h0
  exact .inr ⟨b, o, cap, rfl, cells_pairs l o (fun i hi => (h4 i hi).1)⟩
theorem OwnM.grownP {base b2 n : Nat} {w w' : World} {next : List (List Int)} {fin : List Bool} {vn ve v : Value} {xs : List Value} (h : OwnM base w next fin vn ve) (hr : w.ownsRow b2 50 2 v n xs) (hg : w.grownBy w' v.ownBlock) : OwnM base w' next fin vn ve := by
 obtain ⟨us, h1, h2, h3⟩ := h.n
 exact ⟨h.e.kept hg (own_ne hr h.e (by decide)), us, h1, h2.kept hg (own_ne hr h2 (by decide)), fun i hi => by
  obtain ⟨u, k1, k2, k3⟩ := h3 i hi
  exact ⟨u, k1, k2.kept hg (own_ne hr k2 (by decide)), k3⟩⟩
theorem en_Relate : enters Try.prog 29 = true := by kernel_rfl
theorem en_Check : enters Try.prog 30 = true := by kernel_rfl
set_option maxHeartbeats 1000000 in
theorem autoRelates_any (C : AwakeC) (L1 s1 L2 s2 : Int) (vn1 ve1 vn2 ve2 vp : Value) (n1 n2 : List (List Int)) (f1 f2 : List Bool) (l : List (Int × Int)) (w : World)
  (hi1 : MaIn w L1 s1 n1 f1 vn1 ve1) (hi2 : MaIn w L2 s2 n2 f2 vn2 ve2) (hl0 : SlP w vp l) (hok0 : Ok vp) :
  Calls Try.prog 8 #[.agg #[Vi L1, Vi s1, vn1, ve1], .agg #[Vi L2, Vi s2, vn2, ve2], vp] w fun e w' => e = .returned (.bool true) ∧ RowKit.Below w.heap.size w w' := by
 refine Sym.enter (args := [.agg #[Vi L1, Vi s1, vn1, ve1], .agg #[Vi L2, Vi s2, vn2, ve2], vp]) Try.func8 rfl rfl rfl (fun a0 hS0 => ?_)
 obtain ⟨N, hN⟩ : ∃ N, N = (w.alloc (.cells #[Vi L1, Vi s1, vn1, ve1] 25)).heap.size := ⟨_, rfl⟩
 obtain ⟨M, hM⟩ : ∃ M, M = w.heap.size := ⟨_, rfl⟩
 refine wp_seq (seq_cut [(2, vp), (3, Vp M), (4, Vp N)] (· = (w.alloc (.cells #[Vi L1, Vi s1, vn1, ve1] 25)).alloc (.cells #[Vi L2, Vi s2, vn2, ve2] 25)) tab_ok hS0 ?_ (fun a wc hS hw => ?_))
 ·subst hN hM
  refine zB rfl ?_
  refine zB rfl ?_
  repeat first|refine zP rfl ?_|refine zK rfl ?_
  exact o_nil ⟨⟨rfl, rfl, rfl, trivial⟩, rfl⟩
 have hB1 := below_alloc w (.cells #[Vi L1, Vi s1, vn1, ve1] 25)
 have hB2 := below_alloc (w.alloc (.cells #[Vi L1, Vi s1, vn1, ve1] 25)) (.cells #[Vi L2, Vi s2, vn2, ve2] 25)
 rw [← hw] at hB2
 have hx : Box wc M L1 s1 vn1 ve1 := by rw [hM]; exact (Box.new w L1 s1 vn1 ve1 25).keep hB2
 have hy : Box wc N L2 s2 vn2 ve2 := by rw [hw, hN]; exact Box.new _ _ _ _ _ _
 have hB := below_trans hB1 hB2
 clear hw hB1 hB2 hN hM
 have hm := hi1.ma.keep hB
 have hm2 := hi2.ma.keep hB
 replace hl0 := hl0.keep hB
 obtain ⟨gl, cl, hvp, -⟩ := hl0.len
 obtain ⟨b25, hb25⟩ : ∃ b, (!smallM L1 n1 f1 || (!smallM L2 n2 f2 || decide ((1000 : Int) < l.length))) = b := ⟨_, rfl⟩
 refine wp_seq (wp_seq (seq_cut [(2, vp), (3, Vp M), (4, Vp N), (25, .bool b25)] (fun w' => RowKit.Below wc.heap.size wc w') tab_ok hS ?_ (fun a w1 hS hw => ?_)))
 ·subst hvp
  refine zA ([Vi L1, Vi s1, vn1, ve1]) rfl rfl (hx.cells) ?_
  refine zF rfl (en_small') (small_any L1 s1 vn1 ve1 n1 f1 _ hm) ?_
  rintro e w1 ⟨rfl, h1⟩
  refine ⟨_, rfl, ?_⟩
  cases e1 : !smallM L1 n1 f1
  case true =>
   rw [e1, Bool.true_or] at hb25; subst hb25
   refine zP rfl ?_
   rw [e1]
   repeat first|refine zP rfl ?_|refine zK rfl ?_
   exact o_nil ⟨⟨rfl, rfl, rfl, rfl, trivial⟩, h1⟩
  rw [e1, Bool.false_or] at hb25
  refine zP rfl ?_
  rw [e1]
  repeat first|refine zP rfl ?_|refine zK rfl ?_
  refine zA ([Vi L2, Vi s2, vn2, ve2]) rfl rfl ((hy.keep h1).cells) ?_
  refine zF rfl (en_small') (small_any L2 s2 vn2 ve2 n2 f2 _ (hm2.keep h1)) ?_
  rintro e w2 ⟨rfl, h2⟩
  refine ⟨_, rfl, ?_⟩
  have h12 := below_trans h1 h2
  cases e2 : !smallM L2 n2 f2
  case true =>
   rw [e2, Bool.true_or] at hb25; subst hb25
   refine zP rfl ?_
   rw [e2]
   repeat first|refine zP rfl ?_|refine zK rfl ?_
   exact o_nil ⟨⟨rfl, rfl, rfl, rfl, trivial⟩, h12⟩
  rw [e2, Bool.false_or] at hb25
  refine zP rfl ?_
  rw [e2]
  repeat first|refine zP rfl ?_|refine zK rfl ?_
  refine zC rfl (hb25) ?_
  repeat first|refine zP rfl ?_|refine zK rfl ?_
  exact o_nil ⟨⟨rfl, rfl, rfl, rfl, trivial⟩, h12⟩
 replace hB := below_trans hB hw
 replace hx := hx.keep hw
 replace hy := hy.keep hw
 replace hm := hm.keep hw
 replace hm2 := hm2.keep hw
 replace hl0 := hl0.keep hw
 clear hw
 refine cond hS rfl (fun hT => ?_) (fun hF => ?_)
 ·refine wp_seq (seq_cut [(6, .bool true)] (fun w' => RowKit.Below w1.heap.size w1 w') tab_ok hS ?_ (fun a w2 hS hw => ?_))
  ·refine zF rfl (en_awake) (awake_any C _) ?_
   rintro e w2 ⟨rfl, h2⟩
   refine ⟨_, rfl, ?_⟩
   repeat first|refine zP rfl ?_|refine zK rfl ?_
   exact o_nil ⟨⟨rfl, trivial⟩, h2⟩
  refine wp_ret ?_
  repeat (first | refine then_ret ?_ | refine block_ret ?_)
  exact ret1 hS rfl rfl ⟨rfl, below_trans hB hw⟩
 rw [hF] at hb25
 simp only [Bool.or_eq_false_iff, Bool.not_eq_false'] at hb25
 obtain ⟨g1, g2, g3⟩ := hb25
 have hs1 : n1.length ≤ 30 := by simp only [smallM, Bool.and_eq_true, decide_eq_true_eq] at g1; omega
 have hs2 : n2.length ≤ 30 := by simp only [smallM, Bool.and_eq_true, decide_eq_true_eq] at g2; omega
 refine wp_skip ?_
 refine wp_seq (seq_cutx (α := Value × List (Int × Int) × Int) (fun x => [(2, vp), (3, Vp M), (4, Vp N), (7, x.1), (8, Vi x.2.2)]) (fun x w' => RowKit.Below w1.heap.size w1 w' ∧ SlP w' x.1 x.2.1 ∧ RelE L1 s1 n1 f1 L2 s2 n2 f2 x.2.1 x.2.2) tab_ok hS ?_ (fun x a w2 hS h2 => ?_))
 ·refine zA ([Vi L1, Vi s1, vn1, ve1]) rfl rfl (hx.cells) ?_
  refine zA ([Vi L2, Vi s2, vn2, ve2]) rfl rfl (hy.cells) ?_
  refine zF rfl (en_Relate) (relate_any L1 s1 L2 s2 vn1 ve1 vn2 ve2 n1 n2 f1 f2 _ hm hm2 (by omega) (by omega)) ?_
  rintro e w2 ⟨vl, k, r, rfl, h1, h2, h3⟩
  refine ⟨_, rfl, ?_⟩
  repeat first|refine zP rfl ?_|refine zK rfl ?_
  exact o_nil ⟨(vl, k, r), ⟨rfl, rfl, rfl, rfl, rfl, trivial⟩, h2, h1, h3⟩
 obtain ⟨vl, k, r⟩ := x
 obtain ⟨hK2, hsl, hR⟩ := h2
 dsimp only at hS hsl hR
 have hB2 := below_trans hB hK2
 obtain ⟨due, hdue⟩ : ∃ due, checkM L1 s1 n1 f1 L2 s2 n2 f2 l = due := ⟨_, rfl⟩
 refine wp_seq (seq_cut [(2, vp), (3, Vp M), (4, Vp N), (7, vl), (8, Vi r), (9, Vi due)] (fun w' => RowKit.Below w2.heap.size w2 w') tab_ok hS ?_ (fun a w3 hS hK3 => ?_))
 ·refine zA ([Vi L1, Vi s1, vn1, ve1]) rfl rfl ((hx.keep hK2).cells) ?_
  refine zA ([Vi L2, Vi s2, vn2, ve2]) rfl rfl ((hy.keep hK2).cells) ?_
  repeat first|refine zP rfl ?_|refine zK rfl ?_
  refine zF rfl (en_Check) (hdue ▸ check_any L1 s1 L2 s2 vn1 ve1 vn2 ve2 vp n1 n2 f1 f2 l _ (hm.keep hK2) (hm2.keep hK2) (hl0.keep hK2)) ?_
  rintro e w3 ⟨rfl, h3⟩
  refine ⟨_, rfl, ?_⟩
  repeat first|refine zP rfl ?_|refine zK rfl ?_
  exact o_nil ⟨⟨rfl, rfl, rfl, rfl, rfl, rfl, trivial⟩, h3⟩
 have hB3 := below_trans hB2 hK3
 have hx3 := (hx.keep hK2).keep hK3
 have hy3 := (hy.keep hK2).keep hK3
 have hl3 := (hl0.keep hK2).keep hK3
 replace hsl := hsl.keep hK3
 clear hx hy hl0 hK2 hK3 hm hm2 hB hB2
 refine wp_seq (any_cutx (α := Value × List (Int × Int) × Int) 10 (fun x => [(2, vp), (3, Vp M), (4, Vp N), (7, vl), (8, Vi r), (9, Vi due), (10, x.1), (11, Vi x.2.2)]) (fun x w' => RowKit.Below w3.heap.size w3 w' ∧ SlP w' x.1 x.2.1 ∧ RelE L1 s1 n1 f1 L2 s2 n2 f2 x.2.1 x.2.2) mixed hS ?_ (fun x a w4 hS h4 => ?_))
 ·have hy0 : RowKit.Below w3.drew.heap.size w3.drew w3.drew := RowKit.Below.refl _ _
  refine yT 0 tab_ok rfl (by kernel_rfl) hy0 rfl (Exists.intro ([Vi L1, Vi s1, vn1, ve1]) (And.intro rfl (And.intro (hx3.cells) rfl))) ?_
  refine yT 2 tab_ok rfl (by kernel_rfl) hy0 rfl (Exists.intro ([Vi L2, Vi s2, vn2, ve2]) (And.intro rfl (And.intro (hy3.cells) rfl))) ?_
  refine y_one 1 (by kernel_rfl) (y_op 1 tab_ok rfl rfl rfl rfl ?_)
  refine And.intro en_Copy ((hi1.copy (below_trans hB3 (below_drew w3))).mono ?_)
  rintro e wa ⟨vn3, ve3, rfl, hm3, hb3⟩
  refine ⟨_, rfl, ?_⟩
  have hy1 := below_trans hy0 hb3
  refine And.intro (.inr hy1) ?_
  refine y_one 3 (by kernel_rfl) (y_op 3 tab_ok rfl rfl rfl rfl ?_)
  refine And.intro en_Copy ((hi2.copy (below_trans hB3 (undrew hy1))).mono ?_)
  rintro e wb ⟨vn4, ve4, rfl, hm4, hb4⟩
  refine ⟨_, rfl, ?_⟩
  have hy4 := below_trans hy1 hb4
  refine And.intro (.inr hy4) ?_
  refine y_one 4 (by kernel_rfl) (y_op 4 tab_ok rfl rfl rfl rfl ?_)
  refine And.intro en_aRelate ((C.relate L1 s1 L2 s2 vn3 ve3 vn4 ve4 n1 n2 f1 f2 wb ((hm3.ma hi1.ma.L hi1.ma.s).keep hb4) (hm4.ma hi2.ma.L hi2.ma.s) (by omega) (by omega)).mono ?_)
  rintro e wd ⟨vl', k', r', rfl, h1, h3, h4⟩
  refine ⟨_, rfl, ?_⟩
  have hy5 := below_trans hy4 h3
  refine And.intro (.inr hy5) ?_
  refine yT 5 tab_ok rfl (by kernel_rfl) hy5 rfl (rfl) ?_
  refine yT 6 tab_ok rfl (by kernel_rfl) hy5 rfl (rfl) ?_
  refine yT 7 tab_ok rfl (by kernel_rfl) hy5 rfl (rfl) ?_
  refine yT 8 tab_ok rfl (by kernel_rfl) hy5 rfl (rfl) ?_
  refine yT 9 tab_ok rfl (by kernel_rfl) hy5 rfl (rfl) ?_
  exact y_endx (vl', k', r') (by kernel_rfl) ⟨rfl, rfl, rfl, rfl, rfl, rfl, rfl, rfl, trivial⟩ ⟨undrew hy5, h1, h4⟩
 obtain ⟨vl', k', r'⟩ := x
 obtain ⟨hK4, hsl', hR'⟩ := h4
 dsimp only at hS hsl' hR'
 obtain ⟨rfl, rfl⟩ := hR.one hR'
 have hB4 := below_trans hB3 hK4
 replace hx3 := hx3.keep hK4
 replace hy3 := hy3.keep hK4
 replace hl3 := hl3.keep hK4
 replace hsl := hsl.keep hK4
 clear hK4 hR hR' hB3
 obtain ⟨a1, b1, o1, c1, hv1, p1, p2, p3, p4⟩ := id hsl
 obtain ⟨a2, b2, o2, c2, hv2, q1, -, -, q4⟩ := id hsl'
 refine wp_seq (wp_seq (seq_cut [(2, vp), (3, Vp M), (4, Vp N), (7, vl), (9, Vi due), (10, vl'), (54, .bool false)] (· = w4) tab_ok hS ?_ (fun a w5 hS hw => ?_)))
 ·subst hv1 hv2
  repeat first|refine zP rfl ?_|refine zK rfl ?_
  refine zC rfl (decide_eq_false (by simp)) ?_
  repeat first|refine zP rfl ?_|refine zK rfl ?_
  refine zC rfl (decide_eq_false (by simp)) ?_
  repeat first|refine zP rfl ?_|refine zK rfl ?_
  exact o_nil ⟨⟨rfl, rfl, rfl, rfl, rfl, rfl, rfl, trivial⟩, rfl⟩
 subst hw
 refine cond hS rfl (fun hT => by cases hT) (fun _ => ?_)
 refine wp_skip ?_
 refine wp_seq (wp_seq (seq_cut [(2, vp), (3, Vp M), (4, Vp N), (7, vl), (9, Vi due), (10, vl'), (12, Vi 0)] (· = w5) tab_ok hS ?_ (fun a w6 hS hw => ?_)))
 ·repeat first|refine zP rfl ?_|refine zK rfl ?_
  exact o_nil ⟨⟨rfl, rfl, rfl, rfl, rfl, rfl, rfl, trivial⟩, rfl⟩
 subst hw
 refine wp_block (loop0 hS (fun g E wr => ∃ i : Nat, i ≤ k.length ∧ g = k.length - i ∧ E = [(2, vp), (3, Vp M), (4, Vp N), (7, vl), (9, Vi due), (10, vl'), (12, Vi i)] ∧ RowKit.Below w6.heap.size w6 wr)
  k.length ⟨0, Nat.zero_le _, rfl, rfl, RowKit.Below.refl _ _⟩ ?_)
 clear hS
 rintro g E wr a1' ⟨i, hi, rfl, rfl, hb⟩ hS
 refine wp_seq (wp_seq (seq_cut [(2, vp), (3, Vp M), (4, Vp N), (7, vl), (9, Vi due), (10, vl'), (12, Vi i), (58, .bool (decide ((i : Int) < k.length)))] (· = wr) tab_ok hS ?_ (fun a w7 hS hw => ?_)))
 ·subst hv2
  repeat first|refine zP rfl ?_|refine zK rfl ?_
  refine zC rfl (rfl) ?_
  exact o_nil ⟨⟨rfl, rfl, rfl, rfl, rfl, rfl, rfl, rfl, trivial⟩, rfl⟩
 subst hw
 refine cond hS rfl (fun hT => ?_) (fun hF => ?_)
 ·have hlt : i < k.length := by have := of_decide_eq_true hT; omega
  obtain rfl := p1 (by omega)
  obtain rfl := q1 (by omega)
  refine wp_skip ?_
  refine wp_seq (wp_block ?_)
  refine wp_seq (quiet_cut [(2, vp), (3, Vp M), (4, Vp N), (7, vl), (9, Vi due), (10, vl'), (12, Vi i), (69, .bool false)] tab_ok mixed (by kernel_rfl) hS ?_ (fun a w8 hS hw => ?_))
  ·have e1 := (p4 i hlt).1
   have e2 := (q4 i hlt).1
   have e1' : cellsAt w7.cell? b1 (o1 + i * 2) [Vi k[i].1, Vi k[i].2] := ⟨Ythcoppfiahnpoaa.keep hb e1.1, Ythcoppfiahnpoaa.keep hb e1.2.1, trivial⟩
   have e2' : cellsAt w7.cell? b2 (o2 + i * 2) [Vi k[i].1, Vi k[i].2] := ⟨Ythcoppfiahnpoaa.keep hb e2.1, Ythcoppfiahnpoaa.keep hb e2.2.1, trivial⟩
   subst hv1 hv2
   repeat first|refine qP rfl ?_|refine qK rfl ?_
   refine qI rfl (rfl) (hlt) ?_
   refine qA ([Vi k[i].1, Vi k[i].2]) rfl rfl (e2') ?_
   repeat first|refine qP rfl ?_|refine qK rfl ?_
   refine qI rfl (rfl) (hlt) ?_
   refine qA ([Vi k[i].1, Vi k[i].2]) rfl rfl (e1') ?_
   refine q_step rfl rfl rfl (Exists.intro true (And.intro (congrArg some (show (decide (k[i].1 = k[i].1) && (decide (k[i].2 = k[i].2) && true)) = true by simp)) ?_))
   exact q_nil ⟨rfl, rfl, rfl, rfl, rfl, rfl, rfl, rfl, trivial⟩
  refine cond hS rfl (fun hT => by cases hT) (fun _ => ?_)
  refine wp_skip ?_
  refine block_normal ?_
  refine then_normal ?_
  refine seq_cut [(2, vp), (3, Vp M), (4, Vp N), (7, vl), (9, Vi due), (10, vl'), (12, Vi (i + 1 : Nat))] (· = w8) tab_ok hS ?_ (fun a w9 hS hw9 => ?_)
  ·repeat first|refine zP rfl ?_|refine zK rfl ?_
   refine zN rfl (wrap_succ (by omega)) ?_
   repeat first|refine zP rfl ?_|refine zK rfl ?_
   exact o_nil ⟨⟨rfl, rfl, rfl, rfl, rfl, rfl, rfl, trivial⟩, rfl⟩
  subst hw9
  exact ⟨k.length - (i + 1), _, by omega, ⟨i + 1, hlt, rfl, rfl, below_trans hb hw⟩, hS⟩
 refine wp_exit ?_
 repeat (first | refine then_exit ?_ | refine block_exit ?_ | refine block_other rfl ?_)
 have hx7 := hx3.keep hb
 have hy7 := hy3.keep hb
 have hl7 := hl3.keep hb
 have hB7 := below_trans hB4 hb
 have hlI : ∀ x ∈ l, I64 x.1 ∧ I64 x.2 := fun x hx => by
  obtain ⟨j, hj, rfl⟩ := List.mem_iff_getElem.1 hx
  obtain ⟨_, _, _, _, _, _, _, _, g4⟩ := hl7
  exact (g4 j hj).2
 have hl1000 : ¬ (1000 : Int) < l.length := of_decide_eq_false g3
 have hone : ∀ u ∈ pairCells l, u.oneCell' = true := fun u hu => by
  obtain ⟨p, _, hp⟩ := List.mem_flatMap.1 hu
  simp only [List.mem_cons, List.not_mem_nil, or_false] at hp
  rcases hp with rfl | rfl <;> rfl
 refine wp_seq (any_cut 14 [(6, .bool true)] (fun w' => RowKit.Below w7.heap.size w7 w') mixed hS ?_ (fun a w8 hS h8 => ?_))
 ·have hy0 : RowKit.Below w7.drew.heap.size w7.drew w7.drew := RowKit.Below.refl _ _
  have hdz : w7.drew.heap.size = w7.heap.size := rfl
  subst hvp
  refine yT 0 tab_ok rfl (by kernel_rfl) hy0 rfl (Exists.intro ([Vi L1, Vi s1, vn1, ve1]) (And.intro rfl (And.intro (hx7.cells) rfl))) ?_
  refine yT 2 tab_ok rfl (by kernel_rfl) hy0 rfl (Exists.intro ([Vi L2, Vi s2, vn2, ve2]) (And.intro rfl (And.intro (hy7.cells) rfl))) ?_
  refine yG 5 tab_ok rfl (by kernel_rfl) (.inr hy0) rfl rfl ?_
  refine yG 8 tab_ok rfl (by kernel_rfl) (.inr hy0) rfl rfl ?_
  refine y_two 1 4 (by kernel_rfl) (y_op 1 tab_ok rfl rfl rfl rfl ?_) (y_op 4 tab_ok rfl rfl rfl rfl ?_)
  ·
   refine And.intro en_Copy ((hi1.copy (below_trans hB7 (undrew hy0))).mono ?_)
   rintro e wA ⟨vnA, veA, rfl, mA, hbA⟩
   refine ⟨_, rfl, ?_⟩
   have hy01 := below_trans hy0 hbA
   refine And.intro (.inr hy01) ?_
   refine y_two 3 4 (by kernel_rfl) (y_op 3 tab_ok rfl rfl rfl rfl ?_) (y_op 4 tab_ok rfl rfl rfl rfl ?_)
   ·
    refine And.intro en_Copy ((hi2.copy (below_trans hB7 (undrew hy01))).mono ?_)
    rintro e wB ⟨vnB, veB, rfl, mB, hbB⟩
    refine ⟨_, rfl, ?_⟩
    have hy013 := below_trans hy01 hbB
    refine And.intro (.inr hy013) ?_
    replace mA := mA.kept (grown_below hbB)
    refine y_one 4 (by kernel_rfl) (y_op 4 tab_ok rfl rfl rfl rfl ?_)
    refine Exists.intro [] (Exists.intro #[] (And.intro (And.intro rfl rfl) (And.intro (by decide) (And.intro (by simp [Instr.fill, madeCells]) ?_))))
    have hy0134 := hy013.alloc hy013.size (.cells #[] 50)
    refine And.intro (.inr hy0134) ?_
    have hL : ((wB).alloc (.cells #[] 50)).ownsRow (wB).heap.size 50 2 (Vs ((wB).heap.size) 0 0) 0 (pairCells []) := World.ownsRow_lit (base := (wB).heap.size) (e := 50) (size := 2) (wB) #[] 0 (Nat.le_refl _) (by unfold maxLen; omega) (by simp)
    have hLs : (wB).heap.size ≤ ((wB).alloc (.cells #[] 50)).heap.size := (below_alloc (wB) (.cells #[] 50)).size
    have hLw : w7.heap.size ≤ (wB).heap.size := hy013.size
    replace mA := mA.kept (grown_alloc _ (.cells #[] 50))
    replace mB := mB.kept (grown_alloc _ (.cells #[] 50))
    skip
    have hsp := hl7.keep (undrew hy0134)
    have ask : AppAsk _ ⟨50, .struct [(0, 3), (1, 3)], 2, 16, .agg #[Vi 0, Vi 0]⟩ (Vs ((wB).heap.size) 0 0) 0 (pairCells []) (.slice gl l.length cl) l.length (pairCells l) (wB).heap.size := ⟨hL, slp_src hsp hok0, pairCells_len l, hone, (by omega), (by show (0 + l.length) * 16 ≤ _; omega), hLs⟩
    refine y_one 6 (by kernel_rfl) (y_op 6 tab_ok rfl rfl rfl rfl ?_)
    refine Exists.intro _ (Exists.intro _ (Exists.intro _ (Exists.intro _ (Exists.intro _ (And.intro (ask) (And.intro (fun _ h => h.symm) (And.intro (by decide) ?_)))))))
    rintro v' wE hown hgr - -
    rw [Nat.zero_add, show pairCells [] ++ pairCells l = pairCells l from rfl] at hown
    have hy6 := below_of_grown hy0134 hgr (fun q hq => by simp only [Value.ownBlock, Option.some.injEq] at hq; omega)
    refine And.intro (.inr hy6) ?_
    have hs6 : SlP wE v' l := ownP_slp hown rfl hlI
    have mA6 := (mA.grownP hL hgr).ma hi1.ma.L hi1.ma.s
    have mB6 := (mB.grownP hL hgr).ma hi2.ma.L hi2.ma.s
    refine y_one 7 (by kernel_rfl) (y_op 7 tab_ok rfl rfl rfl rfl ?_)
    refine And.intro en_aCheck ((C.check L1 s1 L2 s2 vnA veA vnB veB v' n1 n2 f1 f2 l wE mA6 mB6 hs6).mono ?_)
    rintro e wF ⟨rfl, hbF⟩
    refine ⟨_, rfl, ?_⟩
    have hy7 := below_trans hy6 hbF
    refine And.intro (.inr hy7) ?_
    rw [hdue]
    refine yT 9 tab_ok rfl (by kernel_rfl) hy7 rfl (Exists.intro _ (And.intro (decide_eq_true rfl) rfl)) ?_
    refine yT 10 tab_ok rfl (by kernel_rfl) hy7 rfl (rfl) ?_
    refine y_one 11 (by kernel_rfl) (y_op 11 tab_ok rfl rfl rfl rfl ?_)
    refine And.intro en_awake ((awake_any C _).mono ?_)
    rintro e wG ⟨rfl, hbG⟩
    refine ⟨_, rfl, ?_⟩
    have hy8 := below_trans hy7 hbG
    refine And.intro (.inr hy8) ?_
    refine yT 12 tab_ok rfl (by kernel_rfl) hy8 rfl (rfl) ?_
    refine yT 13 tab_ok rfl (by kernel_rfl) hy8 rfl (rfl) ?_
    exact y_end (by kernel_rfl) ⟨rfl, trivial⟩ (undrew hy8)
   ·
    refine Exists.intro [] (Exists.intro #[] (And.intro (And.intro rfl rfl) (And.intro (by decide) (And.intro (by simp [Instr.fill, madeCells]) ?_))))
    have hy014 := hy01.alloc hy01.size (.cells #[] 50)
    refine And.intro (.inr hy014) ?_
    have hL : ((wA).alloc (.cells #[] 50)).ownsRow (wA).heap.size 50 2 (Vs ((wA).heap.size) 0 0) 0 (pairCells []) := World.ownsRow_lit (base := (wA).heap.size) (e := 50) (size := 2) (wA) #[] 0 (Nat.le_refl _) (by unfold maxLen; omega) (by simp)
    have hLs : (wA).heap.size ≤ ((wA).alloc (.cells #[] 50)).heap.size := (below_alloc (wA) (.cells #[] 50)).size
    have hLw : w7.heap.size ≤ (wA).heap.size := hy01.size
    replace mA := mA.kept (grown_alloc _ (.cells #[] 50))
    refine y_one 3 (by kernel_rfl) (y_op 3 tab_ok rfl rfl rfl rfl ?_)
    refine And.intro en_Copy ((hi2.copy (below_trans hB7 (undrew hy014))).mono ?_)
    rintro e wB ⟨vnB, veB, rfl, mB, hbB⟩
    refine ⟨_, rfl, ?_⟩
    have hy0143 := below_trans hy014 hbB
    refine And.intro (.inr hy0143) ?_
    replace mA := mA.kept (grown_below hbB)
    replace hL := hL.kept (grown_below hbB) (none_or _)
    replace hLs := Nat.le_trans hLs hbB.size
    skip
    have hsp := hl7.keep (undrew hy0143)
    have ask : AppAsk _ ⟨50, .struct [(0, 3), (1, 3)], 2, 16, .agg #[Vi 0, Vi 0]⟩ (Vs ((wA).heap.size) 0 0) 0 (pairCells []) (.slice gl l.length cl) l.length (pairCells l) (wA).heap.size := ⟨hL, slp_src hsp hok0, pairCells_len l, hone, (by omega), (by show (0 + l.length) * 16 ≤ _; omega), hLs⟩
    refine y_one 6 (by kernel_rfl) (y_op 6 tab_ok rfl rfl rfl rfl ?_)
    refine Exists.intro _ (Exists.intro _ (Exists.intro _ (Exists.intro _ (Exists.intro _ (And.intro (ask) (And.intro (fun _ h => h.symm) (And.intro (by decide) ?_)))))))
    rintro v' wE hown hgr - -
    rw [Nat.zero_add, show pairCells [] ++ pairCells l = pairCells l from rfl] at hown
    have hy6 := below_of_grown hy0143 hgr (fun q hq => by simp only [Value.ownBlock, Option.some.injEq] at hq; omega)
    refine And.intro (.inr hy6) ?_
    have hs6 : SlP wE v' l := ownP_slp hown rfl hlI
    have mA6 := (mA.grownP hL hgr).ma hi1.ma.L hi1.ma.s
    have mB6 := (mB.grownP hL hgr).ma hi2.ma.L hi2.ma.s
    refine y_one 7 (by kernel_rfl) (y_op 7 tab_ok rfl rfl rfl rfl ?_)
    refine And.intro en_aCheck ((C.check L1 s1 L2 s2 vnA veA vnB veB v' n1 n2 f1 f2 l wE mA6 mB6 hs6).mono ?_)
    rintro e wF ⟨rfl, hbF⟩
    refine ⟨_, rfl, ?_⟩
    have hy7 := below_trans hy6 hbF
    refine And.intro (.inr hy7) ?_
    rw [hdue]
    refine yT 9 tab_ok rfl (by kernel_rfl) hy7 rfl (Exists.intro _ (And.intro (decide_eq_true rfl) rfl)) ?_
    refine yT 10 tab_ok rfl (by kernel_rfl) hy7 rfl (rfl) ?_
    refine y_one 11 (by kernel_rfl) (y_op 11 tab_ok rfl rfl rfl rfl ?_)
    refine And.intro en_awake ((awake_any C _).mono ?_)
    rintro e wG ⟨rfl, hbG⟩
    refine ⟨_, rfl, ?_⟩
    have hy8 := below_trans hy7 hbG
    refine And.intro (.inr hy8) ?_
    refine yT 12 tab_ok rfl (by kernel_rfl) hy8 rfl (rfl) ?_
    refine yT 13 tab_ok rfl (by kernel_rfl) hy8 rfl (rfl) ?_
    exact y_end (by kernel_rfl) ⟨rfl, trivial⟩ (undrew hy8)
  ·
   refine Exists.intro [] (Exists.intro #[] (And.intro (And.intro rfl rfl) (And.intro (by decide) (And.intro (by simp [Instr.fill, madeCells]) ?_))))
   have hy04 := hy0.alloc hy0.size (.cells #[] 50)
   refine And.intro (.inr hy04) ?_
   have hL : ((w7.drew).alloc (.cells #[] 50)).ownsRow (w7.drew).heap.size 50 2 (Vs ((w7.drew).heap.size) 0 0) 0 (pairCells []) := World.ownsRow_lit (base := (w7.drew).heap.size) (e := 50) (size := 2) (w7.drew) #[] 0 (Nat.le_refl _) (by unfold maxLen; omega) (by simp)
   have hLs : (w7.drew).heap.size ≤ ((w7.drew).alloc (.cells #[] 50)).heap.size := (below_alloc (w7.drew) (.cells #[] 50)).size
   have hLw : w7.heap.size ≤ (w7.drew).heap.size := hy0.size
   refine y_one 1 (by kernel_rfl) (y_op 1 tab_ok rfl rfl rfl rfl ?_)
   refine And.intro en_Copy ((hi1.copy (below_trans hB7 (undrew hy04))).mono ?_)
   rintro e wA ⟨vnA, veA, rfl, mA, hbA⟩
   refine ⟨_, rfl, ?_⟩
   have hy041 := below_trans hy04 hbA
   refine And.intro (.inr hy041) ?_
   replace hL := hL.kept (grown_below hbA) (none_or _)
   replace hLs := Nat.le_trans hLs hbA.size
   refine y_one 3 (by kernel_rfl) (y_op 3 tab_ok rfl rfl rfl rfl ?_)
   refine And.intro en_Copy ((hi2.copy (below_trans hB7 (undrew hy041))).mono ?_)
   rintro e wB ⟨vnB, veB, rfl, mB, hbB⟩
   refine ⟨_, rfl, ?_⟩
   have hy0413 := below_trans hy041 hbB
   refine And.intro (.inr hy0413) ?_
   replace mA := mA.kept (grown_below hbB)
   replace hL := hL.kept (grown_below hbB) (none_or _)
   replace hLs := Nat.le_trans hLs hbB.size
   skip
   have hsp := hl7.keep (undrew hy0413)
   have ask : AppAsk _ ⟨50, .struct [(0, 3), (1, 3)], 2, 16, .agg #[Vi 0, Vi 0]⟩ (Vs ((w7.drew).heap.size) 0 0) 0 (pairCells []) (.slice gl l.length cl) l.length (pairCells l) (w7.drew).heap.size := ⟨hL, slp_src hsp hok0, pairCells_len l, hone, (by omega), (by show (0 + l.length) * 16 ≤ _; omega), hLs⟩
   refine y_one 6 (by kernel_rfl) (y_op 6 tab_ok rfl rfl rfl rfl ?_)
   refine Exists.intro _ (Exists.intro _ (Exists.intro _ (Exists.intro _ (Exists.intro _ (And.intro (ask) (And.intro (fun _ h => h.symm) (And.intro (by decide) ?_)))))))
   rintro v' wE hown hgr - -
   rw [Nat.zero_add, show pairCells [] ++ pairCells l = pairCells l from rfl] at hown
   have hy6 := below_of_grown hy0413 hgr (fun q hq => by simp only [Value.ownBlock, Option.some.injEq] at hq; omega)
   refine And.intro (.inr hy6) ?_
   have hs6 : SlP wE v' l := ownP_slp hown rfl hlI
   have mA6 := (mA.grownP hL hgr).ma hi1.ma.L hi1.ma.s
   have mB6 := (mB.grownP hL hgr).ma hi2.ma.L hi2.ma.s
   refine y_one 7 (by kernel_rfl) (y_op 7 tab_ok rfl rfl rfl rfl ?_)
   refine And.intro en_aCheck ((C.check L1 s1 L2 s2 vnA veA vnB veB v' n1 n2 f1 f2 l wE mA6 mB6 hs6).mono ?_)
   rintro e wF ⟨rfl, hbF⟩
   refine ⟨_, rfl, ?_⟩
   have hy7 := below_trans hy6 hbF
   refine And.intro (.inr hy7) ?_
   rw [hdue]
   refine yT 9 tab_ok rfl (by kernel_rfl) hy7 rfl (Exists.intro _ (And.intro (decide_eq_true rfl) rfl)) ?_
   refine yT 10 tab_ok rfl (by kernel_rfl) hy7 rfl (rfl) ?_
   refine y_one 11 (by kernel_rfl) (y_op 11 tab_ok rfl rfl rfl rfl ?_)
   refine And.intro en_awake ((awake_any C _).mono ?_)
   rintro e wG ⟨rfl, hbG⟩
   refine ⟨_, rfl, ?_⟩
   have hy8 := below_trans hy7 hbG
   refine And.intro (.inr hy8) ?_
   refine yT 12 tab_ok rfl (by kernel_rfl) hy8 rfl (rfl) ?_
   refine yT 13 tab_ok rfl (by kernel_rfl) hy8 rfl (rfl) ?_
   exact y_end (by kernel_rfl) ⟨rfl, trivial⟩ (undrew hy8)
 refine wp_ret ?_
 repeat (first | refine then_ret ?_ | refine block_ret ?_)
 exact ret1 hS rfl rfl ⟨rfl, below_trans hB7 h8⟩
end Go.Proofs.Ythcoppfiahnpoaa
namespace Go.Proofs.Ythcoppfiahnpoaa
abbrev gt (l : List Nat) (i : Nat) : Nat := l.getD i 0
theorem gt_set (l : List Nat) (i v j : Nat) : gt (l.set i v) j = if i = j ∧ i < l.length then v else gt l j := by
 simp only [gt, List.getD_eq_getElem?_getD, List.getElem?_set]
 split
 ·rename_i h
  subst h
  split
  ·simp [*]
  ·rename_i h2
   simp [h2]
 ·rename_i h
  simp [h]
theorem gt_app (l k : List Nat) (j : Nat) : gt (l ++ k) j = if j < l.length then gt l j else gt k (j - l.length) := by
 simp only [gt, List.getD_eq_getElem?_getD, List.getElem?_append]
 split <;> rfl
structure Blk where
 first : Nat
 size : Nat
 marked : Nat
 parent : Nat
abbrev gb (l : List Blk) (i : Nat) : Blk := l.getD i ⟨0, 0, 0, 0⟩
theorem gb_set (l : List Blk) (i : Nat) (v : Blk) (j : Nat) : gb (l.set i v) j = if i = j ∧ i < l.length then v else gb l j := by
 simp only [gb, List.getD_eq_getElem?_getD, List.getElem?_set]
 split
 ·rename_i h
  subst h
  split
  ·simp [*]
  ·rename_i h2
   simp [h2]
 ·rename_i h
  simp [h]
theorem gb_app (l : List Blk) (v : Blk) (j : Nat) : gb (l ++ [v]) j = if j < l.length then gb l j else if j = l.length then v else ⟨0, 0, 0, 0⟩ := by
 simp only [gb, List.getD_eq_getElem?_getD, List.getElem?_append]
 split
 ·rfl
 ·split
  ·rename_i h; simp [h]
  ·rename_i h1 h2
   rw [List.getElem?_eq_none (by simp; omega)]
   rfl
structure Pt where
 st : List Nat
 pl : List Nat
 bl : List Nat
 bs : List Blk
 cs : List Nat
 ml : List Nat
structure PI (p : Pt) (N : Nat) (todo : List Nat) : Prop where
 st : p.st.length = N
 pl : p.pl.length = N
 bl : p.bl.length = N
 sp : ∀ i, i < N → gt p.st i < N ∧ gt p.pl (gt p.st i) = i
 ps : ∀ s, s < N → gt p.pl s < N ∧ gt p.st (gt p.pl s) = s
 ib : ∀ s, s < N → gt p.bl s < p.bs.length
 inn : ∀ s, s < N → (gb p.bs (gt p.bl s)).first ≤ gt p.pl s ∧ gt p.pl s < (gb p.bs (gt p.bl s)).first + (gb p.bs (gt p.bl s)).size
 bd : ∀ b, b < p.bs.length → 0 < (gb p.bs b).size ∧ (gb p.bs b).marked ≤ (gb p.bs b).size ∧ (gb p.bs b).first + (gb p.bs b).size ≤ N
 own : ∀ b, b < p.bs.length → ∀ i, (gb p.bs b).first ≤ i → i < (gb p.bs b).first + (gb p.bs b).size → gt p.bl (gt p.st i) = b
 tm : ∀ b, b ∈ todo ↔ b < p.bs.length ∧ 0 < (gb p.bs b).marked
 nd : todo.Nodup
def Pt.M (p : Pt) (s : Nat) : Prop := gt p.pl s < (gb p.bs (gt p.bl s)).first + (gb p.bs (gt p.bl s)).marked
def Pt.mark (p : Pt) (s : Nat) : Pt :=
 let own := gt p.bl s
 let b := gb p.bs own
 let to := b.first + b.marked
 let fr := gt p.pl s
 let ot := gt p.st to
 { p with ml := if b.marked = 0 then p.ml ++ [own] else p.ml, st := (p.st.set to s).set fr ot, pl := (p.pl.set s to).set ot fr, bs := p.bs.set own ⟨b.first, b.size, b.marked + 1, b.parent⟩ }
theorem PI.to {p : Pt} {N : Nat} (h : PI p N p.ml) {s : Nat} (hs : s < N) (hm : ¬ p.M s) : (gb p.bs (gt p.bl s)).first + (gb p.bs (gt p.bl s)).marked < N ∧ (gb p.bs (gt p.bl s)).marked < (gb p.bs (gt p.bl s)).size := by
 unfold Pt.M at hm
 have h1 := h.inn s hs
 have h2 := h.bd _ (h.ib s hs)
 omega
theorem mark_ok {p : Pt} {N : Nat} (h : PI p N p.ml) {s : Nat} (hs : s < N) (hm : ¬ p.M s) : PI (p.mark s) N (p.mark s).ml ∧ (∀ t, t < N → ((p.mark s).M t ↔ p.M t ∨ t = s)) := by
 have ht := h.to hs hm
 have hb := h.ib s hs
 obtain ⟨own, hown⟩ : ∃ own, gt p.bl s = own := ⟨_, rfl⟩
 obtain ⟨b, hbb⟩ : ∃ b, gb p.bs own = b := ⟨_, rfl⟩
 obtain ⟨to, hto⟩ : ∃ to, b.first + b.marked = to := ⟨_, rfl⟩
 obtain ⟨fr, hfr⟩ : ∃ fr, gt p.pl s = fr := ⟨_, rfl⟩
 obtain ⟨ot, hot⟩ : ∃ ot, gt p.st to = ot := ⟨_, rfl⟩
 have hmk : p.mark s = { p with ml := if b.marked = 0 then p.ml ++ [own] else p.ml, st := (p.st.set to s).set fr ot, pl := (p.pl.set s to).set ot fr, bs := p.bs.set own ⟨b.first, b.size, b.marked + 1, b.parent⟩ } := by
  simp only [Pt.mark, hown, hbb, hto, hfr, hot]
 rw [hown, hbb] at ht
 rw [hown] at hb
 have hps := h.ps s hs
 rw [hfr] at hps
 have hinn := h.inn s hs
 rw [hown, hbb, hfr] at hinn
 have hbd := h.bd own hb
 rw [hbb] at hbd
 have hM : ¬ fr < to := by
  unfold Pt.M at hm
  rw [hown, hbb, hfr, hto] at hm
  exact hm
 have hspt := h.sp to (by omega)
 rw [hot] at hspt
 have hoto : gt p.bl ot = own := by rw [← hot]; exact h.own own hb to (by rw [hbb]; omega) (by rw [hbb]; omega)
 rw [hmk]
 have gst : ∀ i, i < N → gt ((p.st.set to s).set fr ot) i = if fr = i then ot else if to = i then s else gt p.st i := fun i hi => by
  rw [gt_set, gt_set, List.length_set, h.st]
  have : fr < N := hps.1
  have : to < N := by omega
  simp only [*, and_true]
 have gpl : ∀ t, t < N → gt ((p.pl.set s to).set ot fr) t = if ot = t then fr else if s = t then to else gt p.pl t := fun i hi => by
  rw [gt_set, gt_set, List.length_set, h.pl]
  have := hspt.1
  simp only [*, and_true]
 have gbs : ∀ c, gb (p.bs.set own ⟨b.first, b.size, b.marked + 1, b.parent⟩) c = if own = c then ⟨b.first, b.size, b.marked + 1, b.parent⟩ else gb p.bs c := fun c => by
  rw [gb_set]
  simp only [hb, and_true]
 have hsz : ∀ c, (gb (p.bs.set own ⟨b.first, b.size, b.marked + 1, b.parent⟩) c).first = (gb p.bs c).first ∧ (gb (p.bs.set own ⟨b.first, b.size, b.marked + 1, b.parent⟩) c).size = (gb p.bs c).size := fun c => by
  rw [gbs]
  split
  ·rename_i e; subst e; rw [hbb]; exact ⟨rfl, rfl⟩
  ·exact ⟨rfl, rfl⟩
 have inj : ∀ i j, i < N → j < N → gt p.st i = gt p.st j → i = j := fun i j hi hj e => by rw [← (h.sp i hi).2, e, (h.sp j hj).2]
 have injp : ∀ i j, i < N → j < N → gt p.pl i = gt p.pl j → i = j := fun i j hi hj e => by rw [← (h.ps i hi).2, e, (h.ps j hj).2]
 have inn2 : ∀ t, t < N → (gb p.bs (gt p.bl t)).first ≤ gt ((p.pl.set s to).set ot fr) t ∧ gt ((p.pl.set s to).set ot fr) t < (gb p.bs (gt p.bl t)).first + (gb p.bs (gt p.bl t)).size := fun t htN => by
  rw [gpl t htN]
  split
  ·rename_i e; subst e; rw [hoto, hbb]; omega
  ·split
   ·rename_i e; subst e; rw [hown, hbb]; omega
   ·exact h.inn t htN
 refine ⟨⟨by simp [h.st], by simp [h.pl], h.bl, fun i hi => ?_, fun t htN => ?_, fun t htN => by simpa using h.ib t htN, fun t htN => ?_, fun c hc => ?_, fun c hc i h1 h2 => ?_, fun c => ?_, ?_⟩, fun t htN => ?_⟩
 ·show gt ((p.st.set to s).set fr ot) i < N ∧ gt ((p.pl.set s to).set ot fr) (gt ((p.st.set to s).set fr ot) i) = i
  rw [gst i hi]
  split
  ·rename_i e
   refine ⟨hspt.1, ?_⟩
   rw [gpl _ hspt.1, if_pos rfl]; exact e
  ·rename_i e1
   split
   ·rename_i e
    refine ⟨hs, ?_⟩
    rw [gpl _ hs]
    split
    ·rename_i e2
     have : gt p.st to = gt p.st fr := by rw [hot, hps.2, e2]
     have := inj _ _ (by omega) hps.1 this
     omega
    ·rw [if_pos rfl]; exact e
   ·rename_i e2
    have hsp := h.sp i hi
    refine ⟨hsp.1, ?_⟩
    rw [gpl _ hsp.1, if_neg, if_neg]
    ·exact hsp.2
    ·intro e3
     apply e1
     rw [← hfr, e3]; exact hsp.2
    ·intro e3
     apply e2
     have := hspt.2
     rw [e3, hsp.2] at this
     omega
 ·show gt ((p.pl.set s to).set ot fr) t < N ∧ gt ((p.st.set to s).set fr ot) (gt ((p.pl.set s to).set ot fr) t) = t
  rw [gpl t htN]
  split
  ·rename_i e
   refine ⟨hps.1, ?_⟩
   rw [gst _ hps.1, if_pos rfl]; exact e
  ·rename_i e1
   split
   ·rename_i e
    refine ⟨by omega, ?_⟩
    rw [gst _ (by omega)]
    split
    ·rename_i e2
     have : gt p.st to = s := by rw [← e2]; exact hps.2
     exact (e1 (by rw [← hot, this]; exact e)).elim
    ·rw [if_pos rfl]; exact e
   ·rename_i e2
    have hp := h.ps t htN
    refine ⟨hp.1, ?_⟩
    rw [gst _ hp.1, if_neg, if_neg]
    ·exact hp.2
    ·intro e3
     apply e1
     rw [← hot, e3]; exact hp.2
    ·intro e3
     apply e2
     have := hps.2
     rw [e3, hp.2] at this
     omega
 ·show (gb (p.bs.set own _) (gt p.bl t)).first ≤ gt ((p.pl.set s to).set ot fr) t ∧ _ < (gb (p.bs.set own _) (gt p.bl t)).first + (gb (p.bs.set own _) (gt p.bl t)).size
  rw [(hsz _).1, (hsz _).2]
  exact inn2 t htN
 ·show 0 < (gb (p.bs.set own _) c).size ∧ (gb (p.bs.set own _) c).marked ≤ (gb (p.bs.set own _) c).size ∧ (gb (p.bs.set own _) c).first + (gb (p.bs.set own _) c).size ≤ N
  have hc' : c < p.bs.length := by simpa using hc
  rw [gbs]
  split
  ·simp only; omega
  ·exact h.bd c hc'
 ·have hc' : c < p.bs.length := by simpa using hc
  have h1 : (gb p.bs c).first ≤ i := by rw [← (hsz c).1]; exact h1
  have h2 : i < (gb p.bs c).first + (gb p.bs c).size := by rw [← (hsz c).1, ← (hsz c).2]; exact h2
  have hcN := h.bd c hc'
  show gt p.bl (gt ((p.st.set to s).set fr ot) i) = c
  rw [gst i (by omega)]
  split
  ·rename_i e
   have := h.own c hc' i h1 h2
   rw [← e, hps.2, hown] at this
   rw [hoto]; exact this
  ·split
   ·rename_i e
    have := h.own c hc' i h1 h2
    rw [← e, hot, hoto] at this
    rw [hown]; exact this
   ·exact h.own c hc' i h1 h2
 ·show c ∈ (if b.marked = 0 then p.ml ++ [own] else p.ml) ↔ c < (p.bs.set own _).length ∧ 0 < (gb (p.bs.set own _) c).marked
  rw [gbs, List.length_set]
  have htm := h.tm c
  split
  ·rename_i hz
   rw [List.mem_append, List.mem_singleton]
   split
   ·rename_i e; subst e; simp [hb]
   ·rename_i e
    rw [htm]
    constructor
    ·rintro (h | h)
     ·exact h
     ·exact (e h.symm).elim
    ·exact .inl
  ·rename_i hz
   rw [htm]
   split
   ·rename_i e; subst e
    rw [hbb]
    simp only [hb, true_and]
    omega
   ·rfl
 ·show (if b.marked = 0 then p.ml ++ [own] else p.ml).Nodup
  split
  ·rename_i hz
   rw [List.nodup_append]
   refine ⟨h.nd, by simp, fun x hx y hy e => ?_⟩
   rw [List.mem_singleton] at hy
   have := (h.tm x).1 hx
   rw [e, hy, hbb] at this
   omega
  ·exact h.nd
 ·show gt ((p.pl.set s to).set ot fr) t < (gb (p.bs.set own _) (gt p.bl t)).first + (gb (p.bs.set own _) (gt p.bl t)).marked ↔ gt p.pl t < (gb p.bs (gt p.bl t)).first + (gb p.bs (gt p.bl t)).marked ∨ t = s
  rw [gpl t htN, gbs]
  by_cases e1 : ot = t
  ·subst e1
   rw [if_pos rfl, hoto, if_pos rfl, hbb]
   show fr < b.first + (b.marked + 1) ↔ _
   have h3 : gt p.pl ot = to := hspt.2
   constructor
   ·intro hlt
    have e : fr = to := by omega
    refine .inr ?_
    rw [← hot, ← e]; exact hps.2
   ·rintro (h4 | h4)
    ·omega
    ·rw [h4, hfr] at h3; omega
  ·rw [if_neg e1]
   by_cases e2 : s = t
   ·subst e2
    rw [if_pos rfl, hown, if_pos rfl]
    simp
    omega
   ·rw [if_neg e2]
    have hne : gt p.pl t ≠ to := fun e => e1 (by rw [← hot, ← e]; exact (h.ps t htN).2)
    by_cases e3 : own = gt p.bl t
    ·rw [if_pos e3, ← e3, hbb]
     show gt p.pl t < b.first + (b.marked + 1) ↔ _
     constructor
     ·intro h4; exact .inl (by omega)
     ·rintro (h4 | h4)
      ·omega
      ·exact (e2 h4.symm).elim
    ·rw [if_neg e3]
     constructor
     ·exact .inl
     ·rintro (h4 | h4)
      ·exact h4
      ·exact (e2 h4.symm).elim
end Go.Proofs.Ythcoppfiahnpoaa
namespace Go.Proofs.Ythcoppfiahnpoaa
def relabel (st : List Nat) (nb : Nat) : List Nat → Nat → Nat → List Nat
 | bl, _, 0 => bl
 | bl, i, k + 1 => relabel st nb (bl.set (gt st i) nb) (i + 1) k
theorem relabel_len (st : List Nat) (nb : Nat) : ∀ (k i : Nat) (bl : List Nat), (relabel st nb bl i k).length = bl.length
 | 0, _, _ => rfl
 | k + 1, i, bl => by rw [relabel, relabel_len st nb k]; simp
theorem relabel_get {st pl : List Nat} {N : Nat} (nb : Nat) (hsp : ∀ i, i < N → gt st i < N ∧ gt pl (gt st i) = i) (hps : ∀ s, s < N → gt pl s < N ∧ gt st (gt pl s) = s) :
  ∀ (k i : Nat) (bl : List Nat), bl.length = N → i + k ≤ N → ∀ t, t < N → gt (relabel st nb bl i k) t = if i ≤ gt pl t ∧ gt pl t < i + k then nb else gt bl t
 | 0, i, bl, _, _, t, _ => by rw [relabel, if_neg (by omega)]
 | k + 1, i, bl, hb, hk, t, ht => by
   rw [relabel, relabel_get nb hsp hps k (i + 1) _ (by simpa using hb) (by omega) t ht, gt_set]
   have h1 := hsp i (by omega)
   have h2 := hps t ht
   by_cases e : gt st i = t
   ·have : gt pl t = i := by rw [← e]; exact h1.2
    rw [this, if_neg (by omega), if_pos (by omega), if_pos (by omega)]
   ·have hne : gt pl t ≠ i := fun e2 => e (by rw [← e2]; exact h2.2)
    by_cases h3 : i + 1 ≤ gt pl t ∧ gt pl t < i + 1 + k
    ·rw [if_pos h3, if_pos (by omega)]
    ·rw [if_neg h3, if_neg (fun h => e h.1), if_neg (by omega)]
def Pt.low (p : Pt) : Nat := gt p.cs (p.cs.length - 1)
def Pt.splitOne (p : Pt) (old : Nat) : Pt :=
 let b := gb p.bs old
 if b.marked = b.size then { p with bs := p.bs.set old ⟨b.first, b.size, 0, b.parent⟩ }
 else { p with bs := p.bs.set old ⟨b.first + b.marked, b.size - b.marked, 0, b.parent⟩ ++ [⟨b.first, b.marked, 0, if p.low ≤ old then b.parent else old⟩], bl := relabel p.st p.bs.length p.bl b.first b.marked }
def Pt.split (p : Pt) : Pt := { p.ml.foldl Pt.splitOne p with ml := [] }
def Pt.base (p : Pt) (b : Nat) : Nat := if p.low ≤ b then (gb p.bs b).parent else b
structure PH (p q : Pt) (N : Nat) : Prop where
 cs : q.cs = p.cs
 len : p.bs.length ≤ q.bs.length
 par : ∀ b, b < p.bs.length → (gb q.bs b).parent = (gb p.bs b).parent
 base : ∀ s, s < N → q.base (gt q.bl s) = p.base (gt p.bl s)
 low : ∀ b, b < q.bs.length → p.low ≤ b → b < p.bs.length ∨ ∃ c, c < p.bs.length ∧ (gb q.bs b).parent = p.base c
theorem PH.refl (p : Pt) (N : Nat) : PH p p N := ⟨rfl, Nat.le_refl _, fun _ _ => rfl, fun _ _ => rfl, fun _ h _ => .inl h⟩
theorem PH.trans {p q r : Pt} {N : Nat} (hpl : p.low ≤ p.bs.length) (h : PH p q N) (k : PH q r N) : PH p r N := by
 have hl : q.low = p.low := by unfold Pt.low; rw [h.cs]
 have bb : ∀ c, c < q.bs.length → (∃ c', c' < p.bs.length ∧ q.base c = p.base c') := fun c hc => by
  by_cases hlow : p.low ≤ c
  ·rcases h.low c hc hlow with h1 | ⟨c', h1, h2⟩
   ·refine ⟨c, h1, ?_⟩
    unfold Pt.base; rw [hl, if_pos hlow, if_pos hlow, h.par c h1]
   ·refine ⟨c', h1, ?_⟩
    rw [← h2]; unfold Pt.base; rw [hl, if_pos hlow]
  ·by_cases h1 : c < p.bs.length
   ·refine ⟨c, h1, ?_⟩
    unfold Pt.base; rw [hl, if_neg hlow, if_neg hlow]
   ·omega
 refine ⟨k.cs.trans h.cs, Nat.le_trans h.len k.len, fun b hb => (k.par b (Nat.lt_of_lt_of_le hb h.len)).trans (h.par b hb), fun s hs => (k.base s hs).trans (h.base s hs), fun b hb hlow => ?_⟩
 rcases k.low b hb (by rw [hl]; exact hlow) with h1 | ⟨c, h1, h2⟩
 ·rcases h.low b h1 hlow with h3 | ⟨c, h3, h4⟩
  ·exact .inl h3
  ·exact .inr ⟨c, h3, by rw [k.par b h1]; exact h4⟩
 ·obtain ⟨c', h3, h4⟩ := bb c h1
  exact .inr ⟨c', h3, by rw [h2, h4]⟩
theorem splitOne_ok {p : Pt} {N old : Nat} {r : List Nat} (hlow : p.low ≤ p.bs.length) (h : PI p N (old :: r)) :
  PI (p.splitOne old) N r ∧ (∀ s, s < N → ((p.splitOne old).M s ↔ p.M s ∧ gt p.bl s ≠ old)) ∧ (∀ s t, s < N → t < N → (gt (p.splitOne old).bl s = gt (p.splitOne old).bl t ↔ gt p.bl s = gt p.bl t ∧ (gt p.bl s = old → (p.M s ↔ p.M t)))) ∧ PH p (p.splitOne old) N := by
 obtain ⟨b, hb⟩ : ∃ b, gb p.bs old = b := ⟨_, rfl⟩
 have ho := (h.tm old).1 (by simp)
 rw [hb] at ho
 obtain ⟨hol, hm0⟩ := ho
 have hbd := h.bd old hol
 rw [hb] at hbd
 have hnd := h.nd
 rw [List.nodup_cons] at hnd
 have htm : ∀ c, c ∈ r ↔ (c < p.bs.length ∧ 0 < (gb p.bs c).marked) ∧ c ≠ old := fun c => by
  rw [← h.tm c, List.mem_cons]
  constructor
  ·intro hc
   exact ⟨.inr hc, fun e => hnd.1 (by rw [← e]; exact hc)⟩
  ·rintro ⟨h1 | h1, h2⟩
   ·exact (h2 h1).elim
   ·exact h1
 by_cases hall : b.marked = b.size
 ·
  have hp : p.splitOne old = { p with bs := p.bs.set old ⟨b.first, b.size, 0, b.parent⟩ } := by simp only [Pt.splitOne, hb, if_pos hall]
  rw [hp]
  have g : ∀ c, gb (p.bs.set old ⟨b.first, b.size, 0, b.parent⟩) c = if old = c then ⟨b.first, b.size, 0, b.parent⟩ else gb p.bs c := fun c => by rw [gb_set]; simp only [hol, and_true]
  have gf : ∀ c, (gb (p.bs.set old ⟨b.first, b.size, 0, b.parent⟩) c).first = (gb p.bs c).first ∧ (gb (p.bs.set old ⟨b.first, b.size, 0, b.parent⟩) c).size = (gb p.bs c).size ∧ (gb (p.bs.set old ⟨b.first, b.size, 0, b.parent⟩) c).parent = (gb p.bs c).parent := fun c => by
   rw [g]
   split
   ·rename_i e; subst e; rw [hb]; exact ⟨rfl, rfl, rfl⟩
   ·exact ⟨rfl, rfl, rfl⟩
  refine ⟨⟨h.st, h.pl, h.bl, h.sp, h.ps, fun s hs => by simpa using h.ib s hs, fun s hs => ?_, fun c hc => ?_, fun c hc i h1 h2 => ?_, fun c => ?_, hnd.2⟩, fun s hs => ?_, fun s t hs ht => ?_, ⟨rfl, by simp, fun c hc => (gf c).2.2, fun s hs => ?_, fun c hc _ => .inl (by simpa using hc)⟩⟩
  ·show (gb (p.bs.set old _) (gt p.bl s)).first ≤ gt p.pl s ∧ gt p.pl s < (gb (p.bs.set old _) (gt p.bl s)).first + (gb (p.bs.set old _) (gt p.bl s)).size
   rw [(gf _).1, (gf _).2.1]; exact h.inn s hs
  ·show 0 < (gb (p.bs.set old _) c).size ∧ (gb (p.bs.set old _) c).marked ≤ (gb (p.bs.set old _) c).size ∧ (gb (p.bs.set old _) c).first + (gb (p.bs.set old _) c).size ≤ N
   have hc' : c < p.bs.length := by simpa using hc
   rw [g]
   split
   ·simp only; omega
   ·exact h.bd c hc'
  ·have hc' : c < p.bs.length := by simpa using hc
   exact h.own c hc' i (by rw [← (gf c).1]; exact h1) (by rw [← (gf c).1, ← (gf c).2.1]; exact h2)
  ·show c ∈ r ↔ c < (p.bs.set old _).length ∧ 0 < (gb (p.bs.set old _) c).marked
   rw [htm, g, List.length_set]
   by_cases e : old = c
   ·subst e; simp
   ·rw [if_neg e]
    simp only [ne_eq, Ne.symm e, not_false_eq_true, and_true]
  ·show gt p.pl s < (gb (p.bs.set old _) (gt p.bl s)).first + (gb (p.bs.set old _) (gt p.bl s)).marked ↔ gt p.pl s < (gb p.bs (gt p.bl s)).first + (gb p.bs (gt p.bl s)).marked ∧ gt p.bl s ≠ old
   rw [g]
   have := h.inn s hs
   by_cases e : old = gt p.bl s
   ·rw [if_pos e]
    rw [← e, hb] at this
    simp only [Nat.add_zero]
    constructor
    ·intro h1; omega
    ·intro h1; exact (h1.2 e.symm).elim
   ·rw [if_neg e]
    simp only [ne_eq, Ne.symm e, not_false_eq_true, and_true]
  ·show gt p.bl s = gt p.bl t ↔ _
   constructor
   ·intro e
    refine ⟨e, fun e2 => ?_⟩
    have h1 := h.inn s hs
    have h2 := h.inn t ht
    unfold Pt.M
    rw [← e] at h2 ⊢
    rw [e2, hb] at h1 h2 ⊢
    constructor <;> intro _ <;> omega
   ·exact fun h => h.1
  ·show (if p.low ≤ gt p.bl s then (gb (p.bs.set old _) (gt p.bl s)).parent else gt p.bl s) = p.base (gt p.bl s)
   rw [(gf _).2.2]; rfl
 ·
  obtain ⟨par, hpar⟩ : ∃ par, (if p.low ≤ old then b.parent else old) = par := ⟨_, rfl⟩
  have hp : p.splitOne old = { p with bs := p.bs.set old ⟨b.first + b.marked, b.size - b.marked, 0, b.parent⟩ ++ [⟨b.first, b.marked, 0, par⟩], bl := relabel p.st p.bs.length p.bl b.first b.marked } := by simp only [Pt.splitOne, hb, if_neg hall, hpar]
  rw [hp]
  have g : ∀ c, gb (p.bs.set old ⟨b.first + b.marked, b.size - b.marked, 0, b.parent⟩ ++ [⟨b.first, b.marked, 0, par⟩]) c =
    if c < p.bs.length then (if old = c then ⟨b.first + b.marked, b.size - b.marked, 0, b.parent⟩ else gb p.bs c) else if c = p.bs.length then ⟨b.first, b.marked, 0, par⟩ else ⟨0, 0, 0, 0⟩ := fun c => by
   rw [gb_app, List.length_set, gb_set]; simp only [hol, and_true]
  have gpar : ∀ c, c < p.bs.length → (gb (p.bs.set old ⟨b.first + b.marked, b.size - b.marked, 0, b.parent⟩ ++ [⟨b.first, b.marked, 0, par⟩]) c).parent = (gb p.bs c).parent := fun c hc => by
   rw [g, if_pos hc]
   split
   ·rename_i e; subst e; rw [hb]
   ·rfl
  have gbl : ∀ t, t < N → gt (relabel p.st p.bs.length p.bl b.first b.marked) t = if b.first ≤ gt p.pl t ∧ gt p.pl t < b.first + b.marked then p.bs.length else gt p.bl t :=
   relabel_get p.bs.length h.sp h.ps b.marked b.first p.bl h.bl (by omega)
  have inold : ∀ t, t < N → b.first ≤ gt p.pl t ∧ gt p.pl t < b.first + b.size → gt p.bl t = old := fun t ht hr => by
   have := h.own old hol (gt p.pl t) (by rw [hb]; exact hr.1) (by rw [hb]; exact hr.2)
   rw [(h.ps t ht).2] at this; exact this
  have oldin : ∀ t, t < N → gt p.bl t = old → b.first ≤ gt p.pl t ∧ gt p.pl t < b.first + b.size := fun t ht e => by
   have := h.inn t ht
   rw [e, hb] at this; exact this
  have hpk : (⟨b.first, b.size, b.marked, b.parent⟩ : Blk) = b := rfl
  have cases3 : ∀ t, t < N → (gt p.bl t = old ∧ p.M t ∧ (b.first ≤ gt p.pl t ∧ gt p.pl t < b.first + b.marked) ∧ gt (relabel p.st p.bs.length p.bl b.first b.marked) t = p.bs.length) ∨
    (gt p.bl t = old ∧ ¬ p.M t ∧ (b.first + b.marked ≤ gt p.pl t ∧ gt p.pl t < b.first + b.size) ∧ gt (relabel p.st p.bs.length p.bl b.first b.marked) t = old) ∨
    (gt p.bl t ≠ old ∧ gt (relabel p.st p.bs.length p.bl b.first b.marked) t = gt p.bl t) := fun t ht => by
   by_cases e : gt p.bl t = old
   ·have h1 := oldin t ht e
    have hM : p.M t ↔ gt p.pl t < b.first + b.marked := by unfold Pt.M; rw [e, hb]
    rw [gbl t ht]
    by_cases h2 : gt p.pl t < b.first + b.marked
    ·exact .inl ⟨e, hM.2 h2, ⟨h1.1, h2⟩, if_pos ⟨h1.1, h2⟩⟩
    ·exact .inr (.inl ⟨e, fun h => h2 (hM.1 h), ⟨by omega, h1.2⟩, by rw [if_neg (fun h => h2 h.2)]; exact e⟩)
   ·refine .inr (.inr ⟨e, ?_⟩)
    rw [gbl t ht, if_neg (fun h3 => e (inold t ht ⟨h3.1, by omega⟩))]
  refine ⟨⟨h.st, h.pl, ?_, h.sp, h.ps, fun s hs => ?_, fun s hs => ?_, fun c hc => ?_, fun c hc i h1 h2 => ?_, fun c => ?_, hnd.2⟩, fun s hs => ?_, fun s t hs ht => ?_, ⟨rfl, by simp, gpar, fun s hs => ?_, fun c hc hlc => ?_⟩⟩
  ·show (relabel _ _ _ _ _).length = N
   rw [relabel_len]; exact h.bl
  ·show gt (relabel p.st p.bs.length p.bl b.first b.marked) s < (p.bs.set old _ ++ [_]).length
   simp only [List.length_append, List.length_set, List.length_cons, List.length_nil]
   have := h.ib s hs
   rcases cases3 s hs with ⟨_, _, _, e⟩ | ⟨_, _, _, e⟩ | ⟨_, e⟩ <;> rw [e] <;> omega
  ·show (gb (p.bs.set old _ ++ [_]) (gt (relabel p.st p.bs.length p.bl b.first b.marked) s)).first ≤ gt p.pl s ∧ gt p.pl s < (gb (p.bs.set old _ ++ [_]) (gt (relabel p.st p.bs.length p.bl b.first b.marked) s)).first + (gb (p.bs.set old _ ++ [_]) (gt (relabel p.st p.bs.length p.bl b.first b.marked) s)).size
   have hib := h.ib s hs
   rcases cases3 s hs with ⟨_, _, hr, e⟩ | ⟨_, _, hr, e⟩ | ⟨hn, e⟩
   ·rw [e, g, if_neg (by omega), if_pos rfl]; exact hr
   ·rw [e, g, if_pos hol, if_pos rfl]; simp only; omega
   ·rw [e, g, if_pos hib, if_neg (Ne.symm hn)]; exact h.inn s hs
  ·show 0 < (gb (p.bs.set old _ ++ [_]) c).size ∧ (gb (p.bs.set old _ ++ [_]) c).marked ≤ (gb (p.bs.set old _ ++ [_]) c).size ∧ (gb (p.bs.set old _ ++ [_]) c).first + (gb (p.bs.set old _ ++ [_]) c).size ≤ N
   have hc : c < p.bs.length + 1 := by simpa using hc
   rw [g]
   split
   ·split
    ·simp only; omega
    ·exact h.bd c (by assumption)
   ·rw [if_pos (by omega)]; simp only; omega
  ·show gt (relabel p.st p.bs.length p.bl b.first b.marked) (gt p.st i) = c
   replace hc : c < p.bs.length + 1 := by simpa using hc
   replace h1 : (gb (p.bs.set old _ ++ [_]) c).first ≤ i := h1
   replace h2 : i < (gb (p.bs.set old _ ++ [_]) c).first + (gb (p.bs.set old _ ++ [_]) c).size := h2
   rw [g] at h1 h2
   split at h1
   ·rename_i hcl
    rw [if_pos hcl] at h2
    split at h1
    ·rename_i e
     rw [if_pos e] at h2
     simp only at h1 h2
     have hs := h.sp i (by omega)
     rw [gbl _ hs.1, hs.2, if_neg (by omega)]
     rw [← e]
     exact h.own old hol i (by rw [hb]; omega) (by rw [hb]; omega)
    ·rename_i e
     rw [if_neg e] at h2
     have hcb := h.bd c hcl
     have hs := h.sp i (by omega)
     have hoc := h.own c hcl i h1 h2
     rw [gbl _ hs.1, hs.2, if_neg, hoc]
     intro h3
     have := inold _ hs.1 (by rw [hs.2]; omega)
     rw [hoc] at this
     exact e this.symm
   ·rename_i hcl
    have e : c = p.bs.length := by omega
    rw [if_neg hcl, if_pos e] at h2
    rw [if_pos e] at h1
    simp only at h1 h2
    have hs := h.sp i (by omega)
    rw [gbl _ hs.1, hs.2, if_pos ⟨h1, h2⟩, e]
  ·show c ∈ r ↔ c < (p.bs.set old _ ++ [_]).length ∧ 0 < (gb (p.bs.set old _ ++ [_]) c).marked
   rw [htm, g]
   simp only [List.length_append, List.length_set, List.length_cons, List.length_nil]
   by_cases e1 : c < p.bs.length
   ·rw [if_pos e1]
    by_cases e : old = c
    ·subst e; simp
    ·rw [if_neg e]
     have : c ≠ old := Ne.symm e
     constructor
     ·rintro ⟨⟨_, h2⟩, _⟩; exact ⟨by omega, h2⟩
     ·rintro ⟨_, h2⟩; exact ⟨⟨e1, h2⟩, this⟩
   ·rw [if_neg e1]
    constructor
    ·rintro ⟨⟨h2, _⟩, _⟩; exact (e1 h2).elim
    ·rintro ⟨_, h2⟩
     split at h2
     ·simp at h2
     ·simp at h2
  ·show gt p.pl s < (gb (p.bs.set old _ ++ [_]) (gt (relabel p.st p.bs.length p.bl b.first b.marked) s)).first + (gb (p.bs.set old _ ++ [_]) (gt (relabel p.st p.bs.length p.bl b.first b.marked) s)).marked ↔ p.M s ∧ gt p.bl s ≠ old
   have hib := h.ib s hs
   rcases cases3 s hs with ⟨ho, _, hr, e⟩ | ⟨ho, _, hr, e⟩ | ⟨hn, e⟩
   ·rw [e, g, if_neg (by omega), if_pos rfl]
    simp only [Nat.add_zero]
    constructor
    ·intro h1; omega
    ·intro h1; exact (h1.2 ho).elim
   ·rw [e, g, if_pos hol, if_pos rfl]
    simp only [Nat.add_zero]
    constructor
    ·intro h1; omega
    ·intro h1; exact (h1.2 ho).elim
   ·rw [e, g, if_pos hib, if_neg (Ne.symm hn)]
    exact ⟨fun h => ⟨h, hn⟩, fun h => h.1⟩
  ·show gt (relabel p.st p.bs.length p.bl b.first b.marked) s = gt (relabel p.st p.bs.length p.bl b.first b.marked) t ↔ _
   have h1 := h.ib s hs
   have h2 := h.ib t ht
   rcases cases3 s hs with ⟨ho, hm, _, e⟩ | ⟨ho, hm, _, e⟩ | ⟨hn, e⟩ <;> rcases cases3 t ht with ⟨ho', hm', _, e'⟩ | ⟨ho', hm', _, e'⟩ | ⟨hn', e'⟩ <;> rw [e, e']
   ·exact ⟨fun _ => ⟨ho.trans ho'.symm, fun _ => ⟨fun _ => hm', fun _ => hm⟩⟩, fun _ => rfl⟩
   ·exact ⟨fun h3 => by omega, fun h3 => (hm' ((h3.2 ho).1 hm)).elim⟩
   ·exact ⟨fun h3 => by omega, fun h3 => (hn' (h3.1.symm.trans ho)).elim⟩
   ·exact ⟨fun h3 => by omega, fun h3 => (hm ((h3.2 ho).2 hm')).elim⟩
   ·exact ⟨fun _ => ⟨ho.trans ho'.symm, fun _ => ⟨fun h => (hm h).elim, fun h => (hm' h).elim⟩⟩, fun _ => rfl⟩
   ·exact ⟨fun h3 => (hn' h3.symm).elim, fun h3 => (hn' (h3.1.symm.trans ho)).elim⟩
   ·exact ⟨fun h3 => by omega, fun h3 => (hn (h3.1.trans ho')).elim⟩
   ·exact ⟨fun h3 => (hn h3).elim, fun h3 => (hn (h3.1.trans ho')).elim⟩
   ·exact ⟨fun h3 => ⟨h3, fun h4 => (hn h4).elim⟩, fun h3 => h3.1⟩
  ·show (if p.low ≤ gt (relabel p.st p.bs.length p.bl b.first b.marked) s then (gb (p.bs.set old _ ++ [_]) (gt (relabel p.st p.bs.length p.bl b.first b.marked) s)).parent else gt (relabel p.st p.bs.length p.bl b.first b.marked) s) = p.base (gt p.bl s)
   have hib := h.ib s hs
   rcases cases3 s hs with ⟨ho, _, hr, e⟩ | ⟨ho, _, hr, e⟩ | ⟨hn, e⟩
   ·rw [e, if_pos hlow, g, if_neg (by omega), if_pos rfl, ho]
    show par = p.base old
    rw [← hpar]; unfold Pt.base; rw [hb]
   ·rw [e, ho, gpar old hol]; rfl
   ·rw [e, gpar _ hib]; rfl
  ·have hc : c < p.bs.length + 1 := by simpa using hc
   by_cases e : c < p.bs.length
   ·exact .inl e
   ·refine .inr ⟨old, hol, ?_⟩
    show (gb (p.bs.set old _ ++ [_]) c).parent = _
    rw [g, if_neg e, if_pos (by omega)]
    show par = _
    rw [← hpar]; unfold Pt.base; rw [hb]
theorem fold_ok {N : Nat} : ∀ (todo : List Nat) (p : Pt), p.low ≤ p.bs.length → PI p N todo → PI (todo.foldl Pt.splitOne p) N [] ∧
  (∀ s t, s < N → t < N → (gt (todo.foldl Pt.splitOne p).bl s = gt (todo.foldl Pt.splitOne p).bl t ↔ gt p.bl s = gt p.bl t ∧ (p.M s ↔ p.M t))) ∧ PH p (todo.foldl Pt.splitOne p) N
 | [], p, _, h => by
   have hM : ∀ s, s < N → ¬ p.M s := fun s hs hm => by
    have h1 := h.ib s hs
    have h2 := (h.tm (gt p.bl s))
    have h3 := h.inn s hs
    unfold Pt.M at hm
    have := h2.2 ⟨h1, by omega⟩
    cases this
   exact ⟨h, fun s t hs ht => ⟨fun e => ⟨e, fun h => (hM s hs h).elim, fun h => (hM t ht h).elim⟩, fun e => e.1⟩, PH.refl _ _⟩
 | old :: r, p, hl, h => by
   obtain ⟨h1, h2, h3, h4⟩ := splitOne_ok hl h
   have hl' : (p.splitOne old).low ≤ (p.splitOne old).bs.length := by
    have : (p.splitOne old).low = p.low := by unfold Pt.low; rw [h4.cs]
    rw [this]; exact Nat.le_trans hl h4.len
   obtain ⟨k1, k2, k3⟩ := fold_ok r (p.splitOne old) hl' h1
   refine ⟨k1, fun s t hs ht => ?_, h4.trans hl k3⟩
   rw [List.foldl_cons, k2 s t hs ht, h3 s t hs ht, h2 s hs, h2 t ht]
   constructor
   ·rintro ⟨⟨e, e2⟩, e3⟩
    refine ⟨e, ?_⟩
    by_cases ho : gt p.bl s = old
    ·exact e2 ho
    ·have ho' : gt p.bl t ≠ old := fun h => ho (e.trans h)
     exact ⟨fun h => (e3.1 ⟨h, ho⟩).1, fun h => (e3.2 ⟨h, ho'⟩).1⟩
   ·rintro ⟨e, e3⟩
    refine ⟨⟨e, fun _ => e3⟩, ?_⟩
    rw [e3, e]
theorem PI.ml {p : Pt} {N : Nat} {todo ml : List Nat} (h : PI p N todo) : PI { p with ml := ml } N todo := ⟨h.st, h.pl, h.bl, h.sp, h.ps, h.ib, h.inn, h.bd, h.own, h.tm, h.nd⟩
theorem split_ok {p : Pt} {N : Nat} (hl : p.low ≤ p.bs.length) (h : PI p N p.ml) : PI p.split N p.split.ml ∧ (∀ s t, s < N → t < N → (gt p.split.bl s = gt p.split.bl t ↔ gt p.bl s = gt p.bl t ∧ (p.M s ↔ p.M t))) ∧ PH p p.split N ∧ p.split.ml = [] := by
 obtain ⟨h1, h2, h3⟩ := fold_ok p.ml p hl h
 exact ⟨h1.ml, h2, ⟨h3.cs, h3.len, h3.par, h3.base, h3.low⟩, rfl⟩
theorem unmarked {p : Pt} {N : Nat} (h : PI p N []) (s : Nat) (hs : s < N) : ¬ p.M s := fun hm => by
 have h1 := h.ib s hs
 have h3 := h.inn s hs
 unfold Pt.M at hm
 have := (h.tm (gt p.bl s)).2 ⟨h1, by omega⟩
 cases this
end Go.Proofs.Ythcoppfiahnpoaa
