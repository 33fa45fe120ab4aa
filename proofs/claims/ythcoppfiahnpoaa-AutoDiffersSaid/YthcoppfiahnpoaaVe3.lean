/- AutoDiffers holds of the program as it landed: two machines are told apart by the first of the shortest words, or told to be the same; for any machines of at most 30 states and 8 letters. -/
import Derived.Test.YthcoppfiahnpoaaVe2
set_option maxRecDepth 100000
namespace Go.Proofs.Ythcoppfiahnpoaa
open Go Sym
structure ShI (base : Nat) (w : World) (P Q m : Nat) (cls : List Int) (next : List (List Int)) (fin : List Bool) (L i : Nat) (vs : List Value) (sn : List (List Int)) (sf : List Bool) : Prop where
  p : w.ownsRow base 26 1 (Vs P m m) m vs
  q : w.ownsRow base 4 1 (Vs Q m m) m (bools sf)
  lv : vs.length = m
  ln : sn.length = m
  lf : sf.length = m
  done : ∀ v : Nat, v < m → (∃ j, j < i ∧ cls.getD j 0 = (v : Int)) → (∃ j : Nat, j < i ∧ cls.getD j 0 = (v : Int) ∧ sn.getD v [] = (List.range L).map (fun c => clsOf cls (tgtM next j c)) ∧ sf.getD v false = fin.getD j false) ∧
    (∃ g c, vs[v]? = some (Vs g L c) ∧ w.ownsRow base 3 1 (Vs g L c) L (ints (sn.getD v [])))
  todo : ∀ v : Nat, v < m → (∀ j, j < i → cls.getD j 0 ≠ (v : Int)) → vs[v]? = some (.slice none 0 0)
section
variable {base : Nat} {w w' : World} {P Q m : Nat} {cls : List Int} {next : List (List Int)} {fin : List Bool} {L i : Nat} {vs : List Value} {sn : List (List Int)} {sf : List Bool}
theorem ShI.kept (h : ShI base w P Q m cls next fin L i vs sn sf) (hg : w.grownBy w' none) : ShI base w' P Q m cls next fin L i vs sn sf :=
  ⟨h.p.kept hg (none_or _), h.q.kept hg (none_or _), h.lv, h.ln, h.lf, fun v hv ha => by
    obtain ⟨h1, g, c, h2, h3⟩ := h.done v hv ha
    exact ⟨h1, g, c, h2, h3.kept hg (none_or _)⟩, h.todo⟩
theorem ShI.skip (h : ShI base w P Q m cls next fin L i vs sn sf) (hs : cls.getD i 0 < 0 ∨ ∃ v : Nat, v < m ∧ cls.getD i 0 = (v : Int) ∧ ∃ j, j < i ∧ cls.getD j 0 = (v : Int)) : ShI base w P Q m cls next fin L (i + 1) vs sn sf := by
  refine ⟨h.p, h.q, h.lv, h.ln, h.lf, fun v hv ha => ?_, fun v hv ha => h.todo v hv fun j hj => ha j (by omega)⟩
  have ha' : ∃ j, j < i ∧ cls.getD j 0 = (v : Int) := by
    obtain ⟨j, hj, e⟩ := ha
    rcases Nat.lt_or_ge j i with h1 | h1
    · exact ⟨j, h1, e⟩
    · obtain rfl : j = i := by omega
      rcases hs with h2 | ⟨v', _, e2, j', hj', e3⟩
      · omega
      · obtain rfl : v' = v := by omega
        exact ⟨j', hj', e3⟩
  obtain ⟨⟨j, h1, h2, h3, h4⟩, h5⟩ := h.done v hv ha'
  exact ⟨⟨j, by omega, h2, h3, h4⟩, h5⟩
theorem ShI.put (h : ShI base w P Q m cls next fin L i vs sn sf) {c g cg : Nat} (hc : c < m) (hci : cls.getD i 0 = (c : Int)) {row : List Int} (hrow : row = (List.range L).map (fun k => clsOf cls (tgtM next i k)))
    (hown : w.ownsRow base 3 1 (Vs g L cg) L (ints row)) (hnew : ∀ j, j < i → cls.getD j 0 ≠ (c : Int)) :
    ShI base ((w.setCell ⟨P, 0 + c, none⟩ (Vs g L cg)).drew.setCell ⟨Q, 0 + c, none⟩ (.bool (fin.getD i false))) P Q m cls next fin L (i + 1) (vs.set c (Vs g L cg)) (sn.set c row) (sf.set c (fin.getD i false)) := by
  rw [Nat.zero_add]
  obtain ⟨p1, gp⟩ := World.ownsRow.stored h.p c (Vs g L cg)
  have hd : (w.setCell ⟨P, c, none⟩ (Vs g L cg)).grownBy (w.setCell ⟨P, c, none⟩ (Vs g L cg)).drew none := ⟨rfl, rfl, rfl, Nat.le_refl _, fun _ _ _ => rfl⟩
  have q1 := (h.q.kept gp (own_ne h.p h.q (by decide))).kept hd (none_or _)
  obtain ⟨q2, gq⟩ := World.ownsRow.stored q1 c (.bool (fin.getD i false))
  have p2 := (p1.kept hd (none_or _)).kept gq (own_ne q1 (p1.kept hd (none_or _)) (by decide))
  have keepI : ∀ {v : Value} {n : Nat} {xs : List Value}, w.ownsRow base 3 1 v n xs → ((w.setCell ⟨P, c, none⟩ (Vs g L cg)).drew.setCell ⟨Q, c, none⟩ (.bool (fin.getD i false))).ownsRow base 3 1 v n xs := fun hv =>
    ((hv.kept gp (own_ne h.p hv (by decide))).kept hd (none_or _)).kept gq (own_ne q1 ((hv.kept gp (own_ne h.p hv (by decide))).kept hd (none_or _)) (by decide))
  have ex : ∀ {v : Nat}, v ≠ c → (vs.set c (Vs g L cg))[v]? = vs[v]? := fun hv => List.getElem?_set_ne (fun e => hv e.symm)
  refine ⟨p2, ?_, by simp [h.lv], by simp [h.ln], by simp [h.lf], fun v hv ha => ?_, fun v hv ha => ?_⟩
  · rw [show bools (sf.set c (fin.getD i false)) = (bools sf).set c (.bool (fin.getD i false)) from List.map_set ..]; exact q2
  · by_cases e : v = c
    · subst e
      refine ⟨⟨i, Nat.lt_succ_self _, hci, ?_, ?_⟩, g, cg, ?_, ?_⟩
      · rw [← hrow]; simp [List.getD_eq_getElem?_getD, h.ln, hc]
      · rw [getD_setB, if_pos ⟨rfl, by rw [h.lf]; exact hc⟩]
      · simp [h.lv, hc]
      · have : (sn.set v row).getD v [] = row := by simp [List.getD_eq_getElem?_getD, h.ln, hc]
        rw [this]; exact keepI hown
    · have ha' : ∃ j, j < i ∧ cls.getD j 0 = (v : Int) := by
        obtain ⟨j, hj, ej⟩ := ha
        rcases Nat.lt_or_ge j i with h1 | h1
        · exact ⟨j, h1, ej⟩
        · obtain rfl : j = i := by omega
          omega
      obtain ⟨⟨j, h1, h2, h3, h4⟩, g', c', h5, h6⟩ := h.done v hv ha'
      have hsn : (sn.set c row).getD v [] = sn.getD v [] := by simp [List.getD_eq_getElem?_getD, List.getElem?_set_ne (fun e2 => e e2.symm)]
      refine ⟨⟨j, by omega, h2, by rw [hsn]; exact h3, ?_⟩, g', c', by rw [ex e]; exact h5, by rw [hsn]; exact keepI h6⟩
      rw [getD_setB, if_neg (fun hh => e hh.1.symm)]; exact h4
  · have e : v ≠ c := fun e => ha i (Nat.lt_succ_self _) (by rw [e]; exact hci)
    rw [ex e]
    exact h.todo v hv fun j hj => ha j (by omega)
end
theorem ShI.end {base : Nat} {w : World} {P Q m : Nat} {cls : List Int} {next : List (List Int)} {fin : List Bool} {L : Nat} {vs : List Value} {sn : List (List Int)} {sf : List Bool} (h : ShI base w P Q m cls next fin L next.length vs sn sf) (hc : Cls L next fin cls m) :
    sn.length = m ∧ SmallI L next fin cls sn sf := by
  refine ⟨h.ln, ⟨by rw [h.lf, h.ln], fun v hv => ?_⟩⟩
  have hv' : v < m := by rw [← h.ln]; exact hv
  obtain ⟨i, h1, h2⟩ := hc.hit v hv'
  obtain ⟨⟨j, a, b, c, d⟩, _⟩ := h.done v hv' ⟨i, h1, h2⟩
  refine ⟨j, a, b, ?_, d⟩
  have : sn.getD v [] = sn[v] := by simp [List.getD_eq_getElem?_getD, hv]
  rw [← this]; exact c
structure MaxI (cls : List Int) (i : Nat) (count : Int) : Prop where
  pos : 0 ≤ count
  up : ∀ j, j < i → cls.getD j 0 + 1 ≤ count
  at' : count = 0 ∨ ∃ j, j < i ∧ cls.getD j 0 + 1 = count
theorem MaxI.end {L : Nat} {next : List (List Int)} {fin : List Bool} {cls : List Int} {m : Nat} (hc : Cls L next fin cls m) {count : Int} (h : MaxI cls next.length count) : count = m := by
  have h1 : count ≤ m := by
    rcases h.at' with h0 | ⟨j, hj, e⟩
    · omega
    · have := hc.top j hj; omega
  rcases Nat.eq_zero_or_pos m with h0 | h0
  · have := h.pos; omega
  · obtain ⟨i, a, b⟩ := hc.hit (m - 1) (by omega)
    have := h.up i a
    omega
theorem MaxI.step {cls : List Int} {i : Nat} {count x : Int} (h : MaxI cls i count) (hx : cls.getD i 0 = x) : MaxI cls (i + 1) (if x + 1 > count then x + 1 else count) := by
  have := h.pos
  refine ⟨by split <;> omega, fun j hj => ?_, ?_⟩
  · rcases Nat.lt_or_ge j i with h1 | h1
    · have := h.up j h1
      split <;> omega
    · obtain rfl : j = i := by omega
      split <;> omega
  · split
    · exact .inr ⟨i, Nat.lt_succ_self _, by omega⟩
    · rcases h.at' with h0 | ⟨j, hj, e⟩
      · exact .inl h0
      · exact .inr ⟨j, by omega, e⟩
end Go.Proofs.Ythcoppfiahnpoaa
namespace Go.Proofs.Ythcoppfiahnpoaa
open Go Sym
theorem fillB (a : Bool) (z : Value) : Instr.fill (fun i => some (i * 1, 1)) (madeCells #[z] 1) [(0, .bool a)] = some #[.bool a] := by
  have h : (Value.bool a).cells = #[.bool a] := rfl
  simp [Instr.fill, madeCells, h, Array.range, Array.foldl]
  rfl
theorem CopyI.below {base : Nat} {w w' : World} {b3 : Nat} {L s : Int} {rows : List (List Int)} {fin : List Bool} (h : CopyI base w b3 L s rows fin) (hb : RowKit.Below w.heap.size w w') : CopyI base w' b3 L s rows fin := by
  obtain ⟨vn, ve, us, ho, hve, hvn, hlu, hus⟩ := h.mem
  have hg := grown_below hb
  exact ⟨h.b, vn, ve, us, ho.keep hb ho.lt, hve.kept hg (none_or _), hvn.kept hg (none_or _), hlu, fun i hi => by
    obtain ⟨u, h1, h2, h3⟩ := hus i hi
    exact ⟨u, h1, h2.kept hg (none_or _), h3⟩⟩
theorem CopyI.add_row {base : Nat} {w w4 : World} {b3 : Nat} {L s : Int} {vn ve v' : Value} {us : List Value} {rows : List (List Int)} {fin : List Bool} {g : Option Addr} {n c : Nat} {row : List Int} (hb : base ≤ b3) (ho : OwnB w b3 25 [Vi L, Vi s, vn, ve])
    (hve : w.ownsRow base 4 1 ve fin.length (fin.map .bool)) (hvn : w.ownsRow base 26 1 vn rows.length us) (hlu : us.length = rows.length)
    (hus : ∀ i (h : i < rows.length), ∃ u, us[i]? = some u ∧ w.ownsRow base 3 1 u rows[i].length (rows[i].map (Value.int .i64)) ∧ ∀ x ∈ rows[i], I64 x)
    (hrow : w.ownsRow base 3 1 (.slice g n c) row.length (row.map (Value.int .i64))) (hI : ∀ x ∈ row, I64 x)
    (hgr : (w.alloc (.cells #[.slice g n c] 26)).grownBy w4 vn.ownBlock) (h4 : w4.ownsRow base 26 1 v' (rows.length + 1) (us ++ [.slice g n c])) :
    OwnB w4 b3 25 [Vi L, Vi s, vn, ve] ∧ CopyI base (w4.setCell ⟨b3, 2, none⟩ v') b3 L s (rows ++ [row]) fin := by
  have hvn3 := hvn.alloc (.cells #[.slice g n c] 26)
  have hve3 := hve.alloc (.cells #[.slice g n c] 26)
  have hu3 : ∀ u q xs, w.ownsRow base 3 1 u q xs → w4.ownsRow base 3 1 u q xs := fun u q xs h => (h.alloc (.cells #[.slice g n c] 26)).kept hgr (own_ne hvn3 (h.alloc _) (by decide))
  have ho3 : OwnB (w.alloc (.cells #[.slice g n c] 26)) b3 25 [Vi L, Vi s, vn, ve] := ho.kept (row := none) (grown_alloc _ _) (by simp)
  have ho4 := ho3.kept hgr (own_neB hvn3 ho3 (by decide))
  have hve4 := hve3.kept hgr (own_ne hvn3 hve3 (by decide))
  have hg5 := grown_set w4 b3 2 v'
  have hnb : ∀ {e q : Nat} {v : Value} {xs : List Value}, w4.ownsRow base e 1 v q xs → e ≠ 25 → v.ownBlock = none ∨ v.ownBlock ≠ some b3 := fun h he => .inr (fun hh => own_neB h ho4 he hh.symm)
  refine ⟨ho4, hb, v', ve, us ++ [.slice g n c], ho4.set 2 _, hve4.kept hg5 (hnb hve4 (by decide)), ?_, ?_, ?_⟩
  · have := h4.kept hg5 (hnb h4 (by decide))
    simpa using this
  · simp [hlu]
  · intro i hi
    rcases Nat.lt_or_ge i rows.length with hlt | hge
    · obtain ⟨u, hu1, hu2, hu3'⟩ := hus i hlt
      refine ⟨u, ?_, ?_, ?_⟩
      · rw [List.getElem?_append_left (by omega)]; exact hu1
      · have e1 := (hu3 _ _ _ hu2).kept hg5 (hnb (hu3 _ _ _ hu2) (by decide))
        rw [List.getElem_append_left hlt]; exact e1
      · rw [List.getElem_append_left hlt]; exact hu3'
    · obtain rfl : i = rows.length := by simp at hi; omega
      refine ⟨.slice g n c, ?_, ?_, ?_⟩
      · rw [List.getElem?_append_right (by omega)]; simp [hlu]
      · have e1 := (hu3 _ _ _ hrow).kept hg5 (hnb (hu3 _ _ _ hrow) (by decide))
        simpa using e1
      · simpa using hI
theorem CopyI.add_fin {base : Nat} {w w4 : World} {b3 : Nat} {L s : Int} {vn ve v' : Value} {us : List Value} {rows : List (List Int)} {fin : List Bool} {x : Bool} (hb : base ≤ b3) (ho : OwnB w b3 25 [Vi L, Vi s, vn, ve])
    (hve : w.ownsRow base 4 1 ve fin.length (fin.map .bool)) (hvn : w.ownsRow base 26 1 vn rows.length us) (hlu : us.length = rows.length)
    (hus : ∀ i (h : i < rows.length), ∃ u, us[i]? = some u ∧ w.ownsRow base 3 1 u rows[i].length (rows[i].map (Value.int .i64)) ∧ ∀ x ∈ rows[i], I64 x)
    (hgr : (w.alloc (.cells #[.bool x] 4)).grownBy w4 ve.ownBlock) (h4 : w4.ownsRow base 4 1 v' (fin.length + 1) (fin.map .bool ++ [.bool x])) :
    OwnB w4 b3 25 [Vi L, Vi s, vn, ve] ∧ CopyI base (w4.setCell ⟨b3, 3, none⟩ v') b3 L s rows (fin ++ [x]) := by
  have hve3 := hve.alloc (.cells #[.bool x] 4)
  have hvn3 := hvn.alloc (.cells #[.bool x] 4)
  have hu3 : ∀ u q xs, w.ownsRow base 3 1 u q xs → w4.ownsRow base 3 1 u q xs := fun u q xs h => (h.alloc (.cells #[.bool x] 4)).kept hgr (own_ne hve3 (h.alloc _) (by decide))
  have ho3 : OwnB (w.alloc (.cells #[.bool x] 4)) b3 25 [Vi L, Vi s, vn, ve] := ho.kept (row := none) (grown_alloc _ _) (by simp)
  have ho4 := ho3.kept hgr (own_neB hve3 ho3 (by decide))
  have hvn4 := hvn3.kept hgr (own_ne hve3 hvn3 (by decide))
  have hg5 := grown_set w4 b3 3 v'
  have hnb : ∀ {e q : Nat} {v : Value} {xs : List Value}, w4.ownsRow base e 1 v q xs → e ≠ 25 → v.ownBlock = none ∨ v.ownBlock ≠ some b3 := fun h he => .inr (fun hh => own_neB h ho4 he hh.symm)
  refine ⟨ho4, hb, vn, v', us, ho4.set 3 _, ?_, hvn4.kept hg5 (hnb hvn4 (by decide)), hlu, fun i hi => ?_⟩
  · have := h4.kept hg5 (hnb h4 (by decide))
    simpa using this
  · obtain ⟨u, h1, h2, h3⟩ := hus i hi
    exact ⟨u, h1, (hu3 _ _ _ h2).kept hg5 (hnb (hu3 _ _ _ h2) (by decide)), h3⟩
set_option maxHeartbeats 1000000 in
theorem shrunk_r38 {base : Nat} {w0 w : World} {M N K b3 k nr m Q' : Nat} {L s' : Int} {vP va vb : Value} {rows : List Int} {sf : List Bool} {rs : List (List Int)} {fs : List Bool} (h0 : RowKit.Below w0.heap.size w0 w) (hb : base = w0.heap.size)
    (hk : OwnB w K 25 [Vi L, Vi s', vP, Vs Q' m m]) (hq' : w.ownsRow base 4 1 (Vs Q' m m) m (bools sf) ∨ ∀ j (h : j < sf.length), w.cell? ⟨Q', 0 + j, none⟩ = some (.bool sf[j]))
    (hr : Sl w va rows PInt) (hrn : rows.length = nr) (hkr : k < rows.length) {r : Nat} (hrv : rows[k] = (r : Int)) (hrm : r < m) (hsf : sf.length = m) (hC : CopyI base w b3 L 0 rs fs) (hb3 : w0.heap.size ≤ b3) (hfs : fs.length ≤ 100000000)
    {Q : Exit → Act → World → Prop} {a : Act} {ops : Array Oper} {id : Nat} (hops : Sym.regionOf Try.f41.body 38 = some (id, ops))
    (hS : St Try.f41.ntmps a [(1, Vp M), (2, Vp N), (6, Vp K), (11, va), (12, vb), (13, Vp b3), (14, Vi k)])
    (hq : ∀ a' w', St Try.f41.ntmps a' [(1, Vp M), (2, Vp N), (6, Vp K), (11, va), (12, vb), (13, Vp b3), (14, Vi k)] → RowKit.Below w0.heap.size w0 w' ∧ CopyI base w' b3 L 0 rs (fs ++ [sf.getD r false]) → Q .normal a' w') : (Code.region id ops true).wp Try.prog Q a w := by
  cases hops
  refine any_cut 11 [(1, Vp M), (2, Vp N), (6, Vp K), (11, va), (12, vb), (13, Vp b3), (14, Vi k)] (fun w' => RowKit.Below w0.heap.size w0 w' ∧ CopyI base w' b3 L 0 rs (fs ++ [sf.getD r false])) mixed hS ?_ hq
  have hy : RowKit.Below w.drew.heap.size w.drew w.drew := RowKit.Below.refl _ _
  have hbb : w0.heap.size ≤ base := by omega
  replace hb : base ≤ w0.heap.size := by omega
  obtain ⟨vn', ve', us, ho, hve, hvn, hlu, hus⟩ := hC.mem
  have hbw : w0.heap.size ≤ w.heap.size := h0.size
  obtain ⟨ar, br, orr, cr, rfl, r1, r2, r3, r4⟩ := hr
  obtain rfl := r1 (by omega)
  obtain ⟨u, hu, rfl, -⟩ := r4 k hkr
  rw [hrv] at hu
  have hrs : r < sf.length := by omega
  have hcq : w.cell? ⟨Q', 0 + r, none⟩ = some (.bool sf[r]) := by
    rcases hq' with h | h
    · rw [Nat.zero_add, World.ownsRow.cellAt h r (by omega)]
      simp [bools, hrs]
    · exact h r hrs
  obtain ⟨ge, ne, ce, hve'⟩ := own_form hve
  subst hve'
  refine yT 0 tab_ok rfl (by kernel_rfl) hy rfl (rfl) ?_
  refine yL 1 tab_ok rfl (by kernel_rfl) hy rfl rfl (ho.cell (i := 3) rfl) ?_
  refine yT 2 tab_ok rfl (by kernel_rfl) hy rfl (rfl) ?_
  refine yL 3 tab_ok rfl (by kernel_rfl) hy rfl rfl (hk.cell (i := 3) rfl) ?_
  refine yT 4 tab_ok rfl (by kernel_rfl) hy rfl (rfl) ?_
  refine yT 5 tab_ok rfl (by kernel_rfl) hy rfl (rfl) ?_
  refine yT 6 tab_ok rfl (by kernel_rfl) hy rfl (Exists.intro _ (And.intro (rfl) (And.intro (hkr) rfl))) ?_
  refine yL 7 tab_ok rfl (by kernel_rfl) hy rfl rfl (hu) ?_
  refine yT 8 tab_ok rfl (by kernel_rfl) hy rfl (Exists.intro _ (And.intro (rfl) (And.intro (hrm) rfl))) ?_
  refine yL 9 tab_ok rfl (by kernel_rfl) hy rfl rfl (hcq) ?_
  refine y_one 10 (by kernel_rfl) (y_op 10 tab_ok rfl rfl rfl rfl ?_)
  refine Exists.intro [(0, .bool (sf[r]))] (Exists.intro #[.bool (sf[r])] (And.intro (And.intro rfl rfl) (And.intro (by decide) (And.intro (fillB _ _) ?_))))
  have hy3 := hy.alloc (Nat.le_refl _) (.cells #[.bool sf[r]] 4)
  refine And.intro (.inr hy3) ?_
  have hve3 := hve.drew.alloc (.cells #[.bool sf[r]] 4)
  have ask : AppAsk (w.drew.alloc (.cells #[.bool sf[r]] 4)) ⟨4, .bool, 1, 1, .bool false⟩ (.slice ge ne ce) fs.length (fs.map .bool) (Vs w.drew.heap.size 1 1) 1 [.bool sf[r]] base :=
    ⟨hve3, .inr ⟨_, 0, _, rfl, cell_alloc_new rfl, trivial⟩, rfl, (by simp [Value.oneCell']), (by omega), (by show (fs.length + 1) * 1 ≤ _; omega), Nat.le_trans (Nat.le_trans hb hbw) hy3.size⟩
  refine y_one 11 (by kernel_rfl) (y_op 11 tab_ok rfl rfl rfl rfl ?_)
  refine Exists.intro _ (Exists.intro _ (Exists.intro _ (Exists.intro _ (Exists.intro _ (And.intro (ask) (And.intro (fun _ h => h.symm) (And.intro (by decide) ?_)))))))
  rintro v' w4 hown4 hgr4 - -
  refine And.intro (.inl (by kernel_rfl)) ?_
  refine y_one 12 (by kernel_rfl) (y_op 12 tab_ok rfl rfl rfl rfl ?_)
  refine And.intro (.inl (by kernel_rfl)) ?_
  refine y_one 13 (by kernel_rfl) (y_op0 13 tab_ok rfl rfl rfl ?_)
  obtain ⟨g4, n4, c4, hv4⟩ := own_form hown4
  subst hv4
  obtain ⟨ho4, hC4⟩ := CopyI.add_fin (w := w.drew) hC.b ho hve.drew hvn.drew hlu (fun i hi => by obtain ⟨u, h1, h2, h3⟩ := hus i hi; exact ⟨u, h1, h2.drew, h3⟩) hgr4 hown4
  refine And.intro rfl (And.intro rfl (And.intro ⟨_, ho4.cell (i := 3) rfl⟩ (And.intro (ho4.free 3) (And.intro (.inl (by kernel_rfl)) ?_))))
  rw [show sf.getD r false = sf[r] from getD_lt hrs]
  refine y_end (by kernel_rfl) ⟨rfl, rfl, rfl, rfl, rfl, rfl, rfl, trivial⟩ (show RowKit.Below w0.heap.size w0 (w4.setCell ⟨b3, 3, none⟩ (.slice g4 n4 c4)) ∧ CopyI base (w4.setCell ⟨b3, 3, none⟩ (.slice g4 n4 c4)) b3 L 0 rs (fs ++ [sf[r]]) from ⟨?_, hC4⟩)
  have e1 : RowKit.Below w0.heap.size w0 (w.drew.alloc (.cells #[.bool sf[r]] 4)) := below_trans h0 (undrew hy3)
  have e2 := below_of_grown e1 hgr4 (fun q hq => Nat.le_trans hbb (hve3.lt q hq).1)
  exact below_of_grown e2 (grown_set _ b3 3 _) (fun q hq => by cases hq; exact hb3)
end Go.Proofs.Ythcoppfiahnpoaa
namespace Go.Proofs.Ythcoppfiahnpoaa
open Go Sym
theorem en_classes : enters Try.prog 69 = true := by kernel_rfl
theorem en_none : enters Try.prog 70 = true := by kernel_rfl
theorem en_found : enters Try.prog 71 = true := by kernel_rfl
set_option maxHeartbeats 4000000 in
theorem shrunk_any (L s : Int) (vn ve : Value) (next : List (List Int)) (fin : List Bool) (w : World) (hm : Ma w L s next fin vn ve) (hs : Shape L s next fin) (hn : next.length ≤ 1000000) (hL : L ≤ 1000) :
    Calls Try.prog 41 #[.agg #[Vi L, Vi s, vn, ve]] w fun e w' => ∃ (s' : Int) (vn' ve' : Value) (n' : List (List Int)) (f' : List Bool), e = .returned (.agg #[Vi L, Vi s', vn', ve']) ∧ OwnM w.heap.size w' n' f' vn' ve' ∧ RowKit.Below w.heap.size w w' ∧
      Canon L s' n' f' ∧ Alike L.toNat n' f' s' next fin s ∧ n'.length ≤ next.length := by
  refine Sym.enter (args := [.agg #[Vi L, Vi s, vn, ve]]) Try.func41 rfl rfl rfl (fun a0 hS0 => ?_)
  have hs' : Shape (L.toNat : Int) s next fin := by rw [Int.toNat_of_nonneg hs.L0]; exact hs
  have hL0 := hs.L0
  obtain ⟨N, hN⟩ : ∃ N, N = (w.alloc (.cells #[Vi L, Vi s, vn, ve] 25)).heap.size := ⟨_, rfl⟩
  obtain ⟨M, hM⟩ : ∃ M, M = w.heap.size := ⟨_, rfl⟩
  refine wp_seq (seq_cut [(1, Vp M), (2, Vp N)] (· = (w.alloc (.cells #[Vi L, Vi s, vn, ve] 25)).alloc (.cells #[Vi 0, Vi 0, .slice none 0 0, .slice none 0 0] 25)) tab_ok hS0 ?_ (fun a wc hS hw => ?_))
  · subst hN hM
    refine zB rfl ?_
    refine zB rfl ?_
    exact o_nil ⟨⟨rfl, rfl, trivial⟩, rfl⟩
  have hB1 := below_alloc w (.cells #[Vi L, Vi s, vn, ve] 25)
  have hB2 := below_alloc (w.alloc (.cells #[Vi L, Vi s, vn, ve] 25)) (.cells #[Vi 0, Vi 0, .slice none 0 0, .slice none 0 0] 25)
  rw [← hw] at hB2
  have hB := below_trans hB1 hB2
  have hx : Box wc M L s vn ve := by rw [hM]; exact (Box.new w L s vn ve 25).keep hB2
  have hoN : OwnB wc N 25 [Vi 0, Vi 0, .slice none 0 0, .slice none 0 0] := by rw [hw, hN]; exact OwnB.new _ _ _
  have hNw : w.heap.size ≤ N := by rw [hN]; exact hB1.size
  have hNc : N < wc.heap.size := hoN.lt
  clear hw hB1 hB2 hN hM
  replace hm := hm.keep hB
  refine wp_seq (seq_cutx (α := Nat × Nat × List Int × Nat) (fun x => [(1, Vp M), (2, Vp N), (3, Vs x.1 next.length x.2.1)]) (fun x w' => RowKit.Below wc.heap.size wc w' ∧ Rows wc.heap.size w' [oI (Vs x.1 next.length x.2.1) x.2.2.1] ∧ Cls L.toNat next fin x.2.2.1 x.2.2.2) tab_ok hS ?_ (fun x a w1 hS h1 => ?_))
  · refine zA ([Vi L, Vi s, vn, ve]) rfl rfl (hx.cells) ?_
    refine zF rfl (en_classes) (classes_any L s vn ve next fin _ hm hs (by omega)) ?_
    rintro e w1 ⟨g, c, cls, m, rfl, h1, h2, h3⟩
    refine ⟨_, rfl, ?_⟩
    repeat first|refine zP rfl ?_|refine zK rfl ?_
    exact o_nil ⟨(g, c, cls, m), ⟨rfl, rfl, rfl, trivial⟩, h2, h1, h3⟩
  obtain ⟨O, cO, cls, m⟩ := x
  obtain ⟨hK, hRO, hC⟩ := h1
  dsimp only at hS hRO hC
  have hcl := hC.len
  have hO : w1.ownsRow wc.heap.size 3 1 (Vs O next.length cO) next.length (ints cls) := by
    have this : w1.ownsRow wc.heap.size 3 1 (Vs O next.length cO) cls.length (ints cls) := hRO.1 0 _ rfl
    rw [hcl] at this; exact this
  clear hRO
  have hmn : m ≤ next.length := by
    have hnd : ∃ rep : Nat → Nat, ∀ v, v < m → rep v < next.length ∧ cls.getD (rep v) 0 = (v : Int) := by
      have : ∀ v : Nat, ∃ i : Nat, v < m → i < next.length ∧ cls.getD i 0 = (v : Int) := fun v => by
        by_cases hv : v < m
        · obtain ⟨i, a, b⟩ := hC.hit v hv
          exact ⟨i, fun _ => ⟨a, b⟩⟩
        · exact ⟨0, fun h => (hv h).elim⟩
      exact Classical.axiomOfChoice this
    obtain ⟨rep, hrep⟩ := hnd
    have h1 : ((List.range m).map rep).Nodup := by
      refine List.pairwise_map.2 (List.Pairwise.imp_of_mem (R := (· ≠ ·)) (fun {a b} ha hb hab he => hab ?_) List.nodup_range)
      have h2 := (hrep a (List.mem_range.1 ha)).2
      have h3 := (hrep b (List.mem_range.1 hb)).2
      rw [he] at h2
      omega
    have := h1.length_le_of_subset (l₂ := List.range next.length) (fun x hx => by
      obtain ⟨v, hv, rfl⟩ := List.mem_map.1 hx
      exact List.mem_range.2 (hrep v (List.mem_range.1 hv)).1)
    simpa using this
  have hcrng : ∀ x ∈ cls, -1 ≤ x ∧ x < m := fun x hx => by
    obtain ⟨j, hj, rfl⟩ := List.mem_iff_getElem.1 hx
    have a := hC.low j (by omega)
    have b := hC.top j (by omega)
    rw [getD_lt hj] at a b
    exact ⟨a, b⟩
  have hcell : ∀ {w' : World}, w'.ownsRow wc.heap.size 3 1 (Vs O next.length cO) next.length (ints cls) → ∀ {j : Nat} (hj : j < cls.length), w'.cell? ⟨O, 0 + j, none⟩ = some (Vi cls[j]) := fun h j hj => own_cell h hj hcl.symm
  obtain ⟨b30, hb30⟩ : ∃ b, decide (clsOf cls s < 0) = b := ⟨_, rfl⟩
  refine wp_seq (wp_seq (seq_cut [(1, Vp M), (2, Vp N), (3, Vs O next.length cO), (30, .bool b30)] (· = w1) tab_ok hS ?_ (fun a w2 hS hw => ?_)))
  · repeat first|refine zP rfl ?_|refine zK rfl ?_
    refine zL rfl ((hx.keep hK).c1) ?_
    cases e1 : decide (s < 0)
    case true =>
      rw [clsOf_neg (of_decide_eq_true e1)] at hb30
      subst hb30
      refine zC rfl (e1) ?_
      repeat first|refine zP rfl ?_|refine zK rfl ?_
      exact o_nil ⟨⟨rfl, rfl, rfl, rfl, trivial⟩, rfl⟩
    case false =>
      have h0 := of_decide_eq_false e1
      obtain ⟨z, rfl⟩ := Int.eq_ofNat_of_zero_le (Int.not_lt.1 h0)
      have hz : z < cls.length := by have := hs.s2; omega
      rw [clsOf_nat, getD_lt hz] at hb30
      refine zC rfl (e1) ?_
      repeat first|refine zP rfl ?_|refine zK rfl ?_
      refine zL rfl ((hx.keep hK).c1) ?_
      refine zI rfl (rfl) ((by omega : z < next.length)) ?_
      refine zL rfl (hcell hO hz) ?_
      refine zC rfl (hb30) ?_
      repeat first|refine zP rfl ?_|refine zK rfl ?_
      exact o_nil ⟨⟨rfl, rfl, rfl, rfl, trivial⟩, rfl⟩
  subst hw
  refine cond hS rfl (fun hT => ?_) (fun hF => ?_)
  · rw [hT] at hb30
    have hneg := of_decide_eq_true hb30
    have hdead : ¬ Live L.toNat next fin s := fun hl => by
      have h0 := hl.pos
      obtain ⟨z, rfl⟩ := Int.eq_ofNat_of_zero_le h0
      rw [clsOf_nat] at hneg
      have := (hC.live z (by have := hs.s2; omega)).2 hl
      omega
    obtain ⟨hcn, hal⟩ := none_canon hL0 hdead
    have hoN2 := hoN.keep hK hNc
    refine wp_seq (seq_cut [(2, Vp N)] (fun w' => RowKit.Below w.heap.size w w' ∧ OwnB w' N 25 [Vi L, Vi (-1), .slice none 0 0, .slice none 0 0]) tab_ok hS ?_ (fun a w3 hS hw => ?_))
    · repeat first|refine zP rfl ?_|refine zK rfl ?_
      refine zL rfl ((hx.keep hK).c0) ?_
      refine zF rfl (en_none) (none_any L _) ?_
      rintro e w3 ⟨rfl, h3⟩
      refine ⟨_, rfl, ?_⟩
      have hoN3 := hoN2.keep h3 hoN2.lt
      have hg := grown_sets N [Vi L, Vi (-1), .slice none 0 0, .slice none 0 0] 0 w3
      refine o_step0 rfl rfl (And.intro rfl (And.intro rfl (And.intro (own_cells4 hoN3) ?_)))
      exact o_nil ⟨⟨rfl, trivial⟩, below_of_grown (below_trans (below_trans hB hK) h3) hg (fun k hk => by cases hk; exact hNw), hoN3.sets rfl⟩
    obtain ⟨hBf, hoF⟩ := hw
    refine wp_ret ?_
    repeat (first | refine then_ret ?_ | refine block_ret ?_)
    refine retc1 tab_ok hS rfl rfl rfl rfl (o := 0) (vs := [Vi L, Vi (-1), .slice none 0 0, .slice none 0 0]) ⟨hoF.cell (i := 0) rfl, hoF.cell (i := 1) rfl, hoF.cell (i := 2) rfl, hoF.cell (i := 3) rfl, trivial⟩ rfl ⟨-1, _, _, [], [], rfl, ?_, hBf, hcn, hal, Nat.zero_le _⟩
    exact ⟨World.ownsRow_nil _ _ _ _, [], rfl, World.ownsRow_nil _ _ _ _, fun i hi => by simp at hi⟩
  rw [hF] at hb30
  have hcs0 : 0 ≤ clsOf cls s := by have := of_decide_eq_false hb30; omega
  have hsp : 0 ≤ s := by
    refine Int.not_lt.1 fun h => ?_
    rw [clsOf_neg h] at hcs0; omega
  obtain ⟨z, rfl⟩ := Int.eq_ofNat_of_zero_le hsp
  have hz : z < cls.length := by have := hs.s2; omega
  refine wp_skip ?_
  refine wp_seq (seq_cut [(1, Vp M), (2, Vp N), (3, Vs O next.length cO), (4, Vi 0)] (· = w2) tab_ok hS ?_ (fun a w3 hS hw => ?_))
  · repeat first|refine zP rfl ?_|refine zK rfl ?_
    exact o_nil ⟨⟨rfl, rfl, rfl, rfl, trivial⟩, rfl⟩
  subst hw
  refine wp_seq (cut (F := fun a' w' => w' = w3 ∧ St Try.f41.ntmps a' [(1, Vp M), (2, Vp N), (3, Vs O next.length cO), (4, Vi m)]) ?_ ?_)
  · refine wp_seq (seq_cut [(1, Vp M), (2, Vp N), (3, Vs O next.length cO), (4, Vi 0), (5, Vi 0)] (· = w3) tab_ok hS ?_ (fun a w4 hS hw => ?_))
    · repeat first|refine zP rfl ?_|refine zK rfl ?_
      exact o_nil ⟨⟨rfl, rfl, rfl, rfl, rfl, trivial⟩, rfl⟩
    subst hw
    refine wp_block (loop0 hS (fun g E wr => ∃ (i : Nat) (ct : Int), i ≤ next.length ∧ g = next.length - i ∧ E = [(1, Vp M), (2, Vp N), (3, Vs O next.length cO), (4, Vi ct), (5, Vi i)] ∧ wr = w4 ∧ MaxI cls i ct)
      next.length ⟨0, 0, Nat.zero_le _, rfl, rfl, rfl, ⟨Int.le_refl _, fun j hj => by omega, .inl rfl⟩⟩ ?_)
    rintro g E wr a1 ⟨i, ct, hi, rfl, rfl, rfl, hI⟩ hS
    refine wp_seq (wp_seq (seq_cut [(1, Vp M), (2, Vp N), (3, Vs O next.length cO), (4, Vi ct), (5, Vi i), (37, .bool (decide ((i : Int) < next.length)))] (· = wr) tab_ok hS ?_ (fun a w5 hS hw => ?_)))
    · repeat first|refine zP rfl ?_|refine zK rfl ?_
      refine zC rfl (rfl) ?_
      exact o_nil ⟨⟨rfl, rfl, rfl, rfl, rfl, rfl, trivial⟩, rfl⟩
    subst hw
    refine cond hS rfl (fun hT => ?_) (fun hF => ?_)
    case refine_2 =>
      refine wp_exit ?_
      repeat (first | refine then_exit ?_ | refine block_exit ?_ | refine block_other rfl ?_)
      obtain rfl : i = next.length := by have := of_decide_eq_false hF; omega
      obtain rfl := hI.end hC
      exact ⟨rfl, hS.sub ⟨rfl, rfl, rfl, rfl, trivial⟩⟩
    have hlt : i < next.length := by have := of_decide_eq_true hT; omega
    have hic : i < cls.length := by omega
    have hr := hcrng cls[i] (List.getElem_mem hic)
    refine wp_skip ?_
    refine wp_seq (wp_block ?_)
    refine seq_cut [(1, Vp M), (2, Vp N), (3, Vs O next.length cO), (4, Vi (if cls[i] + 1 > ct then cls[i] + 1 else ct)), (5, Vi i)] (· = w5) tab_ok hS ?_ (fun a w6 hS hw => ?_)
    · repeat first|refine zP rfl ?_|refine zK rfl ?_
      refine zI rfl (rfl) (hlt) ?_
      refine zL rfl (hcell hO hic) ?_
      refine zN rfl (wrap64 (y := cls[i] + 1) rfl (by omega) (by omega)) ?_
      refine zN rfl (rfl) ?_
      repeat first|refine zP rfl ?_|refine zK rfl ?_
      exact o_nil ⟨⟨rfl, rfl, rfl, rfl, rfl, trivial⟩, rfl⟩
    subst hw
    refine block_normal ?_
    refine then_normal ?_
    refine seq_cut [(1, Vp M), (2, Vp N), (3, Vs O next.length cO), (4, Vi (if cls[i] + 1 > ct then cls[i] + 1 else ct)), (5, Vi (i + 1 : Nat))] (· = w6) tab_ok hS ?_ (fun a w7 hS hw => ?_)
    · repeat first|refine zP rfl ?_|refine zK rfl ?_
      refine zN rfl (wrap_succ (by omega)) ?_
      repeat first|refine zP rfl ?_|refine zK rfl ?_
      exact o_nil ⟨⟨rfl, rfl, rfl, rfl, rfl, trivial⟩, rfl⟩
    subst hw
    exact ⟨next.length - (i + 1), _, by omega, ⟨i + 1, _, hlt, rfl, rfl, rfl, hI.step (getD_lt hic)⟩, hS⟩
  rintro a w4 ⟨rfl, hS⟩
  have hO' := hO
  rw [← hcl] at hO'
  rw [← hcl] at hS
  refine wp_seq (shrunk_r9 (base := wc.heap.size) (hx.keep hK) hO' hz hK.size (by omega) (by rfl) hS (fun x a w5 hS h5 => ?_))
  rw [hcl] at hS
  obtain ⟨P, Q, K⟩ := x
  obtain ⟨hw5, hR9⟩ := h5
  dsimp only at hS hR9
  have hK5 := below_trans hK hw5
  replace hO := hO.kept (grown_below hw5) (none_or _)
  clear hw5 hO'
  have hKc : wc.heap.size ≤ K := hR9.b
  refine wp_seq (cut (F := fun a' w' => ∃ (vs : List Value) (sn : List (List Int)) (sf : List Bool), St Try.f41.ntmps a' [(1, Vp M), (2, Vp N), (6, Vp K)] ∧ RowKit.Below wc.heap.size wc w' ∧ OwnB w' K 25 [Vi L, Vi cls[z], Vs P m m, Vs Q m m] ∧ ShI wc.heap.size w' P Q m cls next fin L.toNat next.length vs sn sf) ?_ ?_)
  · refine wp_seq (seq_cut [(1, Vp M), (2, Vp N), (3, Vs O next.length cO), (6, Vp K), (7, Vi 0)] (· = w5) tab_ok hS ?_ (fun a w6 hS hw => ?_))
    · repeat first|refine zP rfl ?_|refine zK rfl ?_
      exact o_nil ⟨⟨rfl, rfl, rfl, rfl, rfl, trivial⟩, rfl⟩
    subst hw
    have hI0 : ShI wc.heap.size w6 P Q m cls next fin L.toNat 0 (List.replicate m (.slice none 0 0)) (List.replicate m []) (List.replicate m false) :=
      ⟨hR9.p, by simpa using hR9.q, by simp, by simp, by simp, fun v hv ⟨j, hj, _⟩ => by omega, fun v hv _ => by simp [hv]⟩
    refine wp_block (loop0 hS (fun g E wr => ∃ (i : Nat) (vs : List Value) (sn : List (List Int)) (sf : List Bool), i ≤ next.length ∧ g = next.length - i ∧ E = [(1, Vp M), (2, Vp N), (3, Vs O next.length cO), (6, Vp K), (7, Vi i)] ∧ RowKit.Below wc.heap.size wc wr ∧
        wr.ownsRow wc.heap.size 3 1 (Vs O next.length cO) next.length (ints cls) ∧ OwnB wr K 25 [Vi L, Vi cls[z], Vs P m m, Vs Q m m] ∧ ShI wc.heap.size wr P Q m cls next fin L.toNat i vs sn sf)
      next.length ⟨0, _, _, _, Nat.zero_le _, rfl, rfl, hK5, hO, hR9.k, hI0⟩ ?_)
    clear hI0 hR9 hO hK5 hS hK
    rintro g E wr a1 ⟨i, vs, sn, sf, hi, rfl, rfl, hK, hO, hk, hI⟩ hS
    refine wp_seq (wp_seq (seq_cut [(1, Vp M), (2, Vp N), (3, Vs O next.length cO), (6, Vp K), (7, Vi i), (62, .bool (decide ((i : Int) < next.length)))] (· = wr) tab_ok hS ?_ (fun a w7 hS hw => ?_)))
    · repeat first|refine zP rfl ?_|refine zK rfl ?_
      refine zC rfl (rfl) ?_
      exact o_nil ⟨⟨rfl, rfl, rfl, rfl, rfl, rfl, trivial⟩, rfl⟩
    subst hw
    refine cond hS rfl (fun hT => ?_) (fun hF => ?_)
    case refine_2 =>
      refine wp_exit ?_
      repeat (first | refine then_exit ?_ | refine block_exit ?_ | refine block_other rfl ?_)
      obtain rfl : i = next.length := by have := of_decide_eq_false hF; omega
      exact ⟨vs, sn, sf, hS.sub ⟨rfl, rfl, rfl, trivial⟩, hK, hk, hI⟩
    have hlt : i < next.length := by have := of_decide_eq_true hT; omega
    have hic : i < cls.length := by omega
    obtain ⟨c, hc⟩ : ∃ c, cls[i] = c := ⟨_, rfl⟩
    have hcd : cls.getD i 0 = c := by rw [getD_lt hic, hc]
    have hcr := hcrng cls[i] (List.getElem_mem hic)
    rw [hc] at hcr
    refine wp_skip ?_
    refine wp_seq (cut (F := fun a' w' => ∃ (vs : List Value) (sn : List (List Int)) (sf : List Bool), St Try.f41.ntmps a' [(1, Vp M), (2, Vp N), (3, Vs O next.length cO), (6, Vp K), (7, Vi i)] ∧ RowKit.Below wc.heap.size wc w' ∧
        w'.ownsRow wc.heap.size 3 1 (Vs O next.length cO) next.length (ints cls) ∧ OwnB w' K 25 [Vi L, Vi cls[z], Vs P m m, Vs Q m m] ∧ ShI wc.heap.size w' P Q m cls next fin L.toNat (i + 1) vs sn sf) ?_ ?_)
    · refine wp_block ?_
      refine wp_seq (seq_cut [(1, Vp M), (2, Vp N), (3, Vs O next.length cO), (6, Vp K), (7, Vi i), (8, Vi c)] (· = w7) tab_ok hS ?_ (fun a w8 hS hw => ?_))
      · repeat first|refine zP rfl ?_|refine zK rfl ?_
        refine zI rfl (rfl) (hlt) ?_
        refine zL rfl (hc ▸ hcell hO hic) ?_
        repeat first|refine zP rfl ?_|refine zK rfl ?_
        exact o_nil ⟨⟨rfl, rfl, rfl, rfl, rfl, rfl, trivial⟩, rfl⟩
      subst hw
      have hcase : (cls.getD i 0 < 0 ∨ ∃ v : Nat, v < m ∧ cls.getD i 0 = (v : Int) ∧ ∃ j, j < i ∧ cls.getD j 0 = (v : Int)) ∨ ∃ v : Nat, v < m ∧ c = (v : Int) ∧ ∀ j, j < i → cls.getD j 0 ≠ (v : Int) := by
        by_cases h0 : c < 0
        · exact .inl (.inl (by rw [hcd]; exact h0))
        · obtain ⟨v, rfl⟩ := Int.eq_ofNat_of_zero_le (Int.not_lt.1 h0)
          by_cases hex : ∃ j, j < i ∧ cls.getD j 0 = (v : Int)
          · exact .inl (.inr ⟨v, by omega, hcd, hex⟩)
          · exact .inr ⟨v, by omega, rfl, fun j hj e => hex ⟨j, hj, e⟩⟩
      rcases hcase with hskip | ⟨v, hv, rfl, hnew⟩
      · refine wp_seq (wp_seq (seq_cut [(1, Vp M), (2, Vp N), (3, Vs O next.length cO), (6, Vp K), (7, Vi i), (78, .bool true)] (· = w8) tab_ok hS ?_ (fun a w9 hS hw => ?_)))
        · repeat first|refine zP rfl ?_|refine zK rfl ?_
          cases e1 : decide (c < 0)
          case true =>
            refine zC rfl (e1) ?_
            repeat first|refine zP rfl ?_|refine zK rfl ?_
            exact o_nil ⟨⟨rfl, rfl, rfl, rfl, rfl, rfl, trivial⟩, rfl⟩
          case false =>
            have h0 := of_decide_eq_false e1
            rcases hskip with h1 | ⟨v, hv, hcv, hex⟩
            · rw [hcd] at h1; exact (h0 h1).elim
            · rw [hcd] at hcv
              subst hcv
              obtain ⟨_, g, cg, hg1, hg2⟩ := hI.done v hv hex
              have hcellP : w8.cell? ⟨P, 0 + v, none⟩ = some (Vs g L.toNat cg) := by
                rw [Nat.zero_add, World.ownsRow.cellAt hI.p v (by omega)]; exact hg1
              refine zC rfl (e1) ?_
              repeat first|refine zP rfl ?_|refine zK rfl ?_
              refine zL rfl (hk.cell (i := 2) rfl) ?_
              repeat first|refine zP rfl ?_|refine zK rfl ?_
              refine zI rfl (rfl) (hv) ?_
              refine zL rfl (hcellP) ?_
              repeat first|refine zP rfl ?_|refine zK rfl ?_
              exact o_nil ⟨⟨rfl, rfl, rfl, rfl, rfl, rfl, trivial⟩, rfl⟩
        subst hw
        refine cond hS rfl (fun _ => ?_) (fun hF => by cases hF)
        refine wp_exit ?_
        repeat (first | refine then_exit ?_ | refine block_exit ?_ | refine block_other rfl ?_)
        exact ⟨vs, sn, sf, hS.sub ⟨rfl, rfl, rfl, rfl, rfl, trivial⟩, hK, hO, hk, hI.skip hskip⟩
      have hnil := hI.todo v hv hnew
      have hcellP : w8.cell? ⟨P, 0 + v, none⟩ = some (.slice none 0 0) := by
        rw [Nat.zero_add, World.ownsRow.cellAt hI.p v (by omega)]; exact hnil
      refine wp_seq (wp_seq (seq_cut [(1, Vp M), (2, Vp N), (3, Vs O next.length cO), (6, Vp K), (7, Vi i), (8, Vi v), (78, .bool false)] (· = w8) tab_ok hS ?_ (fun a w9 hS hw => ?_)))
      · have h0 : ¬ (v : Int) < 0 := by omega
        repeat first|refine zP rfl ?_|refine zK rfl ?_
        refine zC rfl (decide_eq_false h0) ?_
        repeat first|refine zP rfl ?_|refine zK rfl ?_
        refine zL rfl (hk.cell (i := 2) rfl) ?_
        repeat first|refine zP rfl ?_|refine zK rfl ?_
        refine zI rfl (rfl) (hv) ?_
        refine zL rfl (hcellP) ?_
        repeat first|refine zP rfl ?_|refine zK rfl ?_
        exact o_nil ⟨⟨rfl, rfl, rfl, rfl, rfl, rfl, rfl, trivial⟩, rfl⟩
      subst hw
      refine cond hS rfl (fun hT => by cases hT) (fun _ => ?_)
      refine wp_skip ?_
      obtain ⟨Ln, hLn⟩ : ∃ Ln : Nat, L = (Ln : Int) := ⟨L.toNat, by omega⟩
      obtain ⟨G, hG⟩ : ∃ G, G = w9.heap.size := ⟨_, rfl⟩
      refine wp_seq (seq_cut [(1, Vp M), (2, Vp N), (3, Vs O next.length cO), (6, Vp K), (7, Vi i), (8, Vi v), (9, Vs G L.toNat L.toNat)] (· = w9.alloc (.cells (madeCells #[Vi 0] L.toNat) 3)) tab_ok hS ?_ (fun a w10 hS hw => ?_))
      · subst hG
        repeat first|refine zP rfl ?_|refine zK rfl ?_
        refine zL rfl ((hx.keep hK).c0) ?_
        rw [hLn, Int.toNat_natCast]
        refine zM (Ln) rfl rfl rfl rfl rfl ((by show 8 * _ ≤ _; omega)) ((by omega)) ?_
        repeat first|refine zP rfl ?_|refine zK rfl ?_
        exact o_nil ⟨⟨rfl, rfl, rfl, rfl, rfl, rfl, rfl, trivial⟩, rfl⟩
      have hown := own_makeG w9 w9.heap.size 3 L.toNat (Vi 0) (Nat.le_refl _) (by omega)
      have hb10 := below_alloc w9 (.cells (madeCells #[Vi 0] L.toNat) 3)
      rw [← hw, ← hG] at hown
      rw [← hw, ← hG] at hb10
      have hown : w10.ownsRow G 3 1 (Vs G L.toNat L.toNat) L.toNat (ints (List.replicate L.toNat 0)) := by simpa using hown
      clear hw
      refine wp_seq (cut (F := fun a' w' => ∃ row : List Int, St Try.f41.ntmps a' [(1, Vp M), (2, Vp N), (3, Vs O next.length cO), (6, Vp K), (7, Vi i), (8, Vi v), (9, Vs G L.toNat L.toNat)] ∧ RowKit.Below G w9 w' ∧
          w'.ownsRow G 3 1 (Vs G L.toNat L.toNat) L.toNat (ints row) ∧ row = (List.range L.toNat).map (fun k => clsOf cls (tgtM next i k))) ?_ ?_)
      · have hrl : next[i].length = L.toNat := by have := (hs'.rows i hlt).1; omega
        have hrv := (hs'.rows i hlt).2
        have hGs : G ≤ w10.heap.size := by rw [hG]; exact hb10.size
        refine wp_seq (seq_cut [(1, Vp M), (2, Vp N), (3, Vs O next.length cO), (6, Vp K), (7, Vi i), (8, Vi v), (9, Vs G L.toNat L.toNat), (10, Vi 0)] (· = w10) tab_ok hS ?_ (fun a w11 hS hw => ?_))
        · repeat first|refine zP rfl ?_|refine zK rfl ?_
          exact o_nil ⟨⟨rfl, rfl, rfl, rfl, rfl, rfl, rfl, rfl, trivial⟩, rfl⟩
        subst hw
        refine wp_block (loop0 hS (fun g E wr => ∃ (k : Nat) (row : List Int), k ≤ L.toNat ∧ g = L.toNat - k ∧ E = [(1, Vp M), (2, Vp N), (3, Vs O next.length cO), (6, Vp K), (7, Vi i), (8, Vi v), (9, Vs G L.toNat L.toNat), (10, Vi k)] ∧
            RowKit.Below w9.heap.size w9 wr ∧ wr.ownsRow G 3 1 (Vs G L.toNat L.toNat) L.toNat (ints row) ∧ row.length = L.toNat ∧ ∀ c, c < k → row.getD c 0 = clsOf cls (tgtM next i c))
          L.toNat ⟨0, _, Nat.zero_le _, rfl, rfl, hG ▸ hb10, hown, by simp, fun c hc => by omega⟩ ?_)
        clear hb10 hown hGs hS
        rintro g E wr a1 ⟨k, row, hk', rfl, rfl, hb, hown, hlen, hrow⟩ hS
        refine wp_seq (wp_seq (seq_cut [(1, Vp M), (2, Vp N), (3, Vs O next.length cO), (6, Vp K), (7, Vi i), (8, Vi v), (9, Vs G L.toNat L.toNat), (10, Vi k), (85, .bool (decide ((k : Int) < L)))] (· = wr) tab_ok hS ?_ (fun a w12 hS hw => ?_)))
        · repeat first|refine zP rfl ?_|refine zK rfl ?_
          refine zL rfl ((hx.keep (below_trans hK hb)).c0) ?_
          refine zC rfl (rfl) ?_
          exact o_nil ⟨⟨rfl, rfl, rfl, rfl, rfl, rfl, rfl, rfl, rfl, trivial⟩, rfl⟩
        subst hw
        refine cond hS rfl (fun hT => ?_) (fun hF => ?_)
        case refine_2 =>
          refine wp_exit ?_
          repeat (first | refine then_exit ?_ | refine block_exit ?_ | refine block_other rfl ?_)
          obtain rfl : k = L.toNat := by have := of_decide_eq_false hF; omega
          refine ⟨row, hS.sub ⟨rfl, rfl, rfl, rfl, rfl, rfl, rfl, trivial⟩, hG ▸ hb, hown, ?_⟩
          refine List.ext_getElem (by simp [hlen]) fun c h1 h2 => ?_
          have := hrow c (by omega)
          rw [getD_lt h1] at this
          simp [this]
        have hkL : k < L.toNat := by have := of_decide_eq_true hT; omega
        have hkr : k < next[i].length := by omega
        obtain ⟨t, ht⟩ : ∃ t, next[i][k] = t := ⟨_, rfl⟩
        have htr := hrv k hkr
        rw [ht] at htr
        have htg : tgtM next i k = t := by rw [tgt_get hlt hkr, ht]
        refine wp_skip ?_
        refine wp_seq (wp_block ?_)
        refine wp_seq (seq_cut [(1, Vp M), (2, Vp N), (3, Vs O next.length cO), (6, Vp K), (7, Vi i), (8, Vi v), (9, Vs G L.toNat L.toNat), (10, Vi k)] (· = w12.setCell ⟨G, 0 + k, none⟩ (Vi (-1))) tab_ok hS ?_ (fun a w13 hS hw => ?_))
        · repeat first|refine zP rfl ?_|refine zK rfl ?_
          refine zI rfl (rfl) (hkL) ?_
          refine zS rfl rfl (own_cell hown (j := k) (by omega) hlen.symm) (own_frozen hown k) ?_
          exact o_nil ⟨⟨rfl, rfl, rfl, rfl, rfl, rfl, rfl, rfl, trivial⟩, rfl⟩
        rw [Nat.zero_add] at hw
        have hown13 := own_stored hown k (-1)
        have hb13 := below_of_grown hb (hown.stored k (Vi (-1))).2 (fun q hq => by cases hq; omega)
        rw [← hw] at hown13 hb13
        clear hw hown hb
        have hlen13 : (row.set k (-1)).length = L.toNat := by simp [hlen]
        have hrow13 : ∀ c, c < k → (row.set k (-1)).getD c 0 = clsOf cls (tgtM next i c) := fun c hc => by
          rw [← hrow c hc]
          simp [List.getD_eq_getElem?_getD, List.getElem?_set_ne (show k ≠ c by omega)]
        have hat13 : (row.set k (-1)).getD k 0 = -1 := by simp [List.getD_eq_getElem?_getD, hlen, hkL]
        generalize row.set k (-1) = r2 at *
        refine wp_seq (seq_cut [(1, Vp M), (2, Vp N), (3, Vs O next.length cO), (6, Vp K), (7, Vi i), (8, Vi v), (9, Vs G L.toNat L.toNat), (10, Vi k), (99, .bool (decide (0 ≤ t)))] (· = w13) tab_ok hS ?_ (fun a w14 hS hw => ?_))
        · obtain ⟨bn, on, cn, hvn, ar, cr, hc1, hc2⟩ := (hm.keep (below_trans hK hb13)).cell hlt
          obtain ⟨br, orr, rfl, hc3⟩ := hc2 k hkr
          subst hvn
          rw [ht] at hc3
          repeat first|refine zP rfl ?_|refine zK rfl ?_
          refine zL rfl ((hx.keep (below_trans hK hb13)).c2) ?_
          repeat first|refine zP rfl ?_|refine zK rfl ?_
          refine zI rfl (rfl) (hlt) ?_
          refine zL rfl (hc1) ?_
          repeat first|refine zP rfl ?_|refine zK rfl ?_
          refine zI rfl (rfl) (hkr) ?_
          refine zL rfl (hc3) ?_
          refine zC rfl (rfl) ?_
          exact o_nil ⟨⟨rfl, rfl, rfl, rfl, rfl, rfl, rfl, rfl, rfl, trivial⟩, rfl⟩
        subst hw
        refine cut (F := fun a' w' => ∃ row : List Int, St Try.f41.ntmps a' [(1, Vp M), (2, Vp N), (3, Vs O next.length cO), (6, Vp K), (7, Vi i), (8, Vi v), (9, Vs G L.toNat L.toNat), (10, Vi k)] ∧
            RowKit.Below w9.heap.size w9 w' ∧ w'.ownsRow G 3 1 (Vs G L.toNat L.toNat) L.toNat (ints row) ∧ row.length = L.toNat ∧ ∀ c, c < k + 1 → row.getD c 0 = clsOf cls (tgtM next i c)) ?_ ?_
        · refine cond hS rfl (fun hT => ?_) (fun hF => ?_)
          · obtain ⟨tn, rfl⟩ := Int.eq_ofNat_of_zero_le (of_decide_eq_true hT)
            have htc : tn < cls.length := by omega
            refine seq_cut [(1, Vp M), (2, Vp N), (3, Vs O next.length cO), (6, Vp K), (7, Vi i), (8, Vi v), (9, Vs G L.toNat L.toNat), (10, Vi k)] (· = w14.setCell ⟨G, 0 + k, none⟩ (Vi cls[tn])) tab_ok hS ?_ (fun a w15 hS hw => ?_)
            · obtain ⟨bn, on, cn, hvn, ar, cr, hc1, hc2⟩ := (hm.keep (below_trans hK hb13)).cell hlt
              obtain ⟨br, orr, rfl, hc3⟩ := hc2 k hkr
              subst hvn
              rw [ht] at hc3
              repeat first|refine zP rfl ?_|refine zK rfl ?_
              refine zL rfl ((hx.keep (below_trans hK hb13)).c2) ?_
              repeat first|refine zP rfl ?_|refine zK rfl ?_
              refine zI rfl (rfl) (hlt) ?_
              refine zL rfl (hc1) ?_
              repeat first|refine zP rfl ?_|refine zK rfl ?_
              refine zI rfl (rfl) (hkr) ?_
              refine zL rfl (hc3) ?_
              refine zI rfl (rfl) ((by omega : tn < next.length)) ?_
              refine zL rfl (hcell (hO.kept (grown_below hb13) (none_or _)) htc) ?_
              refine zI rfl (rfl) (hkL) ?_
              refine zS rfl rfl (own_cell hown13 (j := k) (by omega) hlen13.symm) (own_frozen hown13 k) ?_
              exact o_nil ⟨⟨rfl, rfl, rfl, rfl, rfl, rfl, rfl, rfl, trivial⟩, rfl⟩
            rw [Nat.zero_add] at hw
            have hown15 := own_stored hown13 k cls[tn]
            have hb15 := below_of_grown hb13 (hown13.stored k (Vi cls[tn])).2 (fun q hq => by cases hq; omega)
            rw [← hw] at hown15 hb15
            refine ⟨_, hS, hb15, hown15, by simp [hlen13], fun c hc => ?_⟩
            by_cases hck : c = k
            · subst hck
              rw [htg, clsOf_nat, getD_lt htc]
              simp [List.getD_eq_getElem?_getD, hlen13, hkL]
            · rw [← hrow13 c (by omega)]
              simp [List.getD_eq_getElem?_getD, List.getElem?_set_ne (fun e => hck e.symm)]
          · refine wp_skip ⟨r2, hS.sub ⟨rfl, rfl, rfl, rfl, rfl, rfl, rfl, rfl, trivial⟩, hb13, hown13, hlen13, fun c hc => ?_⟩
            by_cases hck : c = k
            · subst hck
              rw [hat13, htg, clsOf_neg (by have := of_decide_eq_false hF; omega)]
            · exact hrow13 c (by omega)
        rintro a w15 ⟨row', hS, hb15, hown15, hlen15, hrow15⟩
        refine block_normal ?_
        refine then_normal ?_
        refine seq_cut [(1, Vp M), (2, Vp N), (3, Vs O next.length cO), (6, Vp K), (7, Vi i), (8, Vi v), (9, Vs G L.toNat L.toNat), (10, Vi (k + 1 : Nat))] (· = w15) tab_ok hS ?_ (fun a w16 hS hw => ?_)
        · repeat first|refine zP rfl ?_|refine zK rfl ?_
          refine zN rfl (wrap_succ (by omega)) ?_
          repeat first|refine zP rfl ?_|refine zK rfl ?_
          exact o_nil ⟨⟨rfl, rfl, rfl, rfl, rfl, rfl, rfl, rfl, trivial⟩, rfl⟩
        subst hw
        exact ⟨L.toNat - (k + 1), _, by omega, ⟨k + 1, row', hkL, rfl, rfl, hb15, hown15, hlen15, hrow15⟩, hS⟩
      rintro a w11 ⟨row, hS, hb11, hown11, hrow⟩
      rw [hG] at hb11
      have hK11 := below_trans hK hb11
      have hI11 := hI.kept (grown_below hb11)
      have hk11 := hk.keep hb11 hk.lt
      have hO11 := hO.kept (grown_below hb11) (none_or _)
      have hown11 : w11.ownsRow wc.heap.size 3 1 (Vs G L.toNat L.toNat) L.toNat (ints row) := own_mono hown11 (by rw [hG]; exact hK.size)
      clear hb11 hK hI hk hO hb10 hown hG
      have hPlt := hI11.p.lt P rfl
      have hQlt := hI11.q.lt Q rfl
      have hfi : i < fin.length := by have := hs.fin; omega
      have hfd : fin.getD i false = fin[i] := getD_lt hfi
      refine wp_seq (seq_cut [(1, Vp M), (2, Vp N), (3, Vs O next.length cO), (6, Vp K), (7, Vi i), (8, Vi v)] (· = w11.setCell ⟨P, 0 + v, none⟩ (Vs G L.toNat L.toNat)) tab_ok hS ?_ (fun a w12 hS hw => ?_))
      · have hc11 : w11.cell? ⟨P, 0 + v, none⟩ = some (vs[v]'(by have := hI11.lv; omega)) := by
          rw [Nat.zero_add, World.ownsRow.cellAt hI11.p v (by omega)]
          exact List.getElem?_eq_getElem _
        have hf11 : w11.frozen? ⟨P, 0 + v, none⟩ = false := by rw [Nat.zero_add]; exact hI11.p.frozenAt v
        repeat first|refine zP rfl ?_|refine zK rfl ?_
        refine zL rfl (hk11.cell (i := 2) rfl) ?_
        repeat first|refine zP rfl ?_|refine zK rfl ?_
        refine zI rfl (rfl) (hv) ?_
        refine zS rfl rfl (hc11) (hf11) ?_
        exact o_nil ⟨⟨rfl, rfl, rfl, rfl, rfl, rfl, trivial⟩, rfl⟩
      have hg12 : w11.grownBy w12 (some P) := by rw [hw, Nat.zero_add]; exact (World.ownsRow.stored hI11.p v _).2
      have hK12 := below_of_grown hK11 hg12 (fun q hq => by cases hq; exact hPlt.1)
      have hO12 := hO11.kept hg12 (own_ne hI11.p hO11 (by decide))
      have hk12 := hk11.kept hg12 (own_neB hI11.p hk11 (by decide))
      have hQ12 := hI11.q.kept hg12 (own_ne hI11.p hI11.q (by decide))
      refine any_cut 9 [(1, Vp M), (2, Vp N), (3, Vs O next.length cO), (6, Vp K), (7, Vi i)] (· = w12.drew.setCell ⟨Q, 0 + v, none⟩ (.bool fin[i])) mixed hS ?_ (fun a w13 hS hw13 => ?_)
      · have hy : RowKit.Below w12.drew.heap.size w12.drew w12.drew := RowKit.Below.refl _ _
        obtain ⟨be, oe, ce, hve, hce⟩ := (hm.keep hK12).end hfi
        subst hve
        have hc12 : w12.cell? ⟨Q, 0 + v, none⟩ = some (.bool (sf[v]'(by have := hI11.lf; omega))) := by
          have hvs : v < sf.length := by have := hI11.lf; omega
          rw [Nat.zero_add, World.ownsRow.cellAt hQ12 v (by omega)]
          simp [bools, hvs]
        have hf12 : w12.frozen? ⟨Q, 0 + v, none⟩ = false := by rw [Nat.zero_add]; exact hQ12.frozenAt v
        refine yT 0 tab_ok rfl (by kernel_rfl) hy rfl (rfl) ?_
        refine yL 1 tab_ok rfl (by kernel_rfl) hy rfl rfl (hk12.cell (i := 3) rfl) ?_
        refine yT 2 tab_ok rfl (by kernel_rfl) hy rfl (rfl) ?_
        refine yT 3 tab_ok rfl (by kernel_rfl) hy rfl (rfl) ?_
        refine yL 4 tab_ok rfl (by kernel_rfl) hy rfl rfl ((hx.keep hK12).c3) ?_
        refine yT 5 tab_ok rfl (by kernel_rfl) hy rfl (rfl) ?_
        refine yT 6 tab_ok rfl (by kernel_rfl) hy rfl (Exists.intro _ (And.intro (rfl) (And.intro (hfi) rfl))) ?_
        refine yL 7 tab_ok rfl (by kernel_rfl) hy rfl rfl (hce) ?_
        refine yT 8 tab_ok rfl (by kernel_rfl) hy rfl (Exists.intro _ (And.intro (rfl) (And.intro (hv) rfl))) ?_
        refine y_one 9 (by kernel_rfl) (y_op0 9 tab_ok rfl rfl rfl ?_)
        refine And.intro rfl (And.intro rfl (And.intro ⟨_, hc12⟩ (And.intro hf12 (And.intro (.inl (by kernel_rfl)) ?_))))
        exact y_end (by kernel_rfl) ⟨rfl, rfl, rfl, rfl, rfl, trivial⟩ rfl
      have hput := hI11.put hv hcd hrow hown11 hnew
      rw [hfd, ← hw, ← hw13] at hput
      have hg13 : w12.grownBy w13 (some Q) := by
        have hd := (World.ownsRow.stored (hQ12.drew) v (.bool fin[i])).2
        rw [hw13, Nat.zero_add]
        exact ⟨hd.os, hd.tape, hd.output, hd.size, hd.block⟩
      exact ⟨_, _, _, hS, below_of_grown hK12 hg13 (fun q hq => by cases hq; exact hQlt.1), hO12.kept hg13 (own_ne hQ12 hO12 (by decide)), hk12.kept hg13 (own_neB hQ12 hk12 (by decide)), hput⟩
    rintro a w8 ⟨vs', sn', sf', hS, hK', hO', hk', hI'⟩
    refine seq_cut [(1, Vp M), (2, Vp N), (3, Vs O next.length cO), (6, Vp K), (7, Vi (i + 1 : Nat))] (· = w8) tab_ok hS ?_ (fun a w9 hS hw => ?_)
    · repeat first|refine zP rfl ?_|refine zK rfl ?_
      refine zN rfl (wrap_succ (by omega)) ?_
      repeat first|refine zP rfl ?_|refine zK rfl ?_
      exact o_nil ⟨⟨rfl, rfl, rfl, rfl, rfl, trivial⟩, rfl⟩
    subst hw
    exact ⟨next.length - (i + 1), _, by omega, ⟨i + 1, vs', sn', sf', hlt, rfl, rfl, hK', hO', hk', hI'⟩, hS⟩
  rintro a w6 ⟨vs, sn, sf, hS, hK6, hk6, hI6⟩
  clear hK hO hR9 hK5 hS0
  obtain ⟨hsnl, hSm⟩ := hI6.end hC
  have hC' : Cls L.toNat next fin cls sn.length := by rw [hsnl]; exact hC
  obtain ⟨hShp, hlive, hdist, hal⟩ := small_ok hs' hC' hSm hcs0
  rw [clsOf_nat, getD_lt hz] at hShp hal hcs0
  rw [Int.toNat_of_nonneg hL0] at hShp
  have hcz := hcrng cls[z] (List.getElem_mem hz)
  have hOM : OwnM wc.heap.size w6 sn sf (Vs P m m) (Vs Q m m) := by
    refine ⟨by rw [hI6.lf]; exact hI6.q, vs, by rw [hI6.lv, hsnl], by rw [hsnl]; exact hI6.p, fun v hv => ?_⟩
    obtain ⟨j, h1, h2⟩ := hC.hit v (by omega)
    obtain ⟨_, g, cg, h5, h6⟩ := hI6.done v (by omega) ⟨j, h1, h2⟩
    have h7 := hShp.rows v hv
    refine ⟨_, h5, ?_, fun x hx => ?_⟩
    · rw [show sn.getD v [] = sn[v] by simp [List.getD_eq_getElem?_getD, hv]] at h6
      rw [show sn[v].length = L.toNat by have := h7.1; omega]
      exact h6
    · obtain ⟨c, hc, rfl⟩ := List.mem_iff_getElem.1 hx
      have := h7.2 c hc
      exact ⟨by omega, by omega⟩
  have hMa := hOM.ma hm.L (show I64 cls[z] from ⟨by omega, by omega⟩)
  have hshp' : Shape (L.toNat : Int) cls[z] sn sf := by rw [Int.toNat_of_nonneg hL0]; exact hShp
  refine wp_seq (seq_cutx (α := Value × Value) (fun x => [(1, Vp M), (2, Vp N), (6, Vp K), (11, x.1), (12, x.2)]) (fun x w' => RowKit.Below w6.heap.size w6 w' ∧ TwoRows w6.heap.size w' x.1 x.2 (foundM cls[z] sn L.toNat).rows (foundM cls[z] sn L.toNat).place) tab_ok hS ?_ (fun x a w7 hS h7 => ?_))
  · refine zA ([Vi L, Vi cls[z], Vs P m m, Vs Q m m]) rfl rfl (⟨hk6.cell (i := 0) rfl, hk6.cell (i := 1) rfl, hk6.cell (i := 2) rfl, hk6.cell (i := 3) rfl, trivial⟩) ?_
    refine zF rfl (en_found) (found_any L cls[z] _ _ sn sf _ hMa hShp (by omega)) ?_
    rintro e w7 ⟨vr, vp, rfl, h1, h2⟩
    refine ⟨_, rfl, ?_⟩
    repeat first|refine zP rfl ?_|refine zK rfl ?_
    exact o_nil ⟨(vr, vp), ⟨rfl, rfl, rfl, rfl, rfl, trivial⟩, h2, h1⟩
  obtain ⟨vr, vp⟩ := x
  obtain ⟨hb7, hT'⟩ := h7
  dsimp only at hS hT'
  have hFd := foundM_found hShp
  obtain ⟨hcn, hal2⟩ := found_canon hShp hFd hlive hdist
  generalize foundM cls[z] sn L.toNat = f at hT' hFd hcn hal2
  have hfr0 : 0 < f.rows.length := by
    have := (hFd.first hcs0).1
    exact (List.getElem?_eq_some_iff.1 this).1
  rw [if_neg (by omega)] at hcn hal2
  have hplen := hFd.inn.ok.p
  have hfcap := hFd.inn.ok.cap
  have hrr : ∀ k (h : k < f.rows.length), ∃ r : Nat, r < sn.length ∧ f.rows[k] = (r : Int) := fun k h => by
    obtain ⟨a, b, _⟩ := hFd.inn.ok.r _ (List.getElem_mem h)
    exact ⟨f.rows[k].toNat, by omega, by omega⟩
  obtain ⟨R, cR, rfl⟩ : ∃ R cR, vr = Vs R f.rows.length cR := by
    rcases hT'.a.2 with ⟨_, h⟩ | ⟨g, cap, cur, h, _⟩
    · omega
    · exact ⟨_, _, h⟩
  obtain ⟨S, cS, rfl⟩ : ∃ S cS, vp = Vs S f.place.length cS := by
    rcases hT'.b.2 with ⟨_, h⟩ | ⟨g, cap, cur, h, _⟩
    · omega
    · exact ⟨_, _, h⟩
  have hK7 := below_trans hK6 hb7
  have hk7 := hk6.keep hb7 hk6.lt
  have hMa7 := hMa.keep hb7
  have hrI : ∀ x ∈ f.rows, I64 x := fun x hx => by
    obtain ⟨a, b, _⟩ := hFd.inn.ok.r x hx
    exact ⟨by omega, by omega⟩
  have hslR : Sl w7 (Vs R f.rows.length cR) f.rows PInt := (sl_own (P := PInt) (l := f.rows) hT'.a rfl (fun i hi => ⟨_, by simp [hi], rfl, hrI _ (List.getElem_mem hi)⟩)).1
  have hpl : ∀ t : Nat, t < f.place.length → -1 ≤ f.place.getD t 0 ∧ f.place.getD t 0 < f.rows.length := fun t ht => by
    refine ⟨hFd.inn.low t (by omega), ?_⟩
    rcases Int.lt_or_le (f.place.getD t 0) 0 with h | h
    · omega
    · obtain ⟨j, hj, hj2⟩ := hFd.inn.of t (by omega) h
      have := (List.getElem?_eq_some_iff.1 hj2).1
      omega
  obtain ⟨b3, hb3⟩ : ∃ b3, b3 = w7.heap.size := ⟨_, rfl⟩
  refine wp_seq (seq_cut [(1, Vp M), (2, Vp N), (6, Vp K), (11, Vs R f.rows.length cR), (12, Vs S f.place.length cS), (13, Vp b3)] (· = (w7.alloc (.cells #[Vi 0, Vi 0, .slice none 0 0, .slice none 0 0] 25)).setCells w7.heap.size 0 [Vi L, Vi 0, .slice none 0 0, .slice none 0 0]) tab_ok hS ?_ (fun a w8 hS hw => ?_))
  · subst hb3
    repeat first|refine zP rfl ?_|refine zK rfl ?_
    refine zL rfl ((hx.keep hK7).c0) ?_
    repeat first|refine zP rfl ?_|refine zK rfl ?_
    refine zB rfl ?_
    refine o_step0 rfl rfl (And.intro rfl (And.intro rfl (And.intro (own_cells4 (OwnB.new w7 [Vi 0, Vi 0, .slice none 0 0, .slice none 0 0] 25)) ?_)))
    exact o_nil ⟨⟨rfl, rfl, rfl, rfl, rfl, rfl, trivial⟩, rfl⟩
  obtain ⟨hb8, hC8⟩ := copy_fin (base := w7.heap.size) (w0 := w7) (L := L) (s := 0) (fin := []) (below_alloc w7 (.cells #[Vi 0, Vi 0, .slice none 0 0, .slice none 0 0] 25)) (Nat.le_refl _) (Nat.le_refl _) (OwnB.new w7 [Vi 0, Vi 0, .slice none 0 0, .slice none 0 0] 25) (World.ownsRow_nil _ _ _ _)
  rw [← hw] at hb8 hC8
  rw [← hb3] at hC8
  clear hw
  have hb3' : w7.heap.size ≤ b3 := by omega
  refine wp_seq (cut (F := fun a' w' => St Try.f41.ntmps a' [(2, Vp N), (13, Vp b3)] ∧ RowKit.Below w7.heap.size w7 w' ∧ CopyI b3 w' b3 L 0 (f.rows.map (renumM f.place sn L.toNat)) (foundFin f sf)) ?_ ?_)
  · refine wp_seq (seq_cut [(1, Vp M), (2, Vp N), (6, Vp K), (11, Vs R f.rows.length cR), (12, Vs S f.place.length cS), (13, Vp b3), (14, Vi 0)] (· = w8) tab_ok hS ?_ (fun a w9 hS hw => ?_))
    · repeat first|refine zP rfl ?_|refine zK rfl ?_
      exact o_nil ⟨⟨rfl, rfl, rfl, rfl, rfl, rfl, rfl, trivial⟩, rfl⟩
    subst hw
    refine wp_block (loop0 hS (fun g E wr => ∃ k : Nat, k ≤ f.rows.length ∧ g = f.rows.length - k ∧ E = [(1, Vp M), (2, Vp N), (6, Vp K), (11, Vs R f.rows.length cR), (12, Vs S f.place.length cS), (13, Vp b3), (14, Vi k)] ∧ RowKit.Below w7.heap.size w7 wr ∧ CopyI b3 wr b3 L 0 ((f.rows.take k).map (renumM f.place sn L.toNat)) ((foundFin f sf).take k))
      f.rows.length ⟨0, Nat.zero_le _, rfl, rfl, hb8, by simpa using hC8⟩ ?_)
    clear hb8 hC8 hS
    rintro g E wr a1 ⟨k, hk, rfl, rfl, hb, hCr⟩ hS
    refine wp_seq (wp_seq (seq_cut [(1, Vp M), (2, Vp N), (6, Vp K), (11, Vs R f.rows.length cR), (12, Vs S f.place.length cS), (13, Vp b3), (14, Vi k), (139, .bool (decide ((k : Int) < f.rows.length)))] (· = wr) tab_ok hS ?_ (fun a w10 hS hw => ?_)))
    · repeat first|refine zP rfl ?_|refine zK rfl ?_
      refine zC rfl (rfl) ?_
      exact o_nil ⟨⟨rfl, rfl, rfl, rfl, rfl, rfl, rfl, rfl, trivial⟩, rfl⟩
    subst hw
    refine cond hS rfl (fun hT => ?_) (fun hF => ?_)
    case refine_2 =>
      refine wp_exit ?_
      repeat (first | refine then_exit ?_ | refine block_exit ?_ | refine block_other rfl ?_)
      obtain rfl : k = f.rows.length := by have := of_decide_eq_false hF; omega
      rw [List.take_length, List.take_of_length_le (by simp [foundFin])] at hCr
      exact ⟨hS.sub ⟨rfl, rfl, trivial⟩, hb, hCr⟩
    have hlt : k < f.rows.length := by have := of_decide_eq_true hT; omega
    obtain ⟨r, hr, hrv⟩ := hrr k hlt
    obtain ⟨Ln, hLn⟩ : ∃ Ln : Nat, L = (Ln : Int) := ⟨L.toNat, by omega⟩
    have hLb := hm.L.2
    refine wp_skip ?_
    refine wp_seq (wp_block ?_)
    obtain ⟨G, hG⟩ : ∃ G, G = w10.heap.size := ⟨_, rfl⟩
    refine wp_seq (seq_cut [(1, Vp M), (2, Vp N), (6, Vp K), (11, Vs R f.rows.length cR), (12, Vs S f.place.length cS), (13, Vp b3), (14, Vi k), (15, Vs G L.toNat L.toNat)] (· = w10.alloc (.cells (madeCells #[Vi 0] L.toNat) 3)) tab_ok hS ?_ (fun a w11 hS hw => ?_))
    · subst hG
      repeat first|refine zP rfl ?_|refine zK rfl ?_
      refine zL rfl ((hx.keep (below_trans hK7 hb)).c0) ?_
      rw [hLn, Int.toNat_natCast]
      refine zM (Ln) rfl rfl rfl rfl rfl ((by show 8 * _ ≤ _; omega)) ((by omega)) ?_
      repeat first|refine zP rfl ?_|refine zK rfl ?_
      exact o_nil ⟨⟨rfl, rfl, rfl, rfl, rfl, rfl, rfl, rfl, trivial⟩, rfl⟩
    have hown := own_makeG w10 w10.heap.size 3 L.toNat (Vi 0) (Nat.le_refl _) (by omega)
    have hb11 := below_alloc w10 (.cells (madeCells #[Vi 0] L.toNat) 3)
    rw [← hw, ← hG] at hown
    rw [← hw] at hb11
    have hown : w11.ownsRow G 3 1 (Vs G L.toNat L.toNat) L.toNat (ints (List.replicate L.toNat 0)) := by simpa using hown
    clear hw
    refine wp_seq (cut (F := fun a' w' => St Try.f41.ntmps a' [(1, Vp M), (2, Vp N), (6, Vp K), (11, Vs R f.rows.length cR), (12, Vs S f.place.length cS), (13, Vp b3), (14, Vi k), (15, Vs G L.toNat L.toNat)] ∧ RowKit.Below w10.heap.size w10 w' ∧
        w'.ownsRow G 3 1 (Vs G L.toNat L.toNat) L.toNat (ints (renumM f.place sn L.toNat f.rows[k]))) ?_ ?_)
    · have hrow := hShp.rows r hr
      have hrl : sn[r].length = L.toNat := by have := hrow.1; omega
      refine wp_seq (seq_cut [(1, Vp M), (2, Vp N), (6, Vp K), (11, Vs R f.rows.length cR), (12, Vs S f.place.length cS), (13, Vp b3), (14, Vi k), (15, Vs G L.toNat L.toNat), (16, Vi 0)] (· = w11) tab_ok hS ?_ (fun a w12 hS hw => ?_))
      · repeat first|refine zP rfl ?_|refine zK rfl ?_
        exact o_nil ⟨⟨rfl, rfl, rfl, rfl, rfl, rfl, rfl, rfl, rfl, trivial⟩, rfl⟩
      subst hw
      refine wp_block (loop0 hS (fun g E wr => ∃ (j : Nat) (row : List Int), j ≤ L.toNat ∧ g = L.toNat - j ∧ E = [(1, Vp M), (2, Vp N), (6, Vp K), (11, Vs R f.rows.length cR), (12, Vs S f.place.length cS), (13, Vp b3), (14, Vi k), (15, Vs G L.toNat L.toNat), (16, Vi j)] ∧
          RowKit.Below w10.heap.size w10 wr ∧ wr.ownsRow G 3 1 (Vs G L.toNat L.toNat) L.toNat (ints row) ∧ row.length = L.toNat ∧ ∀ c, c < j → row.getD c 0 = plcM f.place (tgtM sn r c))
        L.toNat ⟨0, _, Nat.zero_le _, rfl, rfl, hb11, hown, by simp, fun c hc => by omega⟩ ?_)
      clear hb11 hown hS
      rintro g E wr a1 ⟨j, row, hj', rfl, rfl, hb12, hown, hlen, hrow'⟩ hS
      have hKr := below_trans hb hb12
      refine wp_seq (wp_seq (seq_cut [(1, Vp M), (2, Vp N), (6, Vp K), (11, Vs R f.rows.length cR), (12, Vs S f.place.length cS), (13, Vp b3), (14, Vi k), (15, Vs G L.toNat L.toNat), (16, Vi j), (148, .bool (decide ((j : Int) < L)))] (· = wr) tab_ok hS ?_ (fun a w13 hS hw => ?_)))
      · repeat first|refine zP rfl ?_|refine zK rfl ?_
        refine zL rfl ((hx.keep (below_trans hK7 hKr)).c0) ?_
        refine zC rfl (rfl) ?_
        exact o_nil ⟨⟨rfl, rfl, rfl, rfl, rfl, rfl, rfl, rfl, rfl, rfl, trivial⟩, rfl⟩
      subst hw
      refine cond hS rfl (fun hT => ?_) (fun hF => ?_)
      case refine_2 =>
        refine wp_exit ?_
        repeat (first | refine then_exit ?_ | refine block_exit ?_ | refine block_other rfl ?_)
        obtain rfl : j = L.toNat := by have := of_decide_eq_false hF; omega
        have he : row = renumM f.place sn L.toNat f.rows[k] := by
          rw [hrv]
          refine List.ext_getElem (by rw [hlen, renumM_len]) fun c h1 h2 => ?_
          rw [renumM_get]
          have := hrow' c (by omega)
          rw [getD_lt h1] at this
          exact this
        rw [he] at hown
        exact ⟨hS.sub ⟨rfl, rfl, rfl, rfl, rfl, rfl, rfl, rfl, trivial⟩, hb12, hown⟩
      have hjL : j < L.toNat := by have := of_decide_eq_true hT; omega
      have hjr : j < sn[r].length := by omega
      obtain ⟨t, ht⟩ : ∃ t, sn[r][j] = t := ⟨_, rfl⟩
      have htr := hrow.2 j hjr
      rw [ht] at htr
      have htg : tgtM sn r j = t := by rw [tgt_get hr hjr, ht]
      refine wp_skip ?_
      refine wp_seq (wp_block ?_)
      refine wp_seq (seq_cut [(1, Vp M), (2, Vp N), (6, Vp K), (11, Vs R f.rows.length cR), (12, Vs S f.place.length cS), (13, Vp b3), (14, Vi k), (15, Vs G L.toNat L.toNat), (16, Vi j)] (· = w13.setCell ⟨G, 0 + j, none⟩ (Vi (-1))) tab_ok hS ?_ (fun a w14 hS hw => ?_))
      · repeat first|refine zP rfl ?_|refine zK rfl ?_
        refine zI rfl (rfl) (hjL) ?_
        refine zS rfl rfl (own_cell hown (j := j) (by omega) hlen.symm) (own_frozen hown j) ?_
        exact o_nil ⟨⟨rfl, rfl, rfl, rfl, rfl, rfl, rfl, rfl, rfl, trivial⟩, rfl⟩
      rw [Nat.zero_add] at hw
      have hown13 := own_stored hown j (-1)
      have hb13 := below_of_grown hb12 (hown.stored j (Vi (-1))).2 (fun q hq => by cases hq; omega)
      rw [← hw] at hown13 hb13
      clear hw hown hb12 hKr
      have hlen13 : (row.set j (-1)).length = L.toNat := by simp [hlen]
      have hrow13 : ∀ c, c < j → (row.set j (-1)).getD c 0 = plcM f.place (tgtM sn r c) := fun c hc => by
        rw [← hrow' c hc]
        simp [List.getD_eq_getElem?_getD, List.getElem?_set_ne (show j ≠ c by omega)]
      have hat13 : (row.set j (-1)).getD j 0 = -1 := by simp [List.getD_eq_getElem?_getD, hlen, hjL]
      generalize row.set j (-1) = r2 at *
      have hKr := below_trans hb hb13
      refine wp_seq (quiet_cut [(1, Vp M), (2, Vp N), (6, Vp K), (11, Vs R f.rows.length cR), (12, Vs S f.place.length cS), (13, Vp b3), (14, Vi k), (15, Vs G L.toNat L.toNat), (16, Vi j), (17, Vi t)] tab_ok mixed (by kernel_rfl) hS ?_ (fun a w15 hS hw => ?_))
      · obtain ⟨bn, on, cn, hvn, ar, cr, hc1, hc2⟩ := (hMa7.keep hKr).cell hr
        obtain ⟨br, orr, rfl, hc3⟩ := hc2 j hjr
        rw [ht] at hc3
        have hrc := (hslR.keep hKr (fun _ _ h => h))
        obtain ⟨_, _, _, _, hv, r1, r2', r3, r4⟩ := hrc
        obtain ⟨u, hu, rfl, -⟩ := r4 k hlt
        cases r1 hfr0
        cases hv
        rw [hrv] at hu
        cases hvn
        repeat first|refine qP rfl ?_|refine qK rfl ?_
        refine qL rfl ((hk7.keep hKr hk7.lt).cell (i := 2) rfl) ?_
        repeat first|refine qP rfl ?_|refine qK rfl ?_
        refine qI rfl (rfl) (hlt) ?_
        refine qL rfl (hu) ?_
        refine qI rfl (rfl) (hr) ?_
        refine qL rfl (hc1) ?_
        repeat first|refine qP rfl ?_|refine qK rfl ?_
        refine qI rfl (rfl) (hjr) ?_
        refine qL rfl (hc3) ?_
        repeat first|refine qP rfl ?_|refine qK rfl ?_
        exact q_nil ⟨rfl, rfl, rfl, rfl, rfl, rfl, rfl, rfl, rfl, rfl, trivial⟩
      have hb15 := below_trans hb13 hw
      have hown15 := hown13.kept (grown_below hw) (none_or _)
      clear hw hown13 hb13 hKr
      have hKr := below_trans hb hb15
      refine wp_seq (seq_cut [(1, Vp M), (2, Vp N), (6, Vp K), (11, Vs R f.rows.length cR), (12, Vs S f.place.length cS), (13, Vp b3), (14, Vi k), (15, Vs G L.toNat L.toNat), (16, Vi j), (17, Vi t), (166, .bool (decide (0 ≤ t)))] (· = w15) tab_ok hS ?_ (fun a w16 hS hw => ?_))
      · repeat first|refine zP rfl ?_|refine zK rfl ?_
        refine zC rfl (rfl) ?_
        exact o_nil ⟨⟨rfl, rfl, rfl, rfl, rfl, rfl, rfl, rfl, rfl, rfl, rfl, trivial⟩, rfl⟩
      subst hw
      refine cut (F := fun a' w' => ∃ row : List Int, St Try.f41.ntmps a' [(1, Vp M), (2, Vp N), (6, Vp K), (11, Vs R f.rows.length cR), (12, Vs S f.place.length cS), (13, Vp b3), (14, Vi k), (15, Vs G L.toNat L.toNat), (16, Vi j)] ∧
          RowKit.Below w10.heap.size w10 w' ∧ w'.ownsRow G 3 1 (Vs G L.toNat L.toNat) L.toNat (ints row) ∧ row.length = L.toNat ∧ ∀ c, c < j + 1 → row.getD c 0 = plcM f.place (tgtM sn r c)) ?_ ?_
      · refine cond hS rfl (fun hT => ?_) (fun hF => ?_)
        · obtain ⟨tn, rfl⟩ := Int.eq_ofNat_of_zero_le (of_decide_eq_true hT)
          have htc : tn < f.place.length := by omega
          have hcS : w16.cell? ⟨S, 0 + tn, none⟩ = some (Vi f.place[tn]) := Ythcoppfiahnpoaa.keep hKr (own_cell hT'.b htc rfl)
          refine seq_cut [(1, Vp M), (2, Vp N), (6, Vp K), (11, Vs R f.rows.length cR), (12, Vs S f.place.length cS), (13, Vp b3), (14, Vi k), (15, Vs G L.toNat L.toNat), (16, Vi j)] (· = w16.setCell ⟨G, 0 + j, none⟩ (Vi f.place[tn])) tab_ok hS ?_ (fun a w17 hS hw => ?_)
          · repeat first|refine zP rfl ?_|refine zK rfl ?_
            refine zI rfl (rfl) (htc) ?_
            refine zL rfl (hcS) ?_
            refine zI rfl (rfl) (hjL) ?_
            refine zS rfl rfl (own_cell hown15 (j := j) (by omega) hlen13.symm) (own_frozen hown15 j) ?_
            exact o_nil ⟨⟨rfl, rfl, rfl, rfl, rfl, rfl, rfl, rfl, rfl, trivial⟩, rfl⟩
          rw [Nat.zero_add] at hw
          have hown17 := own_stored hown15 j f.place[tn]
          have hb17 := below_of_grown hb15 (hown15.stored j (Vi f.place[tn])).2 (fun q hq => by cases hq; omega)
          rw [← hw] at hown17 hb17
          refine ⟨_, hS, hb17, hown17, by simp [hlen13], fun c hc => ?_⟩
          by_cases hck : c = j
          · subst hck
            rw [htg, plcM_nat htc]
            simp [List.getD_eq_getElem?_getD, hlen13, hjL]
          · rw [← hrow13 c (by omega)]
            simp [List.getD_eq_getElem?_getD, List.getElem?_set_ne (fun e => hck e.symm)]
        · refine wp_skip ⟨r2, hS.sub ⟨rfl, rfl, rfl, rfl, rfl, rfl, rfl, rfl, rfl, trivial⟩, hb15, hown15, hlen13, fun c hc => ?_⟩
          by_cases hck : c = j
          · subst hck
            rw [hat13, htg, plcM_neg (by have := of_decide_eq_false hF; omega)]
          · exact hrow13 c (by omega)
      rintro a w17 ⟨row'', hS, hb17, hown17, hlen17, hrow17⟩
      refine block_normal ?_
      refine then_normal ?_
      refine seq_cut [(1, Vp M), (2, Vp N), (6, Vp K), (11, Vs R f.rows.length cR), (12, Vs S f.place.length cS), (13, Vp b3), (14, Vi k), (15, Vs G L.toNat L.toNat), (16, Vi (j + 1 : Nat))] (· = w17) tab_ok hS ?_ (fun a w18 hS hw => ?_)
      · repeat first|refine zP rfl ?_|refine zK rfl ?_
        refine zN rfl (wrap_succ (by omega)) ?_
        repeat first|refine zP rfl ?_|refine zK rfl ?_
        exact o_nil ⟨⟨rfl, rfl, rfl, rfl, rfl, rfl, rfl, rfl, rfl, trivial⟩, rfl⟩
      subst hw
      exact ⟨L.toNat - (j + 1), _, by omega, ⟨j + 1, row'', hjL, rfl, rfl, hb17, hown17, hlen17, hrow17⟩, hS⟩
    rintro a w12 ⟨hS, hb12, hown12⟩
    have hGb : b3 ≤ G := by have := hb.size; omega
    have hC12 := hCr.below hb12
    have hown12 := own_mono hown12 hGb
    have hb' := below_trans hb hb12
    clear hb11 hown hb12 hCr hb hG
    obtain ⟨vn1, ve1, us, ho, hve, hvn, hlu, hus⟩ := hC12.mem
    have hkl : ((f.rows.take k).map (renumM f.place sn L.toNat)).length = k := by simp; omega
    have hrenI : ∀ x ∈ renumM f.place sn L.toNat f.rows[k], I64 x := fun x hx => by
      obtain ⟨c, hc, rfl⟩ := List.mem_iff_getElem.1 hx
      rw [renumM_get hc]
      rcases Int.lt_or_le (tgtM sn f.rows[k] c) 0 with h | h
      · rw [plcM_neg h]; exact ⟨by decide, by decide⟩
      · obtain ⟨t, ht⟩ := Int.eq_ofNat_of_zero_le h
        have hc' : c < L.toNat := by rw [renumM_len] at hc; exact hc
        have htr := tgt_range hShp f.rows[k] (by omega) (by omega) c hc'
        rw [ht] at htr
        have htl : t < f.place.length := by omega
        have := hpl t htl
        rw [getD_lt htl] at this
        rw [ht, plcM_nat htl]
        exact ⟨by omega, by omega⟩
    refine wp_seq (seq_cut [(1, Vp M), (2, Vp N), (6, Vp K), (11, Vs R f.rows.length cR), (12, Vs S f.place.length cS), (13, Vp b3), (14, Vi k)] (fun w' => RowKit.Below w7.heap.size w7 w' ∧ CopyI b3 w' b3 L 0 ((f.rows.take k).map (renumM f.place sn L.toNat) ++ [renumM f.place sn L.toNat f.rows[k]]) ((foundFin f sf).take k)) tab_ok hS ?_ (fun a w13 hS hw => ?_))
    · obtain ⟨gn, nn, cn, hv⟩ := own_form hvn
      subst hv
      repeat first|refine zP rfl ?_|refine zK rfl ?_
      refine zL rfl (ho.cell (i := 2) rfl) ?_
      repeat first|refine zP rfl ?_|refine zK rfl ?_
      refine o_step rfl rfl rfl ?_
      refine Exists.intro [(0, Vs G L.toNat L.toNat)] (Exists.intro #[Vs G L.toNat L.toNat] (And.intro (And.intro rfl rfl) (And.intro (by decide) (And.intro (fill1 _ _ _ _) ?_))))
      have hy1 := below_alloc w12 (.cells #[Vs G L.toNat L.toNat] 26)
      have ask : AppAsk (w12.alloc (.cells #[Vs G L.toNat L.toNat] 26)) ⟨26, .slice 3, 1, 24, .slice none 0 0⟩ (.slice gn nn cn) ((f.rows.take k).map (renumM f.place sn L.toNat)).length us (Vs w12.heap.size 1 1) 1 [Vs G L.toNat L.toNat] b3 :=
        ⟨hvn.alloc _, .inr ⟨_, 0, _, rfl, cell_alloc_new rfl, trivial⟩, rfl, (by simp [Value.oneCell']), (by rw [hkl]; omega), (by rw [hkl]; show (k + 1) * 24 ≤ _; omega), by have := hy1.size; have := ho.lt; omega⟩
      refine o_step rfl rfl rfl ?_
      refine Exists.intro _ (Exists.intro _ (Exists.intro _ (Exists.intro _ (Exists.intro _ (And.intro (ask) (And.intro (fun _ h => h.symm) (And.intro (by decide) ?_)))))))
      rintro v' w4 hown4 hgr - -
      obtain ⟨g4, n4, c4, hv4⟩ := own_form hown4
      subst hv4
      have hown12' : w12.ownsRow b3 3 1 (Vs G L.toNat L.toNat) (renumM f.place sn L.toNat f.rows[k]).length ((renumM f.place sn L.toNat f.rows[k]).map (Value.int .i64)) := by rw [renumM_len]; exact hown12
      obtain ⟨ho4, hC4⟩ := CopyI.add_row hC12.b ho hve hvn hlu hus hown12' hrenI hgr hown4
      repeat first|refine zP rfl ?_|refine zK rfl ?_
      refine zS rfl rfl (ho4.cell (i := 2) rfl) (ho4.free 2) ?_
      refine o_nil ⟨⟨rfl, rfl, rfl, rfl, rfl, rfl, rfl, trivial⟩, ?_, hC4⟩
      have e1 := below_of_grown (below_trans hb' hy1) hgr (fun q hq => by have := (hvn.lt q hq).1; omega)
      exact below_of_grown e1 (grown_set _ b3 2 _) (fun q hq => by cases hq; exact hb3')
    obtain ⟨hb13, hC13⟩ := hw
    have hfl : ((foundFin f sf).take k).length ≤ 100000000 := by simp [foundFin]; omega
    clear hC12 hown12 hb' ho hve hvn hus hlu
    have hqc : ∀ j (h : j < sf.length), w13.cell? ⟨Q, 0 + j, none⟩ = some (.bool sf[j]) := fun j h => by
      obtain ⟨b, o, ce, hv, hc⟩ := (hMa7.keep hb13).end h
      cases hv
      exact hc
    refine shrunk_r38 (k := k) (r := r) hb13 hb3 (hk7.keep hb13 hk7.lt) (.inr hqc) (hslR.keep hb13 (fun _ _ h => h)) rfl hlt hrv (by omega) hI6.lf hC13 hb3' hfl (by rfl) hS (fun a w14 hS h14 => ?_)
    refine block_normal ?_
    refine then_normal ?_
    refine seq_cut [(1, Vp M), (2, Vp N), (6, Vp K), (11, Vs R f.rows.length cR), (12, Vs S f.place.length cS), (13, Vp b3), (14, Vi (k + 1 : Nat))] (· = w14) tab_ok hS ?_ (fun a w15 hS hw => ?_)
    · repeat first|refine zP rfl ?_|refine zK rfl ?_
      refine zN rfl (wrap_succ (by omega)) ?_
      repeat first|refine zP rfl ?_|refine zK rfl ?_
      exact o_nil ⟨⟨rfl, rfl, rfl, rfl, rfl, rfl, rfl, trivial⟩, rfl⟩
    subst hw
    refine ⟨f.rows.length - (k + 1), _, by omega, ⟨k + 1, hlt, rfl, rfl, h14.1, ?_⟩, hS⟩
    have e1 : (f.rows.take (k + 1)).map (renumM f.place sn L.toNat) = (f.rows.take k).map (renumM f.place sn L.toNat) ++ [renumM f.place sn L.toNat f.rows[k]] := by
      rw [List.take_succ_eq_append_getElem hlt, List.map_append]; rfl
    have e2 : (foundFin f sf).take (k + 1) = (foundFin f sf).take k ++ [sf.getD r false] := by
      rw [List.take_succ_eq_append_getElem (by simpa [foundFin] using hlt)]
      simp [foundFin, hrv]
    rw [e1, e2]
    exact h14.2
  rintro a w9 ⟨hS, hb9, hC9⟩
  obtain ⟨vn', ve', us, ho, hve, hvn, hlu, hus⟩ := hC9.mem
  have hBw := below_trans hB (below_trans hK7 hb9)
  have hoN' : OwnB w9 N 25 [Vi 0, Vi 0, .slice none 0 0, .slice none 0 0] := hoN.keep (below_trans hK7 hb9) hNc
  refine wp_seq (seq_cut [(2, Vp N)] (· = w9.setCells N 0 [Vi L, Vi 0, vn', ve']) tab_ok hS ?_ (fun a w10 hS hw => ?_))
  · refine zA ([Vi L, Vi 0, vn', ve']) rfl rfl (⟨ho.cell (i := 0) rfl, ho.cell (i := 1) rfl, ho.cell (i := 2) rfl, ho.cell (i := 3) rfl, trivial⟩) ?_
    refine o_step0 rfl rfl (And.intro rfl (And.intro ?_ (And.intro (own_cells4 hoN') ?_)))
    · obtain ⟨_, _, _, rfl⟩ := own_form hve
      obtain ⟨_, _, _, rfl⟩ := own_form hvn
      rfl
    exact o_nil ⟨⟨rfl, trivial⟩, rfl⟩
  have hg := grown_sets N [Vi L, Vi 0, vn', ve'] 0 w9
  have hnb : ∀ {e q : Nat} {v : Value} {xs : List Value}, w9.ownsRow b3 e 1 v q xs → e ≠ 25 → v.ownBlock = none ∨ v.ownBlock ≠ some N := fun h he => .inr (fun hh => own_neB h hoN' he hh.symm)
  have hbase : w.heap.size ≤ b3 := by have := (below_trans hB hK7).size; omega
  have hoF : OwnB w10 N 25 [Vi L, Vi 0, vn', ve'] := by rw [hw]; exact hoN'.sets rfl
  have hg : w9.grownBy w10 (some N) := by rw [hw]; exact hg
  have hm10 : OwnM w.heap.size w10 (f.rows.map (renumM f.place sn L.toNat)) (foundFin f sf) vn' ve' :=
    ⟨own_mono (hve.kept hg (hnb hve (by decide))) hbase, us, hlu, own_mono (hvn.kept hg (hnb hvn (by decide))) hbase, fun i hi => by
      obtain ⟨u, h1, h2, h3⟩ := hus i hi
      exact ⟨u, h1, own_mono (h2.kept hg (hnb h2 (by decide))) hbase, h3⟩⟩
  refine wp_ret ?_
  repeat (first | refine then_ret ?_ | refine block_ret ?_)
  refine retc1 tab_ok hS rfl rfl rfl rfl (o := 0) (vs := [Vi L, Vi 0, vn', ve']) ⟨hoF.cell (i := 0) rfl, hoF.cell (i := 1) rfl, hoF.cell (i := 2) rfl, hoF.cell (i := 3) rfl, trivial⟩ rfl ⟨0, vn', ve', _, _, rfl, hm10, ?_, hcn, ?_, ?_⟩
  · exact below_of_grown hBw hg (fun q hq => by cases hq; exact hNw)
  · exact hal2.trans hal
  · simp; omega
end Go.Proofs.Ythcoppfiahnpoaa
namespace Go.Proofs.Ythcoppfiahnpoaa
open Go Sym
theorem en_sameWord : enters Try.prog 27 = true := by kernel_rfl
theorem sl_int {w : World} {v : Value} {l : List Int} (h : Sl w v l PInt) {i : Nat} (hi : i < l.length) : ∃ b o cn, v = .slice (some ⟨b, o, none⟩) l.length cn ∧ w.cell? ⟨b, o + i, none⟩ = some (Vi l[i]) := by
  obtain ⟨an, bn, on, cn, rfl, m1, m2, m3, m4⟩ := h
  obtain rfl := m1 (by omega)
  obtain ⟨u, hu, rfl, -⟩ := m4 i hi
  exact ⟨bn, on, cn, rfl, hu⟩
theorem sameWord_any (v1 v2 : Value) (l1 l2 : List Int) (w : World) (h1 : Sl w v1 l1 PInt) (h2 : Sl w v2 l2 PInt) :
    Calls Try.prog 27 #[v1, v2] w fun e w' => e = .returned (.bool (decide (l1 = l2))) ∧ RowKit.Below w.heap.size w w' := by
  refine Sym.enter (args := [v1, v2]) Try.func27 rfl rfl rfl (fun a0 hS0 => ?_)
  obtain ⟨g1, b1, o1, c1, rfl, a1, k1, k2, -⟩ := id h1
  obtain ⟨g2, b2, o2, c2, rfl, a2, k3, k4, -⟩ := id h2
  refine wp_seq (seq_cut [(0, .slice g1 l1.length c1), (1, .slice g2 l2.length c2)] (· = w) tab_ok hS0 ?_ (fun a wc hS hw => ?_))
  · repeat first|refine zP rfl ?_|refine zK rfl ?_
    exact o_nil ⟨⟨rfl, rfl, trivial⟩, rfl⟩
  subst hw
  refine wp_seq (wp_seq (seq_cut [(0, .slice g1 l1.length c1), (1, .slice g2 l2.length c2), (10, .bool (decide ((l1.length : Int) ≠ l2.length)))] (· = wc) tab_ok hS ?_ (fun a w1 hS hw => ?_)))
  · repeat first|refine zP rfl ?_|refine zK rfl ?_
    refine zC rfl (rfl) ?_
    exact o_nil ⟨⟨rfl, rfl, rfl, trivial⟩, rfl⟩
  subst hw
  refine cond hS rfl (fun hT => ?_) (fun hF => ?_)
  · refine wp_seq (seq_cut [(4, .bool false)] (· = w1) tab_ok hS ?_ (fun a w2 hS hw => ?_))
    · repeat first|refine zP rfl ?_|refine zK rfl ?_
      exact o_nil ⟨⟨rfl, trivial⟩, rfl⟩
    subst hw
    have hne : ¬ l1 = l2 := fun e => by have := of_decide_eq_true hT; rw [e] at this; exact this rfl
    refine wp_ret ?_
    repeat (first | refine then_ret ?_ | refine block_ret ?_)
    exact ret1 hS rfl rfl ⟨by rw [decide_eq_false hne], RowKit.Below.refl _ _⟩
  have hle : l1.length = l2.length := by have := of_decide_eq_false hF; omega
  refine wp_skip ?_
  refine wp_seq (wp_seq (seq_cut [(0, .slice g1 l1.length c1), (1, .slice g2 l2.length c2), (5, Vi 0)] (· = w1) tab_ok hS ?_ (fun a w2 hS hw => ?_)))
  · repeat first|refine zP rfl ?_|refine zK rfl ?_
    exact o_nil ⟨⟨rfl, rfl, rfl, trivial⟩, rfl⟩
  subst hw
  refine wp_block (loop0 hS (fun g E wr => ∃ i : Nat, i ≤ l1.length ∧ g = l1.length - i ∧ E = [(0, .slice g1 l1.length c1), (1, .slice g2 l2.length c2), (5, Vi i)] ∧ RowKit.Below w2.heap.size w2 wr ∧ ∀ j (h1 : j < l1.length) (h2 : j < l2.length), j < i → l1[j] = l2[j])
    l1.length ⟨0, Nat.zero_le _, rfl, rfl, RowKit.Below.refl _ _, fun j _ _ hj => by omega⟩ ?_)
  rintro g E wr aa ⟨i, hi, rfl, rfl, hK, hsame⟩ hS
  refine wp_seq (wp_seq (seq_cut [(0, .slice g1 l1.length c1), (1, .slice g2 l2.length c2), (5, Vi i), (14, .bool (decide ((i : Int) < l1.length)))] (· = wr) tab_ok hS ?_ (fun a w5 hS hw => ?_)))
  · repeat first|refine zP rfl ?_|refine zK rfl ?_
    refine zC rfl (rfl) ?_
    exact o_nil ⟨⟨rfl, rfl, rfl, rfl, trivial⟩, rfl⟩
  subst hw
  refine cond hS rfl (fun hT => ?_) (fun hF => ?_)
  case refine_2 =>
    refine wp_exit ?_
    repeat (first | refine then_exit ?_ | refine block_exit ?_ | refine block_other rfl ?_)
    refine wp_seq (seq_cut [(4, .bool true)] (· = w5) tab_ok hS ?_ (fun a w6 hS hw => ?_))
    · repeat first|refine zP rfl ?_|refine zK rfl ?_
      exact o_nil ⟨⟨rfl, trivial⟩, rfl⟩
    subst hw
    have he : l1 = l2 := List.ext_getElem hle fun j j1 j2 => hsame j j1 j2 (by have := of_decide_eq_false hF; omega)
    refine wp_ret ?_
    repeat (first | refine then_ret ?_ | refine block_ret ?_)
    exact ret1 hS rfl rfl ⟨by rw [decide_eq_true he], hK⟩
  have hlt : i < l1.length := by have := of_decide_eq_true hT; omega
  have hlt2 : i < l2.length := by omega
  obtain ⟨p1, q1, r1, e1, u1⟩ := sl_int (h1.keep hK (fun _ _ h => h)) hlt
  obtain ⟨p2, q2, r2, e2, u2⟩ := sl_int (h2.keep hK (fun _ _ h => h)) hlt2
  simp only [Value.slice.injEq] at e1 e2
  obtain ⟨rfl, -, rfl⟩ := e1
  obtain ⟨rfl, -, rfl⟩ := e2
  refine wp_skip ?_
  refine wp_seq (wp_block ?_)
  refine wp_seq (quiet_cut [(0, .slice (some ⟨p1, q1, none⟩) l1.length c1), (1, .slice (some ⟨p2, q2, none⟩) l2.length c2), (5, Vi i), (25, .bool (decide (l1[i] ≠ l2[i])))] tab_ok mixed (by kernel_rfl) hS ?_ (fun a w6 hS hw => ?_))
  · repeat first|refine qP rfl ?_|refine qK rfl ?_
    refine qI rfl (rfl) (hlt) ?_
    refine qL rfl (u1) ?_
    repeat first|refine qP rfl ?_|refine qK rfl ?_
    refine qI rfl (rfl) (hlt2) ?_
    refine qL rfl (u2) ?_
    refine qC rfl (rfl) ?_
    exact q_nil ⟨rfl, rfl, rfl, rfl, trivial⟩
  refine cond hS rfl (fun hT => ?_) (fun hF => ?_)
  · refine wp_seq (seq_cut [(4, .bool false)] (· = w6) tab_ok hS ?_ (fun a w7 hS hw7 => ?_))
    · repeat first|refine zP rfl ?_|refine zK rfl ?_
      exact o_nil ⟨⟨rfl, trivial⟩, rfl⟩
    subst hw7
    have hne : ¬ l1 = l2 := fun e => (of_decide_eq_true hT) (by simp only [e])
    refine wp_ret ?_
    repeat (first | refine then_ret ?_ | refine block_ret ?_)
    exact ret1 hS rfl rfl ⟨by rw [decide_eq_false hne], below_trans hK hw⟩
  refine wp_skip ?_
  refine block_normal ?_
  refine then_normal ?_
  refine seq_cut [(0, .slice (some ⟨p1, q1, none⟩) l1.length c1), (1, .slice (some ⟨p2, q2, none⟩) l2.length c2), (5, Vi (i + 1 : Nat))] (· = w6) tab_ok hS ?_ (fun a w7 hS hw7 => ?_)
  · repeat first|refine zP rfl ?_|refine zK rfl ?_
    refine zN rfl (wrap_succ (by omega)) ?_
    repeat first|refine zP rfl ?_|refine zK rfl ?_
    exact o_nil ⟨⟨rfl, rfl, rfl, trivial⟩, rfl⟩
  subst hw7
  refine ⟨l1.length - (i + 1), _, by omega, ⟨i + 1, hlt, rfl, rfl, below_trans hK hw, fun j j1 j2 hj => ?_⟩, hS⟩
  rcases Nat.lt_or_ge j i with h | h
  · exact hsame j j1 j2 h
  · obtain rfl : j = i := by omega
    exact Decidable.not_not.1 (of_decide_eq_false hF)
end Go.Proofs.Ythcoppfiahnpoaa
namespace Go.Proofs.Ythcoppfiahnpoaa
open Go Sym
end Go.Proofs.Ythcoppfiahnpoaa
namespace Go.Proofs.Ythcoppfiahnpoaa
open Go Sym
theorem en_Shrunk : enters Try.prog 41 = true := by kernel_rfl
end Go.Proofs.Ythcoppfiahnpoaa
namespace Go.Proofs.Ythcoppfiahnpoaa
open Go Sym
end Go.Proofs.Ythcoppfiahnpoaa
namespace Go.Proofs.Ythcoppfiahnpoaa
open Go Sym
theorem OwnM.kept {base : Nat} {w w' : World} {next : List (List Int)} {fin : List Bool} {vn ve : Value} (h : OwnM base w next fin vn ve) (hg : w.grownBy w' none) : OwnM base w' next fin vn ve := by
  obtain ⟨us, h1, h2, h3⟩ := h.n
  exact ⟨h.e.kept hg (none_or _), us, h1, h2.kept hg (none_or _), fun i hi => by
    obtain ⟨u, k1, k2, k3⟩ := h3 i hi
    exact ⟨u, k1, k2.kept hg (none_or _), k3⟩⟩
theorem OwnM.mono {base base' : Nat} {w : World} {next : List (List Int)} {fin : List Bool} {vn ve : Value} (h : OwnM base w next fin vn ve) (hb : base' ≤ base) : OwnM base' w next fin vn ve := by
  obtain ⟨us, h1, h2, h3⟩ := h.n
  exact ⟨own_mono h.e hb, us, h1, own_mono h2 hb, fun i hi => by
    obtain ⟨u, k1, k2, k3⟩ := h3 i hi
    exact ⟨u, k1, own_mono k2 hb, k3⟩⟩
theorem OwnM.sets {base : Nat} {w : World} {next : List (List Int)} {fin : List Bool} {vn ve : Value} (h : OwnM base w next fin vn ve) {X : Nat} {vs : List Value} (hX : OwnB w X 25 vs) (us' : List Value) : OwnM base (w.setCells X 0 us') next fin vn ve := by
  have hg := grown_sets X us' 0 w
  have hnb : ∀ {e q : Nat} {v : Value} {xs : List Value}, w.ownsRow base e 1 v q xs → e ≠ 25 → v.ownBlock = none ∨ v.ownBlock ≠ some X := fun h he => .inr (fun hh => own_neB h hX he hh.symm)
  obtain ⟨us, h1, h2, h3⟩ := h.n
  exact ⟨h.e.kept hg (hnb h.e (by decide)), us, h1, h2.kept hg (hnb h2 (by decide)), fun i hi => by
    obtain ⟨u, k1, k2, k3⟩ := h3 i hi
    exact ⟨u, k1, k2.kept hg (hnb k2 (by decide)), k3⟩⟩
theorem OwnM.forms {base : Nat} {w : World} {next : List (List Int)} {fin : List Bool} {vn ve : Value} (h : OwnM base w next fin vn ve) : (∃ g m c, vn = .slice g m c) ∧ ∃ g m c, ve = .slice g m c := by
  obtain ⟨us, h1, h2, h3⟩ := h.n
  exact ⟨own_form h2, own_form h.e⟩
structure LeastV (base : Nat) (w : World) (X : Nat) (L s : Int) (next : List (List Int)) (fin : List Bool) (s' : Int) (vn' ve' : Value) (n' : List (List Int)) (f' : List Bool) : Prop where
  o : OwnB w X 25 [Vi L, Vi s', vn', ve']
  m : OwnM base w n' f' vn' ve'
  canon : Canon L s' n' f'
  alike : Alike L.toNat n' f' s' next fin s
  len : n'.length ≤ next.length
def DiffV (w0 w : World) (X Y : Nat) (L1 s1 : Int) (n1 : List (List Int)) (f1 : List Bool) (L2 s2 : Int) (n2 : List (List Int)) (f2 : List Bool) : Prop :=
  RowKit.Below w0.heap.size w0 w ∧ (∃ s' vn' ve' n' f', LeastV w0.heap.size w X L1 s1 n1 f1 s' vn' ve' n' f') ∧ ∃ s' vn' ve' n' f', LeastV w0.heap.size w Y L2 s2 n2 f2 s' vn' ve' n' f'
theorem diffV_fin {w0 w : World} {X Y : Nat} {L1 s1 : Int} {n1 : List (List Int)} {f1 : List Bool} {L2 s2 : Int} {n2 : List (List Int)} {f2 : List Bool} {sa sb : Int} {vna vea vnb veb : Value} {na nb : List (List Int)} {fa fb : List Bool} {zs : List Value}
    (hy : RowKit.Below w0.heap.size w0 w) (hX : OwnB w X 25 zs) (hY : OwnB w Y 25 zs) (hz : zs.length = 4) (hne : X ≠ Y) (hXle : w0.heap.size ≤ X) (hYle : w0.heap.size ≤ Y) (hA : OwnM w0.heap.size w na fa vna vea) (hB : OwnM w0.heap.size w nb fb vnb veb)
    (cA : Canon L1 sa na fa) (aA : Alike L1.toNat na fa sa n1 f1 s1) (lA : na.length ≤ n1.length) (cB : Canon L2 sb nb fb) (aB : Alike L2.toNat nb fb sb n2 f2 s2) (lB : nb.length ≤ n2.length) :
    RowKit.Below w0.heap.size w0 (w.setCells X 0 [Vi L1, Vi sa, vna, vea]) ∧ OwnB (w.setCells X 0 [Vi L1, Vi sa, vna, vea]) Y 25 zs ∧
    DiffV w0 ((w.setCells X 0 [Vi L1, Vi sa, vna, vea]).setCells Y 0 [Vi L2, Vi sb, vnb, veb]) X Y L1 s1 n1 f1 L2 s2 n2 f2 := by
  have g1 := grown_sets X [Vi L1, Vi sa, vna, vea] 0 w
  have b1 := below_of_grown hy g1 (fun k hk => by cases hk; exact hXle)
  have hY1 := hY.kept g1 (by simp only [ne_eq, Option.some.injEq]; omega)
  have hX1 : OwnB (w.setCells X 0 [Vi L1, Vi sa, vna, vea]) X 25 [Vi L1, Vi sa, vna, vea] := hX.sets (by rw [hz]; rfl)
  have g2 := grown_sets Y [Vi L2, Vi sb, vnb, veb] 0 (w.setCells X 0 [Vi L1, Vi sa, vna, vea])
  refine ⟨b1, hY1, below_of_grown b1 g2 (fun k hk => by cases hk; exact hYle), ⟨sa, vna, vea, na, fa, hX1.kept g2 (by simp only [ne_eq, Option.some.injEq]; omega), (hA.sets hX _).sets hY1 _, cA, aA, lA⟩, ⟨sb, vnb, veb, nb, fb, hY1.sets (by rw [hz]; rfl), (hB.sets hX _).sets hY1 _, cB, aB, lB⟩⟩
set_option maxHeartbeats 4000000 in
theorem differ_r4 {w : World} {M N : Nat} {L1 s1 L2 s2 : Int} {vn1 ve1 vn2 ve2 ve : Value} {n1 n2 : List (List Int)} {f1 f2 : List Bool} (hx : Box w M L1 s1 vn1 ve1) (hx2 : Box w N L2 s2 vn2 ve2) (hm1 : Ma w L1 s1 n1 f1 vn1 ve1) (hm2 : Ma w L2 s2 n2 f2 vn2 ve2) (hs1 : Shape L1 s1 n1 f1) (hs2 : Shape L2 s2 n2 f2)
    (hL1 : L1 ≤ 300) (hL2 : L2 ≤ 300) (hn1 : n1.length ≤ 4000) (hn2 : n2.length ≤ 4000)
    {Q : Exit → Act → World → Prop} {a : Act} {ops : Array Oper} {id : Nat} (hops : Sym.regionOf Try.f26.body 4 = some (id, ops))
    (hS : St Try.f26.ntmps a [(2, Vp M), (3, Vp N), (7, ve)])
    (hq : ∀ (x : Nat × Nat) (a' : Act) (w' : World), St Try.f26.ntmps a' [(8, Vp x.1), (9, Vp x.2)] → DiffV w w' x.1 x.2 L1 s1 n1 f1 L2 s2 n2 f2 → Q .normal a' w') : (Code.region id ops true).wp Try.prog Q a w := by
  cases hops
  refine any_cutx (α := Nat × Nat) 8 (fun x => [(8, Vp x.1), (9, Vp x.2)]) (fun x w' => DiffV w w' x.1 x.2 L1 s1 n1 f1 L2 s2 n2 f2) mixed hS ?_ hq
  have hy : RowKit.Below w.drew.heap.size w.drew w.drew := RowKit.Below.refl _ _
  refine yT 0 tab_ok rfl (by kernel_rfl) hy rfl (Exists.intro ([Vi L1, Vi s1, vn1, ve1]) (And.intro rfl (And.intro (hx.cells) rfl))) ?_
  refine yT 2 tab_ok rfl (by kernel_rfl) hy rfl (Exists.intro ([Vi L2, Vi s2, vn2, ve2]) (And.intro rfl (And.intro (hx2.cells) rfl))) ?_
  refine y_three 1 4 5 (by kernel_rfl) (y_op 1 tab_ok rfl rfl rfl rfl ?_) (y_op 4 tab_ok rfl rfl rfl rfl ?_) (y_op 5 tab_ok rfl rfl rfl rfl ?_)
  ·
    refine And.intro en_Shrunk ((shrunk_any L1 s1 vn1 ve1 n1 f1 _ (hm1.keep (undrew hy)) hs1 (by omega) (by omega)).mono ?_)
    rintro e wA2 ⟨sa, vna, vea, na, fa, rfl, hA0, hA1, cA, aA, lA⟩
    refine ⟨_, rfl, ?_⟩
    have hy1 := below_trans hy hA1
    refine And.intro (.inr hy1) ?_
    have hA : OwnM w.heap.size wA2 _ _ _ _ := hA0.mono hy.size
    obtain ⟨⟨ga1, ma1, ca1, hv1⟩, ga2, ma2, ca2, hv2⟩ := hA.forms
    subst hv1 hv2
    refine y_three 3 4 5 (by kernel_rfl) (y_op 3 tab_ok rfl rfl rfl rfl ?_) (y_op 4 tab_ok rfl rfl rfl rfl ?_) (y_op 5 tab_ok rfl rfl rfl rfl ?_)
    ·
      refine And.intro en_Shrunk ((shrunk_any L2 s2 vn2 ve2 n2 f2 _ (hm2.keep (undrew hy1)) hs2 (by omega) (by omega)).mono ?_)
      rintro e wB4 ⟨sb, vnb, veb, nb, fb, rfl, hB0, hB1, cB, aB, lB⟩
      refine ⟨_, rfl, ?_⟩
      have hy3 := below_trans hy1 hB1
      refine And.intro (.inr hy3) ?_
      have hB : OwnM w.heap.size wB4 _ _ _ _ := hB0.mono hy1.size
      obtain ⟨⟨gb1, mb1, cb1, hv1⟩, gb2, mb2, cb2, hv2⟩ := hB.forms
      subst hv1 hv2
      replace hA := hA.kept (grown_below hB1)
      refine y_two 4 5 (by kernel_rfl) (y_op 4 tab_ok rfl rfl rfl rfl ?_) (y_op 5 tab_ok rfl rfl rfl rfl ?_)
      ·
        have hy5 := hy3.alloc hy3.size (.cells #[Vi 0, Vi 0, .slice none 0 0, .slice none 0 0] 25)
        refine And.intro (.inr hy5) ?_
        have hX := OwnB.new (wB4) [Vi 0, Vi 0, .slice none 0 0, .slice none 0 0] 25
        have hXle : w.heap.size ≤ (wB4).heap.size := hy3.size
        replace hA := hA.kept (grown_alloc _ (.cells #[Vi 0, Vi 0, .slice none 0 0, .slice none 0 0] 25))
        replace hB := hB.kept (grown_alloc _ (.cells #[Vi 0, Vi 0, .slice none 0 0, .slice none 0 0] 25))
        refine y_one 5 (by kernel_rfl) (y_op 5 tab_ok rfl rfl rfl rfl ?_)
        have hy6 := hy5.alloc hy5.size (.cells #[Vi 0, Vi 0, .slice none 0 0, .slice none 0 0] 25)
        refine And.intro (.inr hy6) ?_
        have hY := OwnB.new ((wB4).alloc (.cells #[Vi 0, Vi 0, .slice none 0 0, .slice none 0 0] 25)) [Vi 0, Vi 0, .slice none 0 0, .slice none 0 0] 25
        have hYle : w.heap.size ≤ ((wB4).alloc (.cells #[Vi 0, Vi 0, .slice none 0 0, .slice none 0 0] 25)).heap.size := hy5.size
        have hne : (wB4).heap.size ≠ ((wB4).alloc (.cells #[Vi 0, Vi 0, .slice none 0 0, .slice none 0 0] 25)).heap.size := by have := hX.lt; omega
        replace hX := OwnB.kept (row := none) hX (grown_alloc _ (.cells #[Vi 0, Vi 0, .slice none 0 0, .slice none 0 0] 25)) (by simp)
        replace hA := hA.kept (grown_alloc _ (.cells #[Vi 0, Vi 0, .slice none 0 0, .slice none 0 0] 25))
        replace hB := hB.kept (grown_alloc _ (.cells #[Vi 0, Vi 0, .slice none 0 0, .slice none 0 0] 25))
        obtain ⟨b6, hY6, fin⟩ := diffV_fin (undrew hy6) hX hY rfl hne hXle hYle hA hB cA aA lA cB aB lB
        have hy6 := below_of_grown hy6 (grown_sets ((wB4).heap.size) [Vi L1, Vi sa, .slice ga1 ma1 ca1, .slice ga2 ma2 ca2] 0 (((wB4).alloc (.cells #[Vi 0, Vi 0, .slice none 0 0, .slice none 0 0] 25)).alloc (.cells #[Vi 0, Vi 0, .slice none 0 0, .slice none 0 0] 25))) (fun k hk => by cases hk; exact hXle)
        have hy7 := below_of_grown hy6 (grown_sets (((wB4).alloc (.cells #[Vi 0, Vi 0, .slice none 0 0, .slice none 0 0] 25)).heap.size) [Vi L2, Vi sb, .slice gb1 mb1 cb1, .slice gb2 mb2 cb2] 0 _) (fun k hk => by cases hk; exact hYle)
        refine y_one 6 (by kernel_rfl) (y_op0 6 tab_ok rfl rfl rfl ?_)
        refine And.intro rfl (And.intro rfl (And.intro (own_cells4 hX) (And.intro (.inr hy6) ?_)))
        refine y_one 7 (by kernel_rfl) (y_op0 7 tab_ok rfl rfl rfl ?_)
        refine And.intro rfl (And.intro rfl (And.intro (own_cells4 hY6) (And.intro (.inr hy7) ?_)))
        exact y_endx (_, _) (by kernel_rfl) ⟨rfl, rfl, trivial⟩ fin
      ·
        have hy7 := hy3.alloc hy3.size (.cells #[Vi 0, Vi 0, .slice none 0 0, .slice none 0 0] 25)
        refine And.intro (.inr hy7) ?_
        have hY := OwnB.new (wB4) [Vi 0, Vi 0, .slice none 0 0, .slice none 0 0] 25
        have hYle : w.heap.size ≤ (wB4).heap.size := hy3.size
        replace hA := hA.kept (grown_alloc _ (.cells #[Vi 0, Vi 0, .slice none 0 0, .slice none 0 0] 25))
        replace hB := hB.kept (grown_alloc _ (.cells #[Vi 0, Vi 0, .slice none 0 0, .slice none 0 0] 25))
        refine y_one 4 (by kernel_rfl) (y_op 4 tab_ok rfl rfl rfl rfl ?_)
        have hy8 := hy7.alloc hy7.size (.cells #[Vi 0, Vi 0, .slice none 0 0, .slice none 0 0] 25)
        refine And.intro (.inr hy8) ?_
        have hX := OwnB.new ((wB4).alloc (.cells #[Vi 0, Vi 0, .slice none 0 0, .slice none 0 0] 25)) [Vi 0, Vi 0, .slice none 0 0, .slice none 0 0] 25
        have hXle : w.heap.size ≤ ((wB4).alloc (.cells #[Vi 0, Vi 0, .slice none 0 0, .slice none 0 0] 25)).heap.size := hy7.size
        have hne : ((wB4).alloc (.cells #[Vi 0, Vi 0, .slice none 0 0, .slice none 0 0] 25)).heap.size ≠ (wB4).heap.size := by have := hY.lt; omega
        replace hY := OwnB.kept (row := none) hY (grown_alloc _ (.cells #[Vi 0, Vi 0, .slice none 0 0, .slice none 0 0] 25)) (by simp)
        replace hA := hA.kept (grown_alloc _ (.cells #[Vi 0, Vi 0, .slice none 0 0, .slice none 0 0] 25))
        replace hB := hB.kept (grown_alloc _ (.cells #[Vi 0, Vi 0, .slice none 0 0, .slice none 0 0] 25))
        obtain ⟨b6, hY6, fin⟩ := diffV_fin (undrew hy8) hX hY rfl hne hXle hYle hA hB cA aA lA cB aB lB
        have hy6 := below_of_grown hy8 (grown_sets (((wB4).alloc (.cells #[Vi 0, Vi 0, .slice none 0 0, .slice none 0 0] 25)).heap.size) [Vi L1, Vi sa, .slice ga1 ma1 ca1, .slice ga2 ma2 ca2] 0 (((wB4).alloc (.cells #[Vi 0, Vi 0, .slice none 0 0, .slice none 0 0] 25)).alloc (.cells #[Vi 0, Vi 0, .slice none 0 0, .slice none 0 0] 25))) (fun k hk => by cases hk; exact hXle)
        have hy7 := below_of_grown hy6 (grown_sets ((wB4).heap.size) [Vi L2, Vi sb, .slice gb1 mb1 cb1, .slice gb2 mb2 cb2] 0 _) (fun k hk => by cases hk; exact hYle)
        refine y_one 6 (by kernel_rfl) (y_op0 6 tab_ok rfl rfl rfl ?_)
        refine And.intro rfl (And.intro rfl (And.intro (own_cells4 hX) (And.intro (.inr hy6) ?_)))
        refine y_one 7 (by kernel_rfl) (y_op0 7 tab_ok rfl rfl rfl ?_)
        refine And.intro rfl (And.intro rfl (And.intro (own_cells4 hY6) (And.intro (.inr hy7) ?_)))
        exact y_endx (_, _) (by kernel_rfl) ⟨rfl, rfl, trivial⟩ fin
    ·
      have hy9 := hy1.alloc hy1.size (.cells #[Vi 0, Vi 0, .slice none 0 0, .slice none 0 0] 25)
      refine And.intro (.inr hy9) ?_
      have hX := OwnB.new (wA2) [Vi 0, Vi 0, .slice none 0 0, .slice none 0 0] 25
      have hXle : w.heap.size ≤ (wA2).heap.size := hy1.size
      replace hA := hA.kept (grown_alloc _ (.cells #[Vi 0, Vi 0, .slice none 0 0, .slice none 0 0] 25))
      refine y_two 3 5 (by kernel_rfl) (y_op 3 tab_ok rfl rfl rfl rfl ?_) (y_op 5 tab_ok rfl rfl rfl rfl ?_)
      ·
        refine And.intro en_Shrunk ((shrunk_any L2 s2 vn2 ve2 n2 f2 _ (hm2.keep (undrew hy9)) hs2 (by omega) (by omega)).mono ?_)
        rintro e wB11 ⟨sb, vnb, veb, nb, fb, rfl, hB0, hB1, cB, aB, lB⟩
        refine ⟨_, rfl, ?_⟩
        have hy10 := below_trans hy9 hB1
        refine And.intro (.inr hy10) ?_
        have hB : OwnM w.heap.size wB11 _ _ _ _ := hB0.mono hy9.size
        obtain ⟨⟨gb1, mb1, cb1, hv1⟩, gb2, mb2, cb2, hv2⟩ := hB.forms
        subst hv1 hv2
        replace hA := hA.kept (grown_below hB1)
        replace hX := hX.keep hB1 hX.lt
        refine y_one 5 (by kernel_rfl) (y_op 5 tab_ok rfl rfl rfl rfl ?_)
        have hy12 := hy10.alloc hy10.size (.cells #[Vi 0, Vi 0, .slice none 0 0, .slice none 0 0] 25)
        refine And.intro (.inr hy12) ?_
        have hY := OwnB.new (wB11) [Vi 0, Vi 0, .slice none 0 0, .slice none 0 0] 25
        have hYle : w.heap.size ≤ (wB11).heap.size := hy10.size
        have hne : (wA2).heap.size ≠ (wB11).heap.size := by have := hX.lt; omega
        replace hX := OwnB.kept (row := none) hX (grown_alloc _ (.cells #[Vi 0, Vi 0, .slice none 0 0, .slice none 0 0] 25)) (by simp)
        replace hA := hA.kept (grown_alloc _ (.cells #[Vi 0, Vi 0, .slice none 0 0, .slice none 0 0] 25))
        replace hB := hB.kept (grown_alloc _ (.cells #[Vi 0, Vi 0, .slice none 0 0, .slice none 0 0] 25))
        obtain ⟨b6, hY6, fin⟩ := diffV_fin (undrew hy12) hX hY rfl hne hXle hYle hA hB cA aA lA cB aB lB
        have hy6 := below_of_grown hy12 (grown_sets ((wA2).heap.size) [Vi L1, Vi sa, .slice ga1 ma1 ca1, .slice ga2 ma2 ca2] 0 ((wB11).alloc (.cells #[Vi 0, Vi 0, .slice none 0 0, .slice none 0 0] 25))) (fun k hk => by cases hk; exact hXle)
        have hy7 := below_of_grown hy6 (grown_sets ((wB11).heap.size) [Vi L2, Vi sb, .slice gb1 mb1 cb1, .slice gb2 mb2 cb2] 0 _) (fun k hk => by cases hk; exact hYle)
        refine y_one 6 (by kernel_rfl) (y_op0 6 tab_ok rfl rfl rfl ?_)
        refine And.intro rfl (And.intro rfl (And.intro (own_cells4 hX) (And.intro (.inr hy6) ?_)))
        refine y_one 7 (by kernel_rfl) (y_op0 7 tab_ok rfl rfl rfl ?_)
        refine And.intro rfl (And.intro rfl (And.intro (own_cells4 hY6) (And.intro (.inr hy7) ?_)))
        exact y_endx (_, _) (by kernel_rfl) ⟨rfl, rfl, trivial⟩ fin
      ·
        have hy13 := hy9.alloc hy9.size (.cells #[Vi 0, Vi 0, .slice none 0 0, .slice none 0 0] 25)
        refine And.intro (.inr hy13) ?_
        have hY := OwnB.new ((wA2).alloc (.cells #[Vi 0, Vi 0, .slice none 0 0, .slice none 0 0] 25)) [Vi 0, Vi 0, .slice none 0 0, .slice none 0 0] 25
        have hYle : w.heap.size ≤ ((wA2).alloc (.cells #[Vi 0, Vi 0, .slice none 0 0, .slice none 0 0] 25)).heap.size := hy9.size
        have hne : (wA2).heap.size ≠ ((wA2).alloc (.cells #[Vi 0, Vi 0, .slice none 0 0, .slice none 0 0] 25)).heap.size := by have := hX.lt; omega
        replace hX := OwnB.kept (row := none) hX (grown_alloc _ (.cells #[Vi 0, Vi 0, .slice none 0 0, .slice none 0 0] 25)) (by simp)
        replace hA := hA.kept (grown_alloc _ (.cells #[Vi 0, Vi 0, .slice none 0 0, .slice none 0 0] 25))
        refine y_one 3 (by kernel_rfl) (y_op 3 tab_ok rfl rfl rfl rfl ?_)
        refine And.intro en_Shrunk ((shrunk_any L2 s2 vn2 ve2 n2 f2 _ (hm2.keep (undrew hy13)) hs2 (by omega) (by omega)).mono ?_)
        rintro e wB15 ⟨sb, vnb, veb, nb, fb, rfl, hB0, hB1, cB, aB, lB⟩
        refine ⟨_, rfl, ?_⟩
        have hy14 := below_trans hy13 hB1
        refine And.intro (.inr hy14) ?_
        have hB : OwnM w.heap.size wB15 _ _ _ _ := hB0.mono hy13.size
        obtain ⟨⟨gb1, mb1, cb1, hv1⟩, gb2, mb2, cb2, hv2⟩ := hB.forms
        subst hv1 hv2
        replace hA := hA.kept (grown_below hB1)
        replace hX := hX.keep hB1 hX.lt
        replace hY := hY.keep hB1 hY.lt
        obtain ⟨b6, hY6, fin⟩ := diffV_fin (undrew hy14) hX hY rfl hne hXle hYle hA hB cA aA lA cB aB lB
        have hy6 := below_of_grown hy14 (grown_sets ((wA2).heap.size) [Vi L1, Vi sa, .slice ga1 ma1 ca1, .slice ga2 ma2 ca2] 0 (wB15)) (fun k hk => by cases hk; exact hXle)
        have hy7 := below_of_grown hy6 (grown_sets (((wA2).alloc (.cells #[Vi 0, Vi 0, .slice none 0 0, .slice none 0 0] 25)).heap.size) [Vi L2, Vi sb, .slice gb1 mb1 cb1, .slice gb2 mb2 cb2] 0 _) (fun k hk => by cases hk; exact hYle)
        refine y_one 6 (by kernel_rfl) (y_op0 6 tab_ok rfl rfl rfl ?_)
        refine And.intro rfl (And.intro rfl (And.intro (own_cells4 hX) (And.intro (.inr hy6) ?_)))
        refine y_one 7 (by kernel_rfl) (y_op0 7 tab_ok rfl rfl rfl ?_)
        refine And.intro rfl (And.intro rfl (And.intro (own_cells4 hY6) (And.intro (.inr hy7) ?_)))
        exact y_endx (_, _) (by kernel_rfl) ⟨rfl, rfl, trivial⟩ fin
    ·
      have hy16 := hy1.alloc hy1.size (.cells #[Vi 0, Vi 0, .slice none 0 0, .slice none 0 0] 25)
      refine And.intro (.inr hy16) ?_
      have hY := OwnB.new (wA2) [Vi 0, Vi 0, .slice none 0 0, .slice none 0 0] 25
      have hYle : w.heap.size ≤ (wA2).heap.size := hy1.size
      replace hA := hA.kept (grown_alloc _ (.cells #[Vi 0, Vi 0, .slice none 0 0, .slice none 0 0] 25))
      refine y_two 3 4 (by kernel_rfl) (y_op 3 tab_ok rfl rfl rfl rfl ?_) (y_op 4 tab_ok rfl rfl rfl rfl ?_)
      ·
        refine And.intro en_Shrunk ((shrunk_any L2 s2 vn2 ve2 n2 f2 _ (hm2.keep (undrew hy16)) hs2 (by omega) (by omega)).mono ?_)
        rintro e wB18 ⟨sb, vnb, veb, nb, fb, rfl, hB0, hB1, cB, aB, lB⟩
        refine ⟨_, rfl, ?_⟩
        have hy17 := below_trans hy16 hB1
        refine And.intro (.inr hy17) ?_
        have hB : OwnM w.heap.size wB18 _ _ _ _ := hB0.mono hy16.size
        obtain ⟨⟨gb1, mb1, cb1, hv1⟩, gb2, mb2, cb2, hv2⟩ := hB.forms
        subst hv1 hv2
        replace hA := hA.kept (grown_below hB1)
        replace hY := hY.keep hB1 hY.lt
        refine y_one 4 (by kernel_rfl) (y_op 4 tab_ok rfl rfl rfl rfl ?_)
        have hy19 := hy17.alloc hy17.size (.cells #[Vi 0, Vi 0, .slice none 0 0, .slice none 0 0] 25)
        refine And.intro (.inr hy19) ?_
        have hX := OwnB.new (wB18) [Vi 0, Vi 0, .slice none 0 0, .slice none 0 0] 25
        have hXle : w.heap.size ≤ (wB18).heap.size := hy17.size
        have hne : (wB18).heap.size ≠ (wA2).heap.size := by have := hY.lt; omega
        replace hY := OwnB.kept (row := none) hY (grown_alloc _ (.cells #[Vi 0, Vi 0, .slice none 0 0, .slice none 0 0] 25)) (by simp)
        replace hA := hA.kept (grown_alloc _ (.cells #[Vi 0, Vi 0, .slice none 0 0, .slice none 0 0] 25))
        replace hB := hB.kept (grown_alloc _ (.cells #[Vi 0, Vi 0, .slice none 0 0, .slice none 0 0] 25))
        obtain ⟨b6, hY6, fin⟩ := diffV_fin (undrew hy19) hX hY rfl hne hXle hYle hA hB cA aA lA cB aB lB
        have hy6 := below_of_grown hy19 (grown_sets ((wB18).heap.size) [Vi L1, Vi sa, .slice ga1 ma1 ca1, .slice ga2 ma2 ca2] 0 ((wB18).alloc (.cells #[Vi 0, Vi 0, .slice none 0 0, .slice none 0 0] 25))) (fun k hk => by cases hk; exact hXle)
        have hy7 := below_of_grown hy6 (grown_sets ((wA2).heap.size) [Vi L2, Vi sb, .slice gb1 mb1 cb1, .slice gb2 mb2 cb2] 0 _) (fun k hk => by cases hk; exact hYle)
        refine y_one 6 (by kernel_rfl) (y_op0 6 tab_ok rfl rfl rfl ?_)
        refine And.intro rfl (And.intro rfl (And.intro (own_cells4 hX) (And.intro (.inr hy6) ?_)))
        refine y_one 7 (by kernel_rfl) (y_op0 7 tab_ok rfl rfl rfl ?_)
        refine And.intro rfl (And.intro rfl (And.intro (own_cells4 hY6) (And.intro (.inr hy7) ?_)))
        exact y_endx (_, _) (by kernel_rfl) ⟨rfl, rfl, trivial⟩ fin
      ·
        have hy20 := hy16.alloc hy16.size (.cells #[Vi 0, Vi 0, .slice none 0 0, .slice none 0 0] 25)
        refine And.intro (.inr hy20) ?_
        have hX := OwnB.new ((wA2).alloc (.cells #[Vi 0, Vi 0, .slice none 0 0, .slice none 0 0] 25)) [Vi 0, Vi 0, .slice none 0 0, .slice none 0 0] 25
        have hXle : w.heap.size ≤ ((wA2).alloc (.cells #[Vi 0, Vi 0, .slice none 0 0, .slice none 0 0] 25)).heap.size := hy16.size
        have hne : ((wA2).alloc (.cells #[Vi 0, Vi 0, .slice none 0 0, .slice none 0 0] 25)).heap.size ≠ (wA2).heap.size := by have := hY.lt; omega
        replace hY := OwnB.kept (row := none) hY (grown_alloc _ (.cells #[Vi 0, Vi 0, .slice none 0 0, .slice none 0 0] 25)) (by simp)
        replace hA := hA.kept (grown_alloc _ (.cells #[Vi 0, Vi 0, .slice none 0 0, .slice none 0 0] 25))
        refine y_one 3 (by kernel_rfl) (y_op 3 tab_ok rfl rfl rfl rfl ?_)
        refine And.intro en_Shrunk ((shrunk_any L2 s2 vn2 ve2 n2 f2 _ (hm2.keep (undrew hy20)) hs2 (by omega) (by omega)).mono ?_)
        rintro e wB22 ⟨sb, vnb, veb, nb, fb, rfl, hB0, hB1, cB, aB, lB⟩
        refine ⟨_, rfl, ?_⟩
        have hy21 := below_trans hy20 hB1
        refine And.intro (.inr hy21) ?_
        have hB : OwnM w.heap.size wB22 _ _ _ _ := hB0.mono hy20.size
        obtain ⟨⟨gb1, mb1, cb1, hv1⟩, gb2, mb2, cb2, hv2⟩ := hB.forms
        subst hv1 hv2
        replace hA := hA.kept (grown_below hB1)
        replace hX := hX.keep hB1 hX.lt
        replace hY := hY.keep hB1 hY.lt
        obtain ⟨b6, hY6, fin⟩ := diffV_fin (undrew hy21) hX hY rfl hne hXle hYle hA hB cA aA lA cB aB lB
        have hy6 := below_of_grown hy21 (grown_sets (((wA2).alloc (.cells #[Vi 0, Vi 0, .slice none 0 0, .slice none 0 0] 25)).heap.size) [Vi L1, Vi sa, .slice ga1 ma1 ca1, .slice ga2 ma2 ca2] 0 (wB22)) (fun k hk => by cases hk; exact hXle)
        have hy7 := below_of_grown hy6 (grown_sets ((wA2).heap.size) [Vi L2, Vi sb, .slice gb1 mb1 cb1, .slice gb2 mb2 cb2] 0 _) (fun k hk => by cases hk; exact hYle)
        refine y_one 6 (by kernel_rfl) (y_op0 6 tab_ok rfl rfl rfl ?_)
        refine And.intro rfl (And.intro rfl (And.intro (own_cells4 hX) (And.intro (.inr hy6) ?_)))
        refine y_one 7 (by kernel_rfl) (y_op0 7 tab_ok rfl rfl rfl ?_)
        refine And.intro rfl (And.intro rfl (And.intro (own_cells4 hY6) (And.intro (.inr hy7) ?_)))
        exact y_endx (_, _) (by kernel_rfl) ⟨rfl, rfl, trivial⟩ fin
  ·
    have hy23 := hy.alloc hy.size (.cells #[Vi 0, Vi 0, .slice none 0 0, .slice none 0 0] 25)
    refine And.intro (.inr hy23) ?_
    have hX := OwnB.new (w.drew) [Vi 0, Vi 0, .slice none 0 0, .slice none 0 0] 25
    have hXle : w.heap.size ≤ (w.drew).heap.size := hy.size
    refine y_two 1 5 (by kernel_rfl) (y_op 1 tab_ok rfl rfl rfl rfl ?_) (y_op 5 tab_ok rfl rfl rfl rfl ?_)
    ·
      refine And.intro en_Shrunk ((shrunk_any L1 s1 vn1 ve1 n1 f1 _ (hm1.keep (undrew hy23)) hs1 (by omega) (by omega)).mono ?_)
      rintro e wA25 ⟨sa, vna, vea, na, fa, rfl, hA0, hA1, cA, aA, lA⟩
      refine ⟨_, rfl, ?_⟩
      have hy24 := below_trans hy23 hA1
      refine And.intro (.inr hy24) ?_
      have hA : OwnM w.heap.size wA25 _ _ _ _ := hA0.mono hy23.size
      obtain ⟨⟨ga1, ma1, ca1, hv1⟩, ga2, ma2, ca2, hv2⟩ := hA.forms
      subst hv1 hv2
      replace hX := hX.keep hA1 hX.lt
      refine y_two 3 5 (by kernel_rfl) (y_op 3 tab_ok rfl rfl rfl rfl ?_) (y_op 5 tab_ok rfl rfl rfl rfl ?_)
      ·
        refine And.intro en_Shrunk ((shrunk_any L2 s2 vn2 ve2 n2 f2 _ (hm2.keep (undrew hy24)) hs2 (by omega) (by omega)).mono ?_)
        rintro e wB27 ⟨sb, vnb, veb, nb, fb, rfl, hB0, hB1, cB, aB, lB⟩
        refine ⟨_, rfl, ?_⟩
        have hy26 := below_trans hy24 hB1
        refine And.intro (.inr hy26) ?_
        have hB : OwnM w.heap.size wB27 _ _ _ _ := hB0.mono hy24.size
        obtain ⟨⟨gb1, mb1, cb1, hv1⟩, gb2, mb2, cb2, hv2⟩ := hB.forms
        subst hv1 hv2
        replace hA := hA.kept (grown_below hB1)
        replace hX := hX.keep hB1 hX.lt
        refine y_one 5 (by kernel_rfl) (y_op 5 tab_ok rfl rfl rfl rfl ?_)
        have hy28 := hy26.alloc hy26.size (.cells #[Vi 0, Vi 0, .slice none 0 0, .slice none 0 0] 25)
        refine And.intro (.inr hy28) ?_
        have hY := OwnB.new (wB27) [Vi 0, Vi 0, .slice none 0 0, .slice none 0 0] 25
        have hYle : w.heap.size ≤ (wB27).heap.size := hy26.size
        have hne : (w.drew).heap.size ≠ (wB27).heap.size := by have := hX.lt; omega
        replace hX := OwnB.kept (row := none) hX (grown_alloc _ (.cells #[Vi 0, Vi 0, .slice none 0 0, .slice none 0 0] 25)) (by simp)
        replace hA := hA.kept (grown_alloc _ (.cells #[Vi 0, Vi 0, .slice none 0 0, .slice none 0 0] 25))
        replace hB := hB.kept (grown_alloc _ (.cells #[Vi 0, Vi 0, .slice none 0 0, .slice none 0 0] 25))
        obtain ⟨b6, hY6, fin⟩ := diffV_fin (undrew hy28) hX hY rfl hne hXle hYle hA hB cA aA lA cB aB lB
        have hy6 := below_of_grown hy28 (grown_sets ((w.drew).heap.size) [Vi L1, Vi sa, .slice ga1 ma1 ca1, .slice ga2 ma2 ca2] 0 ((wB27).alloc (.cells #[Vi 0, Vi 0, .slice none 0 0, .slice none 0 0] 25))) (fun k hk => by cases hk; exact hXle)
        have hy7 := below_of_grown hy6 (grown_sets ((wB27).heap.size) [Vi L2, Vi sb, .slice gb1 mb1 cb1, .slice gb2 mb2 cb2] 0 _) (fun k hk => by cases hk; exact hYle)
        refine y_one 6 (by kernel_rfl) (y_op0 6 tab_ok rfl rfl rfl ?_)
        refine And.intro rfl (And.intro rfl (And.intro (own_cells4 hX) (And.intro (.inr hy6) ?_)))
        refine y_one 7 (by kernel_rfl) (y_op0 7 tab_ok rfl rfl rfl ?_)
        refine And.intro rfl (And.intro rfl (And.intro (own_cells4 hY6) (And.intro (.inr hy7) ?_)))
        exact y_endx (_, _) (by kernel_rfl) ⟨rfl, rfl, trivial⟩ fin
      ·
        have hy29 := hy24.alloc hy24.size (.cells #[Vi 0, Vi 0, .slice none 0 0, .slice none 0 0] 25)
        refine And.intro (.inr hy29) ?_
        have hY := OwnB.new (wA25) [Vi 0, Vi 0, .slice none 0 0, .slice none 0 0] 25
        have hYle : w.heap.size ≤ (wA25).heap.size := hy24.size
        have hne : (w.drew).heap.size ≠ (wA25).heap.size := by have := hX.lt; omega
        replace hX := OwnB.kept (row := none) hX (grown_alloc _ (.cells #[Vi 0, Vi 0, .slice none 0 0, .slice none 0 0] 25)) (by simp)
        replace hA := hA.kept (grown_alloc _ (.cells #[Vi 0, Vi 0, .slice none 0 0, .slice none 0 0] 25))
        refine y_one 3 (by kernel_rfl) (y_op 3 tab_ok rfl rfl rfl rfl ?_)
        refine And.intro en_Shrunk ((shrunk_any L2 s2 vn2 ve2 n2 f2 _ (hm2.keep (undrew hy29)) hs2 (by omega) (by omega)).mono ?_)
        rintro e wB31 ⟨sb, vnb, veb, nb, fb, rfl, hB0, hB1, cB, aB, lB⟩
        refine ⟨_, rfl, ?_⟩
        have hy30 := below_trans hy29 hB1
        refine And.intro (.inr hy30) ?_
        have hB : OwnM w.heap.size wB31 _ _ _ _ := hB0.mono hy29.size
        obtain ⟨⟨gb1, mb1, cb1, hv1⟩, gb2, mb2, cb2, hv2⟩ := hB.forms
        subst hv1 hv2
        replace hA := hA.kept (grown_below hB1)
        replace hX := hX.keep hB1 hX.lt
        replace hY := hY.keep hB1 hY.lt
        obtain ⟨b6, hY6, fin⟩ := diffV_fin (undrew hy30) hX hY rfl hne hXle hYle hA hB cA aA lA cB aB lB
        have hy6 := below_of_grown hy30 (grown_sets ((w.drew).heap.size) [Vi L1, Vi sa, .slice ga1 ma1 ca1, .slice ga2 ma2 ca2] 0 (wB31)) (fun k hk => by cases hk; exact hXle)
        have hy7 := below_of_grown hy6 (grown_sets ((wA25).heap.size) [Vi L2, Vi sb, .slice gb1 mb1 cb1, .slice gb2 mb2 cb2] 0 _) (fun k hk => by cases hk; exact hYle)
        refine y_one 6 (by kernel_rfl) (y_op0 6 tab_ok rfl rfl rfl ?_)
        refine And.intro rfl (And.intro rfl (And.intro (own_cells4 hX) (And.intro (.inr hy6) ?_)))
        refine y_one 7 (by kernel_rfl) (y_op0 7 tab_ok rfl rfl rfl ?_)
        refine And.intro rfl (And.intro rfl (And.intro (own_cells4 hY6) (And.intro (.inr hy7) ?_)))
        exact y_endx (_, _) (by kernel_rfl) ⟨rfl, rfl, trivial⟩ fin
    ·
      have hy32 := hy23.alloc hy23.size (.cells #[Vi 0, Vi 0, .slice none 0 0, .slice none 0 0] 25)
      refine And.intro (.inr hy32) ?_
      have hY := OwnB.new ((w.drew).alloc (.cells #[Vi 0, Vi 0, .slice none 0 0, .slice none 0 0] 25)) [Vi 0, Vi 0, .slice none 0 0, .slice none 0 0] 25
      have hYle : w.heap.size ≤ ((w.drew).alloc (.cells #[Vi 0, Vi 0, .slice none 0 0, .slice none 0 0] 25)).heap.size := hy23.size
      have hne : (w.drew).heap.size ≠ ((w.drew).alloc (.cells #[Vi 0, Vi 0, .slice none 0 0, .slice none 0 0] 25)).heap.size := by have := hX.lt; omega
      replace hX := OwnB.kept (row := none) hX (grown_alloc _ (.cells #[Vi 0, Vi 0, .slice none 0 0, .slice none 0 0] 25)) (by simp)
      refine y_one 1 (by kernel_rfl) (y_op 1 tab_ok rfl rfl rfl rfl ?_)
      refine And.intro en_Shrunk ((shrunk_any L1 s1 vn1 ve1 n1 f1 _ (hm1.keep (undrew hy32)) hs1 (by omega) (by omega)).mono ?_)
      rintro e wA34 ⟨sa, vna, vea, na, fa, rfl, hA0, hA1, cA, aA, lA⟩
      refine ⟨_, rfl, ?_⟩
      have hy33 := below_trans hy32 hA1
      refine And.intro (.inr hy33) ?_
      have hA : OwnM w.heap.size wA34 _ _ _ _ := hA0.mono hy32.size
      obtain ⟨⟨ga1, ma1, ca1, hv1⟩, ga2, ma2, ca2, hv2⟩ := hA.forms
      subst hv1 hv2
      replace hX := hX.keep hA1 hX.lt
      replace hY := hY.keep hA1 hY.lt
      refine y_one 3 (by kernel_rfl) (y_op 3 tab_ok rfl rfl rfl rfl ?_)
      refine And.intro en_Shrunk ((shrunk_any L2 s2 vn2 ve2 n2 f2 _ (hm2.keep (undrew hy33)) hs2 (by omega) (by omega)).mono ?_)
      rintro e wB36 ⟨sb, vnb, veb, nb, fb, rfl, hB0, hB1, cB, aB, lB⟩
      refine ⟨_, rfl, ?_⟩
      have hy35 := below_trans hy33 hB1
      refine And.intro (.inr hy35) ?_
      have hB : OwnM w.heap.size wB36 _ _ _ _ := hB0.mono hy33.size
      obtain ⟨⟨gb1, mb1, cb1, hv1⟩, gb2, mb2, cb2, hv2⟩ := hB.forms
      subst hv1 hv2
      replace hA := hA.kept (grown_below hB1)
      replace hX := hX.keep hB1 hX.lt
      replace hY := hY.keep hB1 hY.lt
      obtain ⟨b6, hY6, fin⟩ := diffV_fin (undrew hy35) hX hY rfl hne hXle hYle hA hB cA aA lA cB aB lB
      have hy6 := below_of_grown hy35 (grown_sets ((w.drew).heap.size) [Vi L1, Vi sa, .slice ga1 ma1 ca1, .slice ga2 ma2 ca2] 0 (wB36)) (fun k hk => by cases hk; exact hXle)
      have hy7 := below_of_grown hy6 (grown_sets (((w.drew).alloc (.cells #[Vi 0, Vi 0, .slice none 0 0, .slice none 0 0] 25)).heap.size) [Vi L2, Vi sb, .slice gb1 mb1 cb1, .slice gb2 mb2 cb2] 0 _) (fun k hk => by cases hk; exact hYle)
      refine y_one 6 (by kernel_rfl) (y_op0 6 tab_ok rfl rfl rfl ?_)
      refine And.intro rfl (And.intro rfl (And.intro (own_cells4 hX) (And.intro (.inr hy6) ?_)))
      refine y_one 7 (by kernel_rfl) (y_op0 7 tab_ok rfl rfl rfl ?_)
      refine And.intro rfl (And.intro rfl (And.intro (own_cells4 hY6) (And.intro (.inr hy7) ?_)))
      exact y_endx (_, _) (by kernel_rfl) ⟨rfl, rfl, trivial⟩ fin
  ·
    have hy37 := hy.alloc hy.size (.cells #[Vi 0, Vi 0, .slice none 0 0, .slice none 0 0] 25)
    refine And.intro (.inr hy37) ?_
    have hY := OwnB.new (w.drew) [Vi 0, Vi 0, .slice none 0 0, .slice none 0 0] 25
    have hYle : w.heap.size ≤ (w.drew).heap.size := hy.size
    refine y_two 1 4 (by kernel_rfl) (y_op 1 tab_ok rfl rfl rfl rfl ?_) (y_op 4 tab_ok rfl rfl rfl rfl ?_)
    ·
      refine And.intro en_Shrunk ((shrunk_any L1 s1 vn1 ve1 n1 f1 _ (hm1.keep (undrew hy37)) hs1 (by omega) (by omega)).mono ?_)
      rintro e wA39 ⟨sa, vna, vea, na, fa, rfl, hA0, hA1, cA, aA, lA⟩
      refine ⟨_, rfl, ?_⟩
      have hy38 := below_trans hy37 hA1
      refine And.intro (.inr hy38) ?_
      have hA : OwnM w.heap.size wA39 _ _ _ _ := hA0.mono hy37.size
      obtain ⟨⟨ga1, ma1, ca1, hv1⟩, ga2, ma2, ca2, hv2⟩ := hA.forms
      subst hv1 hv2
      replace hY := hY.keep hA1 hY.lt
      refine y_two 3 4 (by kernel_rfl) (y_op 3 tab_ok rfl rfl rfl rfl ?_) (y_op 4 tab_ok rfl rfl rfl rfl ?_)
      ·
        refine And.intro en_Shrunk ((shrunk_any L2 s2 vn2 ve2 n2 f2 _ (hm2.keep (undrew hy38)) hs2 (by omega) (by omega)).mono ?_)
        rintro e wB41 ⟨sb, vnb, veb, nb, fb, rfl, hB0, hB1, cB, aB, lB⟩
        refine ⟨_, rfl, ?_⟩
        have hy40 := below_trans hy38 hB1
        refine And.intro (.inr hy40) ?_
        have hB : OwnM w.heap.size wB41 _ _ _ _ := hB0.mono hy38.size
        obtain ⟨⟨gb1, mb1, cb1, hv1⟩, gb2, mb2, cb2, hv2⟩ := hB.forms
        subst hv1 hv2
        replace hA := hA.kept (grown_below hB1)
        replace hY := hY.keep hB1 hY.lt
        refine y_one 4 (by kernel_rfl) (y_op 4 tab_ok rfl rfl rfl rfl ?_)
        have hy42 := hy40.alloc hy40.size (.cells #[Vi 0, Vi 0, .slice none 0 0, .slice none 0 0] 25)
        refine And.intro (.inr hy42) ?_
        have hX := OwnB.new (wB41) [Vi 0, Vi 0, .slice none 0 0, .slice none 0 0] 25
        have hXle : w.heap.size ≤ (wB41).heap.size := hy40.size
        have hne : (wB41).heap.size ≠ (w.drew).heap.size := by have := hY.lt; omega
        replace hY := OwnB.kept (row := none) hY (grown_alloc _ (.cells #[Vi 0, Vi 0, .slice none 0 0, .slice none 0 0] 25)) (by simp)
        replace hA := hA.kept (grown_alloc _ (.cells #[Vi 0, Vi 0, .slice none 0 0, .slice none 0 0] 25))
        replace hB := hB.kept (grown_alloc _ (.cells #[Vi 0, Vi 0, .slice none 0 0, .slice none 0 0] 25))
        obtain ⟨b6, hY6, fin⟩ := diffV_fin (undrew hy42) hX hY rfl hne hXle hYle hA hB cA aA lA cB aB lB
        have hy6 := below_of_grown hy42 (grown_sets ((wB41).heap.size) [Vi L1, Vi sa, .slice ga1 ma1 ca1, .slice ga2 ma2 ca2] 0 ((wB41).alloc (.cells #[Vi 0, Vi 0, .slice none 0 0, .slice none 0 0] 25))) (fun k hk => by cases hk; exact hXle)
        have hy7 := below_of_grown hy6 (grown_sets ((w.drew).heap.size) [Vi L2, Vi sb, .slice gb1 mb1 cb1, .slice gb2 mb2 cb2] 0 _) (fun k hk => by cases hk; exact hYle)
        refine y_one 6 (by kernel_rfl) (y_op0 6 tab_ok rfl rfl rfl ?_)
        refine And.intro rfl (And.intro rfl (And.intro (own_cells4 hX) (And.intro (.inr hy6) ?_)))
        refine y_one 7 (by kernel_rfl) (y_op0 7 tab_ok rfl rfl rfl ?_)
        refine And.intro rfl (And.intro rfl (And.intro (own_cells4 hY6) (And.intro (.inr hy7) ?_)))
        exact y_endx (_, _) (by kernel_rfl) ⟨rfl, rfl, trivial⟩ fin
      ·
        have hy43 := hy38.alloc hy38.size (.cells #[Vi 0, Vi 0, .slice none 0 0, .slice none 0 0] 25)
        refine And.intro (.inr hy43) ?_
        have hX := OwnB.new (wA39) [Vi 0, Vi 0, .slice none 0 0, .slice none 0 0] 25
        have hXle : w.heap.size ≤ (wA39).heap.size := hy38.size
        have hne : (wA39).heap.size ≠ (w.drew).heap.size := by have := hY.lt; omega
        replace hY := OwnB.kept (row := none) hY (grown_alloc _ (.cells #[Vi 0, Vi 0, .slice none 0 0, .slice none 0 0] 25)) (by simp)
        replace hA := hA.kept (grown_alloc _ (.cells #[Vi 0, Vi 0, .slice none 0 0, .slice none 0 0] 25))
        refine y_one 3 (by kernel_rfl) (y_op 3 tab_ok rfl rfl rfl rfl ?_)
        refine And.intro en_Shrunk ((shrunk_any L2 s2 vn2 ve2 n2 f2 _ (hm2.keep (undrew hy43)) hs2 (by omega) (by omega)).mono ?_)
        rintro e wB45 ⟨sb, vnb, veb, nb, fb, rfl, hB0, hB1, cB, aB, lB⟩
        refine ⟨_, rfl, ?_⟩
        have hy44 := below_trans hy43 hB1
        refine And.intro (.inr hy44) ?_
        have hB : OwnM w.heap.size wB45 _ _ _ _ := hB0.mono hy43.size
        obtain ⟨⟨gb1, mb1, cb1, hv1⟩, gb2, mb2, cb2, hv2⟩ := hB.forms
        subst hv1 hv2
        replace hA := hA.kept (grown_below hB1)
        replace hX := hX.keep hB1 hX.lt
        replace hY := hY.keep hB1 hY.lt
        obtain ⟨b6, hY6, fin⟩ := diffV_fin (undrew hy44) hX hY rfl hne hXle hYle hA hB cA aA lA cB aB lB
        have hy6 := below_of_grown hy44 (grown_sets ((wA39).heap.size) [Vi L1, Vi sa, .slice ga1 ma1 ca1, .slice ga2 ma2 ca2] 0 (wB45)) (fun k hk => by cases hk; exact hXle)
        have hy7 := below_of_grown hy6 (grown_sets ((w.drew).heap.size) [Vi L2, Vi sb, .slice gb1 mb1 cb1, .slice gb2 mb2 cb2] 0 _) (fun k hk => by cases hk; exact hYle)
        refine y_one 6 (by kernel_rfl) (y_op0 6 tab_ok rfl rfl rfl ?_)
        refine And.intro rfl (And.intro rfl (And.intro (own_cells4 hX) (And.intro (.inr hy6) ?_)))
        refine y_one 7 (by kernel_rfl) (y_op0 7 tab_ok rfl rfl rfl ?_)
        refine And.intro rfl (And.intro rfl (And.intro (own_cells4 hY6) (And.intro (.inr hy7) ?_)))
        exact y_endx (_, _) (by kernel_rfl) ⟨rfl, rfl, trivial⟩ fin
    ·
      have hy46 := hy37.alloc hy37.size (.cells #[Vi 0, Vi 0, .slice none 0 0, .slice none 0 0] 25)
      refine And.intro (.inr hy46) ?_
      have hX := OwnB.new ((w.drew).alloc (.cells #[Vi 0, Vi 0, .slice none 0 0, .slice none 0 0] 25)) [Vi 0, Vi 0, .slice none 0 0, .slice none 0 0] 25
      have hXle : w.heap.size ≤ ((w.drew).alloc (.cells #[Vi 0, Vi 0, .slice none 0 0, .slice none 0 0] 25)).heap.size := hy37.size
      have hne : ((w.drew).alloc (.cells #[Vi 0, Vi 0, .slice none 0 0, .slice none 0 0] 25)).heap.size ≠ (w.drew).heap.size := by have := hY.lt; omega
      replace hY := OwnB.kept (row := none) hY (grown_alloc _ (.cells #[Vi 0, Vi 0, .slice none 0 0, .slice none 0 0] 25)) (by simp)
      refine y_one 1 (by kernel_rfl) (y_op 1 tab_ok rfl rfl rfl rfl ?_)
      refine And.intro en_Shrunk ((shrunk_any L1 s1 vn1 ve1 n1 f1 _ (hm1.keep (undrew hy46)) hs1 (by omega) (by omega)).mono ?_)
      rintro e wA48 ⟨sa, vna, vea, na, fa, rfl, hA0, hA1, cA, aA, lA⟩
      refine ⟨_, rfl, ?_⟩
      have hy47 := below_trans hy46 hA1
      refine And.intro (.inr hy47) ?_
      have hA : OwnM w.heap.size wA48 _ _ _ _ := hA0.mono hy46.size
      obtain ⟨⟨ga1, ma1, ca1, hv1⟩, ga2, ma2, ca2, hv2⟩ := hA.forms
      subst hv1 hv2
      replace hX := hX.keep hA1 hX.lt
      replace hY := hY.keep hA1 hY.lt
      refine y_one 3 (by kernel_rfl) (y_op 3 tab_ok rfl rfl rfl rfl ?_)
      refine And.intro en_Shrunk ((shrunk_any L2 s2 vn2 ve2 n2 f2 _ (hm2.keep (undrew hy47)) hs2 (by omega) (by omega)).mono ?_)
      rintro e wB50 ⟨sb, vnb, veb, nb, fb, rfl, hB0, hB1, cB, aB, lB⟩
      refine ⟨_, rfl, ?_⟩
      have hy49 := below_trans hy47 hB1
      refine And.intro (.inr hy49) ?_
      have hB : OwnM w.heap.size wB50 _ _ _ _ := hB0.mono hy47.size
      obtain ⟨⟨gb1, mb1, cb1, hv1⟩, gb2, mb2, cb2, hv2⟩ := hB.forms
      subst hv1 hv2
      replace hA := hA.kept (grown_below hB1)
      replace hX := hX.keep hB1 hX.lt
      replace hY := hY.keep hB1 hY.lt
      obtain ⟨b6, hY6, fin⟩ := diffV_fin (undrew hy49) hX hY rfl hne hXle hYle hA hB cA aA lA cB aB lB
      have hy6 := below_of_grown hy49 (grown_sets (((w.drew).alloc (.cells #[Vi 0, Vi 0, .slice none 0 0, .slice none 0 0] 25)).heap.size) [Vi L1, Vi sa, .slice ga1 ma1 ca1, .slice ga2 ma2 ca2] 0 (wB50)) (fun k hk => by cases hk; exact hXle)
      have hy7 := below_of_grown hy6 (grown_sets ((w.drew).heap.size) [Vi L2, Vi sb, .slice gb1 mb1 cb1, .slice gb2 mb2 cb2] 0 _) (fun k hk => by cases hk; exact hYle)
      refine y_one 6 (by kernel_rfl) (y_op0 6 tab_ok rfl rfl rfl ?_)
      refine And.intro rfl (And.intro rfl (And.intro (own_cells4 hX) (And.intro (.inr hy6) ?_)))
      refine y_one 7 (by kernel_rfl) (y_op0 7 tab_ok rfl rfl rfl ?_)
      refine And.intro rfl (And.intro rfl (And.intro (own_cells4 hY6) (And.intro (.inr hy7) ?_)))
      exact y_endx (_, _) (by kernel_rfl) ⟨rfl, rfl, trivial⟩ fin
end Go.Proofs.Ythcoppfiahnpoaa
namespace Go.Proofs.Ythcoppfiahnpoaa
open Go Sym
theorem en_walked : enters Try.prog 61 = true := by kernel_rfl
theorem en_ends' : enters Try.prog 37 = true := by kernel_rfl
def PRaw (_ : World) (v : Value) (n : Int) : Prop := v = Vi n
structure WalkV (w : World) (K : Nat) (vp vl vf : Value) (s : WS) : Prop where
  c : cellsAt w.cell? K 0 [vp, vl, vf]
  p : SlP w vp s.ps
  l : Sl w vl s.ls PInt
  f : Sl w vf s.fs PRaw
theorem WalkV.keep {w w' : World} {K : Nat} {vp vl vf : Value} {s : WS} (h : WalkV w K vp vl vf s) (hb : RowKit.Below w.heap.size w w') : WalkV w' K vp vl vf s :=
  ⟨⟨Ythcoppfiahnpoaa.keep hb h.c.1, Ythcoppfiahnpoaa.keep hb h.c.2.1, Ythcoppfiahnpoaa.keep hb h.c.2.2.1, trivial⟩, h.p.keep hb, h.l.keep hb (fun _ _ h => h), h.f.keep hb (fun _ _ h => h)⟩
structure MaV (w : World) (X : Nat) (L s : Int) (next : List (List Int)) (fin : List Bool) (vn ve : Value) : Prop where
  m : Ma w L s next fin vn ve
  b : Box w X L s vn ve
theorem MaV.keep {w w' : World} {X : Nat} {L s : Int} {next : List (List Int)} {fin : List Bool} {vn ve : Value} (h : MaV w X L s next fin vn ve) (hb : RowKit.Below w.heap.size w w') : MaV w' X L s next fin vn ve := ⟨h.m.keep hb, h.b.keep hb⟩
set_option maxHeartbeats 4000000 in
theorem differ_any (L1 s1 L2 s2 : Int) (vn1 ve1 vn2 ve2 : Value) (n1 n2 : List (List Int)) (f1 f2 : List Bool) (w : World) (hm : Ma w L1 s1 n1 f1 vn1 ve1) (hm2 : Ma w L2 s2 n2 f2 vn2 ve2) :
    Calls Try.prog 26 #[.agg #[Vi L1, Vi s1, vn1, ve1], .agg #[Vi L2, Vi s2, vn2, ve2]] w fun e w' => ∃ (vw : Value) (word : List Nat) (b : Bool) (r : Int), e = .returned (.tuple #[vw, .bool b, Vi r]) ∧ Sl w' vw (word.map Int.ofNat) PInt ∧ Ok vw ∧ RowKit.Below w.heap.size w w' ∧ DiffE L1 s1 n1 f1 L2 s2 n2 f2 word b r := by
  refine Sym.enter (args := [.agg #[Vi L1, Vi s1, vn1, ve1], .agg #[Vi L2, Vi s2, vn2, ve2]]) Try.func26 rfl rfl rfl (fun a0 hS0 => ?_)
  obtain ⟨N, hN⟩ : ∃ N, N = (w.alloc (.cells #[Vi L1, Vi s1, vn1, ve1] 25)).heap.size := ⟨_, rfl⟩
  obtain ⟨M, hM⟩ : ∃ M, M = w.heap.size := ⟨_, rfl⟩
  refine wp_seq (seq_cut [(2, Vp M), (3, Vp N)] (· = (w.alloc (.cells #[Vi L1, Vi s1, vn1, ve1] 25)).alloc (.cells #[Vi L2, Vi s2, vn2, ve2] 25)) tab_ok hS0 ?_ (fun a wc hS hw => ?_))
  · subst hN hM
    refine zB rfl ?_
    refine zB rfl ?_
    repeat first|refine zP rfl ?_|refine zK rfl ?_
    exact o_nil ⟨⟨rfl, rfl, trivial⟩, rfl⟩
  have hB1 := below_alloc w (.cells #[Vi L1, Vi s1, vn1, ve1] 25)
  have hB2 := below_alloc (w.alloc (.cells #[Vi L1, Vi s1, vn1, ve1] 25)) (.cells #[Vi L2, Vi s2, vn2, ve2] 25)
  rw [← hw] at hB2
  have hx : Box wc M L1 s1 vn1 ve1 := by rw [hM]; exact (Box.new w L1 s1 vn1 ve1 25).keep hB2
  have hx2 : Box wc N L2 s2 vn2 ve2 := by rw [hw, hN]; exact Box.new _ _ _ _ _ _
  have hB := below_trans hB1 hB2
  clear hw hB1 hB2 hN hM
  replace hm := hm.keep hB
  replace hm2 := hm2.keep hB
  refine wp_seq (seq_cut [(2, Vp M), (3, Vp N), (7, Vi (twoM L1 s1 n1 f1 L2 s2 n2 f2))] (fun w' => RowKit.Below wc.heap.size wc w') tab_ok hS ?_ (fun a w1 hS hK => ?_))
  · refine zA ([Vi L1, Vi s1, vn1, ve1]) rfl rfl (hx.cells) ?_
    refine zA ([Vi L2, Vi s2, vn2, ve2]) rfl rfl (hx2.cells) ?_
    refine zF rfl (en_two) (two_any L1 s1 L2 s2 vn1 ve1 vn2 ve2 n1 n2 f1 f2 _ hm hm2) ?_
    rintro e w1 ⟨rfl, h1⟩
    refine ⟨_, rfl, ?_⟩
    repeat first|refine zP rfl ?_|refine zK rfl ?_
    exact o_nil ⟨⟨rfl, rfl, rfl, trivial⟩, h1⟩
  replace hB := below_trans hB hK
  replace hm := hm.keep hK
  replace hm2 := hm2.keep hK
  replace hx := hx.keep hK
  replace hx2 := hx2.keep hK
  clear hK
  refine wp_seq (wp_seq (seq_cut [(2, Vp M), (3, Vp N), (7, Vi (twoM L1 s1 n1 f1 L2 s2 n2 f2)), (19, .bool (decide (twoM L1 s1 n1 f1 L2 s2 n2 f2 ≠ 0)))] (· = w1) tab_ok hS ?_ (fun a w2 hS hw => ?_)))
  · repeat first|refine zP rfl ?_|refine zK rfl ?_
    refine zC rfl (rfl) ?_
    exact o_nil ⟨⟨rfl, rfl, rfl, rfl, trivial⟩, rfl⟩
  subst hw
  refine cond hS rfl (fun hT => ?_) (fun hF => ?_)
  · refine wp_seq (seq_cut [(4, .slice none 0 0), (5, .bool false), (6, Vi (twoM L1 s1 n1 f1 L2 s2 n2 f2))] (· = w2) tab_ok hS ?_ (fun a w3 hS hw => ?_))
    · repeat first|refine zP rfl ?_|refine zK rfl ?_
      exact o_nil ⟨⟨rfl, rfl, rfl, trivial⟩, rfl⟩
    subst hw
    refine wp_ret ?_
    repeat (first | refine then_ret ?_ | refine block_ret ?_)
    exact ret3 hS rfl rfl rfl rfl ⟨_, [], false, _, rfl, ⟨none, 0, 0, 0, rfl, fun h => by simp at h, by simp, by simp, fun i hi => by simp at hi⟩, .inl (.inl rfl), hB, .inl ⟨of_decide_eq_true hT, rfl, rfl, rfl⟩⟩
  have h20 : twoM L1 s1 n1 f1 L2 s2 n2 f2 = 0 := by have := of_decide_eq_false hF; omega
  obtain ⟨v1, v2, hLL⟩ := two_zero h20
  obtain ⟨hs1, hL1, hn1⟩ := shape_of_valid v1
  obtain ⟨hs2, hL2, hn2⟩ := shape_of_valid v2
  refine wp_skip ?_
  refine wp_seq (differ_r4 hx hx2 hm hm2 hs1 hs2 hL1 hL2 hn1 hn2 (by rfl) (hS.sub ⟨rfl, rfl, rfl, trivial⟩) (fun x a w3 hS h3 => ?_))
  obtain ⟨X, Y⟩ := x
  obtain ⟨hK3, ⟨sa, vna, vea, na, fa, hA⟩, sb, vnb, veb, nb, fb, hBv⟩ := h3
  dsimp only at hS hA hBv
  have hB3 := below_trans hB hK3
  have hla := hA.len
  have hlb := hBv.len
  have isA : I64 sa := by
    have a := hA.canon.shape.s1
    have b := hA.canon.shape.s2
    exact ⟨by omega, by omega⟩
  have isB : I64 sb := by
    have a := hBv.canon.shape.s1
    have b := hBv.canon.shape.s2
    exact ⟨by omega, by omega⟩
  have mA : MaV w3 X L1 sa na fa vna vea := ⟨hA.m.ma hm.L isA, ⟨hA.o.cell (i := 0) rfl, hA.o.cell (i := 1) rfl, hA.o.cell (i := 2) rfl, hA.o.cell (i := 3) rfl⟩⟩
  have mB : MaV w3 Y L2 sb nb fb vnb veb := ⟨hBv.m.ma hm2.L isB, ⟨hBv.o.cell (i := 0) rfl, hBv.o.cell (i := 1) rfl, hBv.o.cell (i := 2) rfl, hBv.o.cell (i := 3) rfl⟩⟩
  have sA := hA.canon.shape
  have sB := hBv.canon.shape
  have alA := hA.alike
  have alB := hBv.alike
  rw [← hLL] at sB alB mB
  have hcap : (na.length + 1) * (nb.length + 1) < 100000000 := Nat.lt_of_le_of_lt (Nat.mul_le_mul (by omega : na.length + 1 ≤ 4001) (by omega : nb.length + 1 ≤ 4001)) (by decide)
  have hW := walk_all sA sB false (max := 1073741824) (by decide) (by omega)
  have hfew := hW.few sA sB
  clear hA hBv isA isB hK3 hB hx hx2 hm hm2 hF
  refine wp_seq (seq_cutx (α := Nat × Value × Value × Value) (fun x => [(8, Vp X), (9, Vp Y), (10, Vp x.1)]) (fun x w' => RowKit.Below w3.heap.size w3 w' ∧ WalkV w' x.1 x.2.1 x.2.2.1 x.2.2.2 (walkM L1 sa na sb nb false 1073741824)) tab_ok hS ?_ (fun x a w4 hS h4 => ?_))
  · refine zA ([Vi L1, Vi sa, vna, vea]) rfl rfl (mA.b.cells) ?_
    refine zA ([Vi L1, Vi sb, vnb, veb]) rfl rfl (mB.b.cells) ?_
    refine zF rfl (en_walked) (walked_any L1 sa L1 sb vna vea vnb veb na nb fa fb false 1073741824 _ mA.m mB.m sA sB rfl hL1 (by decide) hcap) ?_
    rintro e w4 ⟨Wb, vp, vl, vf, rfl, h4, h5⟩
    refine ⟨_, rfl, ?_⟩
    generalize walkM L1 sa na sb nb false 1073741824 = s at *
    have hI : ∀ x ∈ s.ps, I64 x.1 ∧ I64 x.2 := fun x hx => by
      obtain ⟨a, b, c, d⟩ := hW.range sA sB hx
      exact ⟨⟨by omega, by omega⟩, ⟨by omega, by omega⟩⟩
    have hp := h4.slp hI
    have hl := (sl_own (P := PInt) (l := s.ls) h4.l rfl (fun i hi => ⟨_, by simp [hi], rfl, by
      have hi' : i < s.ps.length := by have := hW.f; omega
      rcases Nat.eq_zero_or_pos i with h0 | h0
      · subst h0
        by_cases hg : goneP false (sa, sb)
        · have := hW.none hg; rw [this] at hi'; simp at hi'
        · have := (hW.first hg).2
          rw [getD_lt hi] at this
          rw [this]; exact ⟨by decide, by decide⟩
      · obtain ⟨f, l, a1, a2, a3, a4, a5, a6⟩ := hW.link i h0 hi'
        rw [getD_lt hi] at a1
        rw [a1]; exact ⟨by omega, by omega⟩⟩)).1
    have hf := (sl_own (P := PRaw) (l := s.fs) h4.f rfl (fun i hi => ⟨_, by simp [hi], rfl⟩)).1
    obtain ⟨g1, m1, c1, hv1⟩ := own_form h4.p
    obtain ⟨g2, m2, c2, hv2⟩ := own_form h4.l
    obtain ⟨g3, m3, c3, hv3⟩ := own_form h4.f
    subst hv1 hv2 hv3
    refine zB rfl ?_
    have hnew := OwnB.new w4 [.slice none 0 0, .slice none 0 0, .slice none 0 0] 86
    refine o_step0 rfl rfl (And.intro rfl (And.intro rfl (And.intro (own_cells3 hnew) ?_)))
    have hg := grown_sets w4.heap.size [.slice g1 m1 c1, .slice g2 m2 c2, .slice g3 m3 c3] 0 (w4.alloc (.cells #[.slice none 0 0, .slice none 0 0, .slice none 0 0] 86))
    have hb := below_of_grown (below_alloc w4 (.cells #[.slice none 0 0, .slice none 0 0, .slice none 0 0] 86)) hg (fun q hq => by cases hq; exact Nat.le_refl _)
    have hs := hnew.sets (us := [.slice g1 m1 c1, .slice g2 m2 c2, .slice g3 m3 c3]) rfl
    repeat first|refine zP rfl ?_|refine zK rfl ?_
    exact o_nil ⟨(w4.heap.size, .slice g1 m1 c1, .slice g2 m2 c2, .slice g3 m3 c3), ⟨rfl, rfl, rfl, trivial⟩, below_trans h5 hb, ⟨⟨hs.cell (i := 0) rfl, hs.cell (i := 1) rfl, hs.cell (i := 2) rfl, trivial⟩, hp.keep hb, hl.keep hb (fun _ _ h => h), hf.keep hb (fun _ _ h => h)⟩⟩
  obtain ⟨K, vp, vl, vf⟩ := x
  obtain ⟨hK4, hV⟩ := h4
  dsimp only at hS hV
  generalize walkM L1 sa na sb nb false 1073741824 = s at hW hfew hV
  have hB4 := below_trans hB3 hK4
  replace mA := mA.keep hK4
  replace mB := mB.keep hK4
  have hpr : ∀ i (h : i < s.ps.length), -1 ≤ s.ps[i].1 ∧ s.ps[i].1 < na.length ∧ -1 ≤ s.ps[i].2 ∧ s.ps[i].2 < nb.length := fun i h => hW.range sA sB (List.getElem_mem h)
  have hlL := hW.f
  have hfL := hW.l
  have hFA := sA.fin
  have hFB := sB.fin
  clear hB3 hK4
  refine wp_seq (wp_seq (seq_cut [(8, Vp X), (9, Vp Y), (10, Vp K), (11, Vi 0)] (· = w4) tab_ok hS ?_ (fun a w5 hS hw => ?_)))
  · repeat first|refine zP rfl ?_|refine zK rfl ?_
    exact o_nil ⟨⟨rfl, rfl, rfl, rfl, trivial⟩, rfl⟩
  subst hw
  refine wp_block (loop0 hS (fun g E wr => ∃ i : Nat, i ≤ s.ps.length ∧ g = s.ps.length - i ∧ E = [(8, Vp X), (9, Vp Y), (10, Vp K), (11, Vi i)] ∧ RowKit.Below w5.heap.size w5 wr ∧ ∀ j, j < i → apartP fa fb (s.ps.getD j (0, 0)) = false)
    s.ps.length ⟨0, Nat.zero_le _, rfl, rfl, RowKit.Below.refl _ _, fun j hj => by omega⟩ ?_)
  clear hS
  rintro g E wr a1 ⟨i, hi, rfl, rfl, hb, hno⟩ hS
  have hVr := hV.keep hb
  obtain ⟨ap, bp, op, cp, hvp, p1, p2, p3, p4⟩ := id hVr.p
  refine wp_seq (wp_seq (seq_cut [(8, Vp X), (9, Vp Y), (10, Vp K), (11, Vi i), (32, .bool (decide ((i : Int) < s.ps.length)))] (· = wr) tab_ok hS ?_ (fun a w6 hS hw => ?_)))
  · subst hvp
    repeat first|refine zP rfl ?_|refine zK rfl ?_
    refine zL rfl (hVr.c.1) ?_
    repeat first|refine zP rfl ?_|refine zK rfl ?_
    refine zC rfl (rfl) ?_
    exact o_nil ⟨⟨rfl, rfl, rfl, rfl, rfl, trivial⟩, rfl⟩
  subst hw
  refine cond hS rfl (fun hT => ?_) (fun hF => ?_)
  case refine_2 =>
    refine wp_exit ?_
    repeat (first | refine then_exit ?_ | refine block_exit ?_ | refine block_other rfl ?_)
    obtain rfl : i = s.ps.length := by have := of_decide_eq_false hF; omega
    refine wp_seq (seq_cut [(4, .slice none 0 0), (5, .bool false), (6, Vi 7)] (· = w6) tab_ok hS ?_ (fun a w8 hS hw => ?_))
    · repeat first|refine zP rfl ?_|refine zK rfl ?_
      exact o_nil ⟨⟨rfl, rfl, rfl, trivial⟩, rfl⟩
    subst hw
    refine wp_ret ?_
    repeat (first | refine then_ret ?_ | refine block_ret ?_)
    exact ret3 hS rfl rfl rfl rfl ⟨_, [], false, _, rfl, ⟨none, 0, 0, 0, rfl, fun h => by simp at h, by simp, by simp, fun i hi => by simp at hi⟩, .inl (.inl rfl), below_trans hB4 hb, .inr ⟨h20, .inr ⟨rfl, rfl, rfl, alA.symm.trans ((diff_none hW hno).trans alB)⟩⟩⟩
  have hlt : i < s.ps.length := by have := of_decide_eq_true hT; omega
  obtain rfl := p1 (by omega)
  obtain ⟨r1, r2, r3, r4⟩ := hpr i hlt
  have hpd : s.ps.getD i (0, 0) = s.ps[i] := getD_lt hlt
  refine wp_skip ?_
  refine wp_seq (wp_block ?_)
  obtain ⟨B, hBq⟩ : ∃ B, B = w6.heap.size := ⟨_, rfl⟩
  refine wp_seq (seq_cut [(8, Vp X), (9, Vp Y), (10, Vp K), (11, Vi i), (12, Vp B)] (· = newP w6 s.ps[i].1 s.ps[i].2) tab_ok hS ?_ (fun a w7 hS hw => ?_))
  · subst hBq
    subst hvp
    repeat first|refine zP rfl ?_|refine zK rfl ?_
    refine zL rfl (hVr.c.1) ?_
    repeat first|refine zP rfl ?_|refine zK rfl ?_
    refine zI rfl (rfl) (hlt) ?_
    refine zA ([Vi s.ps[i].1, Vi s.ps[i].2]) rfl rfl ((p4 i hlt).1) ?_
    refine zB rfl ?_
    refine o_step0 rfl rfl (And.intro rfl (And.intro rfl (And.intro (own_cells2 (OwnB.new w6 [Vi 0, Vi 0] 50)) ?_)))
    exact o_nil ⟨⟨rfl, rfl, rfl, rfl, rfl, trivial⟩, rfl⟩
  have hP := newP_below w6 s.ps[i].1 s.ps[i].2
  have hp := newP_box w6 s.ps[i].1 s.ps[i].2
  rw [← hw] at hP hp
  rw [← hBq] at hp
  have hb7 := below_trans hb hP
  clear hw hP hBq hb hVr p1 p2 p3 p4 hvp
  obtain ⟨ea, hea⟩ : ∃ ea, endsM fa s.ps[i].1 = ea := ⟨_, rfl⟩
  obtain ⟨eb, heb⟩ : ∃ eb, endsM fb s.ps[i].2 = eb := ⟨_, rfl⟩
  refine wp_seq (quiet_cut [(8, Vp X), (9, Vp Y), (10, Vp K), (11, Vi i), (12, Vp B), (48, .bool (ea != eb))] tab_ok mixed (by kernel_rfl) hS ?_ (fun a w8 hS hw => ?_))
  · have m1 := mA.keep hb7
    have m2 := mB.keep hb7
    refine qA ([Vi L1, Vi sa, vna, vea]) rfl rfl (m1.b.cells) ?_
    repeat first|refine qP rfl ?_|refine qK rfl ?_
    refine qL rfl (hp.c0) ?_
    refine qF (.bool ea) rfl (en_ends') (fun w1 h1 => hea ▸ ends_any L1 sa vna vea fa s.ps[i].1 w1 ((m1.keep h1).m.e) (by omega)) ?_
    refine qA ([Vi L1, Vi sb, vnb, veb]) rfl rfl (m2.b.cells) ?_
    repeat first|refine qP rfl ?_|refine qK rfl ?_
    refine qL rfl (hp.c1) ?_
    refine qF (.bool eb) rfl (en_ends') (fun w1 h1 => heb ▸ ends_any L1 sb vnb veb fb s.ps[i].2 w1 ((m2.keep h1).m.e) (by omega)) ?_
    refine qC rfl (rfl) ?_
    exact q_nil ⟨rfl, rfl, rfl, rfl, rfl, rfl, trivial⟩
  have hb8 := below_trans hb7 hw
  have hp8 := hp.keep hw
  have hap : apartP fa fb s.ps[i] = (ea != eb) := by rw [apartP, hea, heb]
  clear hb7 hp hw
  refine cond hS rfl (fun hT => ?_) (fun hF => ?_)
  case refine_2 =>
    refine wp_skip ?_
    refine block_normal ?_
    refine then_normal ?_
    refine seq_cut [(8, Vp X), (9, Vp Y), (10, Vp K), (11, Vi (i + 1 : Nat))] (· = w8) tab_ok hS ?_ (fun a w9 hS hw => ?_)
    · repeat first|refine zP rfl ?_|refine zK rfl ?_
      refine zN rfl (wrap_succ (by omega)) ?_
      repeat first|refine zP rfl ?_|refine zK rfl ?_
      exact o_nil ⟨⟨rfl, rfl, rfl, rfl, trivial⟩, rfl⟩
    subst hw
    refine ⟨s.ps.length - (i + 1), _, by omega, ⟨i + 1, hlt, rfl, rfl, hb8, fun j hj => ?_⟩, hS⟩
    rcases Nat.lt_or_ge j i with h1 | h1
    · exact hno j h1
    · obtain rfl : j = i := by omega
      rw [hpd, hap]; exact hF
  have hDI := diff_at hW hlt (by rw [hpd, hap]; exact hT) hno
  have hwl := (hW.words (i + 1) i (Nat.lt_succ_self _) hlt).len
  obtain ⟨O, hO⟩ : ∃ O, O = w8.heap.size := ⟨_, rfl⟩
  refine wp_seq (seq_cut [(8, Vp X), (9, Vp Y), (10, Vp K), (11, Vi i), (12, Vp B), (13, Vs O 0 0)] (· = w8.alloc (.cells #[] 3)) tab_ok hS ?_ (fun a w9 hS hw => ?_))
  · subst hO
    repeat first|refine zP rfl ?_|refine zK rfl ?_
    refine o_step rfl rfl rfl ?_
    refine Exists.intro [] (Exists.intro #[] (And.intro (And.intro rfl rfl) (And.intro (by decide) (And.intro (by simp [Instr.fill, madeCells]) ?_))))
    repeat first|refine zP rfl ?_|refine zK rfl ?_
    exact o_nil ⟨⟨rfl, rfl, rfl, rfl, rfl, rfl, trivial⟩, rfl⟩
  have hb9 : RowKit.Below w8.heap.size w8 w9 := by rw [hw]; exact below_alloc _ _
  clear hw hO
  refine wp_seq (cut (F := fun a' w' => ∃ v : Value, St Try.f26.ntmps a' [(8, Vp X), (12, Vp B), (13, v)] ∧ RowKit.Below w8.heap.size w8 w' ∧ Sl w' v ((wordW s i).map Int.ofNat) PInt ∧ Ok v) ?_ ?_)
  · refine wp_seq (seq_cut [(8, Vp X), (9, Vp Y), (10, Vp K), (12, Vp B), (13, Vs O 0 0), (14, Vi i)] (· = w9) tab_ok hS ?_ (fun a w10 hS hw => ?_))
    · repeat first|refine zP rfl ?_|refine zK rfl ?_
      exact o_nil ⟨⟨rfl, rfl, rfl, rfl, rfl, rfl, trivial⟩, rfl⟩
    subst hw
    refine wp_block (loop0 hS (fun g E wr => ∃ (k : Nat) (u : List Nat) (v : Value), k < s.ps.length ∧ g = k ∧ E = [(8, Vp X), (9, Vp Y), (10, Vp K), (12, Vp B), (13, v), (14, Vi k)] ∧ RowKit.Below w8.heap.size w8 wr ∧ Sl wr v (u.map Int.ofNat) PInt ∧ Ok v ∧ wordW s i = wordW s k ++ u)
      i ⟨i, [], _, hlt, rfl, rfl, hb9, ⟨_, O, 0, 0, rfl, fun _ => rfl, by simp, by simp, fun j hj => by simp at hj⟩, .inr ⟨_, _, _, _, rfl⟩, by simp⟩ ?_)
    clear hS hb9
    rintro k E wr a1 ⟨_, u, v, hk, rfl, rfl, hbr, hsv, hokv, hword⟩ hS
    have hVr := hV.keep (below_trans hb8 hbr)
    obtain ⟨al, bl, ol, cl, hvl, l1, l2, l3, l4⟩ := id hVr.l
    obtain ⟨af, bf, of', cf, hvf, q1, q2, q3, q4⟩ := id hVr.f
    obtain rfl := l1 (by omega)
    obtain rfl := q1 (by omega)
    obtain ⟨x, hx1, rfl, -⟩ := l4 k (by omega)
    refine wp_seq (wp_seq (seq_cut [(8, Vp X), (9, Vp Y), (10, Vp K), (12, Vp B), (13, v), (14, Vi k), (56, .bool (decide (0 ≤ s.ls[k]'(by omega))))] (· = wr) tab_ok hS ?_ (fun a w11 hS hw => ?_)))
    · subst hvl
      repeat first|refine zP rfl ?_|refine zK rfl ?_
      refine zL rfl (hVr.c.2.1) ?_
      repeat first|refine zP rfl ?_|refine zK rfl ?_
      refine zI rfl (rfl) ((by omega : k < s.ls.length)) ?_
      refine zL rfl (hx1) ?_
      refine zC rfl (rfl) ?_
      exact o_nil ⟨⟨rfl, rfl, rfl, rfl, rfl, rfl, rfl, trivial⟩, rfl⟩
    subst hw
    have hls : s.ls.getD k 0 = s.ls[k]'(by omega) := getD_lt (by omega)
    rcases Nat.eq_zero_or_pos k with hk0 | hk0
    · subst hk0
      have hng : ¬ goneP false (sa, sb) := fun hg => by
        have := hW.none hg
        rw [this] at hk; simp at hk
      have h1 := (hW.first hng).2
      rw [hls] at h1
      refine cond hS rfl (fun hT => ?_) (fun hF => ?_)
      · exfalso
        have := of_decide_eq_true hT
        omega
      refine wp_exit ?_
      repeat (first | refine then_exit ?_ | refine block_exit ?_ | refine block_other rfl ?_)
      rw [wordW_zero hW hk, List.nil_append] at hword
      rw [hword]
      exact ⟨v, hS.sub ⟨rfl, rfl, rfl, trivial⟩, hbr, hsv, hokv⟩
    obtain ⟨f, l, a1', a2, a3, a4, a5, a6⟩ := hW.link k hk0 hk
    have hwk := wordW_link hW hk0 hk a1' a2 a3
    rw [hls] at a1'
    refine cond hS rfl (fun hT => ?_) (fun hF => ?_)
    case refine_2 =>
      exfalso
      have := of_decide_eq_false hF
      omega
    refine wp_skip ?_
    refine wp_seq (wp_block ?_)
    obtain ⟨y, hy1, rfl⟩ := q4 k (by omega)
    have hfs : s.fs[k]'(by omega) = (l : Int) := by rw [← a2]; exact (getD_lt (by omega)).symm
    rw [hfs] at hy1
    have hul : u.length ≤ i := by
      have := congrArg List.length hword
      rw [List.length_append] at this
      omega
    obtain ⟨au, cu, hvu⟩ := hsv.len
    refine seq_cutx (α := Value) (fun v' => [(8, Vp X), (9, Vp Y), (10, Vp K), (12, Vp B), (13, v'), (14, Vi k)]) (fun v' w' => RowKit.Below w11.heap.size w11 w' ∧ Sl w' v' ((l :: u).map Int.ofNat) PInt ∧ Ok v') tab_ok hS ?_ (fun v' a w12 hS h12 => ?_)
    · subst hvf
      repeat first|refine zP rfl ?_|refine zK rfl ?_
      refine zL rfl (hVr.c.2.2.1) ?_
      repeat first|refine zP rfl ?_|refine zK rfl ?_
      refine zI rfl (rfl) ((by omega : k < s.fs.length)) ?_
      refine zL rfl (hy1) ?_
      repeat first|refine zP rfl ?_|refine zK rfl ?_
      refine o_step rfl rfl rfl ?_
      refine Exists.intro [(0, Vi ((l : Int)))] (Exists.intro #[Vi ((l : Int))] (And.intro (And.intro rfl rfl) (And.intro (by decide) (And.intro (fillI _ _ _) ?_))))
      have hy2 := below_alloc w11 (.cells #[Vi l] 3)
      have hl := World.ownsRow_lit (base := w11.heap.size) (e := 3) (size := 1) w11 #[Vi l] 1 (Nat.le_refl _) (by unfold maxLen; omega) (by simp)
      have ask := ask_of (e := ⟨3, .int .i64, 1, 8, Vi 0⟩) hl (src_of (f := Value.int .i64) (hsv.keep hy2 (fun _ _ h => h)) hokv (fun _ _ h => h.1)) rfl (fun _ => rfl) (by simp; omega) (by simp only [List.length_map]; show (1 + _) * 8 ≤ _; omega) hy2.size
      subst hvu
      repeat first|refine zP rfl ?_|refine zK rfl ?_
      refine o_step rfl rfl rfl ?_
      refine Exists.intro _ (Exists.intro _ (Exists.intro _ (Exists.intro _ (Exists.intro _ (And.intro (ask) (And.intro (fun _ h => h.symm) (And.intro (by decide) ?_)))))))
      rintro v' w12 hown hgr - -
      have h12 := below_of_grown hy2 hgr (fun q hq => by simp only [Value.ownBlock, Option.some.injEq] at hq; omega)
      have hIu : ∀ x ∈ (l :: u).map Int.ofNat, I64 x := fun x hx => by
        rw [List.map_cons, List.mem_cons] at hx
        rcases hx with rfl | hx
        · exact ⟨by show _ ≤ (l : Int); omega, by show (l : Int) ≤ _; omega⟩
        · obtain ⟨j, hj, rfl⟩ := List.mem_iff_getElem.1 hx
          obtain ⟨_, _, _, _, _, _, _, _, g4⟩ := hsv
          obtain ⟨_, _, _, hI⟩ := g4 j hj
          exact hI
      have hcs : (#[Vi l].toList ++ (u.map Int.ofNat).map (Value.int .i64)) = ((l :: u).map Int.ofNat).map (Value.int .i64) := rfl
      rw [hcs] at hown
      have hsl := sl_own (P := PInt) (l := (l :: u).map Int.ofNat) hown (by simp; omega) (fun j hj => ⟨_, by rw [List.getElem?_map, List.getElem?_eq_getElem hj]; rfl, rfl, hIu _ (List.getElem_mem hj)⟩)
      repeat first|refine zP rfl ?_|refine zK rfl ?_
      exact o_nil ⟨v', ⟨rfl, rfl, rfl, rfl, rfl, rfl, trivial⟩, h12, hsl⟩
    obtain ⟨hb12, hsv12, hok12⟩ := h12
    have hVr2 := hVr.keep hb12
    refine block_normal ?_
    refine then_normal ?_
    refine seq_cut [(8, Vp X), (9, Vp Y), (10, Vp K), (12, Vp B), (13, v'), (14, Vi f)] (· = w12) tab_ok hS ?_ (fun a w13 hS hw => ?_)
    · subst hvl
      have hx2 := Ythcoppfiahnpoaa.keep hb12 hx1
      rw [a1'] at hx2
      repeat first|refine zP rfl ?_|refine zK rfl ?_
      refine zL rfl (hVr2.c.2.1) ?_
      repeat first|refine zP rfl ?_|refine zK rfl ?_
      refine zI rfl (rfl) ((by omega : k < s.ls.length)) ?_
      refine zL rfl (hx2) ?_
      repeat first|refine zP rfl ?_|refine zK rfl ?_
      exact o_nil ⟨⟨rfl, rfl, rfl, rfl, rfl, rfl, trivial⟩, rfl⟩
    subst hw
    exact ⟨f, _, a3, ⟨f, l :: u, v', by omega, rfl, rfl, below_trans hbr hb12, hsv12, hok12, by rw [hword, hwk]; simp⟩, hS⟩
  rintro a w10 ⟨v, hS, hb10, hsv, hokv⟩
  have hb10' := below_trans hb8 hb10
  have m10 := mA.keep hb10'
  have hp10 := hp8.keep hb10
  refine wp_seq (seq_cut [(4, v), (5, .bool ea), (6, Vi 0)] (fun w' => RowKit.Below w10.heap.size w10 w') tab_ok hS ?_ (fun a w11 hS h11 => ?_))
  · repeat first|refine zP rfl ?_|refine zK rfl ?_
    refine zA ([Vi L1, Vi sa, vna, vea]) rfl rfl (m10.b.cells) ?_
    repeat first|refine zP rfl ?_|refine zK rfl ?_
    refine zL rfl (hp10.c0) ?_
    refine zF rfl (en_ends') (hea ▸ ends_any L1 sa vna vea fa s.ps[i].1 _ m10.m.e (by omega)) ?_
    rintro e w11 ⟨rfl, h11⟩
    refine ⟨_, rfl, ?_⟩
    repeat first|refine zP rfl ?_|refine zK rfl ?_
    exact o_nil ⟨⟨rfl, rfl, rfl, trivial⟩, h11⟩
  rw [hpd, hea] at hDI
  refine wp_ret ?_
  repeat (first | refine then_ret ?_ | refine block_ret ?_)
  exact ret3 hS rfl rfl rfl rfl ⟨v, wordW s i, ea, 0, rfl, hsv.keep h11 (fun _ _ h => h), hokv, below_trans (below_trans hB4 hb10') h11, .inr ⟨h20, hDI.of_alike alA alB⟩⟩
end Go.Proofs.Ythcoppfiahnpoaa
namespace Go.Proofs.Ythcoppfiahnpoaa
open Go Sym
theorem en_Differ : enters Try.prog 26 = true := by kernel_rfl
set_option maxHeartbeats 1000000 in
theorem autoDiffers_any (C : AwakeC) (L1 s1 L2 s2 : Int) (vn1 ve1 vn2 ve2 : Value) (n1 n2 : List (List Int)) (f1 f2 : List Bool) (w : World)
    (hi1 : MaIn w L1 s1 n1 f1 vn1 ve1) (hi2 : MaIn w L2 s2 n2 f2 vn2 ve2) :
    Calls Try.prog 6 #[.agg #[Vi L1, Vi s1, vn1, ve1], .agg #[Vi L2, Vi s2, vn2, ve2]] w fun e w' => e = .returned (.bool true) ∧ RowKit.Below w.heap.size w w' := by
  refine Sym.enter (args := [.agg #[Vi L1, Vi s1, vn1, ve1], .agg #[Vi L2, Vi s2, vn2, ve2]]) Try.func6 rfl rfl rfl (fun a0 hS0 => ?_)
  obtain ⟨N, hN⟩ : ∃ N, N = (w.alloc (.cells #[Vi L1, Vi s1, vn1, ve1] 25)).heap.size := ⟨_, rfl⟩
  obtain ⟨M, hM⟩ : ∃ M, M = w.heap.size := ⟨_, rfl⟩
  refine wp_seq (seq_cut [(2, Vp M), (3, Vp N)] (· = (w.alloc (.cells #[Vi L1, Vi s1, vn1, ve1] 25)).alloc (.cells #[Vi L2, Vi s2, vn2, ve2] 25)) tab_ok hS0 ?_ (fun a wc hS hw => ?_))
  · subst hN hM
    refine zB rfl ?_
    refine zB rfl ?_
    repeat first|refine zP rfl ?_|refine zK rfl ?_
    exact o_nil ⟨⟨rfl, rfl, trivial⟩, rfl⟩
  have hB1 := below_alloc w (.cells #[Vi L1, Vi s1, vn1, ve1] 25)
  have hB2 := below_alloc (w.alloc (.cells #[Vi L1, Vi s1, vn1, ve1] 25)) (.cells #[Vi L2, Vi s2, vn2, ve2] 25)
  rw [← hw] at hB2
  have hx : Box wc M L1 s1 vn1 ve1 := by rw [hM]; exact (Box.new w L1 s1 vn1 ve1 25).keep hB2
  have hy : Box wc N L2 s2 vn2 ve2 := by rw [hw, hN]; exact Box.new _ _ _ _ _ _
  have hB := below_trans hB1 hB2
  clear hw hB1 hB2 hN hM
  have hm := hi1.ma.keep hB
  have hm2 := hi2.ma.keep hB
  obtain ⟨b28, hb28⟩ : ∃ b, (!smallM L1 n1 f1 || !smallM L2 n2 f2) = b := ⟨_, rfl⟩
  refine wp_seq (wp_seq (seq_cut [(2, Vp M), (3, Vp N), (18, .bool b28)] (fun w' => RowKit.Below wc.heap.size wc w') tab_ok hS ?_ (fun a w1 hS hw => ?_)))
  · refine zA ([Vi L1, Vi s1, vn1, ve1]) rfl rfl (hx.cells) ?_
    refine zF rfl (en_small') (small_any L1 s1 vn1 ve1 n1 f1 _ hm) ?_
    rintro e w1 ⟨rfl, h1⟩
    refine ⟨_, rfl, ?_⟩
    cases e1 : !smallM L1 n1 f1
    case true =>
      rw [e1, Bool.true_or] at hb28; subst hb28
      refine zP rfl ?_
      rw [e1]
      repeat first|refine zP rfl ?_|refine zK rfl ?_
      exact o_nil ⟨⟨rfl, rfl, rfl, trivial⟩, h1⟩
    rw [e1, Bool.false_or] at hb28
    refine zP rfl ?_
    rw [e1]
    repeat first|refine zP rfl ?_|refine zK rfl ?_
    refine zA ([Vi L2, Vi s2, vn2, ve2]) rfl rfl ((hy.keep h1).cells) ?_
    refine zF rfl (en_small') (small_any L2 s2 vn2 ve2 n2 f2 _ (hm2.keep h1)) ?_
    rintro e w2 ⟨rfl, h2⟩
    refine ⟨_, rfl, ?_⟩
    refine zP rfl ?_
    rw [hb28]
    repeat first|refine zP rfl ?_|refine zK rfl ?_
    exact o_nil ⟨⟨rfl, rfl, rfl, trivial⟩, below_trans h1 h2⟩
  replace hB := below_trans hB hw
  replace hx := hx.keep hw
  replace hy := hy.keep hw
  replace hm := hm.keep hw
  replace hm2 := hm2.keep hw
  clear hw
  refine cond hS rfl (fun hT => ?_) (fun hF => ?_)
  · refine wp_seq (seq_cut [(4, .bool true)] (fun w' => RowKit.Below w1.heap.size w1 w') tab_ok hS ?_ (fun a w2 hS hw => ?_))
    · refine zF rfl (en_awake) (awake_any C _) ?_
      rintro e w2 ⟨rfl, h2⟩
      refine ⟨_, rfl, ?_⟩
      repeat first|refine zP rfl ?_|refine zK rfl ?_
      exact o_nil ⟨⟨rfl, trivial⟩, h2⟩
    refine wp_ret ?_
    repeat (first | refine then_ret ?_ | refine block_ret ?_)
    exact ret1 hS rfl rfl ⟨rfl, below_trans hB hw⟩
  rw [hF] at hb28
  simp only [Bool.or_eq_false_iff, Bool.not_eq_false'] at hb28
  obtain ⟨g1, g2⟩ := hb28
  have hs1 : n1.length ≤ 30 := by simp only [smallM, Bool.and_eq_true, decide_eq_true_eq] at g1; omega
  have hs2 : n2.length ≤ 30 := by simp only [smallM, Bool.and_eq_true, decide_eq_true_eq] at g2; omega
  refine wp_skip ?_
  refine wp_seq (seq_cutx (α := Value × List Nat × Bool × Int) (fun x => [(2, Vp M), (3, Vp N), (5, x.1), (6, .bool x.2.2.1), (7, Vi x.2.2.2)]) (fun x w' => RowKit.Below w1.heap.size w1 w' ∧ Sl w' x.1 (x.2.1.map Int.ofNat) PInt ∧ DiffE L1 s1 n1 f1 L2 s2 n2 f2 x.2.1 x.2.2.1 x.2.2.2) tab_ok hS ?_ (fun x a w2 hS h2 => ?_))
  · refine zA ([Vi L1, Vi s1, vn1, ve1]) rfl rfl (hx.cells) ?_
    refine zA ([Vi L2, Vi s2, vn2, ve2]) rfl rfl (hy.cells) ?_
    refine zF rfl (en_Differ) (differ_any L1 s1 L2 s2 vn1 ve1 vn2 ve2 n1 n2 f1 f2 _ hm hm2) ?_
    rintro e w2 ⟨vw, word, b, r, rfl, h1, h2, h3, h4⟩
    refine ⟨_, rfl, ?_⟩
    repeat first|refine zP rfl ?_|refine zK rfl ?_
    exact o_nil ⟨(vw, word, b, r), ⟨rfl, rfl, rfl, rfl, rfl, trivial⟩, h3, h1, h4⟩
  obtain ⟨vw, word, b, r⟩ := x
  obtain ⟨hK2, hsw, hD⟩ := h2
  dsimp only at hS hsw hD
  have hB2 := below_trans hB hK2
  refine wp_seq (any_cutx (α := Value × List Nat × Bool × Int) 12 (fun x => [(5, vw), (6, .bool b), (7, Vi r), (8, x.1), (9, .bool x.2.2.1), (10, Vi x.2.2.2)]) (fun x w' => RowKit.Below w2.heap.size w2 w' ∧ Sl w' x.1 (x.2.1.map Int.ofNat) PInt ∧ DiffE L1 s1 n1 f1 L2 s2 n2 f2 x.2.1 x.2.2.1 x.2.2.2) mixed hS ?_ (fun x a w3 hS h3 => ?_))
  · have hy0 : RowKit.Below w2.drew.heap.size w2.drew w2.drew := RowKit.Below.refl _ _
    refine yT 0 tab_ok rfl (by kernel_rfl) hy0 rfl (Exists.intro ([Vi L1, Vi s1, vn1, ve1]) (And.intro rfl (And.intro ((hx.keep hK2).cells) rfl))) ?_
    refine yT 2 tab_ok rfl (by kernel_rfl) hy0 rfl (Exists.intro ([Vi L2, Vi s2, vn2, ve2]) (And.intro rfl (And.intro ((hy.keep hK2).cells) rfl))) ?_
    refine y_one 1 (by kernel_rfl) (y_op 1 tab_ok rfl rfl rfl rfl ?_)
    refine And.intro en_Copy ((hi1.copy (below_trans hB2 (below_drew w2))).mono ?_)
    rintro e w3 ⟨vn3, ve3, rfl, hm3, hb3⟩
    refine ⟨_, rfl, ?_⟩
    have hy3 := below_trans hy0 hb3
    refine And.intro (.inr hy3) ?_
    refine y_one 3 (by kernel_rfl) (y_op 3 tab_ok rfl rfl rfl rfl ?_)
    refine And.intro en_Copy ((hi2.copy (below_trans hB2 (undrew hy3))).mono ?_)
    rintro e w4 ⟨vn4, ve4, rfl, hm4, hb4⟩
    refine ⟨_, rfl, ?_⟩
    have hy4 := below_trans hy3 hb4
    refine And.intro (.inr hy4) ?_
    refine y_one 4 (by kernel_rfl) (y_op 4 tab_ok rfl rfl rfl rfl ?_)
    refine And.intro en_aDiffer ((C.differ L1 s1 L2 s2 vn3 ve3 vn4 ve4 n1 n2 f1 f2 w4 ((hm3.ma hi1.ma.L hi1.ma.s).keep hb4) (hm4.ma hi2.ma.L hi2.ma.s) (by omega) (by omega)).mono ?_)
    rintro e w5 ⟨vw', word', b', r', rfl, h1, h2, h3, h4⟩
    refine ⟨_, rfl, ?_⟩
    have hy5 := below_trans hy4 h3
    refine And.intro (.inr hy5) ?_
    refine yT 5 tab_ok rfl (by kernel_rfl) hy5 rfl (rfl) ?_
    refine yT 6 tab_ok rfl (by kernel_rfl) hy5 rfl (rfl) ?_
    refine yT 7 tab_ok rfl (by kernel_rfl) hy5 rfl (rfl) ?_
    refine yT 8 tab_ok rfl (by kernel_rfl) hy5 rfl (rfl) ?_
    refine yT 9 tab_ok rfl (by kernel_rfl) hy5 rfl (rfl) ?_
    refine yT 10 tab_ok rfl (by kernel_rfl) hy5 rfl (rfl) ?_
    refine yT 11 tab_ok rfl (by kernel_rfl) hy5 rfl (rfl) ?_
    exact y_endx (vw', word', b', r') (by kernel_rfl) ⟨rfl, rfl, rfl, rfl, rfl, rfl, trivial⟩ ⟨undrew hy5, h1, h4⟩
  obtain ⟨vw', word', b', r'⟩ := x
  obtain ⟨hK3, hsw', hD'⟩ := h3
  dsimp only at hS hsw' hD'
  obtain ⟨rfl, rfl, rfl⟩ := hD.one hD'
  have hB3 := below_trans hB2 hK3
  refine wp_seq (seq_cut [(4, .bool true)] (fun w' => RowKit.Below w3.heap.size w3 w') tab_ok hS ?_ (fun a w4 hS hw4 => ?_))
  · repeat first|refine zP rfl ?_|refine zK rfl ?_
    refine zC rfl (decide_eq_true rfl) ?_
    repeat first|refine zP rfl ?_|refine zK rfl ?_
    refine zC rfl (beq_self_eq_true _) ?_
    repeat first|refine zP rfl ?_|refine zK rfl ?_
    refine zF rfl (en_sameWord) (sameWord_any vw' vw _ _ _ hsw' (hsw.keep hK3 (fun _ _ h => h))) ?_
    rintro e w4 ⟨rfl, h4⟩
    refine ⟨_, rfl, ?_⟩
    rw [decide_eq_true rfl]
    repeat first|refine zP rfl ?_|refine zK rfl ?_
    refine zF rfl (en_awake) (awake_any C _) ?_
    rintro e w5 ⟨rfl, h5⟩
    refine ⟨_, rfl, ?_⟩
    repeat first|refine zP rfl ?_|refine zK rfl ?_
    exact o_nil ⟨⟨rfl, trivial⟩, below_trans h4 h5⟩
  refine wp_ret ?_
  repeat (first | refine then_ret ?_ | refine block_ret ?_)
  exact ret1 hS rfl rfl ⟨rfl, below_trans hB3 hw4⟩
end Go.Proofs.Ythcoppfiahnpoaa
namespace Go.Proofs.Ythcoppfiahnpoaa
abbrev gt (l : List Nat) (i : Nat) : Nat := l.getD i 0
theorem gt_set (l : List Nat) (i v j : Nat) : gt (l.set i v) j = if i = j ∧ i < l.length then v else gt l j := by
  simp only [gt, List.getD_eq_getElem?_getD, List.getElem?_set]
  split
  · rename_i h
    subst h
    split
    · simp [*]
    · rename_i h2
      simp [h2]
  · rename_i h
    simp [h]
theorem gt_app (l k : List Nat) (j : Nat) : gt (l ++ k) j = if j < l.length then gt l j else gt k (j - l.length) := by
  simp only [gt, List.getD_eq_getElem?_getD, List.getElem?_append]
  split <;> rfl
structure Blk where
  first : Nat
  size : Nat
  marked : Nat
  parent : Nat
abbrev gb (l : List Blk) (i : Nat) : Blk := l.getD i ⟨0, 0, 0, 0⟩
theorem gb_set (l : List Blk) (i : Nat) (v : Blk) (j : Nat) : gb (l.set i v) j = if i = j ∧ i < l.length then v else gb l j := by
  simp only [gb, List.getD_eq_getElem?_getD, List.getElem?_set]
  split
  · rename_i h
    subst h
    split
    · simp [*]
    · rename_i h2
      simp [h2]
  · rename_i h
    simp [h]
theorem gb_app (l : List Blk) (v : Blk) (j : Nat) : gb (l ++ [v]) j = if j < l.length then gb l j else if j = l.length then v else ⟨0, 0, 0, 0⟩ := by
  simp only [gb, List.getD_eq_getElem?_getD, List.getElem?_append]
  split
  · rfl
  · split
    · rename_i h; simp [h]
    · rename_i h1 h2
      rw [List.getElem?_eq_none (by simp; omega)]
      rfl
structure Pt where
  st : List Nat
  pl : List Nat
  bl : List Nat
  bs : List Blk
  cs : List Nat
  ml : List Nat
structure PI (p : Pt) (N : Nat) (todo : List Nat) : Prop where
  st : p.st.length = N
  pl : p.pl.length = N
  bl : p.bl.length = N
  sp : ∀ i, i < N → gt p.st i < N ∧ gt p.pl (gt p.st i) = i
  ps : ∀ s, s < N → gt p.pl s < N ∧ gt p.st (gt p.pl s) = s
  ib : ∀ s, s < N → gt p.bl s < p.bs.length
  inn : ∀ s, s < N → (gb p.bs (gt p.bl s)).first ≤ gt p.pl s ∧ gt p.pl s < (gb p.bs (gt p.bl s)).first + (gb p.bs (gt p.bl s)).size
  bd : ∀ b, b < p.bs.length → 0 < (gb p.bs b).size ∧ (gb p.bs b).marked ≤ (gb p.bs b).size ∧ (gb p.bs b).first + (gb p.bs b).size ≤ N
  own : ∀ b, b < p.bs.length → ∀ i, (gb p.bs b).first ≤ i → i < (gb p.bs b).first + (gb p.bs b).size → gt p.bl (gt p.st i) = b
  tm : ∀ b, b ∈ todo ↔ b < p.bs.length ∧ 0 < (gb p.bs b).marked
  nd : todo.Nodup
def Pt.M (p : Pt) (s : Nat) : Prop := gt p.pl s < (gb p.bs (gt p.bl s)).first + (gb p.bs (gt p.bl s)).marked
def Pt.mark (p : Pt) (s : Nat) : Pt :=
  let own := gt p.bl s
  let b := gb p.bs own
  let to := b.first + b.marked
  let fr := gt p.pl s
  let ot := gt p.st to
  { p with ml := if b.marked = 0 then p.ml ++ [own] else p.ml, st := (p.st.set to s).set fr ot, pl := (p.pl.set s to).set ot fr, bs := p.bs.set own ⟨b.first, b.size, b.marked + 1, b.parent⟩ }
theorem PI.to {p : Pt} {N : Nat} (h : PI p N p.ml) {s : Nat} (hs : s < N) (hm : ¬ p.M s) : (gb p.bs (gt p.bl s)).first + (gb p.bs (gt p.bl s)).marked < N ∧ (gb p.bs (gt p.bl s)).marked < (gb p.bs (gt p.bl s)).size := by
  unfold Pt.M at hm
  have h1 := h.inn s hs
  have h2 := h.bd _ (h.ib s hs)
  omega
theorem mark_ok {p : Pt} {N : Nat} (h : PI p N p.ml) {s : Nat} (hs : s < N) (hm : ¬ p.M s) : PI (p.mark s) N (p.mark s).ml ∧ (∀ t, t < N → ((p.mark s).M t ↔ p.M t ∨ t = s)) := by
  have ht := h.to hs hm
  have hb := h.ib s hs
  obtain ⟨own, hown⟩ : ∃ own, gt p.bl s = own := ⟨_, rfl⟩
  obtain ⟨b, hbb⟩ : ∃ b, gb p.bs own = b := ⟨_, rfl⟩
  obtain ⟨to, hto⟩ : ∃ to, b.first + b.marked = to := ⟨_, rfl⟩
  obtain ⟨fr, hfr⟩ : ∃ fr, gt p.pl s = fr := ⟨_, rfl⟩
  obtain ⟨ot, hot⟩ : ∃ ot, gt p.st to = ot := ⟨_, rfl⟩
  have hmk : p.mark s = { p with ml := if b.marked = 0 then p.ml ++ [own] else p.ml, st := (p.st.set to s).set fr ot, pl := (p.pl.set s to).set ot fr, bs := p.bs.set own ⟨b.first, b.size, b.marked + 1, b.parent⟩ } := by
    simp only [Pt.mark, hown, hbb, hto, hfr, hot]
  rw [hown, hbb] at ht
  rw [hown] at hb
  have hps := h.ps s hs
  rw [hfr] at hps
  have hinn := h.inn s hs
  rw [hown, hbb, hfr] at hinn
  have hbd := h.bd own hb
  rw [hbb] at hbd
  have hM : ¬ fr < to := by
    unfold Pt.M at hm
    rw [hown, hbb, hfr, hto] at hm
    exact hm
  have hspt := h.sp to (by omega)
  rw [hot] at hspt
  have hoto : gt p.bl ot = own := by rw [← hot]; exact h.own own hb to (by rw [hbb]; omega) (by rw [hbb]; omega)
  rw [hmk]
  have gst : ∀ i, i < N → gt ((p.st.set to s).set fr ot) i = if fr = i then ot else if to = i then s else gt p.st i := fun i hi => by
    rw [gt_set, gt_set, List.length_set, h.st]
    have : fr < N := hps.1
    have : to < N := by omega
    simp only [*, and_true]
  have gpl : ∀ t, t < N → gt ((p.pl.set s to).set ot fr) t = if ot = t then fr else if s = t then to else gt p.pl t := fun i hi => by
    rw [gt_set, gt_set, List.length_set, h.pl]
    have := hspt.1
    simp only [*, and_true]
  have gbs : ∀ c, gb (p.bs.set own ⟨b.first, b.size, b.marked + 1, b.parent⟩) c = if own = c then ⟨b.first, b.size, b.marked + 1, b.parent⟩ else gb p.bs c := fun c => by
    rw [gb_set]
    simp only [hb, and_true]
  have hsz : ∀ c, (gb (p.bs.set own ⟨b.first, b.size, b.marked + 1, b.parent⟩) c).first = (gb p.bs c).first ∧ (gb (p.bs.set own ⟨b.first, b.size, b.marked + 1, b.parent⟩) c).size = (gb p.bs c).size := fun c => by
    rw [gbs]
    split
    · rename_i e; subst e; rw [hbb]; exact ⟨rfl, rfl⟩
    · exact ⟨rfl, rfl⟩
  have inj : ∀ i j, i < N → j < N → gt p.st i = gt p.st j → i = j := fun i j hi hj e => by rw [← (h.sp i hi).2, e, (h.sp j hj).2]
  have injp : ∀ i j, i < N → j < N → gt p.pl i = gt p.pl j → i = j := fun i j hi hj e => by rw [← (h.ps i hi).2, e, (h.ps j hj).2]
  have inn2 : ∀ t, t < N → (gb p.bs (gt p.bl t)).first ≤ gt ((p.pl.set s to).set ot fr) t ∧ gt ((p.pl.set s to).set ot fr) t < (gb p.bs (gt p.bl t)).first + (gb p.bs (gt p.bl t)).size := fun t htN => by
    rw [gpl t htN]
    split
    · rename_i e; subst e; rw [hoto, hbb]; omega
    · split
      · rename_i e; subst e; rw [hown, hbb]; omega
      · exact h.inn t htN
  refine ⟨⟨by simp [h.st], by simp [h.pl], h.bl, fun i hi => ?_, fun t htN => ?_, fun t htN => by simpa using h.ib t htN, fun t htN => ?_, fun c hc => ?_, fun c hc i h1 h2 => ?_, fun c => ?_, ?_⟩, fun t htN => ?_⟩
  · show gt ((p.st.set to s).set fr ot) i < N ∧ gt ((p.pl.set s to).set ot fr) (gt ((p.st.set to s).set fr ot) i) = i
    rw [gst i hi]
    split
    · rename_i e
      refine ⟨hspt.1, ?_⟩
      rw [gpl _ hspt.1, if_pos rfl]; exact e
    · rename_i e1
      split
      · rename_i e
        refine ⟨hs, ?_⟩
        rw [gpl _ hs]
        split
        · rename_i e2
          have : gt p.st to = gt p.st fr := by rw [hot, hps.2, e2]
          have := inj _ _ (by omega) hps.1 this
          omega
        · rw [if_pos rfl]; exact e
      · rename_i e2
        have hsp := h.sp i hi
        refine ⟨hsp.1, ?_⟩
        rw [gpl _ hsp.1, if_neg, if_neg]
        · exact hsp.2
        · intro e3
          apply e1
          rw [← hfr, e3]; exact hsp.2
        · intro e3
          apply e2
          have := hspt.2
          rw [e3, hsp.2] at this
          omega
  · show gt ((p.pl.set s to).set ot fr) t < N ∧ gt ((p.st.set to s).set fr ot) (gt ((p.pl.set s to).set ot fr) t) = t
    rw [gpl t htN]
    split
    · rename_i e
      refine ⟨hps.1, ?_⟩
      rw [gst _ hps.1, if_pos rfl]; exact e
    · rename_i e1
      split
      · rename_i e
        refine ⟨by omega, ?_⟩
        rw [gst _ (by omega)]
        split
        · rename_i e2
          have : gt p.st to = s := by rw [← e2]; exact hps.2
          exact (e1 (by rw [← hot, this]; exact e)).elim
        · rw [if_pos rfl]; exact e
      · rename_i e2
        have hp := h.ps t htN
        refine ⟨hp.1, ?_⟩
        rw [gst _ hp.1, if_neg, if_neg]
        · exact hp.2
        · intro e3
          apply e1
          rw [← hot, e3]; exact hp.2
        · intro e3
          apply e2
          have := hps.2
          rw [e3, hp.2] at this
          omega
  · show (gb (p.bs.set own _) (gt p.bl t)).first ≤ gt ((p.pl.set s to).set ot fr) t ∧ _ < (gb (p.bs.set own _) (gt p.bl t)).first + (gb (p.bs.set own _) (gt p.bl t)).size
    rw [(hsz _).1, (hsz _).2]
    exact inn2 t htN
  · show 0 < (gb (p.bs.set own _) c).size ∧ (gb (p.bs.set own _) c).marked ≤ (gb (p.bs.set own _) c).size ∧ (gb (p.bs.set own _) c).first + (gb (p.bs.set own _) c).size ≤ N
    have hc' : c < p.bs.length := by simpa using hc
    rw [gbs]
    split
    · simp only; omega
    · exact h.bd c hc'
  · have hc' : c < p.bs.length := by simpa using hc
    have h1 : (gb p.bs c).first ≤ i := by rw [← (hsz c).1]; exact h1
    have h2 : i < (gb p.bs c).first + (gb p.bs c).size := by rw [← (hsz c).1, ← (hsz c).2]; exact h2
    have hcN := h.bd c hc'
    show gt p.bl (gt ((p.st.set to s).set fr ot) i) = c
    rw [gst i (by omega)]
    split
    · rename_i e
      have := h.own c hc' i h1 h2
      rw [← e, hps.2, hown] at this
      rw [hoto]; exact this
    · split
      · rename_i e
        have := h.own c hc' i h1 h2
        rw [← e, hot, hoto] at this
        rw [hown]; exact this
      · exact h.own c hc' i h1 h2
  · show c ∈ (if b.marked = 0 then p.ml ++ [own] else p.ml) ↔ c < (p.bs.set own _).length ∧ 0 < (gb (p.bs.set own _) c).marked
    rw [gbs, List.length_set]
    have htm := h.tm c
    split
    · rename_i hz
      rw [List.mem_append, List.mem_singleton]
      split
      · rename_i e; subst e; simp [hb]
      · rename_i e
        rw [htm]
        constructor
        · rintro (h | h)
          · exact h
          · exact (e h.symm).elim
        · exact .inl
    · rename_i hz
      rw [htm]
      split
      · rename_i e; subst e
        rw [hbb]
        simp only [hb, true_and]
        omega
      · rfl
  · show (if b.marked = 0 then p.ml ++ [own] else p.ml).Nodup
    split
    · rename_i hz
      rw [List.nodup_append]
      refine ⟨h.nd, by simp, fun x hx y hy e => ?_⟩
      rw [List.mem_singleton] at hy
      have := (h.tm x).1 hx
      rw [e, hy, hbb] at this
      omega
    · exact h.nd
  · show gt ((p.pl.set s to).set ot fr) t < (gb (p.bs.set own _) (gt p.bl t)).first + (gb (p.bs.set own _) (gt p.bl t)).marked ↔ gt p.pl t < (gb p.bs (gt p.bl t)).first + (gb p.bs (gt p.bl t)).marked ∨ t = s
    rw [gpl t htN, gbs]
    by_cases e1 : ot = t
    · subst e1
      rw [if_pos rfl, hoto, if_pos rfl, hbb]
      show fr < b.first + (b.marked + 1) ↔ _
      have h3 : gt p.pl ot = to := hspt.2
      constructor
      · intro hlt
        have e : fr = to := by omega
        refine .inr ?_
        rw [← hot, ← e]; exact hps.2
      · rintro (h4 | h4)
        · omega
        · rw [h4, hfr] at h3; omega
    · rw [if_neg e1]
      by_cases e2 : s = t
      · subst e2
        rw [if_pos rfl, hown, if_pos rfl]
        simp
        omega
      · rw [if_neg e2]
        have hne : gt p.pl t ≠ to := fun e => e1 (by rw [← hot, ← e]; exact (h.ps t htN).2)
        by_cases e3 : own = gt p.bl t
        · rw [if_pos e3, ← e3, hbb]
          show gt p.pl t < b.first + (b.marked + 1) ↔ _
          constructor
          · intro h4; exact .inl (by omega)
          · rintro (h4 | h4)
            · omega
            · exact (e2 h4.symm).elim
        · rw [if_neg e3]
          constructor
          · exact .inl
          · rintro (h4 | h4)
            · exact h4
            · exact (e2 h4.symm).elim
end Go.Proofs.Ythcoppfiahnpoaa
namespace Go.Proofs.Ythcoppfiahnpoaa
def relabel (st : List Nat) (nb : Nat) : List Nat → Nat → Nat → List Nat
  | bl, _, 0 => bl
  | bl, i, k + 1 => relabel st nb (bl.set (gt st i) nb) (i + 1) k
theorem relabel_len (st : List Nat) (nb : Nat) : ∀ (k i : Nat) (bl : List Nat), (relabel st nb bl i k).length = bl.length
  | 0, _, _ => rfl
  | k + 1, i, bl => by rw [relabel, relabel_len st nb k]; simp
theorem relabel_get {st pl : List Nat} {N : Nat} (nb : Nat) (hsp : ∀ i, i < N → gt st i < N ∧ gt pl (gt st i) = i) (hps : ∀ s, s < N → gt pl s < N ∧ gt st (gt pl s) = s) :
    ∀ (k i : Nat) (bl : List Nat), bl.length = N → i + k ≤ N → ∀ t, t < N → gt (relabel st nb bl i k) t = if i ≤ gt pl t ∧ gt pl t < i + k then nb else gt bl t
  | 0, i, bl, _, _, t, _ => by rw [relabel, if_neg (by omega)]
  | k + 1, i, bl, hb, hk, t, ht => by
    rw [relabel, relabel_get nb hsp hps k (i + 1) _ (by simpa using hb) (by omega) t ht, gt_set]
    have h1 := hsp i (by omega)
    have h2 := hps t ht
    by_cases e : gt st i = t
    · have : gt pl t = i := by rw [← e]; exact h1.2
      rw [this, if_neg (by omega), if_pos (by omega), if_pos (by omega)]
    · have hne : gt pl t ≠ i := fun e2 => e (by rw [← e2]; exact h2.2)
      by_cases h3 : i + 1 ≤ gt pl t ∧ gt pl t < i + 1 + k
      · rw [if_pos h3, if_pos (by omega)]
      · rw [if_neg h3, if_neg (fun h => e h.1), if_neg (by omega)]
def Pt.low (p : Pt) : Nat := gt p.cs (p.cs.length - 1)
def Pt.splitOne (p : Pt) (old : Nat) : Pt :=
  let b := gb p.bs old
  if b.marked = b.size then { p with bs := p.bs.set old ⟨b.first, b.size, 0, b.parent⟩ }
  else { p with bs := p.bs.set old ⟨b.first + b.marked, b.size - b.marked, 0, b.parent⟩ ++ [⟨b.first, b.marked, 0, if p.low ≤ old then b.parent else old⟩], bl := relabel p.st p.bs.length p.bl b.first b.marked }
def Pt.split (p : Pt) : Pt := { p.ml.foldl Pt.splitOne p with ml := [] }
def Pt.base (p : Pt) (b : Nat) : Nat := if p.low ≤ b then (gb p.bs b).parent else b
structure PH (p q : Pt) (N : Nat) : Prop where
  cs : q.cs = p.cs
  len : p.bs.length ≤ q.bs.length
  par : ∀ b, b < p.bs.length → (gb q.bs b).parent = (gb p.bs b).parent
  base : ∀ s, s < N → q.base (gt q.bl s) = p.base (gt p.bl s)
  low : ∀ b, b < q.bs.length → p.low ≤ b → b < p.bs.length ∨ ∃ c, c < p.bs.length ∧ (gb q.bs b).parent = p.base c
theorem PH.refl (p : Pt) (N : Nat) : PH p p N := ⟨rfl, Nat.le_refl _, fun _ _ => rfl, fun _ _ => rfl, fun _ h _ => .inl h⟩
theorem PH.trans {p q r : Pt} {N : Nat} (hpl : p.low ≤ p.bs.length) (h : PH p q N) (k : PH q r N) : PH p r N := by
  have hl : q.low = p.low := by unfold Pt.low; rw [h.cs]
  have bb : ∀ c, c < q.bs.length → (∃ c', c' < p.bs.length ∧ q.base c = p.base c') := fun c hc => by
    by_cases hlow : p.low ≤ c
    · rcases h.low c hc hlow with h1 | ⟨c', h1, h2⟩
      · refine ⟨c, h1, ?_⟩
        unfold Pt.base; rw [hl, if_pos hlow, if_pos hlow, h.par c h1]
      · refine ⟨c', h1, ?_⟩
        rw [← h2]; unfold Pt.base; rw [hl, if_pos hlow]
    · by_cases h1 : c < p.bs.length
      · refine ⟨c, h1, ?_⟩
        unfold Pt.base; rw [hl, if_neg hlow, if_neg hlow]
      · omega
  refine ⟨k.cs.trans h.cs, Nat.le_trans h.len k.len, fun b hb => (k.par b (Nat.lt_of_lt_of_le hb h.len)).trans (h.par b hb), fun s hs => (k.base s hs).trans (h.base s hs), fun b hb hlow => ?_⟩
  rcases k.low b hb (by rw [hl]; exact hlow) with h1 | ⟨c, h1, h2⟩
  · rcases h.low b h1 hlow with h3 | ⟨c, h3, h4⟩
    · exact .inl h3
    · exact .inr ⟨c, h3, by rw [k.par b h1]; exact h4⟩
  · obtain ⟨c', h3, h4⟩ := bb c h1
    exact .inr ⟨c', h3, by rw [h2, h4]⟩
theorem splitOne_ok {p : Pt} {N old : Nat} {r : List Nat} (hlow : p.low ≤ p.bs.length) (h : PI p N (old :: r)) :
    PI (p.splitOne old) N r ∧ (∀ s, s < N → ((p.splitOne old).M s ↔ p.M s ∧ gt p.bl s ≠ old)) ∧ (∀ s t, s < N → t < N → (gt (p.splitOne old).bl s = gt (p.splitOne old).bl t ↔ gt p.bl s = gt p.bl t ∧ (gt p.bl s = old → (p.M s ↔ p.M t)))) ∧ PH p (p.splitOne old) N := by
  obtain ⟨b, hb⟩ : ∃ b, gb p.bs old = b := ⟨_, rfl⟩
  have ho := (h.tm old).1 (by simp)
  rw [hb] at ho
  obtain ⟨hol, hm0⟩ := ho
  have hbd := h.bd old hol
  rw [hb] at hbd
  have hnd := h.nd
  rw [List.nodup_cons] at hnd
  have htm : ∀ c, c ∈ r ↔ (c < p.bs.length ∧ 0 < (gb p.bs c).marked) ∧ c ≠ old := fun c => by
    rw [← h.tm c, List.mem_cons]
    constructor
    · intro hc
      exact ⟨.inr hc, fun e => hnd.1 (by rw [← e]; exact hc)⟩
    · rintro ⟨h1 | h1, h2⟩
      · exact (h2 h1).elim
      · exact h1
  by_cases hall : b.marked = b.size
  ·
    have hp : p.splitOne old = { p with bs := p.bs.set old ⟨b.first, b.size, 0, b.parent⟩ } := by simp only [Pt.splitOne, hb, if_pos hall]
    rw [hp]
    have g : ∀ c, gb (p.bs.set old ⟨b.first, b.size, 0, b.parent⟩) c = if old = c then ⟨b.first, b.size, 0, b.parent⟩ else gb p.bs c := fun c => by rw [gb_set]; simp only [hol, and_true]
    have gf : ∀ c, (gb (p.bs.set old ⟨b.first, b.size, 0, b.parent⟩) c).first = (gb p.bs c).first ∧ (gb (p.bs.set old ⟨b.first, b.size, 0, b.parent⟩) c).size = (gb p.bs c).size ∧ (gb (p.bs.set old ⟨b.first, b.size, 0, b.parent⟩) c).parent = (gb p.bs c).parent := fun c => by
      rw [g]
      split
      · rename_i e; subst e; rw [hb]; exact ⟨rfl, rfl, rfl⟩
      · exact ⟨rfl, rfl, rfl⟩
    refine ⟨⟨h.st, h.pl, h.bl, h.sp, h.ps, fun s hs => by simpa using h.ib s hs, fun s hs => ?_, fun c hc => ?_, fun c hc i h1 h2 => ?_, fun c => ?_, hnd.2⟩, fun s hs => ?_, fun s t hs ht => ?_, ⟨rfl, by simp, fun c hc => (gf c).2.2, fun s hs => ?_, fun c hc _ => .inl (by simpa using hc)⟩⟩
    · show (gb (p.bs.set old _) (gt p.bl s)).first ≤ gt p.pl s ∧ gt p.pl s < (gb (p.bs.set old _) (gt p.bl s)).first + (gb (p.bs.set old _) (gt p.bl s)).size
      rw [(gf _).1, (gf _).2.1]; exact h.inn s hs
    · show 0 < (gb (p.bs.set old _) c).size ∧ (gb (p.bs.set old _) c).marked ≤ (gb (p.bs.set old _) c).size ∧ (gb (p.bs.set old _) c).first + (gb (p.bs.set old _) c).size ≤ N
      have hc' : c < p.bs.length := by simpa using hc
      rw [g]
      split
      · simp only; omega
      · exact h.bd c hc'
    · have hc' : c < p.bs.length := by simpa using hc
      exact h.own c hc' i (by rw [← (gf c).1]; exact h1) (by rw [← (gf c).1, ← (gf c).2.1]; exact h2)
    · show c ∈ r ↔ c < (p.bs.set old _).length ∧ 0 < (gb (p.bs.set old _) c).marked
      rw [htm, g, List.length_set]
      by_cases e : old = c
      · subst e; simp
      · rw [if_neg e]
        simp only [ne_eq, Ne.symm e, not_false_eq_true, and_true]
    · show gt p.pl s < (gb (p.bs.set old _) (gt p.bl s)).first + (gb (p.bs.set old _) (gt p.bl s)).marked ↔ gt p.pl s < (gb p.bs (gt p.bl s)).first + (gb p.bs (gt p.bl s)).marked ∧ gt p.bl s ≠ old
      rw [g]
      have := h.inn s hs
      by_cases e : old = gt p.bl s
      · rw [if_pos e]
        rw [← e, hb] at this
        simp only [Nat.add_zero]
        constructor
        · intro h1; omega
        · intro h1; exact (h1.2 e.symm).elim
      · rw [if_neg e]
        simp only [ne_eq, Ne.symm e, not_false_eq_true, and_true]
    · show gt p.bl s = gt p.bl t ↔ _
      constructor
      · intro e
        refine ⟨e, fun e2 => ?_⟩
        have h1 := h.inn s hs
        have h2 := h.inn t ht
        unfold Pt.M
        rw [← e] at h2 ⊢
        rw [e2, hb] at h1 h2 ⊢
        constructor <;> intro _ <;> omega
      · exact fun h => h.1
    · show (if p.low ≤ gt p.bl s then (gb (p.bs.set old _) (gt p.bl s)).parent else gt p.bl s) = p.base (gt p.bl s)
      rw [(gf _).2.2]; rfl
  ·
    obtain ⟨par, hpar⟩ : ∃ par, (if p.low ≤ old then b.parent else old) = par := ⟨_, rfl⟩
    have hp : p.splitOne old = { p with bs := p.bs.set old ⟨b.first + b.marked, b.size - b.marked, 0, b.parent⟩ ++ [⟨b.first, b.marked, 0, par⟩], bl := relabel p.st p.bs.length p.bl b.first b.marked } := by simp only [Pt.splitOne, hb, if_neg hall, hpar]
    rw [hp]
    have g : ∀ c, gb (p.bs.set old ⟨b.first + b.marked, b.size - b.marked, 0, b.parent⟩ ++ [⟨b.first, b.marked, 0, par⟩]) c =
        if c < p.bs.length then (if old = c then ⟨b.first + b.marked, b.size - b.marked, 0, b.parent⟩ else gb p.bs c) else if c = p.bs.length then ⟨b.first, b.marked, 0, par⟩ else ⟨0, 0, 0, 0⟩ := fun c => by
      rw [gb_app, List.length_set, gb_set]; simp only [hol, and_true]
    have gpar : ∀ c, c < p.bs.length → (gb (p.bs.set old ⟨b.first + b.marked, b.size - b.marked, 0, b.parent⟩ ++ [⟨b.first, b.marked, 0, par⟩]) c).parent = (gb p.bs c).parent := fun c hc => by
      rw [g, if_pos hc]
      split
      · rename_i e; subst e; rw [hb]
      · rfl
    have gbl : ∀ t, t < N → gt (relabel p.st p.bs.length p.bl b.first b.marked) t = if b.first ≤ gt p.pl t ∧ gt p.pl t < b.first + b.marked then p.bs.length else gt p.bl t :=
      relabel_get p.bs.length h.sp h.ps b.marked b.first p.bl h.bl (by omega)
    have inold : ∀ t, t < N → b.first ≤ gt p.pl t ∧ gt p.pl t < b.first + b.size → gt p.bl t = old := fun t ht hr => by
      have := h.own old hol (gt p.pl t) (by rw [hb]; exact hr.1) (by rw [hb]; exact hr.2)
      rw [(h.ps t ht).2] at this; exact this
    have oldin : ∀ t, t < N → gt p.bl t = old → b.first ≤ gt p.pl t ∧ gt p.pl t < b.first + b.size := fun t ht e => by
      have := h.inn t ht
      rw [e, hb] at this; exact this
    have hpk : (⟨b.first, b.size, b.marked, b.parent⟩ : Blk) = b := rfl
    have cases3 : ∀ t, t < N → (gt p.bl t = old ∧ p.M t ∧ (b.first ≤ gt p.pl t ∧ gt p.pl t < b.first + b.marked) ∧ gt (relabel p.st p.bs.length p.bl b.first b.marked) t = p.bs.length) ∨
        (gt p.bl t = old ∧ ¬ p.M t ∧ (b.first + b.marked ≤ gt p.pl t ∧ gt p.pl t < b.first + b.size) ∧ gt (relabel p.st p.bs.length p.bl b.first b.marked) t = old) ∨
        (gt p.bl t ≠ old ∧ gt (relabel p.st p.bs.length p.bl b.first b.marked) t = gt p.bl t) := fun t ht => by
      by_cases e : gt p.bl t = old
      · have h1 := oldin t ht e
        have hM : p.M t ↔ gt p.pl t < b.first + b.marked := by unfold Pt.M; rw [e, hb]
        rw [gbl t ht]
        by_cases h2 : gt p.pl t < b.first + b.marked
        · exact .inl ⟨e, hM.2 h2, ⟨h1.1, h2⟩, if_pos ⟨h1.1, h2⟩⟩
        · exact .inr (.inl ⟨e, fun h => h2 (hM.1 h), ⟨by omega, h1.2⟩, by rw [if_neg (fun h => h2 h.2)]; exact e⟩)
      · refine .inr (.inr ⟨e, ?_⟩)
        rw [gbl t ht, if_neg (fun h3 => e (inold t ht ⟨h3.1, by omega⟩))]
    refine ⟨⟨h.st, h.pl, ?_, h.sp, h.ps, fun s hs => ?_, fun s hs => ?_, fun c hc => ?_, fun c hc i h1 h2 => ?_, fun c => ?_, hnd.2⟩, fun s hs => ?_, fun s t hs ht => ?_, ⟨rfl, by simp, gpar, fun s hs => ?_, fun c hc hlc => ?_⟩⟩
    · show (relabel _ _ _ _ _).length = N
      rw [relabel_len]; exact h.bl
    · show gt (relabel p.st p.bs.length p.bl b.first b.marked) s < (p.bs.set old _ ++ [_]).length
      simp only [List.length_append, List.length_set, List.length_cons, List.length_nil]
      have := h.ib s hs
      rcases cases3 s hs with ⟨_, _, _, e⟩ | ⟨_, _, _, e⟩ | ⟨_, e⟩ <;> rw [e] <;> omega
    · show (gb (p.bs.set old _ ++ [_]) (gt (relabel p.st p.bs.length p.bl b.first b.marked) s)).first ≤ gt p.pl s ∧ gt p.pl s < (gb (p.bs.set old _ ++ [_]) (gt (relabel p.st p.bs.length p.bl b.first b.marked) s)).first + (gb (p.bs.set old _ ++ [_]) (gt (relabel p.st p.bs.length p.bl b.first b.marked) s)).size
      have hib := h.ib s hs
      rcases cases3 s hs with ⟨_, _, hr, e⟩ | ⟨_, _, hr, e⟩ | ⟨hn, e⟩
      · rw [e, g, if_neg (by omega), if_pos rfl]; exact hr
      · rw [e, g, if_pos hol, if_pos rfl]; simp only; omega
      · rw [e, g, if_pos hib, if_neg (Ne.symm hn)]; exact h.inn s hs
    · show 0 < (gb (p.bs.set old _ ++ [_]) c).size ∧ (gb (p.bs.set old _ ++ [_]) c).marked ≤ (gb (p.bs.set old _ ++ [_]) c).size ∧ (gb (p.bs.set old _ ++ [_]) c).first + (gb (p.bs.set old _ ++ [_]) c).size ≤ N
      have hc : c < p.bs.length + 1 := by simpa using hc
      rw [g]
      split
      · split
        · simp only; omega
        · exact h.bd c (by assumption)
      · rw [if_pos (by omega)]; simp only; omega
    · show gt (relabel p.st p.bs.length p.bl b.first b.marked) (gt p.st i) = c
      replace hc : c < p.bs.length + 1 := by simpa using hc
      replace h1 : (gb (p.bs.set old _ ++ [_]) c).first ≤ i := h1
      replace h2 : i < (gb (p.bs.set old _ ++ [_]) c).first + (gb (p.bs.set old _ ++ [_]) c).size := h2
      rw [g] at h1 h2
      split at h1
      · rename_i hcl
        rw [if_pos hcl] at h2
        split at h1
        · rename_i e
          rw [if_pos e] at h2
          simp only at h1 h2
          have hs := h.sp i (by omega)
          rw [gbl _ hs.1, hs.2, if_neg (by omega)]
          rw [← e]
          exact h.own old hol i (by rw [hb]; omega) (by rw [hb]; omega)
        · rename_i e
          rw [if_neg e] at h2
          have hcb := h.bd c hcl
          have hs := h.sp i (by omega)
          have hoc := h.own c hcl i h1 h2
          rw [gbl _ hs.1, hs.2, if_neg, hoc]
          intro h3
          have := inold _ hs.1 (by rw [hs.2]; omega)
          rw [hoc] at this
          exact e this.symm
      · rename_i hcl
        have e : c = p.bs.length := by omega
        rw [if_neg hcl, if_pos e] at h2
        rw [if_pos e] at h1
        simp only at h1 h2
        have hs := h.sp i (by omega)
        rw [gbl _ hs.1, hs.2, if_pos ⟨h1, h2⟩, e]
    · show c ∈ r ↔ c < (p.bs.set old _ ++ [_]).length ∧ 0 < (gb (p.bs.set old _ ++ [_]) c).marked
      rw [htm, g]
      simp only [List.length_append, List.length_set, List.length_cons, List.length_nil]
      by_cases e1 : c < p.bs.length
      · rw [if_pos e1]
        by_cases e : old = c
        · subst e; simp
        · rw [if_neg e]
          have : c ≠ old := Ne.symm e
          constructor
          · rintro ⟨⟨_, h2⟩, _⟩; exact ⟨by omega, h2⟩
          · rintro ⟨_, h2⟩; exact ⟨⟨e1, h2⟩, this⟩
      · rw [if_neg e1]
        constructor
        · rintro ⟨⟨h2, _⟩, _⟩; exact (e1 h2).elim
        · rintro ⟨_, h2⟩
          split at h2
          · simp at h2
          · simp at h2
    · show gt p.pl s < (gb (p.bs.set old _ ++ [_]) (gt (relabel p.st p.bs.length p.bl b.first b.marked) s)).first + (gb (p.bs.set old _ ++ [_]) (gt (relabel p.st p.bs.length p.bl b.first b.marked) s)).marked ↔ p.M s ∧ gt p.bl s ≠ old
      have hib := h.ib s hs
      rcases cases3 s hs with ⟨ho, _, hr, e⟩ | ⟨ho, _, hr, e⟩ | ⟨hn, e⟩
      · rw [e, g, if_neg (by omega), if_pos rfl]
        simp only [Nat.add_zero]
        constructor
        · intro h1; omega
        · intro h1; exact (h1.2 ho).elim
      · rw [e, g, if_pos hol, if_pos rfl]
        simp only [Nat.add_zero]
        constructor
        · intro h1; omega
        · intro h1; exact (h1.2 ho).elim
      · rw [e, g, if_pos hib, if_neg (Ne.symm hn)]
        exact ⟨fun h => ⟨h, hn⟩, fun h => h.1⟩
    · show gt (relabel p.st p.bs.length p.bl b.first b.marked) s = gt (relabel p.st p.bs.length p.bl b.first b.marked) t ↔ _
      have h1 := h.ib s hs
      have h2 := h.ib t ht
      rcases cases3 s hs with ⟨ho, hm, _, e⟩ | ⟨ho, hm, _, e⟩ | ⟨hn, e⟩ <;> rcases cases3 t ht with ⟨ho', hm', _, e'⟩ | ⟨ho', hm', _, e'⟩ | ⟨hn', e'⟩ <;> rw [e, e']
      · exact ⟨fun _ => ⟨ho.trans ho'.symm, fun _ => ⟨fun _ => hm', fun _ => hm⟩⟩, fun _ => rfl⟩
      · exact ⟨fun h3 => by omega, fun h3 => (hm' ((h3.2 ho).1 hm)).elim⟩
      · exact ⟨fun h3 => by omega, fun h3 => (hn' (h3.1.symm.trans ho)).elim⟩
      · exact ⟨fun h3 => by omega, fun h3 => (hm ((h3.2 ho).2 hm')).elim⟩
      · exact ⟨fun _ => ⟨ho.trans ho'.symm, fun _ => ⟨fun h => (hm h).elim, fun h => (hm' h).elim⟩⟩, fun _ => rfl⟩
      · exact ⟨fun h3 => (hn' h3.symm).elim, fun h3 => (hn' (h3.1.symm.trans ho)).elim⟩
      · exact ⟨fun h3 => by omega, fun h3 => (hn (h3.1.trans ho')).elim⟩
      · exact ⟨fun h3 => (hn h3).elim, fun h3 => (hn (h3.1.trans ho')).elim⟩
      · exact ⟨fun h3 => ⟨h3, fun h4 => (hn h4).elim⟩, fun h3 => h3.1⟩
    · show (if p.low ≤ gt (relabel p.st p.bs.length p.bl b.first b.marked) s then (gb (p.bs.set old _ ++ [_]) (gt (relabel p.st p.bs.length p.bl b.first b.marked) s)).parent else gt (relabel p.st p.bs.length p.bl b.first b.marked) s) = p.base (gt p.bl s)
      have hib := h.ib s hs
      rcases cases3 s hs with ⟨ho, _, hr, e⟩ | ⟨ho, _, hr, e⟩ | ⟨hn, e⟩
      · rw [e, if_pos hlow, g, if_neg (by omega), if_pos rfl, ho]
        show par = p.base old
        rw [← hpar]; unfold Pt.base; rw [hb]
      · rw [e, ho, gpar old hol]; rfl
      · rw [e, gpar _ hib]; rfl
    · have hc : c < p.bs.length + 1 := by simpa using hc
      by_cases e : c < p.bs.length
      · exact .inl e
      · refine .inr ⟨old, hol, ?_⟩
        show (gb (p.bs.set old _ ++ [_]) c).parent = _
        rw [g, if_neg e, if_pos (by omega)]
        show par = _
        rw [← hpar]; unfold Pt.base; rw [hb]
theorem fold_ok {N : Nat} : ∀ (todo : List Nat) (p : Pt), p.low ≤ p.bs.length → PI p N todo → PI (todo.foldl Pt.splitOne p) N [] ∧
    (∀ s t, s < N → t < N → (gt (todo.foldl Pt.splitOne p).bl s = gt (todo.foldl Pt.splitOne p).bl t ↔ gt p.bl s = gt p.bl t ∧ (p.M s ↔ p.M t))) ∧ PH p (todo.foldl Pt.splitOne p) N
  | [], p, _, h => by
    have hM : ∀ s, s < N → ¬ p.M s := fun s hs hm => by
      have h1 := h.ib s hs
      have h2 := (h.tm (gt p.bl s))
      have h3 := h.inn s hs
      unfold Pt.M at hm
      have := h2.2 ⟨h1, by omega⟩
      cases this
    exact ⟨h, fun s t hs ht => ⟨fun e => ⟨e, fun h => (hM s hs h).elim, fun h => (hM t ht h).elim⟩, fun e => e.1⟩, PH.refl _ _⟩
  | old :: r, p, hl, h => by
    obtain ⟨h1, h2, h3, h4⟩ := splitOne_ok hl h
    have hl' : (p.splitOne old).low ≤ (p.splitOne old).bs.length := by
      have : (p.splitOne old).low = p.low := by unfold Pt.low; rw [h4.cs]
      rw [this]; exact Nat.le_trans hl h4.len
    obtain ⟨k1, k2, k3⟩ := fold_ok r (p.splitOne old) hl' h1
    refine ⟨k1, fun s t hs ht => ?_, h4.trans hl k3⟩
    rw [List.foldl_cons, k2 s t hs ht, h3 s t hs ht, h2 s hs, h2 t ht]
    constructor
    · rintro ⟨⟨e, e2⟩, e3⟩
      refine ⟨e, ?_⟩
      by_cases ho : gt p.bl s = old
      · exact e2 ho
      · have ho' : gt p.bl t ≠ old := fun h => ho (e.trans h)
        exact ⟨fun h => (e3.1 ⟨h, ho⟩).1, fun h => (e3.2 ⟨h, ho'⟩).1⟩
    · rintro ⟨e, e3⟩
      refine ⟨⟨e, fun _ => e3⟩, ?_⟩
      rw [e3, e]
theorem PI.ml {p : Pt} {N : Nat} {todo ml : List Nat} (h : PI p N todo) : PI { p with ml := ml } N todo := ⟨h.st, h.pl, h.bl, h.sp, h.ps, h.ib, h.inn, h.bd, h.own, h.tm, h.nd⟩
theorem split_ok {p : Pt} {N : Nat} (hl : p.low ≤ p.bs.length) (h : PI p N p.ml) : PI p.split N p.split.ml ∧ (∀ s t, s < N → t < N → (gt p.split.bl s = gt p.split.bl t ↔ gt p.bl s = gt p.bl t ∧ (p.M s ↔ p.M t))) ∧ PH p p.split N ∧ p.split.ml = [] := by
  obtain ⟨h1, h2, h3⟩ := fold_ok p.ml p hl h
  exact ⟨h1.ml, h2, ⟨h3.cs, h3.len, h3.par, h3.base, h3.low⟩, rfl⟩
theorem unmarked {p : Pt} {N : Nat} (h : PI p N []) (s : Nat) (hs : s < N) : ¬ p.M s := fun hm => by
  have h1 := h.ib s hs
  have h3 := h.inn s hs
  unfold Pt.M at hm
  have := (h.tm (gt p.bl s)).2 ⟨h1, by omega⟩
  cases this
end Go.Proofs.Ythcoppfiahnpoaa
namespace Go.Proofs.Ythcoppfiahnpoaa
structure Mk (p0 p : Pt) (N : Nat) (X : Nat → Prop) : Prop where
  pi : PI p N p.ml
  bl : p.bl = p0.bl
  cs : p.cs = p0.cs
  len : p.bs.length = p0.bs.length
  fs : ∀ b, (gb p.bs b).first = (gb p0.bs b).first ∧ (gb p.bs b).size = (gb p0.bs b).size ∧ (gb p.bs b).parent = (gb p0.bs b).parent
  m : ∀ s, s < N → (p.M s ↔ X s)
theorem Mk.start {p : Pt} {N : Nat} (h : PI p N p.ml) (h0 : p.ml = []) : Mk p p N (fun _ => False) :=
  ⟨h, rfl, rfl, rfl, fun _ => ⟨rfl, rfl, rfl⟩, fun s hs => ⟨fun hm => unmarked (by rw [h0] at h; exact h) s hs hm, False.elim⟩⟩
theorem Mk.step {p0 p : Pt} {N : Nat} {X : Nat → Prop} (h : Mk p0 p N X) {s : Nat} (hs : s < N) (hx : ¬ X s) : Mk p0 (p.mark s) N (fun t => X t ∨ t = s) := by
  obtain ⟨h1, h2⟩ := mark_ok h.pi hs (fun hm => hx ((h.m s hs).1 hm))
  refine ⟨h1, h.bl, h.cs, by simpa [Pt.mark] using h.len, fun b => ?_, fun t ht => by rw [h2 t ht, h.m t ht]⟩
  have := h.fs b
  simp only [Pt.mark]
  rw [gb_set]
  split
  · rename_i e
    rw [← e.1] at this ⊢
    exact this
  · exact this
theorem Mk.imp {p0 p : Pt} {N : Nat} {X Y : Nat → Prop} (h : Mk p0 p N X) (hxy : ∀ s, s < N → (X s ↔ Y s)) : Mk p0 p N Y := ⟨h.pi, h.bl, h.cs, h.len, h.fs, fun s hs => (h.m s hs).trans (hxy s hs)⟩
theorem Mk.ph {p0 p : Pt} {N : Nat} {X : Nat → Prop} (h : Mk p0 p N X) : PH p0 p N := by
  have hl : p.low = p0.low := by unfold Pt.low; rw [h.cs]
  exact ⟨h.cs, Nat.le_of_eq h.len.symm, fun b _ => (h.fs b).2.2, fun s _ => by unfold Pt.base; rw [hl, (h.fs _).2.2, h.bl], fun b hb _ => .inl (by rw [← h.len]; exact hb)⟩
theorem Mk.split {p0 p : Pt} {N : Nat} {X : Nat → Prop} (hl : p0.low ≤ p0.bs.length) (h : Mk p0 p N X) : PI p.split N p.split.ml ∧ p.split.ml = [] ∧ PH p0 p.split N ∧
    ∀ s t, s < N → t < N → (gt p.split.bl s = gt p.split.bl t ↔ gt p0.bl s = gt p0.bl t ∧ (X s ↔ X t)) := by
  have hl' : p.low ≤ p.bs.length := by
    have : p.low = p0.low := by unfold Pt.low; rw [h.cs]
    rw [this, h.len]; exact hl
  obtain ⟨h1, h2, h3, h4⟩ := split_ok hl' h.pi
  exact ⟨h1, h4, h.ph.trans hl h3, fun s t hs ht => by rw [h2 s t hs ht, h.bl, h.m s hs, h.m t ht]⟩
section
variable (N L : Nat) (dl : Nat → Nat → Nat) (en : Nat → Bool)
def rnG (s : Nat) (w : List Nat) : Nat := w.foldl dl s
def EqG (k s t : Nat) : Prop := ∀ w, Word L w → w.length < k → en (rnG dl s w) = en (rnG dl t w)
end
section
variable {N L : Nat} {dl : Nat → Nat → Nat} {en : Nat → Bool}
theorem EqG.zero (s t : Nat) : EqG L dl en 0 s t := fun _ _ h => by omega
theorem EqG.mono {j k s t : Nat} (h : EqG L dl en k s t) (hj : j ≤ k) : EqG L dl en j s t := fun w hw hl => h w hw (by omega)
theorem EqG.one {s t : Nat} : EqG L dl en 1 s t ↔ en s = en t :=
  ⟨fun h => h [] (Word.nil _) (by simp), fun h w _ hl => by
    have : w = [] := by cases w with
      | nil => rfl
      | cons c r => simp at hl
    subst this; exact h⟩
theorem EqG.succ {k s t : Nat} : EqG L dl en (k + 1) s t ↔ en s = en t ∧ ∀ c, c < L → EqG L dl en k (dl s c) (dl t c) :=
  ⟨fun h => ⟨EqG.one.1 (h.mono (by omega)), fun c hc w hw hl => h (c :: w) (Word.cons hc hw) (by simpa using hl)⟩, fun h w hw hl => by
    cases w with
    | nil => exact h.1
    | cons c w => exact h.2 c hw.head w hw.tail (by simpa using hl)⟩
theorem EqG.stable {k : Nat} (hdl : ∀ s c, s < N → c < L → dl s c < N) (h : ∀ s t, s < N → t < N → EqG L dl en k s t → EqG L dl en (k + 1) s t) :
    ∀ j s t, s < N → t < N → EqG L dl en k s t → EqG L dl en (k + j) s t
  | 0, s, t, hs, ht, e => e
  | j + 1, s, t, hs, ht, e => by
    have h1 := EqG.succ.1 (h s t hs ht e)
    show EqG L dl en (k + j + 1) s t
    exact EqG.succ.2 ⟨h1.1, fun c hc => EqG.stable hdl h j _ _ (hdl s c hs hc) (hdl t c ht hc) (h1.2 c hc)⟩
end
def upB (bs : List Blk) (c b : Nat) : Nat := if c ≤ b then (gb bs b).parent else b
structure Lev (L : Nat) (dl : Nat → Nat → Nat) (en : Nat → Bool) (p : Pt) (N : Nat) (lev : Nat → Nat → Nat) (R : Nat) : Prop where
  cs : p.cs.length = R + 1
  mono : ∀ r, r < R → gt p.cs r ≤ gt p.cs (r + 1)
  top : gt p.cs R ≤ p.bs.length
  lt : ∀ r, r ≤ R → ∀ s, s < N → lev r s < gt p.cs r
  dn : ∀ r, r < R → ∀ s, s < N → lev r s = upB p.bs (gt p.cs r) (lev (r + 1) s)
  par : ∀ r, r < R → ∀ b, gt p.cs r ≤ b → b < gt p.cs (r + 1) → (gb p.bs b).parent < gt p.cs r
  parT : ∀ b, gt p.cs R ≤ b → b < p.bs.length → (gb p.bs b).parent < gt p.cs R
  cur : ∀ s, s < N → upB p.bs (gt p.cs R) (gt p.bl s) = lev R s
  sem : ∀ r, r ≤ R → ∀ s t, s < N → t < N → (lev r s = lev r t ↔ EqG L dl en r s t)
section
variable {N L R : Nat} {dl : Nat → Nat → Nat} {en : Nat → Bool} {p q : Pt} {lev : Nat → Nat → Nat}
theorem Lev.low (h : Lev L dl en p N lev R) : p.low = gt p.cs R := by unfold Pt.low; rw [h.cs]; rfl
theorem Lev.lowLe (h : Lev L dl en p N lev R) : p.low ≤ p.bs.length := by rw [h.low]; exact h.top
theorem Lev.monoLe (h : Lev L dl en p N lev R) : ∀ j r, r + j ≤ R → gt p.cs r ≤ gt p.cs (r + j)
  | 0, r, _ => Nat.le_refl _
  | j + 1, r, hr => Nat.le_trans (h.monoLe j r (by omega)) (h.mono (r + j) (by omega))
theorem Lev.csLe (h : Lev L dl en p N lev R) {r : Nat} (hr : r ≤ R) : gt p.cs r ≤ p.bs.length := by
  have := h.monoLe (R - r) r (by omega)
  rw [show r + (R - r) = R by omega] at this
  exact Nat.le_trans this h.top
theorem Lev.keep (h : Lev L dl en p N lev R) (k : PH p q N) : Lev L dl en q N lev R := by
  have hl : q.low = p.low := by unfold Pt.low; rw [k.cs]
  have hlow := h.low
  have up : ∀ c b, b < p.bs.length → upB q.bs c b = upB p.bs c b := fun c b hb => by unfold upB; rw [k.par b hb]
  refine ⟨by rw [k.cs]; exact h.cs, by rw [k.cs]; exact h.mono, by rw [k.cs]; exact Nat.le_trans h.top k.len, by rw [k.cs]; exact h.lt, fun r hr s hs => ?_, fun r hr b h1 h2 => ?_, fun b h1 h2 => ?_, fun s hs => ?_, h.sem⟩
  · rw [k.cs, up _ _ (Nat.lt_of_lt_of_le (h.lt (r + 1) (by omega) s hs) (h.csLe (by omega)))]
    exact h.dn r hr s hs
  · rw [k.cs] at h1 h2 ⊢
    rw [k.par b (Nat.lt_of_lt_of_le h2 (h.csLe (by omega)))]
    exact h.par r hr b h1 h2
  · rw [k.cs] at h1 ⊢
    have hb : ∀ c, c < p.bs.length → p.base c < gt p.cs R := fun c hc => by
      unfold Pt.base
      rw [hlow]
      split
      · rename_i e; exact h.parT c e hc
      · omega
    rcases k.low b h2 (by rw [hlow]; exact h1) with h3 | ⟨c, h3, h4⟩
    · rw [k.par b h3]; exact h.parT b h1 h3
    · rw [h4]; exact hb c h3
  · have e1 : upB q.bs (gt q.cs R) (gt q.bl s) = q.base (gt q.bl s) := by unfold Pt.base upB; rw [hl, hlow, k.cs]
    have e2 : upB p.bs (gt p.cs R) (gt p.bl s) = p.base (gt p.bl s) := by unfold Pt.base upB; rw [hlow]
    rw [e1, k.base s hs, ← e2]; exact h.cur s hs
def Pt.endR (p : Pt) : Pt := { p with cs := p.cs ++ [p.bs.length] }
theorem gt_snoc {l : List Nat} {v r : Nat} (h : r < l.length) : gt (l ++ [v]) r = gt l r := by rw [gt_app, if_pos h]
theorem gt_snoc' {l : List Nat} {v : Nat} : gt (l ++ [v]) l.length = v := by rw [gt_app, if_neg (by omega)]; simp
theorem Lev.endR (h : Lev L dl en p N lev R) (hib : ∀ s, s < N → gt p.bl s < p.bs.length) (hsem : ∀ s t, s < N → t < N → (gt p.bl s = gt p.bl t ↔ EqG L dl en (R + 1) s t)) :
    Lev L dl en p.endR N (fun r s => if r ≤ R then lev r s else gt p.bl s) (R + 1) ∧ gt p.endR.cs (R + 1) = p.bs.length ∧ gt p.endR.cs R = gt p.cs R := by
  have hc := h.cs
  have g1 : ∀ r, r ≤ R → gt p.endR.cs r = gt p.cs r := fun r hr => gt_snoc (by omega)
  have g2 : gt p.endR.cs (R + 1) = p.bs.length := by
    show gt (p.cs ++ [p.bs.length]) (R + 1) = _
    rw [← hc]; exact gt_snoc'
  refine ⟨⟨by simp [Pt.endR, hc], fun r hr => ?_, by rw [g2]; exact Nat.le_refl _, fun r hr s hs => ?_, fun r hr s hs => ?_, fun r hr b h1 h2 => ?_, fun b h1 h2 => ?_, fun s hs => ?_, fun r hr s t hs' ht' => ?_⟩, g2, g1 R (Nat.le_refl _)⟩
  · rw [g1 r (by omega)]
    by_cases e : r = R
    · subst e; rw [g2]; exact h.top
    · rw [g1 (r + 1) (by omega)]; exact h.mono r (by omega)
  · by_cases e : r ≤ R
    · simp only [if_pos e]; rw [g1 r e]; exact h.lt r e s hs
    · simp only [if_neg e]
      rw [show r = R + 1 by omega, g2]; exact hib s hs
  · have e0 : r ≤ R := by omega
    simp only [if_pos e0]
    rw [g1 r e0]
    by_cases e : r = R
    · subst e
      rw [if_neg (by omega)]
      exact (h.cur s hs).symm
    · rw [if_pos (by omega)]
      exact h.dn r (by omega) s hs
  · rw [g1 r (by omega)] at h1 ⊢
    by_cases e : r = R
    · subst e
      rw [g2] at h2
      exact h.parT b h1 h2
    · rw [g1 (r + 1) (by omega)] at h2
      exact h.par r (by omega) b h1 h2
  · rw [g2] at h1
    have h2 : b < p.bs.length := h2
    omega
  · rw [g2]
    simp only [if_neg (show ¬ R + 1 ≤ R by omega)]
    unfold upB
    exact if_neg (Nat.not_le.2 (hib s hs))
  · by_cases e : r ≤ R
    · simp only [if_pos e]; exact h.sem r e s t hs' ht'
    · simp only [if_neg e]
      rw [show r = R + 1 by omega]; exact hsem s t hs' ht'
def Tells (p : Pt) (R : Nat) (B : List Nat) : Prop := ∀ x y, x < gt p.cs R → y < gt p.cs R → x ≠ y → upB p.bs (gt p.cs (R - 1)) x = upB p.bs (gt p.cs (R - 1)) y → x ∈ B ∨ y ∈ B
theorem round_sem {B : List Nat} (hdl : ∀ s c, s < N → c < L → dl s c < N) (h : Lev L dl en p N lev R) (hR : 0 < R) (hB : Tells p R B) {s t : Nat} (hs : s < N) (ht : t < N) :
    (lev R s = lev R t ∧ ∀ b ∈ B, ∀ c, c < L → (lev R (dl s c) = b ↔ lev R (dl t c) = b)) ↔ EqG L dl en (R + 1) s t := by
  constructor
  · rintro ⟨h1, h2⟩
    have e1 := (h.sem R (Nat.le_refl _) s t hs ht).1 h1
    refine EqG.succ.2 ⟨EqG.one.1 (e1.mono (by omega)), fun c hc => ?_⟩
    have hs' := hdl s c hs hc
    have ht' := hdl t c ht hc
    refine (h.sem R (Nat.le_refl _) _ _ hs' ht').1 ?_
    refine Decidable.byContradiction fun hne => ?_
    obtain ⟨k, rfl⟩ : ∃ k, R = k + 1 := ⟨R - 1, by omega⟩
    have e2 := (h.sem k (by omega) _ _ hs' ht').2 ((EqG.succ.1 e1).2 c hc)
    rw [h.dn k (by omega) _ hs', h.dn k (by omega) _ ht'] at e2
    rcases hB _ _ (h.lt _ (Nat.le_refl _) _ hs') (h.lt _ (Nat.le_refl _) _ ht') hne e2 with hb | hb
    · exact hne ((h2 _ hb c hc).1 rfl).symm
    · exact hne ((h2 _ hb c hc).2 rfl)
  · intro e
    refine ⟨(h.sem R (Nat.le_refl _) s t hs ht).2 (e.mono (by omega)), fun b _ c hc => ?_⟩
    have := (h.sem R (Nat.le_refl _) _ _ (hdl s c hs hc) (hdl t c ht hc)).2 ((EqG.succ.1 e).2 c hc)
    rw [this]
theorem Lev.still (h : Lev L dl en p N lev (R + 1)) (hdl : ∀ s c, s < N → c < L → dl s c < N) (he : gt p.cs (R + 1) = gt p.cs R) {s t : Nat} (hs : s < N) (ht : t < N) :
    lev (R + 1) s = lev (R + 1) t ↔ ∀ w, Word L w → en (rnG dl s w) = en (rnG dl t w) := by
  have same : ∀ s, s < N → lev R s = lev (R + 1) s := fun s hs => by
    have h1 := h.dn R (by omega) s hs
    have h2 := h.lt (R + 1) (Nat.le_refl _) s hs
    unfold upB at h1
    rw [if_neg (by omega)] at h1
    exact h1
  have st : ∀ s t, s < N → t < N → EqG L dl en R s t → EqG L dl en (R + 1) s t := fun s t hs ht e => by
    rw [← h.sem _ (by omega) s t hs ht, same s hs, same t ht] at e
    exact (h.sem _ (Nat.le_refl _) s t hs ht).1 e
  constructor
  · intro e w hw
    have e1 := (h.sem R (by omega) s t hs ht).1 (by rw [same s hs, same t ht]; exact e)
    exact EqG.stable hdl st (w.length + 1) s t hs ht e1 w hw (by omega)
  · intro e
    exact (h.sem _ (Nat.le_refl _) s t hs ht).2 fun w hw _ => e w hw
theorem Lev.start (hp : p.cs = [1]) (hb : p.bs.length = 1) (hbl : ∀ s, s < N → gt p.bl s = 0) : Lev L dl en p N (fun _ _ => 0) 0 :=
  ⟨by rw [hp]; rfl, fun r hr => by omega, by rw [hp, hb]; exact Nat.le_refl _, fun r hr s hs => by rw [show r = 0 by omega, hp]; exact Nat.zero_lt_one, fun r hr => by omega, fun r hr => by omega,
    fun b h1 h2 => by rw [hp] at h1; have : 1 ≤ b := h1; omega, fun s hs => by
      unfold upB
      rw [hbl s hs, hp, if_neg (by decide)], fun r hr s t _ _ => by
      rw [show r = 0 by omega]
      exact ⟨fun _ => EqG.zero _ _, fun _ => rfl⟩⟩
theorem PI.few {todo : List Nat} (h : PI p N todo) : p.bs.length ≤ N := by
  have inj : ∀ b c, b < p.bs.length → c < p.bs.length → gt p.st (gb p.bs b).first = gt p.st (gb p.bs c).first → b = c := fun b c hb hc e => by
    have h1 := h.own b hb (gb p.bs b).first (Nat.le_refl _) (by have := h.bd b hb; omega)
    have h2 := h.own c hc (gb p.bs c).first (Nat.le_refl _) (by have := h.bd c hc; omega)
    rw [← h1, e, h2]
  have hn : ((List.range p.bs.length).map fun b => gt p.st (gb p.bs b).first).Nodup := by
    rw [List.nodup_iff_pairwise_ne, List.pairwise_map]
    refine List.Pairwise.imp_of_mem ?_ (List.nodup_iff_pairwise_ne.1 List.nodup_range)
    intro a b ha hb hab e
    exact hab (inj a b (List.mem_range.1 ha) (List.mem_range.1 hb) e)
  have hsub : ((List.range p.bs.length).map fun b => gt p.st (gb p.bs b).first) ⊆ List.range N := fun x hx => by
    obtain ⟨b, hb, rfl⟩ := List.mem_map.1 hx
    have hb := List.mem_range.1 hb
    have := h.bd b hb
    exact List.mem_range.2 (h.sp _ (by omega)).1
  have := hn.length_le_of_subset hsub
  simpa using this
theorem Lev.back (h : Lev L dl en p N lev R) {r s : Nat} (hs : s < N) : ∀ (k q : Nat), q = r + k → q ≤ R → gt p.cs r ≤ lev q s → ∃ q', r ≤ q' ∧ q' < q ∧ (gb p.bs (lev q s)).parent = lev q' s
  | 0, q, e, hq, hc => by
    have := h.lt q hq s hs
    have e : q = r := by omega
    rw [e] at this hc; omega
  | k + 1, q, e, hq, hc => by
    have hd := h.dn (r + k) (by omega) s hs
    rw [show r + k + 1 = q by omega] at hd
    unfold upB at hd
    split at hd
    · exact ⟨r + k, by omega, by omega, hd.symm⟩
    · obtain ⟨q', h1, h2, h3⟩ := h.back hs k (r + k) rfl (by omega) (by rw [hd]; exact hc)
      exact ⟨q', h1, by omega, by rw [← hd]; exact h3⟩
theorem Lev.there (h : Lev L dl en p N lev R) {r s : Nat} (hs : s < N) : ∀ (k q : Nat), q = r + k → q ≤ R → lev q s < gt p.cs r → lev q s = lev r s
  | 0, q, e, _, _ => by rw [show q = r by omega]
  | k + 1, q, e, hq, hc => by
    have hd := h.dn (r + k) (by omega) s hs
    rw [show r + k + 1 = q by omega] at hd
    have hm := h.monoLe k r (by omega)
    unfold upB at hd
    rw [if_neg (by omega)] at hd
    rw [← hd]
    exact h.there hs k (r + k) rfl (by omega) (by rw [hd]; exact hc)
end
end Go.Proofs.Ythcoppfiahnpoaa
namespace Go.Proofs.Ythcoppfiahnpoaa
open Go Sym
abbrev nats (l : List Nat) : List Value := l.map fun (n : Nat) => Vi n
abbrev n32s (l : List Nat) : List Value := l.map fun (n : Nat) => .int .i32 (n : Int)
abbrev oN (v : Value) (l : List Nat) : Ow := ⟨v, 3, 1, l.length, nats l⟩
abbrev oS (v : Value) (l : List Nat) : Ow := ⟨v, 21, 1, l.length, n32s l⟩
abbrev oX (T b k : Nat) (vs : List Value) : Ow := ⟨Vs b 1 1, T, k, 1, vs⟩
def blkCells (l : List Blk) : List Value := l.flatMap fun b => [Vi b.first, Vi b.size, Vi b.marked, Vi b.parent]
abbrev oK (v : Value) (l : List Blk) : Ow := ⟨v, 99, 4, l.length, blkCells l⟩
structure Hold (base : Nat) (w0 w : World) (l : List Ow) : Prop where
  r : Rows base w l
  b : RowKit.Below base w0 w
  s : base ≤ w.heap.size
theorem nats_get (l : List Nat) {j : Nat} (hj : j < l.length) : (nats l)[j]? = some (Vi (gt l j : Int)) := by
  simp [gt, List.getD_eq_getElem?_getD, hj]
theorem n32s_get (l : List Nat) {j : Nat} (hj : j < l.length) : (n32s l)[j]? = some (.int .i32 (gt l j : Int)) := by
  simp [gt, List.getD_eq_getElem?_getD, hj]
theorem nats_set (l : List Nat) (j x : Nat) : (nats l).set j (Vi x) = nats (l.set j x) := by simp [nats, List.map_set]
theorem n32s_set (l : List Nat) (j x : Nat) : (n32s l).set j (.int .i32 (x : Int)) = n32s (l.set j x) := by simp [n32s, List.map_set]
theorem blk_get : ∀ (l : List Blk) (j : Nat), j < l.length → (blkCells l)[j * 4]? = some (Vi ((gb l j).first : Int)) ∧ (blkCells l)[j * 4 + 1]? = some (Vi ((gb l j).size : Int)) ∧ (blkCells l)[j * 4 + 2]? = some (Vi ((gb l j).marked : Int)) ∧ (blkCells l)[j * 4 + 3]? = some (Vi ((gb l j).parent : Int))
  | [], j, h => by simp at h
  | b :: r, 0, _ => ⟨rfl, rfl, rfl, rfl⟩
  | b :: r, j + 1, h => by
    have := blk_get r j (by simpa using h)
    rw [show (j + 1) * 4 = j * 4 + 4 by omega]
    simpa [blkCells, gb] using this
theorem blk_app (l : List Blk) (b : Blk) : blkCells l ++ [Vi b.first, Vi b.size, Vi b.marked, Vi b.parent] = blkCells (l ++ [b]) := by simp [blkCells]
theorem blk_set : ∀ (l : List Blk) (j : Nat) (x : Nat), (blkCells l).set (j * 4) (Vi x) = blkCells (l.set j { gb l j with first := x }) ∧ (blkCells l).set (j * 4 + 1) (Vi x) = blkCells (l.set j { gb l j with size := x }) ∧
    (blkCells l).set (j * 4 + 2) (Vi x) = blkCells (l.set j { gb l j with marked := x }) ∧ (blkCells l).set (j * 4 + 3) (Vi x) = blkCells (l.set j { gb l j with parent := x })
  | [], j, _ => by simp [blkCells]
  | b :: r, 0, _ => ⟨rfl, rfl, rfl, rfl⟩
  | b :: r, j + 1, x => by
    have := blk_set r j x
    rw [show (j + 1) * 4 = j * 4 + 4 by omega]
    simpa [blkCells, gb] using this
section
variable {base : Nat} {w0 w w' : World} {l : List Ow}
theorem Rows.lenV (h : Rows base w l) {i g n n' c e s : Nat} {xs : List Value} (hi : l[i]? = some ⟨Vs g n c, e, s, n', xs⟩) : n = n' := h.len hi
theorem Rows.cellV (h : Rows base w l) {i g n n' c e s : Nat} {xs : List Value} (hi : l[i]? = some ⟨Vs g n c, e, s, n', xs⟩) {j : Nat} {u : Value} (hj : xs[j]? = some u) : w.cell? ⟨g, 0 + j, none⟩ = some u := by
  obtain rfl := h.len hi
  have := h.1 i _ hi
  rw [Nat.zero_add, World.ownsRow.cellAt this j (by rw [← this.1]; exact (List.getElem?_eq_some_iff.1 hj).1)]
  exact hj
theorem Rows.storeV (h : Rows base w l) {i g n n' c e s : Nat} {xs : List Value} (hi : l[i]? = some ⟨Vs g n c, e, s, n', xs⟩) (j : Nat) (u : Value) :
    Rows base (w.setCell ⟨g, 0 + j, none⟩ u) (l.set i ⟨Vs g n c, e, s, n', xs.set j u⟩) ∧ w.grownBy (w.setCell ⟨g, 0 + j, none⟩ u) (some g) := by
  obtain rfl := h.len hi
  rw [Nat.zero_add]
  obtain ⟨h1, h2⟩ := World.ownsRow.stored (h.1 i _ hi) j u
  exact ⟨h.turn hi h2 h1 (.inl rfl), h2⟩
theorem Rows.xcell (h : Rows base w l) {i T b k : Nat} {vs : List Value} (hi : l[i]? = some (oX T b k vs)) {j : Nat} {u : Value} (hj : vs[j]? = some u) : w.cell? ⟨b, j, none⟩ = some u := by
  have := h.cellV hi hj
  rwa [Nat.zero_add] at this
theorem Rows.free (h : Rows base w l) {i g n n' c e s : Nat} {xs : List Value} (hi : l[i]? = some ⟨Vs g n c, e, s, n', xs⟩) (j : Nat) : w.frozen? ⟨g, j, none⟩ = false := by
  have := h.freeI hi j
  rwa [Nat.zero_add] at this
theorem Hold.start (w : World) : Hold w.heap.size w w [] := ⟨Rows.nil _ _, RowKit.Below.refl _ _, Nat.le_refl _⟩
theorem Hold.drew (h : Hold base w0 w l) : Hold base w0 w.drew l := ⟨h.r, h.b.drew, h.s⟩
theorem Hold.below (h : Hold base w0 w l) (hb : RowKit.Below w.heap.size w w') : Hold base w0 w' l :=
  ⟨h.r.below hb, h.b.trans (hb.mono h.s), Nat.le_trans h.s hb.size⟩
theorem Hold.store (h : Hold base w0 w l) {i g n n' c e s : Nat} {xs : List Value} (hi : l[i]? = some ⟨Vs g n c, e, s, n', xs⟩) (j : Nat) (u : Value) :
    Hold base w0 (w.setCell ⟨g, 0 + j, none⟩ u) (l.set i ⟨Vs g n c, e, s, n', xs.set j u⟩) := by
  obtain ⟨h1, h2⟩ := h.r.storeV hi j u
  exact ⟨h1, h.r.low hi h.b h.s h2, Nat.le_trans h.s h2.size⟩
theorem Hold.xstore (h : Hold base w0 w l) {i T b k : Nat} {vs : List Value} (hi : l[i]? = some (oX T b k vs)) (j : Nat) (u : Value) : Hold base w0 (w.setCell ⟨b, j, none⟩ u) (l.set i (oX T b k (vs.set j u))) := by
  have := h.store hi j u
  rwa [Nat.zero_add] at this
theorem Hold.app {v v' : Value} {e s n m : Nat} {xs news : List Value} (h : Hold base w0 w l) {i : Nat} (hi : l[i]? = some ⟨v, e, s, n, xs⟩) (hown : w'.ownsRow base e s v' (n + m) (xs ++ news)) (hgr : w.grownBy w' v.ownBlock)
    (hat : v'.ownBlock = v.ownBlock ∨ v'.ownBlock = some w.heap.size) : Hold base w0 w' (l.set i ⟨v', e, s, n + m, xs ++ news⟩) :=
  ⟨h.r.turn hi hgr hown (hat.imp id fun e => ⟨_, e, Nat.le_refl _⟩), h.r.low hi h.b h.s hgr, Nat.le_trans h.s hgr.size⟩
theorem Hold.alloc (h : Hold base w0 w l) (o : Obj) : Hold base w0 (w.alloc o) l := h.below (below_alloc _ _)
theorem Hold.new (h : Hold base w0 w l) (hg : w.grownBy w' none) {o : Ow} (ho : o.ok base w') (hat : o.v.ownBlock = none ∨ ∃ k, o.v.ownBlock = some k ∧ w.heap.size ≤ k) : Hold base w0 w' (o :: l) :=
  ⟨h.r.new hg ho hat, h.b.trans ⟨hg.os, hg.tape, hg.output, hg.size, fun k hk => hg.block k (Nat.lt_of_lt_of_le hk h.s) (by simp)⟩, Nat.le_trans h.s hg.size⟩
theorem Hold.lit (h : Hold base w0 w l) {e s n : Nat} (cs : Array Value) (hs : cs.size = n * s) (hn : n ≤ 9223372036854775807) : Hold base w0 (w.alloc (.cells cs e)) (⟨Vs w.heap.size n n, e, s, n, cs.toList⟩ :: l) :=
  h.new (World.grownBy_alloc w _ none) (World.ownsRow_lit w cs n h.s (by unfold maxLen; exact hn) hs) (.inr ⟨_, rfl, Nat.le_refl _⟩)
theorem Hold.box (h : Hold base w0 w l) {T k : Nat} (cs : Array Value) (hs : cs.size = k) : Hold base w0 (w.alloc (.cells cs T)) (oX T w.heap.size k cs.toList :: l) := h.lit cs (by omega) (by decide)
theorem Hold.tail {o : Ow} (h : Hold base w0 w (o :: l)) : Hold base w0 w l := ⟨h.r.tail, h.b, h.s⟩
theorem Hold.swap {a b : Ow} (h : Hold base w0 w (a :: b :: l)) : Hold base w0 w (b :: a :: l) := ⟨h.r.cons2, h.b, h.s⟩
theorem Rows.nilOr (h : Rows base w l) {i : Nat} {v : Value} {e s n : Nat} {xs : List Value} (hi : l[i]? = some ⟨v, e, s, n, xs⟩) (h0 : 0 < n) : ∃ g c, v = Vs g n c ∧ n ≤ c ∧ c ≤ 9223372036854775807 := by
  rcases h.form hi with ⟨_, h1⟩ | h1
  · omega
  · exact h1
theorem Rows.any (h : Rows base w l) {i : Nat} {v : Value} {e s n : Nat} {xs : List Value} (hi : l[i]? = some ⟨v, e, s, n, xs⟩) : ∃ g c, v = .slice g n c ∧ n ≤ c ∧ c ≤ 9223372036854775807 := by
  rcases h.form hi with ⟨h1, rfl⟩ | ⟨g, c, h1, h2, h3⟩
  · exact ⟨_, _, h1, Nat.le_refl _, by omega⟩
  · exact ⟨_, _, h1, h2, h3⟩
theorem Rows.cN (h : Rows base w l) {i g n c : Nat} {xs : List Nat} (hi : l[i]? = some (oN (Vs g n c) xs)) {j : Nat} (hj : j < xs.length) : w.cell? ⟨g, 0 + j, none⟩ = some (Vi (gt xs j : Int)) := h.cellV hi (nats_get xs hj)
theorem Rows.cS (h : Rows base w l) {i g n c : Nat} {xs : List Nat} (hi : l[i]? = some (oS (Vs g n c) xs)) {j : Nat} (hj : j < xs.length) : w.cell? ⟨g, 0 + j, none⟩ = some (.int .i32 (gt xs j : Int)) := h.cellV hi (n32s_get xs hj)
theorem Rows.cB (h : Rows base w l) {i g n c : Nat} {xs : List Bool} (hi : l[i]? = some (oB (Vs g n c) xs)) {j : Nat} (hj : j < xs.length) : w.cell? ⟨g, 0 + j, none⟩ = some (.bool (xs.getD j false)) := h.cellV hi (by simp [List.getD_eq_getElem?_getD, hj])
theorem Rows.cK0 (h : Rows base w l) {i g n c : Nat} {xs : List Blk} (hi : l[i]? = some (oK (Vs g n c) xs)) {j : Nat} (hj : j < xs.length) : w.cell? ⟨g, 0 + j * 4 + 0, none⟩ = some (Vi ((gb xs j).first : Int)) := by
  have := h.cellV hi (blk_get xs j hj).1
  simpa using this
theorem Rows.cK1 (h : Rows base w l) {i g n c : Nat} {xs : List Blk} (hi : l[i]? = some (oK (Vs g n c) xs)) {j : Nat} (hj : j < xs.length) : w.cell? ⟨g, 0 + j * 4 + 1, none⟩ = some (Vi ((gb xs j).size : Int)) := by
  have := h.cellV hi (blk_get xs j hj).2.1
  rwa [← Nat.add_assoc] at this
theorem Rows.cK2 (h : Rows base w l) {i g n c : Nat} {xs : List Blk} (hi : l[i]? = some (oK (Vs g n c) xs)) {j : Nat} (hj : j < xs.length) : w.cell? ⟨g, 0 + j * 4 + 2, none⟩ = some (Vi ((gb xs j).marked : Int)) := by
  have := h.cellV hi (blk_get xs j hj).2.2.1
  rwa [← Nat.add_assoc] at this
theorem Rows.cK3 (h : Rows base w l) {i g n c : Nat} {xs : List Blk} (hi : l[i]? = some (oK (Vs g n c) xs)) {j : Nat} (hj : j < xs.length) : w.cell? ⟨g, 0 + j * 4 + 3, none⟩ = some (Vi ((gb xs j).parent : Int)) := by
  have := h.cellV hi (blk_get xs j hj).2.2.2
  rwa [← Nat.add_assoc] at this
end
structure PV where
  st : Value
  pl : Value
  bl : Value
  bs : Value
  cs : Value
  ml : Value
abbrev pX (b : Nat) (V : PV) : Ow := oX 68 b 6 [V.st, V.pl, V.bl, V.bs, V.cs, V.ml]
abbrev ptR (b : Nat) (p : Pt) (V : PV) : List Ow := [pX b V, oS V.st p.st, oN V.pl p.pl, oN V.bl p.bl, oK V.bs p.bs, oN V.cs p.cs, oN V.ml p.ml]
def HoldP (base : Nat) (w0 w : World) (b : Nat) (p : Pt) (rest : List Ow) : Prop := ∃ V, Hold base w0 w (ptR b p V ++ rest)
section
variable {base : Nat} {w0 w w' : World} {l : List Ow}
theorem Hold.cast {l' : List Ow} (h : Hold base w0 w l) (e : l = l') : Hold base w0 w l' := e ▸ h
theorem oN_set (v : Value) (l : List Nat) (j x : Nat) : (⟨v, 3, 1, l.length, (nats l).set j (Vi x)⟩ : Ow) = oN v (l.set j x) := by rw [nats_set, oN, List.length_set]
theorem oS_set (v : Value) (l : List Nat) (j x : Nat) : (⟨v, 21, 1, l.length, (n32s l).set j (.int .i32 (x : Int))⟩ : Ow) = oS v (l.set j x) := by rw [n32s_set, oS, List.length_set]
theorem oB_set (v : Value) (l : List Bool) (j : Nat) (x : Bool) : (⟨v, 4, 1, l.length, (bools l).set j (.bool x)⟩ : Ow) = oB v (l.set j x) := by rw [oB, List.length_set, bools, bools, List.map_set]
theorem oN_app (v : Value) (l : List Nat) (x : Nat) : (⟨v, 3, 1, l.length + 1, nats l ++ [Vi x]⟩ : Ow) = oN v (l ++ [x]) := by simp
theorem oS_app (v : Value) (l : List Nat) (x : Nat) : (⟨v, 21, 1, l.length + 1, n32s l ++ [.int .i32 (x : Int)]⟩ : Ow) = oS v (l ++ [x]) := by simp
theorem oK_app (v : Value) (l : List Blk) (b : Blk) : (⟨v, 99, 4, l.length + 1, blkCells l ++ [Vi b.first, Vi b.size, Vi b.marked, Vi b.parent]⟩ : Ow) = oK v (l ++ [b]) := by rw [blk_app, oK, List.length_append]; rfl
theorem oB_app (v : Value) (l k : List Bool) : (⟨v, 4, 1, l.length + k.length, bools l ++ bools k⟩ : Ow) = oB v (l ++ k) := by simp
theorem Hold.storeN (h : Hold base w0 w l) {i g n c : Nat} {xs : List Nat} (hi : l[i]? = some (oN (Vs g n c) xs)) (j x : Nat) : Hold base w0 (w.setCell ⟨g, 0 + j, none⟩ (Vi x)) (l.set i (oN (Vs g n c) (xs.set j x))) := by
  have := h.store hi j (Vi x)
  rwa [oN_set] at this
theorem Hold.storeS (h : Hold base w0 w l) {i g n c : Nat} {xs : List Nat} (hi : l[i]? = some (oS (Vs g n c) xs)) (j x : Nat) : Hold base w0 (w.setCell ⟨g, 0 + j, none⟩ (.int .i32 (x : Int))) (l.set i (oS (Vs g n c) (xs.set j x))) := by
  have := h.store hi j (.int .i32 (x : Int))
  rwa [oS_set] at this
theorem Hold.storeB (h : Hold base w0 w l) {i g n c : Nat} {xs : List Bool} (hi : l[i]? = some (oB (Vs g n c) xs)) (j : Nat) (x : Bool) : Hold base w0 (w.setCell ⟨g, 0 + j, none⟩ (.bool x)) (l.set i (oB (Vs g n c) (xs.set j x))) := by
  have := h.store hi j (.bool x)
  rwa [oB_set] at this
theorem Hold.storeK0 (h : Hold base w0 w l) {i g n c : Nat} {xs : List Blk} (hi : l[i]? = some (oK (Vs g n c) xs)) (j x : Nat) : Hold base w0 (w.setCell ⟨g, 0 + j * 4 + 0, none⟩ (Vi x)) (l.set i (oK (Vs g n c) (xs.set j { gb xs j with first := x }))) := by
  have := h.store hi (j * 4) (Vi x)
  rw [(blk_set xs j x).1] at this
  rw [oK, List.length_set]; exact this
theorem Hold.storeK1 (h : Hold base w0 w l) {i g n c : Nat} {xs : List Blk} (hi : l[i]? = some (oK (Vs g n c) xs)) (j x : Nat) : Hold base w0 (w.setCell ⟨g, 0 + j * 4 + 1, none⟩ (Vi x)) (l.set i (oK (Vs g n c) (xs.set j { gb xs j with size := x }))) := by
  have := h.store hi (j * 4 + 1) (Vi x)
  rw [(blk_set xs j x).2.1, ← Nat.add_assoc] at this
  rw [oK, List.length_set]; exact this
theorem Hold.storeK2 (h : Hold base w0 w l) {i g n c : Nat} {xs : List Blk} (hi : l[i]? = some (oK (Vs g n c) xs)) (j x : Nat) : Hold base w0 (w.setCell ⟨g, 0 + j * 4 + 2, none⟩ (Vi x)) (l.set i (oK (Vs g n c) (xs.set j { gb xs j with marked := x }))) := by
  have := h.store hi (j * 4 + 2) (Vi x)
  rw [(blk_set xs j x).2.2.1, ← Nat.add_assoc] at this
  rw [oK, List.length_set]; exact this
theorem Hold.appN {v v' : Value} {xs : List Nat} {x : Nat} (h : Hold base w0 w l) {i : Nat} (hi : l[i]? = some (oN v xs)) (hown : w'.ownsRow base 3 1 v' (xs.length + 1) (nats xs ++ [Vi x])) (hgr : w.grownBy w' v.ownBlock)
    (hat : v'.ownBlock = v.ownBlock ∨ v'.ownBlock = some w.heap.size) : Hold base w0 w' (l.set i (oN v' (xs ++ [x]))) := by
  have := h.app hi hown hgr hat
  rwa [oN_app] at this
theorem Hold.appS {v v' : Value} {xs : List Nat} {x : Nat} (h : Hold base w0 w l) {i : Nat} (hi : l[i]? = some (oS v xs)) (hown : w'.ownsRow base 21 1 v' (xs.length + 1) (n32s xs ++ [.int .i32 (x : Int)])) (hgr : w.grownBy w' v.ownBlock)
    (hat : v'.ownBlock = v.ownBlock ∨ v'.ownBlock = some w.heap.size) : Hold base w0 w' (l.set i (oS v' (xs ++ [x]))) := by
  have := h.app hi hown hgr hat
  rwa [oS_app] at this
theorem Hold.appB {v v' : Value} {xs ys : List Bool} (h : Hold base w0 w l) {i : Nat} (hi : l[i]? = some (oB v xs)) (hown : w'.ownsRow base 4 1 v' (xs.length + ys.length) (bools xs ++ bools ys)) (hgr : w.grownBy w' v.ownBlock)
    (hat : v'.ownBlock = v.ownBlock ∨ v'.ownBlock = some w.heap.size) : Hold base w0 w' (l.set i (oB v' (xs ++ ys))) := by
  have := h.app hi hown hgr hat
  rwa [oB_app] at this
theorem Hold.appK {v v' : Value} {xs : List Blk} {b : Blk} (h : Hold base w0 w l) {i : Nat} (hi : l[i]? = some (oK v xs)) (hown : w'.ownsRow base 99 4 v' (xs.length + 1) (blkCells xs ++ [Vi b.first, Vi b.size, Vi b.marked, Vi b.parent])) (hgr : w.grownBy w' v.ownBlock)
    (hat : v'.ownBlock = v.ownBlock ∨ v'.ownBlock = some w.heap.size) : Hold base w0 w' (l.set i (oK v' (xs ++ [b]))) := by
  have := h.app hi hown hgr hat
  rwa [oK_app] at this
end
theorem nat_eq0 (n : Nat) : decide ((n : Int) = 0) = decide (n = 0) := by
  rw [Bool.eq_iff_iff]; simp
theorem i32_in (n : Nat) (h : n ≤ 1000000000) : IntKind.i32.wrap (n : Int) = (n : Int) := by
  have h1 : (n : Int) % 2 ^ 32 = n := by omega
  simp only [IntKind.wrap, IntKind.bits, IntKind.signed, h1]
  rw [if_neg (by simp; omega)]
theorem i64_in (n : Nat) (h : n ≤ 9223372036854775807) : IntKind.i64.wrap (n : Int) = (n : Int) := IntWalk.i64_in _ ⟨by omega, by omega⟩
theorem i64_add (n m : Nat) (h : n + m ≤ 9223372036854775807) : IntKind.i64.wrap ((n : Int) + (m : Int)) = ((n + m : Nat) : Int) := by
  rw [← Int.natCast_add]; exact i64_in _ h
theorem i64_sub (n m : Nat) (h : m ≤ n) (hn : n ≤ 9223372036854775807) : IntKind.i64.wrap ((n : Int) - (m : Int)) = ((n - m : Nat) : Int) := by
  rw [show (n : Int) - (m : Int) = ((n - m : Nat) : Int) by omega]; exact i64_in _ (by omega)
theorem i64_mul (n m : Nat) (h : n * m ≤ 9223372036854775807) : IntKind.i64.wrap ((n : Int) * (m : Int)) = ((n * m : Nat) : Int) := by
  rw [← Int.natCast_mul]; exact i64_in _ h
end Go.Proofs.Ythcoppfiahnpoaa
namespace Go.Proofs.Ythcoppfiahnpoaa
open Go Sym
section
variable {base : Nat} {w0 w : World} {b : Nat} {p : Pt} {N s : Nat} {rest : List Ow}
theorem mark_r3 {vst vpl vbl vbs vcs vml : Value} {pb : Value} {own : Nat} (h : Hold base w0 w (ptR b p ⟨vst, vpl, vbl, vbs, vcs, vml⟩ ++ rest)) (hml : p.ml.length < 1000000000)
    {Q : Exit → Act → World → Prop} {a : Act} {ops : Array Oper} {id : Nat} (hops : Sym.regionOf Try.f78.body 3 = some (id, ops))
    (hS : St Try.f78.ntmps a [(0, Vp b), (1, Vi s), (4, Vi own), (5, pb)])
    (hq : ∀ vml' a' w', St Try.f78.ntmps a' [(0, Vp b), (1, Vi s), (4, Vi own), (5, pb)] → Hold base w0 w' (ptR b { p with ml := p.ml ++ [own] } ⟨vst, vpl, vbl, vbs, vcs, vml'⟩ ++ rest) → Q .normal a' w') : (Code.region id ops false).wp Try.prog Q a w := by
  cases hops
  refine seq_cutx (α := Value) (fun _ => [(0, Vp b), (1, Vi s), (4, Vi own), (5, pb)]) (fun vml' w' => Hold base w0 w' (ptR b { p with ml := p.ml ++ [own] } ⟨vst, vpl, vbl, vbs, vcs, vml'⟩ ++ rest)) tab_ok hS ?_ hq
  obtain ⟨g, c, rfl, hc⟩ := h.r.any (i := 6) rfl
  repeat first|refine zP rfl ?_|refine zK rfl ?_
  refine zL rfl (h.r.xcell (i := 0) rfl (j := 5) rfl) ?_
  repeat first|refine zP rfl ?_|refine zK rfl ?_
  refine o_step rfl rfl rfl ?_
  refine Exists.intro [(0, Vi (own))] (Exists.intro #[Vi (own)] (And.intro (And.intro rfl rfl) (And.intro (by decide) (And.intro (fillI _ _ _) ?_))))
  have h1 := h.alloc (.cells #[Vi own] 3)
  have ask : AppAsk (w.alloc (.cells #[Vi own] 3)) ⟨3, .int .i64, 1, 8, Vi 0⟩ (.slice g p.ml.length c) p.ml.length (nats p.ml) (Vs w.heap.size 1 1) 1 [Vi own] base :=
    ⟨h1.r.1 6 _ rfl, .inr ⟨_, 0, _, rfl, cell_alloc_new rfl, trivial⟩, rfl, (by simp [Value.oneCell']), (by omega), (by show (p.ml.length + 1) * 8 ≤ _; omega), h1.s⟩
  refine o_step rfl rfl rfl ?_
  refine Exists.intro _ (Exists.intro _ (Exists.intro _ (Exists.intro _ (Exists.intro _ (And.intro (ask) (And.intro (fun _ h => h.symm) (And.intro (by decide) ?_)))))))
  rintro v' w2 hown hgr - hat
  have h2 := h1.appN (i := 6) rfl hown hgr hat
  obtain ⟨g2, n2, c2, hv⟩ := own_form hown
  subst hv
  repeat first|refine zP rfl ?_|refine zK rfl ?_
  refine zS rfl rfl (h2.r.xcell (i := 0) rfl (j := 5) rfl) (h2.r.free (i := 0) rfl 5) ?_
  exact o_nil ⟨.slice g2 n2 c2, ⟨rfl, rfl, rfl, rfl, trivial⟩, h2.xstore (i := 0) rfl 5 (.slice g2 n2 c2)⟩
theorem mark_r6 {vst vpl vbl vbs vcs vml : Value} {pb : Value} {to fr ot : Nat} (h : Hold base w0 w (ptR b p ⟨vst, vpl, vbl, vbs, vcs, vml⟩ ++ rest)) (hto : to < p.st.length) (hfr : fr < p.st.length) (hs : s < 1000000000)
    {Q : Exit → Act → World → Prop} {a : Act} {ops : Array Oper} {id : Nat} (hops : Sym.regionOf Try.f78.body 6 = some (id, ops))
    (hS : St Try.f78.ntmps a [(0, Vp b), (1, Vi s), (5, pb), (6, Vi to), (7, Vi fr), (8, .int .i32 (ot : Int))])
    (hq : ∀ a' w', St Try.f78.ntmps a' [(0, Vp b), (1, Vi s), (5, pb), (6, Vi to), (7, Vi fr), (8, .int .i32 (ot : Int))] → Hold base w0 w' (ptR b { p with st := (p.st.set to s).set fr ot } ⟨vst, vpl, vbl, vbs, vcs, vml⟩ ++ rest) → Q .normal a' w') : (Code.region id ops true).wp Try.prog Q a w := by
  cases hops
  refine any_cut 14 [(0, Vp b), (1, Vi s), (5, pb), (6, Vi to), (7, Vi fr), (8, .int .i32 (ot : Int))] (fun w' => Hold base w0 w' (ptR b { p with st := (p.st.set to s).set fr ot } ⟨vst, vpl, vbl, vbs, vcs, vml⟩ ++ rest)) mixed hS ?_ hq
  have hy : RowKit.Below w.drew.heap.size w.drew w.drew := RowKit.Below.refl _ _
  have hD := h.drew
  obtain ⟨g, c, rfl, hc⟩ := hD.r.nilOr (i := 1) rfl (by omega)
  refine yG 0 tab_ok rfl (by kernel_rfl) (.inr hy) rfl rfl ?_
  refine yT 1 tab_ok rfl (by kernel_rfl) hy rfl (rfl) ?_
  refine yT 2 tab_ok rfl (by kernel_rfl) hy rfl (rfl) ?_
  refine yL 3 tab_ok rfl (by kernel_rfl) hy rfl rfl (hD.r.xcell (i := 0) rfl (j := 0) rfl) ?_
  refine yG 4 tab_ok rfl (by kernel_rfl) (.inr hy) rfl rfl ?_
  refine yG 5 tab_ok rfl (by kernel_rfl) (.inr hy) rfl rfl ?_
  refine yT 6 tab_ok rfl (by kernel_rfl) hy rfl (rfl) ?_
  refine yT 7 tab_ok rfl (by kernel_rfl) hy rfl (rfl) ?_
  refine yL 8 tab_ok rfl (by kernel_rfl) hy rfl rfl (hD.r.xcell (i := 0) rfl (j := 0) rfl) ?_
  refine yG 10 tab_ok rfl (by kernel_rfl) (.inr hy) rfl rfl ?_
  refine yT 11 tab_ok rfl (by kernel_rfl) hy rfl (Exists.intro _ (And.intro (i32_in s (by omega)) rfl)) ?_
  refine yT 13 tab_ok rfl (by kernel_rfl) hy rfl (Exists.intro _ (And.intro (rfl) (And.intro (hto) rfl))) ?_
  refine yG 9 tab_ok rfl (by kernel_rfl) (.inr hy) rfl rfl ?_
  refine yG 12 tab_ok rfl (by kernel_rfl) (.inr hy) rfl rfl ?_
  refine y_one 14 (by kernel_rfl) (y_op0 14 tab_ok rfl rfl rfl ?_)
  have h1 := hD.storeS (i := 1) rfl to s
  refine And.intro rfl (And.intro rfl (And.intro ⟨_, hD.r.cS (i := 1) rfl hto⟩ (And.intro (hD.r.free (i := 1) rfl _) (And.intro (.inl (by kernel_rfl)) ?_))))
  refine yG 15 tab_ok rfl (by kernel_rfl) (.inl (by kernel_rfl)) rfl (Exists.intro _ (And.intro (rfl) (And.intro (hfr) rfl))) ?_
  refine y_one 16 (by kernel_rfl) (y_op0 16 tab_ok rfl rfl rfl ?_)
  refine And.intro rfl (And.intro rfl (And.intro ⟨_, h1.r.cS (i := 1) rfl (j := fr) (by rw [List.length_set]; exact hfr)⟩ (And.intro (h1.r.free (i := 1) rfl _) (And.intro (.inl (by kernel_rfl)) ?_))))
  exact y_end (by kernel_rfl) ⟨rfl, rfl, rfl, rfl, rfl, rfl, trivial⟩ (h1.storeS (i := 1) rfl fr ot)
theorem mark_r7 {vst vpl vbl vbs vcs vml : Value} {pb : Value} {to fr ot : Nat} (h : Hold base w0 w (ptR b p ⟨vst, vpl, vbl, vbs, vcs, vml⟩ ++ rest)) (hs : s < p.pl.length) (hot : ot < p.pl.length) (hN : p.pl.length ≤ 1000000000)
    {Q : Exit → Act → World → Prop} {a : Act} {ops : Array Oper} {id : Nat} (hops : Sym.regionOf Try.f78.body 7 = some (id, ops))
    (hS : St Try.f78.ntmps a [(0, Vp b), (1, Vi s), (5, pb), (6, Vi to), (7, Vi fr), (8, .int .i32 (ot : Int))])
    (hq : ∀ a' w', St Try.f78.ntmps a' [(5, pb)] → Hold base w0 w' (ptR b { p with pl := (p.pl.set s to).set ot fr } ⟨vst, vpl, vbl, vbs, vcs, vml⟩ ++ rest) → Q .normal a' w') : (Code.region id ops true).wp Try.prog Q a w := by
  cases hops
  refine any_cut 13 [(5, pb)] (fun w' => Hold base w0 w' (ptR b { p with pl := (p.pl.set s to).set ot fr } ⟨vst, vpl, vbl, vbs, vcs, vml⟩ ++ rest)) mixed hS ?_ hq
  have hy : RowKit.Below w.drew.heap.size w.drew w.drew := RowKit.Below.refl _ _
  have hD := h.drew
  obtain ⟨g, c, rfl, hc⟩ := hD.r.nilOr (i := 2) rfl (by omega)
  refine yG 0 tab_ok rfl (by kernel_rfl) (.inr hy) rfl rfl ?_
  refine yT 1 tab_ok rfl (by kernel_rfl) hy rfl (rfl) ?_
  refine yT 2 tab_ok rfl (by kernel_rfl) hy rfl (rfl) ?_
  refine yL 3 tab_ok rfl (by kernel_rfl) hy rfl rfl (hD.r.xcell (i := 0) rfl (j := 1) rfl) ?_
  refine yG 4 tab_ok rfl (by kernel_rfl) (.inr hy) rfl rfl ?_
  refine yG 5 tab_ok rfl (by kernel_rfl) (.inr hy) rfl rfl ?_
  refine yT 6 tab_ok rfl (by kernel_rfl) hy rfl (rfl) ?_
  refine yT 7 tab_ok rfl (by kernel_rfl) hy rfl (rfl) ?_
  refine yL 8 tab_ok rfl (by kernel_rfl) hy rfl rfl (hD.r.xcell (i := 0) rfl (j := 1) rfl) ?_
  refine yG 10 tab_ok rfl (by kernel_rfl) (.inr hy) rfl rfl ?_
  refine yT 12 tab_ok rfl (by kernel_rfl) hy rfl (Exists.intro _ (And.intro (rfl) (And.intro (hs) rfl))) ?_
  refine yG 9 tab_ok rfl (by kernel_rfl) (.inr hy) rfl rfl ?_
  refine yG 11 tab_ok rfl (by kernel_rfl) (.inr hy) rfl rfl ?_
  refine y_one 13 (by kernel_rfl) (y_op0 13 tab_ok rfl rfl rfl ?_)
  have h1 := hD.storeN (i := 2) rfl s to
  refine And.intro rfl (And.intro rfl (And.intro ⟨_, hD.r.cN (i := 2) rfl hs⟩ (And.intro (hD.r.free (i := 2) rfl _) (And.intro (.inl (by kernel_rfl)) ?_))))
  refine yG 14 tab_ok rfl (by kernel_rfl) (.inl (by kernel_rfl)) rfl (Exists.intro _ (And.intro (rfl) (And.intro (hot) rfl))) ?_
  refine y_one 15 (by kernel_rfl) (y_op0 15 tab_ok rfl rfl rfl ?_)
  refine And.intro rfl (And.intro rfl (And.intro ⟨_, h1.r.cN (i := 2) rfl (j := ot) (by rw [List.length_set]; exact hot)⟩ (And.intro (h1.r.free (i := 2) rfl _) (And.intro (.inl (by kernel_rfl)) ?_))))
  exact y_end (by kernel_rfl) ⟨rfl, trivial⟩ (h1.storeN (i := 2) rfl ot fr)
theorem mark_any (h : HoldP base w0 w b p rest) (hp : PI p N p.ml) (hs : s < N) (hm : ¬ p.M s) (hN : N ≤ 100000000) :
    Calls Try.prog 78 #[Vp b, Vi s] w fun e w' => e = .returned (.tuple #[]) ∧ HoldP base w0 w' b (p.mark s) rest := by
  obtain ⟨⟨vst, vpl, vbl, vbs, vcs, vml⟩, h⟩ := h
  refine Sym.enter (args := [Vp b, Vi s]) Try.func78 rfl rfl rfl (fun a0 hS0 => ?_)
  have hib := hp.ib s hs
  have hto := hp.to hs hm
  obtain ⟨own, hown⟩ : ∃ own, gt p.bl s = own := ⟨_, rfl⟩
  rw [hown] at hib hto
  have hbd := hp.bd own hib
  have hps := hp.ps s hs
  have hl1 := hp.st
  have hl2 := hp.pl
  have hl3 := hp.bl
  have hfew := hp.few
  have hml : p.ml.length ≤ N := by
    have := hp.nd.length_le_of_subset (l₂ := List.range p.bs.length) (fun x hx => List.mem_range.2 ((hp.tm x).1 hx).1)
    rw [List.length_range] at this
    omega
  obtain ⟨gbl, cbl, rfl, -⟩ := h.r.nilOr (i := 3) rfl (by omega)
  obtain ⟨gbs, cbs, rfl, -⟩ := h.r.nilOr (i := 4) rfl (by omega)
  obtain ⟨gpl, cpl, rfl, -⟩ := h.r.nilOr (i := 2) rfl (by omega)
  obtain ⟨gst, cst, rfl, -⟩ := h.r.nilOr (i := 1) rfl (by omega)
  refine wp_seq (seq_cut [(0, Vp b), (1, Vi s), (4, Vi own)] (· = w) tab_ok hS0 ?_ (fun a w1 hS hw => ?_))
  · have hc := h.r.cN (i := 3) rfl (j := s) (by omega)
    rw [hown] at hc
    repeat first|refine zP rfl ?_|refine zK rfl ?_
    refine zL rfl (h.r.xcell (i := 0) rfl (j := 2) rfl) ?_
    repeat first|refine zP rfl ?_|refine zK rfl ?_
    refine zI rfl (rfl) ((by omega)) ?_
    refine zL rfl (hc) ?_
    repeat first|refine zP rfl ?_|refine zK rfl ?_
    exact o_nil ⟨⟨rfl, rfl, rfl, trivial⟩, rfl⟩
  subst hw
  refine wp_seq (seq_cut [(0, Vp b), (1, Vi s), (4, Vi own), (5, .pointer (some ⟨gbs, 0 + own * 4, none⟩))] (· = w1) tab_ok hS ?_ (fun a w2 hS hw => ?_))
  · repeat first|refine zP rfl ?_|refine zK rfl ?_
    refine zL rfl (h.r.xcell (i := 0) rfl (j := 3) rfl) ?_
    repeat first|refine zP rfl ?_|refine zK rfl ?_
    refine zI rfl (rfl) (hib) ?_
    repeat first|refine zP rfl ?_|refine zK rfl ?_
    exact o_nil ⟨⟨rfl, rfl, rfl, rfl, trivial⟩, rfl⟩
  subst hw
  obtain ⟨ml', hml'⟩ : ∃ ml', ml' = if (gb p.bs own).marked = 0 then p.ml ++ [own] else p.ml := ⟨_, rfl⟩
  refine wp_seq (cut (F := fun a' w' => ∃ vml' : Value, St Try.f78.ntmps a' [(0, Vp b), (1, Vi s), (4, Vi own), (5, .pointer (some ⟨gbs, 0 + own * 4, none⟩))] ∧ Hold base w0 w' (ptR b { p with ml := ml' } ⟨Vs gst p.st.length cst, Vs gpl p.pl.length cpl, Vs gbl p.bl.length cbl, Vs gbs p.bs.length cbs, vcs, vml'⟩ ++ rest)) ?_ ?_)
  · refine wp_seq (seq_cut [(0, Vp b), (1, Vi s), (4, Vi own), (5, .pointer (some ⟨gbs, 0 + own * 4, none⟩)), (26, .bool (decide ((gb p.bs own).marked = 0)))] (· = w2) tab_ok hS ?_ (fun a w3 hS hw => ?_))
    · repeat first|refine zP rfl ?_|refine zK rfl ?_
      refine zL rfl (h.r.cK2 (i := 4) rfl hib) ?_
      repeat first|refine zP rfl ?_|refine zK rfl ?_
      refine zC rfl (nat_eq0 _) ?_
      repeat first|refine zP rfl ?_|refine zK rfl ?_
      exact o_nil ⟨⟨rfl, rfl, rfl, rfl, rfl, trivial⟩, rfl⟩
    subst hw
    refine cond hS rfl (fun hT => ?_) (fun hF => ?_)
    · refine mark_r3 h (by omega) (by rfl) (hS.sub ⟨rfl, rfl, rfl, rfl, trivial⟩) (fun vml' a w4 hS h => ?_)
      rw [hml', if_pos (of_decide_eq_true hT)]
      exact ⟨vml', hS, h⟩
    · refine wp_skip ?_
      rw [hml', if_neg (of_decide_eq_false hF)]
      exact ⟨vml, hS.sub ⟨rfl, rfl, rfl, rfl, trivial⟩, h⟩
  clear h hS
  rintro a w3 ⟨vml', hS, h⟩
  refine wp_seq (quiet_cut [(0, Vp b), (1, Vi s), (5, .pointer (some ⟨gbs, 0 + own * 4, none⟩)), (6, Vi (((gb p.bs own).first + (gb p.bs own).marked : Nat) : Int)), (7, Vi (gt p.pl s : Int))] tab_ok mixed (by kernel_rfl) hS ?_ (fun a w4 hS hw => ?_))
  · repeat first|refine qP rfl ?_|refine qK rfl ?_
    refine qL rfl (h.r.cK0 (i := 4) rfl hib) ?_
    repeat first|refine qP rfl ?_|refine qK rfl ?_
    refine qL rfl (h.r.cK2 (i := 4) rfl hib) ?_
    refine qN rfl (i64_add _ _ (by (try dsimp only); omega)) ?_
    repeat first|refine qP rfl ?_|refine qK rfl ?_
    refine qL rfl (h.r.xcell (i := 0) rfl (j := 1) rfl) ?_
    repeat first|refine qP rfl ?_|refine qK rfl ?_
    refine qI rfl (rfl) ((by (try dsimp only); omega)) ?_
    refine qL rfl (h.r.cN (i := 2) rfl (j := s) (by (try dsimp only); omega)) ?_
    repeat first|refine qP rfl ?_|refine qK rfl ?_
    exact q_nil ⟨rfl, rfl, rfl, rfl, rfl, trivial⟩
  replace h := h.below hw
  refine wp_seq (seq_cut [(0, Vp b), (1, Vi s), (5, .pointer (some ⟨gbs, 0 + own * 4, none⟩)), (6, Vi (((gb p.bs own).first + (gb p.bs own).marked : Nat) : Int)), (7, Vi (gt p.pl s : Int)), (8, .int .i32 (gt p.st ((gb p.bs own).first + (gb p.bs own).marked) : Int))] (· = w4) tab_ok hS ?_ (fun a w5 hS hw => ?_))
  · repeat first|refine zP rfl ?_|refine zK rfl ?_
    refine zL rfl (h.r.xcell (i := 0) rfl (j := 0) rfl) ?_
    repeat first|refine zP rfl ?_|refine zK rfl ?_
    refine zI rfl (rfl) ((by (try dsimp only); omega)) ?_
    refine zL rfl (h.r.cS (i := 1) rfl (j := (gb p.bs own).first + (gb p.bs own).marked) (by show _ < p.st.length; omega)) ?_
    repeat first|refine zP rfl ?_|refine zK rfl ?_
    exact o_nil ⟨⟨rfl, rfl, rfl, rfl, rfl, rfl, trivial⟩, rfl⟩
  subst hw
  refine wp_seq (mark_r6 h (by show _ < p.st.length; omega) (by show _ < p.st.length; omega) (by (try dsimp only); omega) (by rfl) hS (fun a w6 hS h => ?_))
  have hot := (hp.sp ((gb p.bs own).first + (gb p.bs own).marked) (by (try dsimp only); omega)).1
  refine wp_seq (mark_r7 h (by show _ < p.pl.length; omega) (by show _ < p.pl.length; omega) (by show p.pl.length ≤ _; omega) (by rfl) hS (fun a w7 hS h => ?_))
  refine seq_cut [] (fun w8 => HoldP base w0 w8 b (p.mark s) rest) tab_ok hS ?_ (fun a w8 hS hw => ret0 hS rfl ⟨rfl, hw⟩)
  repeat first|refine zP rfl ?_|refine zK rfl ?_
  refine zL rfl (h.r.cK2 (i := 4) rfl hib) ?_
  repeat first|refine zP rfl ?_|refine zK rfl ?_
  refine zN rfl (i64_add _ 1 (by (try dsimp only); omega)) ?_
  repeat first|refine zP rfl ?_|refine zK rfl ?_
  refine zS rfl rfl (h.r.cK2 (i := 4) rfl hib) (h.r.free (i := 4) rfl _) ?_
  refine o_nil ⟨trivial, ⟨⟨Vs gst p.st.length cst, Vs gpl p.pl.length cpl, Vs gbl p.bl.length cbl, Vs gbs p.bs.length cbs, vcs, vml'⟩, (h.storeK2 (i := 4) rfl own _).cast ?_⟩⟩
  subst hml'
  unfold Pt.mark
  rw [hown]
  rfl
end
end Go.Proofs.Ythcoppfiahnpoaa
namespace Go.Proofs.Ythcoppfiahnpoaa
open Go Sym
theorem en_round : enters Try.prog 46 = true := by kernel_rfl
theorem en_members : enters Try.prog 101 = true := by kernel_rfl
theorem en_mark : enters Try.prog 78 = true := by kernel_rfl
section
variable {base : Nat} {w0 w : World} {b : Nat} {p : Pt} {N s : Nat} {rest : List Ow}
theorem gst_form {g c l k : Nat} (hk : 0 < k) (hl : l + k ≤ c) : (Value.slice (if c = l then some ⟨g, 0, none⟩ else (some (⟨g, 0, none⟩ : Addr)).map (·.add (l * 1))) k (c - l)) = .slice (some ⟨g, l, none⟩) k (c - l) := by
  rw [if_neg (by omega)]
  simp only [Option.map_some, Addr.add, Nat.mul_one]
  split
  · rename_i h; rw [h]
  · simp
theorem round_any {V : PV} (h : Hold base w0 w (ptR b p V ++ rest)) (hc : 0 < p.cs.length) (hN : p.cs.length ≤ 1000000000) :
    Calls Try.prog 46 #[Vp b] w fun e w' => e = .returned (Vi (p.cs.length - 1 : Nat)) ∧ RowKit.Below w.heap.size w w' := by
  obtain ⟨vst, vpl, vbl, vbs, vcs, vml⟩ := V
  refine Sym.enter (args := [Vp b]) Try.func46 rfl rfl rfl (fun a0 hS0 => ?_)
  obtain ⟨g, c, rfl, -⟩ := h.r.any (i := 5) rfl
  refine wp_seq (seq_cut [(0, Vp b)] (· = w) tab_ok hS0 ?_ (fun a w1 hS hw => ?_))
  · repeat first|refine zP rfl ?_|refine zK rfl ?_
    exact o_nil ⟨⟨rfl, trivial⟩, rfl⟩
  subst hw
  refine wp_seq (seq_cut [(2, Vi (p.cs.length - 1 : Nat))] (· = w1) tab_ok hS ?_ (fun a w2 hS hw => ?_))
  · repeat first|refine zP rfl ?_|refine zK rfl ?_
    refine zL rfl (h.r.xcell (i := 0) rfl (j := 4) rfl) ?_
    repeat first|refine zP rfl ?_|refine zK rfl ?_
    refine zN rfl (i64_sub _ 1 (by omega) (by omega)) ?_
    repeat first|refine zP rfl ?_|refine zK rfl ?_
    exact o_nil ⟨⟨rfl, trivial⟩, rfl⟩
  subst hw
  refine wp_ret ?_
  repeat (first | refine then_ret ?_ | refine block_ret ?_)
  exact ret1 hS rfl rfl ⟨rfl, RowKit.Below.refl _ _⟩
theorem members_any {vpl vbl vbs vcs vml mk par : Value} {gst cst l k : Nat} (h : Hold base w0 w (ptR b p ⟨Vs gst p.st.length cst, vpl, vbl, vbs, vcs, vml⟩ ++ rest)) (hk : 0 < k) (hl : l + k ≤ p.st.length) (hN : p.st.length ≤ 1000000000) :
    Calls Try.prog 101 #[Vp b, .agg #[Vi l, Vi k, mk, par]] w fun e w' => e = .returned (.slice (some ⟨gst, l, none⟩) k (cst - l)) ∧ RowKit.Below w.heap.size w w' := by
  refine Sym.enter (args := [Vp b, .agg #[Vi l, Vi k, mk, par]]) Try.func101 rfl rfl rfl (fun a0 hS0 => ?_)
  obtain ⟨g, c, hv, hc, -⟩ := h.r.nilOr (i := 1) rfl (by omega)
  simp only [Value.slice.injEq] at hv
  obtain ⟨hv1, -, rfl⟩ := hv
  refine wp_seq (seq_cut [(0, Vp b), (3, Vp w.heap.size)] (· = w.alloc (.cells #[Vi l, Vi k, mk, par] 99)) tab_ok hS0 ?_ (fun a w1 hS hw => ?_))
  · refine zB rfl ?_
    repeat first|refine zP rfl ?_|refine zK rfl ?_
    exact o_nil ⟨⟨rfl, rfl, trivial⟩, rfl⟩
  have hB : RowKit.Below w.heap.size w w1 := by rw [hw]; exact below_alloc _ _
  have hc0 : w1.cell? ⟨w.heap.size, 0, none⟩ = some (Vi l) := by rw [hw]; exact cell_alloc_new rfl
  have hc1 : w1.cell? ⟨w.heap.size, 1, none⟩ = some (Vi k) := by rw [hw]; exact cell_alloc_new rfl
  obtain ⟨B, hBB⟩ : ∃ B, B = w.heap.size := ⟨_, rfl⟩
  rw [← hBB] at hc0 hc1 hS
  have h1 := h.below hB
  refine wp_seq (quiet_cut [(4, .slice (some ⟨gst, l, none⟩) k (cst - l))] tab_ok mixed (by kernel_rfl) hS ?_ (fun a w2 hS hw2 => ?_))
  · repeat first|refine qP rfl ?_|refine qK rfl ?_
    refine qL rfl (h1.r.xcell (i := 0) rfl (j := 0) rfl) ?_
    repeat first|refine qP rfl ?_|refine qK rfl ?_
    refine qL rfl (hc0) ?_
    repeat first|refine qP rfl ?_|refine qK rfl ?_
    refine qL rfl (hc0) ?_
    repeat first|refine qP rfl ?_|refine qK rfl ?_
    refine qL rfl (hc1) ?_
    refine qN rfl (i64_add _ _ (by omega)) ?_
    refine q_step rfl rfl rfl (Exists.intro l (Exists.intro (l + k) (And.intro ⟨_, _, rfl, rfl⟩ (And.intro ⟨_, _, rfl, rfl⟩ (And.intro (by omega) (And.intro (by omega) (And.intro hc ?_)))))))
    rw [show l + k - l = k by omega]
    have e := gst_form (g := gst) (c := cst) (l := l) hk (by omega)
    refine cast (congrArg (fun v => quietK _ _ _ _ _ _ _ ((16, v) :: _)) e.symm) ?_
    repeat first|refine qP rfl ?_|refine qK rfl ?_
    exact q_nil ⟨rfl, trivial⟩
  refine wp_ret ?_
  repeat (first | refine then_ret ?_ | refine block_ret ?_)
  exact ret1 hS rfl rfl ⟨rfl, below_trans hB hw2⟩
theorem relabel_succ (st : List Nat) (nb : Nat) : ∀ (k i : Nat) (bl : List Nat), relabel st nb bl i (k + 1) = (relabel st nb bl i k).set (gt st (i + k)) nb
  | 0, i, bl => rfl
  | k + 1, i, bl => by
    rw [relabel, relabel_succ st nb k (i + 1), relabel, show i + 1 + k = i + (k + 1) by omega]
abbrev bX (B : Nat) (x : Blk) : Ow := oX 99 B 4 [Vi x.first, Vi x.size, Vi x.marked, Vi x.parent]
variable {vst vpl vbl vcs vml : Value} {gbs cbs lbs n k old : Nat}
theorem split_r4 (h : Hold base w0 w (ptR b p ⟨vst, vpl, vbl, Vs gbs lbs cbs, vcs, vml⟩ ++ rest)) (hold : old < p.bs.length) {Q : Exit → Act → World → Prop} {a : Act} {ops : Array Oper} {id : Nat} (hops : Sym.regionOf Try.f79.body 4 = some (id, ops))
    (hS : St Try.f79.ntmps a [(0, Vp b), (11, vml), (12, Vi n), (13, Vi k), (3, Vi old), (4, .pointer (some ⟨gbs, 0 + old * 4, none⟩))])
    (hq : ∀ B a' w', St Try.f79.ntmps a' [(0, Vp b), (11, vml), (12, Vi n), (13, Vi k), (3, Vi old), (4, .pointer (some ⟨gbs, 0 + old * 4, none⟩)), (5, Vp B)] → Hold base w0 w' (bX B ⟨(gb p.bs old).first, (gb p.bs old).marked, 0, old⟩ :: (ptR b p ⟨vst, vpl, vbl, Vs gbs lbs cbs, vcs, vml⟩ ++ rest)) → Q .normal a' w') : (Code.region id ops true).wp Try.prog Q a w := by
  cases hops
  refine any_cutx (α := Nat) 12 (fun B => [(0, Vp b), (11, vml), (12, Vi n), (13, Vi k), (3, Vi old), (4, .pointer (some ⟨gbs, 0 + old * 4, none⟩)), (5, Vp B)]) (fun B w' => Hold base w0 w' (bX B ⟨(gb p.bs old).first, (gb p.bs old).marked, 0, old⟩ :: (ptR b p ⟨vst, vpl, vbl, Vs gbs lbs cbs, vcs, vml⟩ ++ rest))) mixed hS ?_ hq
  have hy : RowKit.Below w.drew.heap.size w.drew w.drew := RowKit.Below.refl _ _
  have hD := h.drew
  refine yT 0 tab_ok rfl (by kernel_rfl) hy rfl (rfl) ?_
  refine yT 1 tab_ok rfl (by kernel_rfl) hy rfl (rfl) ?_
  refine yT 2 tab_ok rfl (by kernel_rfl) hy rfl (rfl) ?_
  refine yL 3 tab_ok rfl (by kernel_rfl) hy rfl rfl (hD.r.cK0 (i := 4) rfl hold) ?_
  refine yT 4 tab_ok rfl (by kernel_rfl) hy rfl (rfl) ?_
  refine yT 5 tab_ok rfl (by kernel_rfl) hy rfl (rfl) ?_
  refine yT 6 tab_ok rfl (by kernel_rfl) hy rfl (rfl) ?_
  refine yL 7 tab_ok rfl (by kernel_rfl) hy rfl rfl (hD.r.cK2 (i := 4) rfl hold) ?_
  refine yT 8 tab_ok rfl (by kernel_rfl) hy rfl (rfl) ?_
  refine yT 9 tab_ok rfl (by kernel_rfl) hy rfl (rfl) ?_
  refine y_one 10 (by kernel_rfl) (y_op 10 tab_ok rfl rfl rfl rfl ?_)
  have h1 := hD.box (T := 99) (k := 4) #[Vi 0, Vi 0, Vi 0, Vi 0] rfl
  have hy1 := hy.alloc (Nat.le_refl _) (.cells #[Vi 0, Vi 0, Vi 0, Vi 0] 99)
  refine And.intro (.inr hy1) ?_
  refine y_one 11 (by kernel_rfl) (y_op0 11 tab_ok rfl rfl rfl ?_)
  have ho := OwnB.new w.drew [Vi 0, Vi 0, Vi 0, Vi 0] 99
  refine And.intro rfl (And.intro rfl (And.intro (own_cells4 ho) ?_))
  have hb2 : RowKit.Below w.drew.heap.size w.drew ((w.drew.alloc (.cells #[Vi 0, Vi 0, Vi 0, Vi 0] 99)).setCells w.drew.heap.size 0 [Vi ((gb p.bs old).first : Int), Vi ((gb p.bs old).marked : Int), Vi 0, Vi old]) := below_of_grown hy1 (grown_sets _ _ _ _) (fun k hk => by
    simp only [Option.some.injEq] at hk; omega)
  refine And.intro (.inr hb2) (y_endx w.drew.heap.size (by kernel_rfl) ⟨rfl, rfl, rfl, rfl, rfl, rfl, rfl, trivial⟩ ?_)
  have ho2 := ho.sets (us := [Vi ((gb p.bs old).first : Int), Vi ((gb p.bs old).marked : Int), Vi 0, Vi old]) rfl
  have hg : w.drew.grownBy ((w.drew.alloc (.cells #[Vi 0, Vi 0, Vi 0, Vi 0] 99)).setCells w.drew.heap.size 0 [Vi ((gb p.bs old).first : Int), Vi ((gb p.bs old).marked : Int), Vi 0, Vi old]) none := grown_below hb2
  exact hD.new hg ⟨rfl, .inr ⟨_, 1, _, rfl, hD.s, ho2, Nat.le_refl _, by decide, rfl, rfl⟩⟩ (.inr ⟨_, rfl, Nat.le_refl _⟩)
variable {B : Nat} {x : Blk} {gbl cbl lbl : Nat}
theorem split_r9 (h : Hold base w0 w (bX B x :: (ptR b p ⟨vst, vpl, vbl, Vs gbs lbs cbs, vcs, vml⟩ ++ rest))) (hold : old < p.bs.length) (hN : (gb p.bs old).first + x.size ≤ 1000000000) {Q : Exit → Act → World → Prop} {a : Act} {ops : Array Oper} {id : Nat} (hops : Sym.regionOf Try.f79.body 9 = some (id, ops))
    (hS : St Try.f79.ntmps a [(0, Vp b), (11, vml), (12, Vi n), (13, Vi k), (3, Vi old), (4, .pointer (some ⟨gbs, 0 + old * 4, none⟩)), (5, Vp B)])
    (hq : ∀ a' w', St Try.f79.ntmps a' [(0, Vp b), (11, vml), (12, Vi n), (13, Vi k), (3, Vi old), (4, .pointer (some ⟨gbs, 0 + old * 4, none⟩)), (5, Vp B)] → Hold base w0 w' (bX B x :: (ptR b { p with bs := p.bs.set old { gb p.bs old with first := (gb p.bs old).first + x.size } } ⟨vst, vpl, vbl, Vs gbs lbs cbs, vcs, vml⟩ ++ rest)) → Q .normal a' w') : (Code.region id ops true).wp Try.prog Q a w := by
  cases hops
  refine any_cut 9 [(0, Vp b), (11, vml), (12, Vi n), (13, Vi k), (3, Vi old), (4, .pointer (some ⟨gbs, 0 + old * 4, none⟩)), (5, Vp B)] (fun w' => Hold base w0 w' (bX B x :: (ptR b { p with bs := p.bs.set old { gb p.bs old with first := (gb p.bs old).first + x.size } } ⟨vst, vpl, vbl, Vs gbs lbs cbs, vcs, vml⟩ ++ rest))) mixed hS ?_ hq
  have hy : RowKit.Below w.drew.heap.size w.drew w.drew := RowKit.Below.refl _ _
  have hD := h.drew
  refine yT 0 tab_ok rfl (by kernel_rfl) hy rfl (rfl) ?_
  refine yT 1 tab_ok rfl (by kernel_rfl) hy rfl (rfl) ?_
  refine yT 2 tab_ok rfl (by kernel_rfl) hy rfl (rfl) ?_
  refine yL 3 tab_ok rfl (by kernel_rfl) hy rfl rfl (hD.r.cK0 (i := 5) rfl hold) ?_
  refine yT 4 tab_ok rfl (by kernel_rfl) hy rfl (rfl) ?_
  refine yL 5 tab_ok rfl (by kernel_rfl) hy rfl rfl (hD.r.xcell (i := 0) rfl (j := 1) rfl) ?_
  refine yT 6 tab_ok rfl (by kernel_rfl) hy rfl (Exists.intro _ (And.intro (i64_add _ _ (by omega)) rfl)) ?_
  refine yT 7 tab_ok rfl (by kernel_rfl) hy rfl (rfl) ?_
  refine yT 8 tab_ok rfl (by kernel_rfl) hy rfl (rfl) ?_
  refine y_one 9 (by kernel_rfl) (y_op0 9 tab_ok rfl rfl rfl ?_)
  refine And.intro rfl (And.intro rfl (And.intro ⟨_, hD.r.cK0 (i := 5) rfl hold⟩ (And.intro (hD.r.free (i := 5) rfl _) (And.intro (.inl (by kernel_rfl)) ?_))))
  exact y_end (by kernel_rfl) ⟨rfl, rfl, rfl, rfl, rfl, rfl, rfl, trivial⟩ (hD.storeK0 (i := 5) rfl old _)
theorem split_r10 (h : Hold base w0 w (bX B x :: (ptR b p ⟨vst, vpl, vbl, Vs gbs lbs cbs, vcs, vml⟩ ++ rest))) (hold : old < p.bs.length) (hN : x.size ≤ (gb p.bs old).size) (hN2 : (gb p.bs old).size ≤ 1000000000) {Q : Exit → Act → World → Prop} {a : Act} {ops : Array Oper} {id : Nat} (hops : Sym.regionOf Try.f79.body 10 = some (id, ops))
    (hS : St Try.f79.ntmps a [(0, Vp b), (11, vml), (12, Vi n), (13, Vi k), (3, Vi old), (4, .pointer (some ⟨gbs, 0 + old * 4, none⟩)), (5, Vp B)])
    (hq : ∀ a' w', St Try.f79.ntmps a' [(0, Vp b), (11, vml), (12, Vi n), (13, Vi k), (5, Vp B)] → Hold base w0 w' (bX B x :: (ptR b { p with bs := p.bs.set old { gb p.bs old with size := (gb p.bs old).size - x.size } } ⟨vst, vpl, vbl, Vs gbs lbs cbs, vcs, vml⟩ ++ rest)) → Q .normal a' w') : (Code.region id ops true).wp Try.prog Q a w := by
  cases hops
  refine any_cut 9 [(0, Vp b), (11, vml), (12, Vi n), (13, Vi k), (5, Vp B)] (fun w' => Hold base w0 w' (bX B x :: (ptR b { p with bs := p.bs.set old { gb p.bs old with size := (gb p.bs old).size - x.size } } ⟨vst, vpl, vbl, Vs gbs lbs cbs, vcs, vml⟩ ++ rest))) mixed hS ?_ hq
  have hy : RowKit.Below w.drew.heap.size w.drew w.drew := RowKit.Below.refl _ _
  have hD := h.drew
  refine yT 0 tab_ok rfl (by kernel_rfl) hy rfl (rfl) ?_
  refine yT 1 tab_ok rfl (by kernel_rfl) hy rfl (rfl) ?_
  refine yT 2 tab_ok rfl (by kernel_rfl) hy rfl (rfl) ?_
  refine yL 3 tab_ok rfl (by kernel_rfl) hy rfl rfl (hD.r.cK1 (i := 5) rfl hold) ?_
  refine yT 4 tab_ok rfl (by kernel_rfl) hy rfl (rfl) ?_
  refine yL 5 tab_ok rfl (by kernel_rfl) hy rfl rfl (hD.r.xcell (i := 0) rfl (j := 1) rfl) ?_
  refine yT 6 tab_ok rfl (by kernel_rfl) hy rfl (Exists.intro _ (And.intro (i64_sub _ _ (by omega) (by omega)) rfl)) ?_
  refine yT 7 tab_ok rfl (by kernel_rfl) hy rfl (rfl) ?_
  refine yT 8 tab_ok rfl (by kernel_rfl) hy rfl (rfl) ?_
  refine y_one 9 (by kernel_rfl) (y_op0 9 tab_ok rfl rfl rfl ?_)
  refine And.intro rfl (And.intro rfl (And.intro ⟨_, hD.r.cK1 (i := 5) rfl hold⟩ (And.intro (hD.r.free (i := 5) rfl _) (And.intro (.inl (by kernel_rfl)) ?_))))
  exact y_end (by kernel_rfl) ⟨rfl, rfl, rfl, rfl, rfl, trivial⟩ (hD.storeK1 (i := 5) rfl old _)
theorem split_r14 {vm : Value} {m j t : Nat} (h : Hold base w0 w (bX B x :: (ptR b p ⟨vst, vpl, Vs gbl lbl cbl, Vs gbs lbs cbs, vcs, vml⟩ ++ rest))) (ht : t < p.bl.length) {Q : Exit → Act → World → Prop} {a : Act} {ops : Array Oper} {id : Nat} (hops : Sym.regionOf Try.f79.body 14 = some (id, ops))
    (hS : St Try.f79.ntmps a [(0, Vp b), (11, vml), (12, Vi n), (13, Vi k), (5, Vp B), (78, vm), (79, Vi m), (80, Vi j), (7, .int .i32 (t : Int))])
    (hq : ∀ a' w', St Try.f79.ntmps a' [(0, Vp b), (11, vml), (12, Vi n), (13, Vi k), (5, Vp B), (78, vm), (79, Vi m), (80, Vi j)] → Hold base w0 w' (bX B x :: (ptR b { p with bl := p.bl.set t lbs } ⟨vst, vpl, Vs gbl lbl cbl, Vs gbs lbs cbs, vcs, vml⟩ ++ rest)) → Q .normal a' w') : (Code.region id ops true).wp Try.prog Q a w := by
  cases hops
  refine any_cut 11 [(0, Vp b), (11, vml), (12, Vi n), (13, Vi k), (5, Vp B), (78, vm), (79, Vi m), (80, Vi j)] (fun w' => Hold base w0 w' (bX B x :: (ptR b { p with bl := p.bl.set t lbs } ⟨vst, vpl, Vs gbl lbl cbl, Vs gbs lbs cbs, vcs, vml⟩ ++ rest))) mixed hS ?_ hq
  have hy : RowKit.Below w.drew.heap.size w.drew w.drew := RowKit.Below.refl _ _
  have hD := h.drew
  refine yT 0 tab_ok rfl (by kernel_rfl) hy rfl (rfl) ?_
  refine yT 1 tab_ok rfl (by kernel_rfl) hy rfl (rfl) ?_
  refine yT 2 tab_ok rfl (by kernel_rfl) hy rfl (rfl) ?_
  refine yL 3 tab_ok rfl (by kernel_rfl) hy rfl rfl (hD.r.xcell (i := 1) rfl (j := 2) rfl) ?_
  refine yT 4 tab_ok rfl (by kernel_rfl) hy rfl (rfl) ?_
  refine yT 5 tab_ok rfl (by kernel_rfl) hy rfl (rfl) ?_
  refine yT 6 tab_ok rfl (by kernel_rfl) hy rfl (rfl) ?_
  refine yT 7 tab_ok rfl (by kernel_rfl) hy rfl (rfl) ?_
  refine yL 8 tab_ok rfl (by kernel_rfl) hy rfl rfl (hD.r.xcell (i := 1) rfl (j := 3) rfl) ?_
  refine yT 9 tab_ok rfl (by kernel_rfl) hy rfl (rfl) ?_
  refine yT 10 tab_ok rfl (by kernel_rfl) hy rfl (Exists.intro _ (And.intro (rfl) (And.intro ((by rw [hD.r.lenV (i := 4) rfl]; exact ht)) rfl))) ?_
  refine y_one 11 (by kernel_rfl) (y_op0 11 tab_ok rfl rfl rfl ?_)
  refine And.intro rfl (And.intro rfl (And.intro ⟨_, hD.r.cN (i := 4) rfl ht⟩ (And.intro (hD.r.free (i := 4) rfl _) (And.intro (.inl (by kernel_rfl)) ?_))))
  exact y_end (by kernel_rfl) ⟨rfl, rfl, rfl, rfl, rfl, rfl, rfl, rfl, trivial⟩ (hD.storeN (i := 4) rfl t _)
theorem fill4 (a b c d : Value) (cs : Array Value) (hs : cs.size = 4) : Instr.fill (fun i => some (i * 4, 4)) (madeCells cs 4) [(0, .agg #[a, b, c, d])] = some #[a, b, c, d] := by
  have h : (Value.agg #[a, b, c, d]).cells = #[a, b, c, d] := rfl
  simp [Instr.fill, madeCells, h, hs, Array.range, Array.foldl]
  rfl
theorem split_r16 (h : Hold base w0 w (bX B x :: (ptR b p ⟨vst, vpl, vbl, Vs gbs lbs cbs, vcs, vml⟩ ++ rest))) (hN : p.bs.length ≤ 1000000000) {Q : Exit → Act → World → Prop} {a : Act} {ops : Array Oper} {id : Nat} (hops : Sym.regionOf Try.f79.body 16 = some (id, ops))
    (hS : St Try.f79.ntmps a [(0, Vp b), (11, vml), (12, Vi n), (13, Vi k), (5, Vp B)])
    (hq : ∀ vbs' a' w', St Try.f79.ntmps a' [(0, Vp b), (11, vml), (12, Vi n), (13, Vi k)] → Hold base w0 w' (bX B x :: (ptR b { p with bs := p.bs ++ [x] } ⟨vst, vpl, vbl, vbs', vcs, vml⟩ ++ rest)) → Q .normal a' w') : (Code.region id ops true).wp Try.prog Q a w := by
  cases hops
  refine any_cutx (α := Value) 7 (fun _ => [(0, Vp b), (11, vml), (12, Vi n), (13, Vi k)]) (fun vbs' w' => Hold base w0 w' (bX B x :: (ptR b { p with bs := p.bs ++ [x] } ⟨vst, vpl, vbl, vbs', vcs, vml⟩ ++ rest))) mixed hS ?_ hq
  have hy : RowKit.Below w.drew.heap.size w.drew w.drew := RowKit.Below.refl _ _
  have hD := h.drew
  refine yG 0 tab_ok rfl (by kernel_rfl) (.inr hy) rfl rfl ?_
  refine yT 1 tab_ok rfl (by kernel_rfl) hy rfl (rfl) ?_
  refine yT 2 tab_ok rfl (by kernel_rfl) hy rfl (rfl) ?_
  refine yT 3 tab_ok rfl (by kernel_rfl) hy rfl (rfl) ?_
  refine yL 4 tab_ok rfl (by kernel_rfl) hy rfl rfl (hD.r.xcell (i := 1) rfl (j := 3) rfl) ?_
  refine yT 5 tab_ok rfl (by kernel_rfl) hy rfl (Exists.intro ([Vi x.first, Vi x.size, Vi x.marked, Vi x.parent]) (And.intro rfl (And.intro (⟨hD.r.xcell (i := 0) rfl (j := 0) rfl, hD.r.xcell (i := 0) rfl (j := 1) rfl, hD.r.xcell (i := 0) rfl (j := 2) rfl, hD.r.xcell (i := 0) rfl (j := 3) rfl, trivial⟩) rfl))) ?_
  refine y_one 6 (by kernel_rfl) (y_op 6 tab_ok rfl rfl rfl rfl ?_)
  refine Exists.intro [(0, .agg #[Vi x.first, Vi x.size, Vi x.marked, Vi x.parent])] (Exists.intro #[Vi x.first, Vi x.size, Vi x.marked, Vi x.parent] (And.intro (And.intro rfl rfl) (And.intro (by decide) (And.intro (fill4 _ _ _ _ _ rfl) ?_))))
  have hy1 := hy.alloc (Nat.le_refl _) (.cells #[Vi x.first, Vi x.size, Vi x.marked, Vi x.parent] 99)
  refine And.intro (.inr hy1) ?_
  have h1 := hD.alloc (.cells #[Vi x.first, Vi x.size, Vi x.marked, Vi x.parent] 99)
  have ask : AppAsk (w.drew.alloc (.cells #[Vi x.first, Vi x.size, Vi x.marked, Vi x.parent] 99)) ⟨99, .struct [(0, 3), (1, 3), (2, 3), (3, 3)], 4, 32, .agg #[Vi 0, Vi 0, Vi 0, Vi 0]⟩ (Vs gbs lbs cbs) p.bs.length (blkCells p.bs) (Vs w.drew.heap.size 1 1) 1 [Vi x.first, Vi x.size, Vi x.marked, Vi x.parent] base :=
    ⟨h1.r.1 5 _ rfl, .inr ⟨_, 0, _, rfl, cell_alloc_new rfl, cell_alloc_new rfl, cell_alloc_new rfl, cell_alloc_new rfl, trivial⟩, rfl, (by simp [Value.oneCell']), (by omega), (by show (p.bs.length + 1) * 32 ≤ _; omega), h1.s⟩
  refine y_one 7 (by kernel_rfl) (y_op 7 tab_ok rfl rfl rfl rfl ?_)
  refine Exists.intro _ (Exists.intro _ (Exists.intro _ (Exists.intro _ (Exists.intro _ (And.intro (ask) (And.intro (fun _ h => h.symm) (And.intro (by decide) ?_)))))))
  rintro v' w2 hown hgr - hat
  refine And.intro (.inl (by kernel_rfl)) ?_
  have h2 := h1.appK (i := 5) rfl hown hgr hat
  obtain ⟨g2, n2, c2, hv⟩ := own_form hown
  subst hv
  refine yG 8 tab_ok rfl (by kernel_rfl) (.inl (by kernel_rfl)) rfl rfl ?_
  refine yG 9 tab_ok rfl (by kernel_rfl) (.inl (by kernel_rfl)) rfl rfl ?_
  refine y_one 10 (by kernel_rfl) (y_op0 10 tab_ok rfl rfl rfl ?_)
  refine And.intro rfl (And.intro rfl (And.intro ⟨_, h2.r.xcell (i := 1) rfl (j := 3) rfl⟩ (And.intro (h2.r.free (i := 1) rfl 3) (And.intro (.inl (by kernel_rfl)) ?_))))
  exact y_endx (.slice g2 n2 c2) (by kernel_rfl) ⟨rfl, rfl, rfl, rfl, trivial⟩ (h2.xstore (i := 1) rfl 3 (.slice g2 n2 c2))
end
theorem splitOne_same (q : Pt) (old : Nat) : (q.splitOne old).ml = q.ml ∧ (q.splitOne old).cs = q.cs ∧ (q.splitOne old).st = q.st ∧ (q.splitOne old).pl = q.pl := by
  by_cases h : (gb q.bs old).marked = (gb q.bs old).size
  · simp only [Pt.splitOne, if_pos h, and_self]
  · simp only [Pt.splitOne, if_neg h, and_self]
theorem fold_same : ∀ (l : List Nat) (q : Pt), (l.foldl Pt.splitOne q).ml = q.ml ∧ (l.foldl Pt.splitOne q).cs = q.cs ∧ (l.foldl Pt.splitOne q).st = q.st ∧ (l.foldl Pt.splitOne q).pl = q.pl
  | [], q => ⟨rfl, rfl, rfl, rfl⟩
  | o :: r, q => by
    have h1 := fold_same r (q.splitOne o)
    have h2 := splitOne_same q o
    exact ⟨h1.1.trans h2.1, h1.2.1.trans h2.2.1, h1.2.2.1.trans h2.2.2.1, h1.2.2.2.trans h2.2.2.2⟩
theorem decide_nat (a b : Nat) : decide ((a : Int) = (b : Int)) = decide (a = b) := by
  rw [Bool.eq_iff_iff]; simp; omega
theorem ge_nat (a b : Nat) : decide ((b : Int) ≤ (a : Int)) = decide (b ≤ a) := by
  rw [Bool.eq_iff_iff]; simp
theorem lt_nat (a b : Nat) : decide ((a : Int) < (b : Int)) = decide (a < b) := by
  rw [Bool.eq_iff_iff]; simp
section
variable {base : Nat} {w0 w : World} {b : Nat} {p : Pt} {N s : Nat} {rest : List Ow}
def SplitF (base : Nat) (w0 : World) (b : Nat) (vml : Value) (n k : Nat) (q : Pt) (rest : List Ow) (a : Act) (w : World) : Prop :=
  ∃ vst vpl vbl vbs vcs, St Try.f79.ntmps a [(0, Vp b), (11, vml), (12, Vi n), (13, Vi k)] ∧ Hold base w0 w (ptR b q ⟨vst, vpl, vbl, vbs, vcs, vml⟩ ++ rest)
theorem split_any (h : HoldP base w0 w b p rest) (hp : PI p N p.ml) (hlow : p.low ≤ p.bs.length) (hcs : 0 < p.cs.length) (hcl : p.cs.length ≤ 100000000) (hN : N ≤ 100000000) :
    Calls Try.prog 79 #[Vp b] w fun e w' => e = .returned (.tuple #[]) ∧ HoldP base w0 w' b p.split rest := by
  obtain ⟨⟨vst, vpl, vbl, vbs, vcs, vml⟩, h⟩ := h
  refine Sym.enter (args := [Vp b]) Try.func79 rfl rfl rfl (fun a0 hS0 => ?_)
  obtain ⟨gml, cml, rfl, hcml⟩ := h.r.any (i := 6) rfl
  obtain ⟨vml, hvml⟩ : ∃ v, v = Value.slice gml p.ml.length cml := ⟨_, rfl⟩
  obtain ⟨n, hn⟩ : ∃ n, n = p.ml.length := ⟨_, rfl⟩
  refine wp_seq (wp_seq (seq_cut [(0, Vp b), (11, vml), (12, Vi n), (13, Vi (0 : Nat))] (· = w) tab_ok hS0 ?_ (fun a w1 hS hw => ?_)))
  · subst hvml; subst hn
    repeat first|refine zP rfl ?_|refine zK rfl ?_
    refine zL rfl (h.r.xcell (i := 0) rfl (j := 5) rfl) ?_
    repeat first|refine zP rfl ?_|refine zK rfl ?_
    exact o_nil ⟨⟨rfl, rfl, rfl, rfl, trivial⟩, rfl⟩
  subst hw
  rw [← hvml] at h
  refine wp_block (loop0 hS (fun g E w' => ∃ (k : Nat) (V : PV), k ≤ n ∧ g = n - k ∧ E = [(0, Vp b), (11, vml), (12, Vi n), (13, Vi k)] ∧ PI ((p.ml.take k).foldl Pt.splitOne p) N (p.ml.drop k) ∧ PH p ((p.ml.take k).foldl Pt.splitOne p) N ∧ V.ml = vml ∧ Hold base w0 w' (ptR b ((p.ml.take k).foldl Pt.splitOne p) V ++ rest)) n
    ⟨0, _, by omega, by omega, rfl, by simpa using hp, PH.refl _ _, rfl, h⟩ ?_)
  rintro g E w2 a ⟨k, ⟨vst, vpl, vbl, vbs, vcs, vml'⟩, hk, rfl, rfl, hPI, hPH, hml, h⟩ hS
  simp only at hml
  subst hml
  refine wp_seq (seq_cut [(0, Vp b), (11, vml'), (12, Vi n), (13, Vi k), (14, .bool (decide (k < n)))] (· = w2) tab_ok hS ?_ (fun a w3 hS hw => ?_))
  · repeat first|refine zP rfl ?_|refine zK rfl ?_
    refine zC rfl (lt_nat _ _) ?_
    repeat first|refine zP rfl ?_|refine zK rfl ?_
    exact o_nil ⟨⟨rfl, rfl, rfl, rfl, rfl, trivial⟩, rfl⟩
  subst hw
  refine wp_seq (cond hS rfl (fun hT => ?_) (fun hF => ?_))
  rotate_left
  · have hkn : k = n := by have := of_decide_eq_false hF; omega
    subst hkn
    subst hn
    rw [List.take_length] at hPI hPH h
    refine wp_exit ?_
    repeat (first | refine then_exit ?_ | refine block_exit ?_ | refine block_other rfl ?_)
    obtain ⟨f1, f2, f3, f4⟩ := fold_same p.ml p
    subst hvml
    refine seq_cut [] (fun w4 => HoldP base w0 w4 b p.split rest) tab_ok hS ?_ (fun a w4 hS hw => ret0 hS rfl ⟨rfl, hw⟩)
    repeat first|refine zP rfl ?_|refine zK rfl ?_
    refine zL rfl (h.r.xcell (i := 0) rfl (j := 5) rfl) ?_
    refine o_step rfl rfl rfl (Exists.intro 0 (Exists.intro 0 (And.intro rfl (And.intro ⟨_, _, rfl, rfl⟩ (And.intro (Nat.le_refl _) (And.intro (Nat.zero_le _) (And.intro hcml.1 ?_)))))))
    obtain ⟨u, hu⟩ : ∃ u, u = (Value.slice (if cml = 0 then gml else gml.map (·.add (0 * 1))) (0 - 0) (cml - 0)) := ⟨_, rfl⟩
    have hrow : w3.ownsRow base 3 1 u 0 [] ∧ u.ownBlock = (Value.slice gml p.ml.length cml).ownBlock := by
      have hr := h.r.1 6 _ rfl
      have hu2 : u = .slice gml 0 cml := by
        rw [hu]
        split
        · rename_i e; subst e; rfl
        · cases gml <;> simp [Addr.add]
      rw [hu2]
      rcases hr.2 with ⟨e1, e2⟩ | ⟨g', cap, cur, e1, e2, e3, e4, e5, e6, _⟩
      · simp only [Value.slice.injEq] at e1
        obtain ⟨rfl, _, rfl⟩ := e1
        exact ⟨⟨rfl, .inl ⟨rfl, rfl⟩⟩, rfl⟩
      · simp only [Value.slice.injEq] at e1
        obtain ⟨rfl, _, rfl⟩ := e1
        exact ⟨⟨rfl, .inr ⟨g', cml, cur, rfl, e2, e3, Nat.zero_le _, e5, e6, by simp⟩⟩, rfl⟩
    have hg : w3.grownBy w3 (Value.slice gml p.ml.length cml).ownBlock := ⟨rfl, rfl, rfl, Nat.le_refl _, fun _ _ _ => rfl⟩
    have h4 : Hold base w0 w3 ((ptR b (p.ml.foldl Pt.splitOne p) ⟨vst, vpl, vbl, vbs, vcs, Value.slice gml p.ml.length cml⟩ ++ rest).set 6 ⟨u, 3, 1, 0, []⟩) :=
      ⟨h.r.turn (i := 6) rfl hg hrow.1 (.inl hrow.2), h.b, h.s⟩
    clear hrow
    refine cast (congrArg (fun v => opsK _ _ _ _ _ _ ((112, v) :: _) _) hu) ?_
    have hun : ∃ g m c, u = .slice g m c := ⟨_, _, _, hu⟩
    clear hu
    obtain ⟨gu, mu, cu, rfl⟩ := hun
    repeat first|refine zP rfl ?_|refine zK rfl ?_
    refine zS rfl rfl (h4.r.xcell (i := 0) rfl (j := 5) rfl) (h4.r.free (i := 0) rfl 5) ?_
    exact o_nil ⟨trivial, ⟨vst, vpl, vbl, vbs, vcs, Value.slice gu mu cu⟩, h4.xstore (i := 0) rfl 5 (Value.slice gu mu cu)⟩
  have hkn : k < n := of_decide_eq_true hT
  refine wp_skip ?_
  obtain ⟨q, hq⟩ : ∃ q, q = (p.ml.take k).foldl Pt.splitOne p := ⟨_, rfl⟩
  rw [← hq] at hPI hPH h
  have hsame := fold_same (p.ml.take k) p
  rw [← hq] at hsame
  obtain ⟨f1, f2, f3, f4⟩ := hsame
  have hkl : k < p.ml.length := by omega
  obtain ⟨old, hold⟩ : ∃ old, old = p.ml[k] := ⟨_, rfl⟩
  have hgo : gt q.ml k = old := by rw [f1, hold]; simp [gt, List.getD_eq_getElem?_getD, hkl]
  rw [List.drop_eq_getElem_cons hkl, ← hold] at hPI
  have hob := ((hPI.tm old).1 (by simp)).1
  have hbd := hPI.bd old hob
  have hml0 := ((hPI.tm old).1 (by simp)).2
  have hfew := hPI.few
  have hN0 : 0 < N := by omega
  have hl1 := hPI.st
  have hl3 := hPI.bl
  have hqlow : q.low ≤ q.bs.length := by
    have : q.low = p.low := by unfold Pt.low; rw [f2]
    rw [this]; exact Nat.le_trans hlow hPH.len
  obtain ⟨gm, cm, rfl, -⟩ := h.r.nilOr (i := 6) rfl (by rw [f1]; omega)
  obtain ⟨gbs, cbs, rfl, -⟩ := h.r.nilOr (i := 4) rfl (by omega)
  obtain ⟨gbl, cbl, rfl, -⟩ := h.r.nilOr (i := 3) rfl (by omega)
  obtain ⟨gst, cst, rfl, hcst⟩ := h.r.nilOr (i := 1) rfl (by omega)
  obtain ⟨gcs, ccs, rfl, -⟩ := h.r.nilOr (i := 5) rfl (by rw [f2]; omega)
  obtain ⟨vml, hvm⟩ : ∃ v, v = Vs gm q.ml.length cm := ⟨_, rfl⟩
  refine wp_seq (cut (F := SplitF base w0 b (Vs gm q.ml.length cm) n k (q.splitOne old) rest) ?_ ?_)
  · refine wp_block (wp_seq (seq_cut [(0, Vp b), (11, Vs gm q.ml.length cm), (12, Vi n), (13, Vi k), (3, Vi old)] (· = w3) tab_ok hS ?_ (fun a w4 hS hw => ?_)))
    · have hc := h.r.cN (i := 6) rfl (j := k) (by rw [f1]; omega)
      rw [hgo] at hc
      repeat first|refine zP rfl ?_|refine zK rfl ?_
      refine zI rfl (rfl) ((by rw [f1]; omega)) ?_
      refine zL rfl (hc) ?_
      repeat first|refine zP rfl ?_|refine zK rfl ?_
      exact o_nil ⟨⟨rfl, rfl, rfl, rfl, rfl, trivial⟩, rfl⟩
    subst hw
    rw [← hvm] at h hS ⊢
    refine wp_seq (seq_cut [(0, Vp b), (11, vml), (12, Vi n), (13, Vi k), (3, Vi old), (4, .pointer (some ⟨gbs, 0 + old * 4, none⟩))] (· = w4) tab_ok hS ?_ (fun a w5 hS hw => ?_))
    · repeat first|refine zP rfl ?_|refine zK rfl ?_
      refine zL rfl (h.r.xcell (i := 0) rfl (j := 3) rfl) ?_
      repeat first|refine zP rfl ?_|refine zK rfl ?_
      refine zI rfl (rfl) (hob) ?_
      repeat first|refine zP rfl ?_|refine zK rfl ?_
      exact o_nil ⟨⟨rfl, rfl, rfl, rfl, rfl, rfl, trivial⟩, rfl⟩
    subst hw
    refine wp_seq (split_r4 h hob (by rfl) hS (fun B a w6 hS h => ?_))
    refine wp_seq (seq_cut [(0, Vp b), (11, vml), (12, Vi n), (13, Vi k), (3, Vi old), (4, .pointer (some ⟨gbs, 0 + old * 4, none⟩)), (5, Vp B)] (fun w7 => Hold base w0 w7 (bX B ⟨(gb q.bs old).first, (gb q.bs old).marked, 0, old⟩ :: (ptR b { q with bs := q.bs.set old { gb q.bs old with marked := 0 } } ⟨Vs gst q.st.length cst, vpl, Vs gbl q.bl.length cbl, Vs gbs q.bs.length cbs, Vs gcs q.cs.length ccs, vml⟩ ++ rest))) tab_ok hS ?_ (fun a w7 hS h => ?_))
    · repeat first|refine zP rfl ?_|refine zK rfl ?_
      refine zS rfl rfl (h.r.cK2 (i := 5) rfl hob) (h.r.free (i := 5) rfl _) ?_
      exact o_nil ⟨⟨rfl, rfl, rfl, rfl, rfl, rfl, rfl, trivial⟩, h.storeK2 (i := 5) rfl old 0⟩
    have gself : ∀ x, gb (q.bs.set old x) old = x := fun x => by rw [gb_set, if_pos ⟨rfl, hob⟩]
    have hob' : ∀ x : Blk, old < (q.bs.set old x).length := fun x => by rw [List.length_set]; exact hob
    refine wp_seq (wp_seq (quiet_cut [(0, Vp b), (11, vml), (12, Vi n), (13, Vi k), (3, Vi old), (4, .pointer (some ⟨gbs, 0 + old * 4, none⟩)), (5, Vp B), (42, .bool (decide ((gb q.bs old).marked = (gb q.bs old).size)))] tab_ok mixed (by kernel_rfl) hS ?_ (fun a w8 hS hw => ?_)))
    · have hcmp : decide (((gb q.bs old).marked : Int) = (((gb (q.bs.set old { gb q.bs old with marked := 0 }) old).size : Nat) : Int)) = decide ((gb q.bs old).marked = (gb q.bs old).size) := by rw [gself]; exact decide_nat _ _
      repeat first|refine qP rfl ?_|refine qK rfl ?_
      refine qL rfl (h.r.xcell (i := 0) rfl (j := 1) rfl) ?_
      repeat first|refine qP rfl ?_|refine qK rfl ?_
      refine qL rfl (h.r.cK1 (i := 5) rfl (hob' _)) ?_
      refine qC rfl (hcmp) ?_
      repeat first|refine qP rfl ?_|refine qK rfl ?_
      exact q_nil ⟨rfl, rfl, rfl, rfl, rfl, rfl, rfl, rfl, trivial⟩
    replace h := h.below hw
    clear hw
    refine cond hS rfl (fun hT => ?_) (fun hF => ?_)
    · have hall := of_decide_eq_true hT
      refine wp_exit ?_
      repeat (first | refine then_exit ?_ | refine block_exit ?_ | refine block_other rfl ?_)
      have e : q.splitOne old = { q with bs := q.bs.set old { gb q.bs old with marked := 0 } } := by simp only [Pt.splitOne, if_pos hall]
      show SplitF base w0 b vml n k (q.splitOne old) rest a w8
      rw [e]
      exact ⟨_, _, _, _, _, hS.sub ⟨rfl, rfl, rfl, rfl, trivial⟩, h.tail⟩
    have hne := of_decide_eq_false hF
    refine wp_skip ?_
    obtain ⟨par, hpar⟩ : ∃ par, (if q.low ≤ old then (gb q.bs old).parent else old) = par := ⟨_, rfl⟩
    have hlowc : q.cs.length - 1 < q.cs.length := by rw [f2]; omega
    refine wp_seq (cut (F := fun a' w' => St Try.f79.ntmps a' [(0, Vp b), (11, vml), (12, Vi n), (13, Vi k), (3, Vi old), (4, .pointer (some ⟨gbs, 0 + old * 4, none⟩)), (5, Vp B)] ∧ Hold base w0 w' (bX B ⟨(gb q.bs old).first, (gb q.bs old).marked, 0, par⟩ :: (ptR b { q with bs := q.bs.set old { gb q.bs old with marked := 0 } } ⟨Vs gst q.st.length cst, vpl, Vs gbl q.bl.length cbl, Vs gbs q.bs.length cbs, Vs gcs q.cs.length ccs, vml⟩ ++ rest))) ?_ ?_)
    · refine wp_seq (quiet_cut [(0, Vp b), (11, vml), (12, Vi n), (13, Vi k), (3, Vi old), (4, .pointer (some ⟨gbs, 0 + old * 4, none⟩)), (5, Vp B), (52, .bool (decide (q.low ≤ old)))] tab_ok mixed (by kernel_rfl) hS ?_ (fun a w9 hS hw => ?_))
      · repeat first|refine qP rfl ?_|refine qK rfl ?_
        refine qL rfl (h.r.xcell (i := 1) rfl (j := 4) rfl) ?_
        repeat first|refine qP rfl ?_|refine qK rfl ?_
        refine qF (Vi (q.cs.length - 1 : Nat)) rfl (en_round) (fun w1 h1 => round_any (p := { q with bs := q.bs.set old { gb q.bs old with marked := 0 } }) (h.below h1).tail (by show 0 < q.cs.length; omega) (by show q.cs.length ≤ _; rw [f2]; omega)) ?_
        repeat first|refine qP rfl ?_|refine qK rfl ?_
        refine qI rfl (rfl) (hlowc) ?_
        refine qL rfl (h.r.cN (i := 6) rfl hlowc) ?_
        refine qC rfl (ge_nat _ _) ?_
        repeat first|refine qP rfl ?_|refine qK rfl ?_
        exact q_nil ⟨rfl, rfl, rfl, rfl, rfl, rfl, rfl, rfl, trivial⟩
      replace h := h.below hw
      refine cond hS rfl (fun hT => ?_) (fun hF => ?_)
      · rw [if_pos (of_decide_eq_true hT)] at hpar
        refine seq_cut [(0, Vp b), (11, vml), (12, Vi n), (13, Vi k), (3, Vi old), (4, .pointer (some ⟨gbs, 0 + old * 4, none⟩)), (5, Vp B)] (fun w' => Hold base w0 w' (bX B ⟨(gb q.bs old).first, (gb q.bs old).marked, 0, par⟩ :: (ptR b { q with bs := q.bs.set old { gb q.bs old with marked := 0 } } ⟨Vs gst q.st.length cst, vpl, Vs gbl q.bl.length cbl, Vs gbs q.bs.length cbs, Vs gcs q.cs.length ccs, vml⟩ ++ rest))) tab_ok hS ?_ (fun a' w' hS h => ⟨hS, h⟩)
        have hc := h.r.cK3 (i := 5) rfl (hob' _)
        dsimp only at hc
        rw [gself] at hc
        simp only [hpar] at hc
        repeat first|refine zP rfl ?_|refine zK rfl ?_
        refine zL rfl (hc) ?_
        repeat first|refine zP rfl ?_|refine zK rfl ?_
        refine zS rfl rfl (h.r.xcell (i := 0) rfl (j := 3) rfl) (h.r.free (i := 0) rfl 3) ?_
        exact o_nil ⟨⟨rfl, rfl, rfl, rfl, rfl, rfl, rfl, trivial⟩, h.xstore (i := 0) rfl 3 (Vi par)⟩
      · rw [if_neg (of_decide_eq_false hF)] at hpar
        subst hpar
        exact wp_skip ⟨hS.sub ⟨rfl, rfl, rfl, rfl, rfl, rfl, rfl, trivial⟩, h⟩
    clear h hS
    rintro a w9 ⟨hS, h⟩
    refine wp_seq (split_r9 h (by simpa using hob) (by simp only [gb_set, hob, and_self, if_true]; omega) (by rfl) hS (fun a w10 hS h => ?_))
    refine wp_seq (split_r10 h (by simpa using hob) (by simp only [gb_set, List.length_set, hob, and_self, if_true]; omega) (by simp only [gb_set, List.length_set, hob, and_self, if_true]; omega) (by rfl) hS (fun a w11 hS h => ?_))
    have hbs2 : ((q.bs.set old { gb q.bs old with marked := 0 }).set old { gb (q.bs.set old { gb q.bs old with marked := 0 }) old with first := (gb (q.bs.set old { gb q.bs old with marked := 0 }) old).first + (gb q.bs old).marked }).set old { gb ((q.bs.set old { gb q.bs old with marked := 0 }).set old { gb (q.bs.set old { gb q.bs old with marked := 0 }) old with first := (gb (q.bs.set old { gb q.bs old with marked := 0 }) old).first + (gb q.bs old).marked }) old with size := (gb ((q.bs.set old { gb q.bs old with marked := 0 }).set old { gb (q.bs.set old { gb q.bs old with marked := 0 }) old with first := (gb (q.bs.set old { gb q.bs old with marked := 0 }) old).first + (gb q.bs old).marked }) old).size - (gb q.bs old).marked } =
        q.bs.set old ⟨(gb q.bs old).first + (gb q.bs old).marked, (gb q.bs old).size - (gb q.bs old).marked, 0, (gb q.bs old).parent⟩ := by
      simp only [List.set_set, gself]
    obtain ⟨bs2, hbs2'⟩ : ∃ bs2, bs2 = q.bs.set old ⟨(gb q.bs old).first + (gb q.bs old).marked, (gb q.bs old).size - (gb q.bs old).marked, 0, (gb q.bs old).parent⟩ := ⟨_, rfl⟩
    have hlen2 : bs2.length = q.bs.length := by rw [hbs2', List.length_set]
    have h2 : Hold base w0 w11 (bX B ⟨(gb q.bs old).first, (gb q.bs old).marked, 0, par⟩ :: (ptR b { q with bs := bs2 } ⟨Vs gst q.st.length cst, vpl, Vs gbl q.bl.length cbl, Vs gbs q.bs.length cbs, Vs gcs q.cs.length ccs, vml⟩ ++ rest)) := by
      rw [hbs2', ← hbs2]
      exact h
    clear h hbs2
    have h := h2
    clear h2
    obtain ⟨m, hm⟩ : ∃ m, m = (gb q.bs old).marked := ⟨_, rfl⟩
    obtain ⟨fs, hfs⟩ : ∃ fs, fs = (gb q.bs old).first := ⟨_, rfl⟩
    rw [← hm, ← hfs] at h
    rw [← hm, ← hfs] at hbd
    rw [← hm] at hml0 hne
    obtain ⟨vm, hvmm⟩ : ∃ v, v = Value.slice (some ⟨gst, fs, none⟩) m (cst - fs) := ⟨_, rfl⟩
    refine wp_seq (wp_seq (seq_cut [(0, Vp b), (11, vml), (12, Vi n), (13, Vi k), (5, Vp B), (78, vm), (79, Vi m), (80, Vi (0 : Nat))] (fun w' => Hold base w0 w' (bX B ⟨fs, m, 0, par⟩ :: (ptR b { q with bs := bs2 } ⟨Vs gst q.st.length cst, vpl, Vs gbl q.bl.length cbl, Vs gbs q.bs.length cbs, Vs gcs q.cs.length ccs, vml⟩ ++ rest))) tab_ok hS ?_ (fun a w12 hS h => ?_)))
    · repeat first|refine zP rfl ?_|refine zK rfl ?_
      refine zA ([Vi fs, Vi m, Vi (0 : Nat), Vi par]) rfl rfl (⟨h.r.xcell (i := 0) rfl (j := 0) rfl, h.r.xcell (i := 0) rfl (j := 1) rfl, h.r.xcell (i := 0) rfl (j := 2) rfl, h.r.xcell (i := 0) rfl (j := 3) rfl, trivial⟩) ?_
      refine zF rfl (en_members) (members_any (p := { q with bs := bs2 }) h.tail (k := m) (by omega) (by dsimp only; omega) (by dsimp only; omega)) ?_
      rintro e w13 ⟨rfl, hw⟩
      refine ⟨_, rfl, ?_⟩
      repeat first|refine zP rfl ?_|refine zK rfl ?_
      subst hvmm
      exact o_nil ⟨⟨rfl, rfl, rfl, rfl, rfl, rfl, rfl, rfl, trivial⟩, h.below hw⟩
    have hlb : q.bs.length = bs2.length := hlen2.symm
    refine wp_block (loop0 hS (fun g E w' => ∃ j : Nat, j ≤ m ∧ g = m - j ∧ E = [(0, Vp b), (11, vml), (12, Vi n), (13, Vi k), (5, Vp B), (78, vm), (79, Vi m), (80, Vi j)] ∧ Hold base w0 w' (bX B ⟨fs, m, 0, par⟩ :: (ptR b { q with bs := bs2, bl := relabel q.st q.bs.length q.bl fs j } ⟨Vs gst q.st.length cst, vpl, Vs gbl q.bl.length cbl, Vs gbs q.bs.length cbs, Vs gcs q.cs.length ccs, vml⟩ ++ rest))) m
      ⟨0, by omega, by omega, rfl, h⟩ ?_)
    clear h hS
    rintro g E w13 a ⟨j, hj, rfl, rfl, h⟩ hS
    refine wp_seq (seq_cut [(0, Vp b), (11, vml), (12, Vi n), (13, Vi k), (5, Vp B), (78, vm), (79, Vi m), (80, Vi j), (81, .bool (decide (j < m)))] (· = w13) tab_ok hS ?_ (fun a w14 hS hw => ?_))
    · repeat first|refine zP rfl ?_|refine zK rfl ?_
      refine zC rfl (lt_nat _ _) ?_
      repeat first|refine zP rfl ?_|refine zK rfl ?_
      exact o_nil ⟨⟨rfl, rfl, rfl, rfl, rfl, rfl, rfl, rfl, rfl, trivial⟩, rfl⟩
    subst hw
    refine wp_seq (cond hS rfl (fun hT => wp_skip ?_) (fun hF => ?_))
    rotate_left
    · have hjm : j = m := by have := of_decide_eq_false hF; omega
      subst hjm
      refine wp_exit ?_
      repeat (first | refine then_exit ?_ | refine block_exit ?_ | refine block_other rfl ?_)
      refine split_r16 h (by dsimp only; omega) (by rfl) (hS.sub ⟨rfl, rfl, rfl, rfl, rfl, trivial⟩) (fun vbs' a w15 hS h => ?_)
      have e : q.splitOne old = { q with bs := bs2 ++ [⟨fs, j, 0, par⟩], bl := relabel q.st q.bs.length q.bl fs j } := by
        simp only [Pt.splitOne, ← hm, ← hfs, if_neg hne, hpar, hbs2']
      refine block_normal ?_
      show SplitF base w0 b vml n k (q.splitOne old) rest a w15
      rw [e]
      exact ⟨_, _, _, _, _, hS, h.tail⟩
    have hjm : j < m := of_decide_eq_true hT
    have hsp := (hPI.sp (fs + j) (by omega)).1
    refine wp_seq (wp_block (wp_seq (seq_cut [(0, Vp b), (11, vml), (12, Vi n), (13, Vi k), (5, Vp B), (78, vm), (79, Vi m), (80, Vi j), (7, .int .i32 (gt q.st (fs + j) : Int))] (· = w14) tab_ok hS ?_ (fun a w15 hS hw => ?_))))
    · have hc := h.r.cS (i := 2) rfl (j := fs + j) (by dsimp only; omega)
      rw [Nat.zero_add] at hc
      subst hvmm
      repeat first|refine zP rfl ?_|refine zK rfl ?_
      refine zI rfl (rfl) (hjm) ?_
      refine zL rfl (hc) ?_
      repeat first|refine zP rfl ?_|refine zK rfl ?_
      exact o_nil ⟨⟨rfl, rfl, rfl, rfl, rfl, rfl, rfl, rfl, rfl, trivial⟩, rfl⟩
    subst hw
    refine split_r14 h (by dsimp only; rw [relabel_len, hl3]; exact hsp) (by rfl) hS (fun a w16 hS h => ?_)
    refine block_normal ?_
    refine seq_cut [(0, Vp b), (11, vml), (12, Vi n), (13, Vi k), (5, Vp B), (78, vm), (79, Vi m), (80, Vi (j + 1 : Nat))] (· = w16) tab_ok hS ?_ (fun a w17 hS hw => ?_)
    · repeat first|refine zP rfl ?_|refine zK rfl ?_
      refine zN rfl (i64_add _ 1 (by omega)) ?_
      repeat first|refine zP rfl ?_|refine zK rfl ?_
      exact o_nil ⟨⟨rfl, rfl, rfl, rfl, rfl, rfl, rfl, rfl, trivial⟩, rfl⟩
    subst hw
    refine ⟨m - (j + 1), _, by omega, ⟨j + 1, by omega, rfl, rfl, ?_⟩, hS⟩
    rw [relabel_succ]
    exact h
  clear h hS
  rintro a w4 ⟨vst, vpl, vbl, vbs, vcs, hS, h⟩
  refine seq_cut [(0, Vp b), (11, Vs gm q.ml.length cm), (12, Vi n), (13, Vi (k + 1 : Nat))] (· = w4) tab_ok hS ?_ (fun a w5 hS hw => ?_)
  · repeat first|refine zP rfl ?_|refine zK rfl ?_
    refine zN rfl (i64_add _ 1 (by omega)) ?_
    repeat first|refine zP rfl ?_|refine zK rfl ?_
    exact o_nil ⟨⟨rfl, rfl, rfl, rfl, trivial⟩, rfl⟩
  subst hw
  have hfold : (p.ml.take (k + 1)).foldl Pt.splitOne p = q.splitOne old := by
    rw [List.take_succ_eq_append_getElem hkl, List.foldl_append, ← hq, ← hold]; rfl
  obtain ⟨h1, h2, h3, h4⟩ := splitOne_ok hqlow hPI
  refine ⟨n - (k + 1), _, by omega, ⟨k + 1, ⟨vst, vpl, vbl, vbs, vcs, Vs gm q.ml.length cm⟩, by omega, rfl, rfl, ?_, ?_, rfl, ?_⟩, hS⟩
  · rw [hfold]; exact h1
  · rw [hfold]; exact hPH.trans hlow h4
  · rw [hfold]; exact h
end
end Go.Proofs.Ythcoppfiahnpoaa
