/- AutoCounts holds of the program as it landed: words are counted as the specification does, those of both and of either are together those of the one and of the other, and a word is accepted by the machines of both and of either as the two accept it; for any machines of at most 30 states and 8 letters, any length, any words. -/
import Derived.Test.YthcoppfiahnpoaaVh4
set_option maxRecDepth 100000
namespace Go.Proofs.Ythcoppfiahnpoaa
namespace Jn
open Go Sym
section
variable {base : Nat} {w0 w w' : World} {l rest : List Ow}
theorem x4 (h : Rows base w l) {i T b : Nat} {v0 v1 v2 v3 : Value} (hi : l[i]? = some (oX T b 4 [v0, v1, v2, v3])) : cellsAt w.cell? b 0 [v0, v1, v2, v3] := ⟨h.xcell hi (j := 0) rfl, h.xcell hi (j := 1) rfl, h.xcell hi (j := 2) rfl, h.xcell hi (j := 3) rfl, trivial⟩
theorem xbox (h : Rows base w l) {i T b : Nat} {L s : Int} {v2 v3 : Value} (hi : l[i]? = some (oX T b 4 [Vi L, Vi s, v2, v3])) : Box w b L s v2 v3 := ⟨h.xcell hi (j := 0) rfl, h.xcell hi (j := 1) rfl, h.xcell hi (j := 2) rfl, h.xcell hi (j := 3) rfl⟩
theorem two_ma {A : List Ow} {L s1 s2 : Int} {n1 n2 : List (List Int)} {f1 f2 : List Bool} {vn1 ve1 vn2 ve2 : Value} {vs1 vs2 : List Value} (h : Hold base w0 w (A ++ ((oB ve1 f1 :: nextR vn1 vs1 n1) ++ (oB ve2 f2 :: nextR vn2 vs2 n2))))
    (l1 : vs1.length = n1.length) (l2 : vs2.length = n2.length) (i1 : ∀ l ∈ n1, ∀ x ∈ l, I64 x) (i2 : ∀ l ∈ n2, ∀ x ∈ l, I64 x) (hL : I64 L) (h1 : I64 s1) (h2 : I64 s2) : Ma w L s1 n1 f1 vn1 ve1 ∧ Ma w L s2 n2 f2 vn2 ve2 := by
  have e1 := h.perm (l' := oB ve1 f1 :: (nextR vn1 vs1 n1 ++ ((oB ve2 f2 :: nextR vn2 vs2 n2) ++ A))) (by
    refine List.perm_append_comm.trans ?_
    rw [List.append_assoc]; exact .refl _)
  have e2 := h.perm (l' := oB ve2 f2 :: (nextR vn2 vs2 n2 ++ (A ++ (oB ve1 f1 :: nextR vn1 vs1 n1)))) (by
    rw [← List.append_assoc]; exact List.perm_append_comm)
  exact ⟨ma_rows e1 l1 i1 hL h1, ma_rows e2 l2 i2 hL h2⟩
theorem comb_end1 {x a : Ow} {A : List Ow} (h : Hold base w0 w (x :: a :: (A ++ []))) : Hold base w0 w (x :: a :: A) := by rwa [List.append_nil] at h
end
section
variable {base : Nat} {w0 w w' : World} {both : Bool} {fk fd b0 b1 bk bd R Ln W n : Nat} {s1 s2 : Int} {vn1 ve1 vn2 ve2 : Value} {vs1 vs2 : List Value} {n1 n2 : List (List Int)} {f1 f2 : List Bool} {F : FS}
theorem comb_end2 {x a : Ow} {A : List Ow} (h : Hold base w0 w (a :: (A ++ [x]))) : Hold base w0 w (x :: a :: A) := h.perm (List.perm_append_comm (l₁ := a :: A) (l₂ := [x]))
set_option maxHeartbeats 4000000 in
theorem comb_r8 (hK : KeepC both fk) (hDc : DecC both fd) (h : Hold base w0 w ([oX 25 R 4 [Vi 0, Vi 0, .slice none 0 0, .slice none 0 0], oX 93 bd 1 [.func (.func fd) #[] #[]], oX 91 bk 1 [.func (.func fk) #[] #[]], oX 25 b1 4 [Vi Ln, Vi s2, vn2, ve2], oX 25 b0 4 [Vi Ln, Vi s1, vn1, ve1]] ++ ((oB ve1 f1 :: nextR vn1 vs1 n1) ++ (oB ve2 f2 :: nextR vn2 vs2 n2)))) (l1 : vs1.length = n1.length) (l2 : vs2.length = n2.length) (i1 : ∀ l ∈ n1, ∀ x ∈ l, I64 x) (i2 : ∀ l ∈ n2, ∀ x ∈ l, I64 x) (h1 : I64 s1) (h2 : I64 s2)
    (hPI : PairsI Ln W n s1 n1 f1 s2 n2 f2) (hL : Ln ≤ 100000) (hn : n ≤ 20000) (hF : foundM (cdP W (keepB both (s1, s2))) (joinN Ln W n n1 n2 both) Ln = F)
    {Q : Exit → Act → World → Prop} {a : Act} {ops : Array Oper} {id : Nat} (hops : Sym.regionOf Try.f65.body 8 = some (id, ops)) (hS : St Try.f65.ntmps a [(4, Vp b0), (5, Vp b1), (6, Vp bk), (7, Vp bd), (8, Vp R), (11, .func (.func 93) #[] #[Vp bk, Vp b0, Vp b1]), (12, .func (.func 94) #[] #[Vp bd, Vp b0, Vp b1])])
    (hq : ∀ (x : Nat × Value × Value × List Value) a' w', St Try.f65.ntmps a' [(4, Vp b0), (5, Vp b1), (6, Vp bk), (7, Vp bd), (8, Vp R), (13, Vp x.1), (14, Vi 0)] → x.2.2.2.length = F.rows.length ∧ (∀ l ∈ F.rows.map (renumM F.place (joinN Ln W n n1 n2 both) Ln), ∀ x ∈ l, I64 x) ∧ Hold base w0 w' ((oX 25 x.1 4 [Vi Ln, Vi (if F.rows.length = 0 then -1 else 0 : Int), x.2.1, x.2.2.1] :: (oB x.2.2.1 (foundFin F (joinF W n f1 f2 both)) :: nextR x.2.1 x.2.2.2 (F.rows.map (renumM F.place (joinN Ln W n n1 n2 both) Ln)))) ++ ([oX 25 R 4 [Vi 0, Vi 0, .slice none 0 0, .slice none 0 0], oX 93 bd 1 [.func (.func fd) #[] #[]], oX 91 bk 1 [.func (.func fk) #[] #[]], oX 25 b1 4 [Vi Ln, Vi s2, vn2, ve2], oX 25 b0 4 [Vi Ln, Vi s1, vn1, ve1]] ++ ((oB ve1 f1 :: nextR vn1 vs1 n1) ++ (oB ve2 f2 :: nextR vn2 vs2 n2)))) → Q .normal a' w') : (Code.region id ops true).wp Try.prog Q a w := by
  cases hops
  refine any_cutx (α := Nat × Value × Value × List Value) 15 (fun x => [(4, Vp b0), (5, Vp b1), (6, Vp bk), (7, Vp bd), (8, Vp R), (13, Vp x.1), (14, Vi 0)]) (fun x w' => x.2.2.2.length = F.rows.length ∧ (∀ l ∈ F.rows.map (renumM F.place (joinN Ln W n n1 n2 both) Ln), ∀ x ∈ l, I64 x) ∧ Hold base w0 w' ((oX 25 x.1 4 [Vi Ln, Vi (if F.rows.length = 0 then -1 else 0 : Int), x.2.1, x.2.2.1] :: (oB x.2.2.1 (foundFin F (joinF W n f1 f2 both)) :: nextR x.2.1 x.2.2.2 (F.rows.map (renumM F.place (joinN Ln W n n1 n2 both) Ln)))) ++ ([oX 25 R 4 [Vi 0, Vi 0, .slice none 0 0, .slice none 0 0], oX 93 bd 1 [.func (.func fd) #[] #[]], oX 91 bk 1 [.func (.func fk) #[] #[]], oX 25 b1 4 [Vi Ln, Vi s2, vn2, ve2], oX 25 b0 4 [Vi Ln, Vi s1, vn1, ve1]] ++ ((oB ve1 f1 :: nextR vn1 vs1 n1) ++ (oB ve2 f2 :: nextR vn2 vs2 n2))))) mixed hS ?_ hq
  have hy0 : RowKit.Below w.drew.heap.size w.drew w.drew := RowKit.Below.refl _ _
  have hD := h.drew
  have hs0 := Hold.start w.drew
  have hLI : I64 (Ln : Int) := by unfold I64; omega
  have hs1 := hPI.h1
  have hs2 := hPI.h2
  have facts : ∀ u, RowKit.Below w.drew.heap.size w.drew u → Box u b0 Ln s1 vn1 ve1 ∧ Box u b1 Ln s2 vn2 ve2 ∧ u.cell? ⟨bk, 0, none⟩ = some (.func (.func fk) #[] #[]) ∧ u.cell? ⟨bd, 0, none⟩ = some (.func (.func fd) #[] #[]) ∧ Ma u Ln s1 n1 f1 vn1 ve1 ∧ Ma u Ln s2 n2 f2 vn2 ve2 := fun u hu => by
    have hDu := hD.below hu
    obtain ⟨m1, m2⟩ := two_ma (L := (Ln : Int)) (s1 := s1) (s2 := s2) hDu l1 l2 i1 i2 hLI h1 h2
    exact ⟨xbox hDu.r (i := 4) rfl, xbox hDu.r (i := 3) rfl, hDu.r.xcell (i := 2) rfl (j := 0) rfl, hDu.r.xcell (i := 1) rfl (j := 0) rfl, m1, m2⟩
  have hst : ∀ {rs : List Ow} (y : Int × Int) (c : Nat) (u : World), inR W n y → c < Ln → Hold w.drew.heap.size w.drew u rs → Calls Try.prog 93 ([pairV y, Vi c] ++ (#[Vp bk, Vp b0, Vp b1] : Array Value).toList).toArray u fun e u' => ∃ z : Int × Int, inR W n z ∧ e = .returned (pairV z) ∧ tgtM (joinN Ln W n n1 n2 both) (plc W y.1 y.2 : Int) c = cdP W z ∧ RowKit.Below u.heap.size u u' := fun y c u hyr hc hu => by
    obtain ⟨x1, x2, x3, x4, m1, m2⟩ := facts u hu.b
    obtain ⟨r1, r2⟩ := hPI.rng hyr
    exact (combine1_any hK Ln s1 Ln s2 c y vn1 ve1 vn2 ve2 n1 n2 u x3 x1 x2 m1.n m2.n r1 r2 (shape_row hs1 r1 (by omega)) (shape_row hs2 r2 (by omega))).mono (fun e u' h9 => ⟨keepB both (step2 n1 n2 y c), hPI.keepR (hPI.stepR hyr hc), h9.1, hPI.jtgt hyr hc, h9.2⟩)
  have hnd : ∀ {rs : List Ow} (y : Int × Int) (u : World), inR W n y → Hold w.drew.heap.size w.drew u rs → Calls Try.prog 94 ([pairV y] ++ (#[Vp bd, Vp b0, Vp b1] : Array Value).toList).toArray u fun e u' => e = .returned (.bool ((joinF W n f1 f2 both).getD (plc W y.1 y.2) false)) ∧ RowKit.Below u.heap.size u u' := fun y u hyr hu => by
    obtain ⟨x1, x2, x3, x4, m1, m2⟩ := facts u hu.b
    obtain ⟨r1, r2⟩ := hPI.rng hyr
    rw [hPI.jfin hyr]
    exact combine2_any hDc Ln s1 Ln s2 y vn1 ve1 vn2 ve2 f1 f2 u x4 x1 x2 m1.e m2.e (by rw [hs1.fin]; exact r1) (by rw [hs2.fin]; exact r2)
  have hx0 : inR W n (keepB both (s1, s2)) := hPI.keepR (hPI.mk' hs1.s1 hs1.s2 hs2.s1 hs2.s2)
  have bld : ∀ {u : World} {rs : List Ow}, Hold w.drew.heap.size w.drew u rs → _ := fun {u} {rs} hu => buildP_any (W := W) (n := n) (x0 := keepB both (s1, s2)) (L := Ln) (lim := 20000) (S := 93) (S2 := 94) (caps := #[Vp bk, Vp b0, Vp b1]) (caps2 := #[Vp bd, Vp b0, Vp b1]) (next := (joinN Ln W n n1 n2 both)) (fin := (joinF W n f1 f2 both)) (F := F) (rest := rs) (w := u) hu (by omega) joinN_len hx0 hL hn (by omega) (hPI.jshape (both := both)) en_c1 en_c2 (fun y c u' => hst (rs := rs) y c u') (fun y u' => hnd (rs := rs) y u') hF
  refine yL 0 tab_ok rfl (by kernel_rfl) hy0 rfl rfl (hD.r.xcell (i := 2) rfl (j := 0) rfl) ?_
  refine yT 1 tab_ok rfl (by kernel_rfl) hy0 rfl (Exists.intro ([Vi Ln, Vi s1, vn1, ve1]) (And.intro rfl (And.intro (x4 hD.r (i := 4) rfl) rfl))) ?_
  refine yT 2 tab_ok rfl (by kernel_rfl) hy0 rfl (Exists.intro ([Vi Ln, Vi s2, vn2, ve2]) (And.intro rfl (And.intro (x4 hD.r (i := 3) rfl) rfl))) ?_
  refine yT 6 tab_ok rfl (by kernel_rfl) hy0 rfl (rfl) ?_
  refine yL 7 tab_ok rfl (by kernel_rfl) hy0 rfl rfl (hD.r.xcell (i := 4) rfl (j := 0) rfl) ?_
  refine yT 8 tab_ok rfl (by kernel_rfl) hy0 rfl (rfl) ?_
  refine yT 9 tab_ok rfl (by kernel_rfl) hy0 rfl (rfl) ?_
  refine y_two 3 14 (by kernel_rfl) (y_op 3 tab_ok rfl rfl rfl rfl ?_) (y_op 14 tab_ok rfl rfl rfl rfl ?_)
  · refine And.intro en_astarts ((astarts_any (Ln : Int) s1 (Ln : Int) s2 vn1 ve1 vn2 ve2 _).mono ?_)
    rintro e u1 ⟨rfl, k1⟩
    refine ⟨_, rfl, ?_⟩
    have hy1 := below_trans hy0 k1
    refine And.intro (.inr hy1) ?_
    have hs1 := hs0.below k1
    refine y_two 4 14 (by kernel_rfl) (y_op 4 tab_ok rfl rfl rfl rfl ?_) (y_op 14 tab_ok rfl rfl rfl rfl ?_)
    · refine And.intro hK.en ((hK.c (s1, s2) _).mono ?_)
      rintro e u2 ⟨rfl, k2⟩
      refine ⟨_, rfl, ?_⟩
      have hy2 := below_trans hy1 k2
      refine And.intro (.inr hy2) ?_
      have hs2 := hs1.below k2
      refine y_two 5 14 (by kernel_rfl) (y_op 5 tab_ok rfl rfl rfl rfl ?_) (y_op 14 tab_ok rfl rfl rfl rfl ?_)
      · refine And.intro en_anowhere ((anowhere_any _).mono ?_)
        rintro e u3 ⟨rfl, k3⟩
        refine ⟨_, rfl, ?_⟩
        have hy3 := below_trans hy2 k3
        refine And.intro (.inr hy3) ?_
        have hs3 := hs2.below k3
        refine y_two 10 14 (by kernel_rfl) (y_op 10 tab_ok rfl rfl rfl rfl ?_) (y_op 14 tab_ok rfl rfl rfl rfl ?_)
        · refine And.intro en_buildP ((bld hs3).mono ?_)
          rintro e u4 ⟨vn, ve, vs, rfl, -, hvs, hI, hs4⟩
          refine ⟨_, rfl, ?_⟩
          have hy4 := hs4.b
          refine And.intro (.inr hy4) ?_
          refine yT 11 tab_ok rfl (by kernel_rfl) hy4 rfl (rfl) ?_
          refine yT 12 tab_ok rfl (by kernel_rfl) hy4 rfl (rfl) ?_
          refine yG 13 tab_ok rfl (by kernel_rfl) (.inr hy4) rfl rfl ?_
          refine y_one 14 (by kernel_rfl) (y_op 14 tab_ok rfl rfl rfl rfl ?_)
          have hy5 := hy4.alloc (hy4.size) (.cells #[Vi 0, Vi 0, .slice none 0 0, .slice none 0 0] 25)
          refine And.intro (.inr hy5) ?_
          have hs5 := hs4.box (T := 25) (k := 4) #[Vi 0, Vi 0, .slice none 0 0, .slice none 0 0] rfl
          have hz := comb_end1 hs5
          obtain ⟨ge, ce, hve, -⟩ := hz.r.any (i := 1) (v := ve) (e := 4) (s := 1) (n := (foundFin F (joinF W n f1 f2 both)).length) (xs := bools (foundFin F (joinF W n f1 f2 both))) rfl
          obtain ⟨gn, cn, hvn, -⟩ := hz.r.any (i := 2) (v := vn) (e := 26) (s := 1) (n := vs.length) (xs := vs) rfl
          subst hve hvn
          refine y_one 15 (by kernel_rfl) (y_op0 15 tab_ok rfl rfl rfl ?_)
          refine And.intro rfl (And.intro rfl (And.intro (x_cells4 hz.r (i := 0) rfl) (And.intro (.inl (by kernel_rfl)) ?_)))
          refine yG 16 tab_ok rfl (by kernel_rfl) (.inl (by kernel_rfl)) rfl rfl ?_
          exact y_endx (_, .slice gn vs.length cn, .slice ge (foundFin F (joinF W n f1 f2 both)).length ce, vs) (by kernel_rfl) ⟨rfl, rfl, rfl, rfl, rfl, rfl, rfl, trivial⟩ ⟨hvs, hI, hD.join (hz.xput4 (i := 0) rfl _ _ _ _)⟩
        · have hy4 := hy3.alloc (hy3.size) (.cells #[Vi 0, Vi 0, .slice none 0 0, .slice none 0 0] 25)
          refine And.intro (.inr hy4) ?_
          have hs4 := hs3.box (T := 25) (k := 4) #[Vi 0, Vi 0, .slice none 0 0, .slice none 0 0] rfl
          refine y_one 10 (by kernel_rfl) (y_op 10 tab_ok rfl rfl rfl rfl ?_)
          refine And.intro en_buildP ((bld hs4).mono ?_)
          rintro e u5 ⟨vn, ve, vs, rfl, -, hvs, hI, hs5⟩
          refine ⟨_, rfl, ?_⟩
          have hy5 := hs5.b
          refine And.intro (.inr hy5) ?_
          have hz := comb_end2 hs5
          obtain ⟨ge, ce, hve, -⟩ := hz.r.any (i := 1) (v := ve) (e := 4) (s := 1) (n := (foundFin F (joinF W n f1 f2 both)).length) (xs := bools (foundFin F (joinF W n f1 f2 both))) rfl
          obtain ⟨gn, cn, hvn, -⟩ := hz.r.any (i := 2) (v := vn) (e := 26) (s := 1) (n := vs.length) (xs := vs) rfl
          subst hve hvn
          refine yT 11 tab_ok rfl (by kernel_rfl) hy5 rfl (rfl) ?_
          refine yT 12 tab_ok rfl (by kernel_rfl) hy5 rfl (rfl) ?_
          refine yG 13 tab_ok rfl (by kernel_rfl) (.inr hy5) rfl rfl ?_
          refine y_one 15 (by kernel_rfl) (y_op0 15 tab_ok rfl rfl rfl ?_)
          refine And.intro rfl (And.intro rfl (And.intro (x_cells4 hz.r (i := 0) rfl) (And.intro (.inl (by kernel_rfl)) ?_)))
          refine yG 16 tab_ok rfl (by kernel_rfl) (.inl (by kernel_rfl)) rfl rfl ?_
          exact y_endx (_, .slice gn vs.length cn, .slice ge (foundFin F (joinF W n f1 f2 both)).length ce, vs) (by kernel_rfl) ⟨rfl, rfl, rfl, rfl, rfl, rfl, rfl, trivial⟩ ⟨hvs, hI, hD.join (hz.xput4 (i := 0) rfl _ _ _ _)⟩
      · have hy3 := hy2.alloc (hy2.size) (.cells #[Vi 0, Vi 0, .slice none 0 0, .slice none 0 0] 25)
        refine And.intro (.inr hy3) ?_
        have hs3 := hs2.box (T := 25) (k := 4) #[Vi 0, Vi 0, .slice none 0 0, .slice none 0 0] rfl
        refine y_one 5 (by kernel_rfl) (y_op 5 tab_ok rfl rfl rfl rfl ?_)
        refine And.intro en_anowhere ((anowhere_any _).mono ?_)
        rintro e u4 ⟨rfl, k4⟩
        refine ⟨_, rfl, ?_⟩
        have hy4 := below_trans hy3 k4
        refine And.intro (.inr hy4) ?_
        have hs4 := hs3.below k4
        refine y_one 10 (by kernel_rfl) (y_op 10 tab_ok rfl rfl rfl rfl ?_)
        refine And.intro en_buildP ((bld hs4).mono ?_)
        rintro e u5 ⟨vn, ve, vs, rfl, -, hvs, hI, hs5⟩
        refine ⟨_, rfl, ?_⟩
        have hy5 := hs5.b
        refine And.intro (.inr hy5) ?_
        have hz := comb_end2 hs5
        obtain ⟨ge, ce, hve, -⟩ := hz.r.any (i := 1) (v := ve) (e := 4) (s := 1) (n := (foundFin F (joinF W n f1 f2 both)).length) (xs := bools (foundFin F (joinF W n f1 f2 both))) rfl
        obtain ⟨gn, cn, hvn, -⟩ := hz.r.any (i := 2) (v := vn) (e := 26) (s := 1) (n := vs.length) (xs := vs) rfl
        subst hve hvn
        refine yT 11 tab_ok rfl (by kernel_rfl) hy5 rfl (rfl) ?_
        refine yT 12 tab_ok rfl (by kernel_rfl) hy5 rfl (rfl) ?_
        refine yG 13 tab_ok rfl (by kernel_rfl) (.inr hy5) rfl rfl ?_
        refine y_one 15 (by kernel_rfl) (y_op0 15 tab_ok rfl rfl rfl ?_)
        refine And.intro rfl (And.intro rfl (And.intro (x_cells4 hz.r (i := 0) rfl) (And.intro (.inl (by kernel_rfl)) ?_)))
        refine yG 16 tab_ok rfl (by kernel_rfl) (.inl (by kernel_rfl)) rfl rfl ?_
        exact y_endx (_, .slice gn vs.length cn, .slice ge (foundFin F (joinF W n f1 f2 both)).length ce, vs) (by kernel_rfl) ⟨rfl, rfl, rfl, rfl, rfl, rfl, rfl, trivial⟩ ⟨hvs, hI, hD.join (hz.xput4 (i := 0) rfl _ _ _ _)⟩
    · have hy2 := hy1.alloc (hy1.size) (.cells #[Vi 0, Vi 0, .slice none 0 0, .slice none 0 0] 25)
      refine And.intro (.inr hy2) ?_
      have hs2 := hs1.box (T := 25) (k := 4) #[Vi 0, Vi 0, .slice none 0 0, .slice none 0 0] rfl
      refine y_one 4 (by kernel_rfl) (y_op 4 tab_ok rfl rfl rfl rfl ?_)
      refine And.intro hK.en ((hK.c (s1, s2) _).mono ?_)
      rintro e u3 ⟨rfl, k3⟩
      refine ⟨_, rfl, ?_⟩
      have hy3 := below_trans hy2 k3
      refine And.intro (.inr hy3) ?_
      have hs3 := hs2.below k3
      refine y_one 5 (by kernel_rfl) (y_op 5 tab_ok rfl rfl rfl rfl ?_)
      refine And.intro en_anowhere ((anowhere_any _).mono ?_)
      rintro e u4 ⟨rfl, k4⟩
      refine ⟨_, rfl, ?_⟩
      have hy4 := below_trans hy3 k4
      refine And.intro (.inr hy4) ?_
      have hs4 := hs3.below k4
      refine y_one 10 (by kernel_rfl) (y_op 10 tab_ok rfl rfl rfl rfl ?_)
      refine And.intro en_buildP ((bld hs4).mono ?_)
      rintro e u5 ⟨vn, ve, vs, rfl, -, hvs, hI, hs5⟩
      refine ⟨_, rfl, ?_⟩
      have hy5 := hs5.b
      refine And.intro (.inr hy5) ?_
      have hz := comb_end2 hs5
      obtain ⟨ge, ce, hve, -⟩ := hz.r.any (i := 1) (v := ve) (e := 4) (s := 1) (n := (foundFin F (joinF W n f1 f2 both)).length) (xs := bools (foundFin F (joinF W n f1 f2 both))) rfl
      obtain ⟨gn, cn, hvn, -⟩ := hz.r.any (i := 2) (v := vn) (e := 26) (s := 1) (n := vs.length) (xs := vs) rfl
      subst hve hvn
      refine yT 11 tab_ok rfl (by kernel_rfl) hy5 rfl (rfl) ?_
      refine yT 12 tab_ok rfl (by kernel_rfl) hy5 rfl (rfl) ?_
      refine yG 13 tab_ok rfl (by kernel_rfl) (.inr hy5) rfl rfl ?_
      refine y_one 15 (by kernel_rfl) (y_op0 15 tab_ok rfl rfl rfl ?_)
      refine And.intro rfl (And.intro rfl (And.intro (x_cells4 hz.r (i := 0) rfl) (And.intro (.inl (by kernel_rfl)) ?_)))
      refine yG 16 tab_ok rfl (by kernel_rfl) (.inl (by kernel_rfl)) rfl rfl ?_
      exact y_endx (_, .slice gn vs.length cn, .slice ge (foundFin F (joinF W n f1 f2 both)).length ce, vs) (by kernel_rfl) ⟨rfl, rfl, rfl, rfl, rfl, rfl, rfl, trivial⟩ ⟨hvs, hI, hD.join (hz.xput4 (i := 0) rfl _ _ _ _)⟩
  · have hy1 := hy0.alloc (Nat.le_refl _) (.cells #[Vi 0, Vi 0, .slice none 0 0, .slice none 0 0] 25)
    refine And.intro (.inr hy1) ?_
    have hs1 := hs0.box (T := 25) (k := 4) #[Vi 0, Vi 0, .slice none 0 0, .slice none 0 0] rfl
    refine y_one 3 (by kernel_rfl) (y_op 3 tab_ok rfl rfl rfl rfl ?_)
    refine And.intro en_astarts ((astarts_any (Ln : Int) s1 (Ln : Int) s2 vn1 ve1 vn2 ve2 _).mono ?_)
    rintro e u2 ⟨rfl, k2⟩
    refine ⟨_, rfl, ?_⟩
    have hy2 := below_trans hy1 k2
    refine And.intro (.inr hy2) ?_
    have hs2 := hs1.below k2
    refine y_one 4 (by kernel_rfl) (y_op 4 tab_ok rfl rfl rfl rfl ?_)
    refine And.intro hK.en ((hK.c (s1, s2) _).mono ?_)
    rintro e u3 ⟨rfl, k3⟩
    refine ⟨_, rfl, ?_⟩
    have hy3 := below_trans hy2 k3
    refine And.intro (.inr hy3) ?_
    have hs3 := hs2.below k3
    refine y_one 5 (by kernel_rfl) (y_op 5 tab_ok rfl rfl rfl rfl ?_)
    refine And.intro en_anowhere ((anowhere_any _).mono ?_)
    rintro e u4 ⟨rfl, k4⟩
    refine ⟨_, rfl, ?_⟩
    have hy4 := below_trans hy3 k4
    refine And.intro (.inr hy4) ?_
    have hs4 := hs3.below k4
    refine y_one 10 (by kernel_rfl) (y_op 10 tab_ok rfl rfl rfl rfl ?_)
    refine And.intro en_buildP ((bld hs4).mono ?_)
    rintro e u5 ⟨vn, ve, vs, rfl, -, hvs, hI, hs5⟩
    refine ⟨_, rfl, ?_⟩
    have hy5 := hs5.b
    refine And.intro (.inr hy5) ?_
    have hz := comb_end2 hs5
    obtain ⟨ge, ce, hve, -⟩ := hz.r.any (i := 1) (v := ve) (e := 4) (s := 1) (n := (foundFin F (joinF W n f1 f2 both)).length) (xs := bools (foundFin F (joinF W n f1 f2 both))) rfl
    obtain ⟨gn, cn, hvn, -⟩ := hz.r.any (i := 2) (v := vn) (e := 26) (s := 1) (n := vs.length) (xs := vs) rfl
    subst hve hvn
    refine yT 11 tab_ok rfl (by kernel_rfl) hy5 rfl (rfl) ?_
    refine yT 12 tab_ok rfl (by kernel_rfl) hy5 rfl (rfl) ?_
    refine yG 13 tab_ok rfl (by kernel_rfl) (.inr hy5) rfl rfl ?_
    refine y_one 15 (by kernel_rfl) (y_op0 15 tab_ok rfl rfl rfl ?_)
    refine And.intro rfl (And.intro rfl (And.intro (x_cells4 hz.r (i := 0) rfl) (And.intro (.inl (by kernel_rfl)) ?_)))
    refine yG 16 tab_ok rfl (by kernel_rfl) (.inl (by kernel_rfl)) rfl rfl ?_
    exact y_endx (_, .slice gn vs.length cn, .slice ge (foundFin F (joinF W n f1 f2 both)).length ce, vs) (by kernel_rfl) ⟨rfl, rfl, rfl, rfl, rfl, rfl, rfl, trivial⟩ ⟨hvs, hI, hD.join (hz.xput4 (i := 0) rfl _ _ _ _)⟩
end
end Jn
end Go.Proofs.Ythcoppfiahnpoaa
namespace Go.Proofs.Ythcoppfiahnpoaa
namespace Jn
open Go Sym
theorem en_aleast' : enters Try.prog 42 = true := by kernel_rfl
def JoinC (both : Bool) (f : Nat) : Prop := ∀ (L1 s1 L2 s2 : Int) (vn1 ve1 vn2 ve2 : Value) (n1 n2 : List (List Int)) (f1 f2 : List Bool) (w : World), Ma w L1 s1 n1 f1 vn1 ve1 → Ma w L2 s2 n2 f2 vn2 ve2 → n1.length ≤ 50 → n2.length ≤ 50 →
  Calls Try.prog f #[.agg #[Vi L1, Vi s1, vn1, ve1], .agg #[Vi L2, Vi s2, vn2, ve2]] w fun e w' => ∃ (L' s' r : Int) (vn' ve' : Value) (vs : List Value) (n' : List (List Int)) (f' : List Bool), e = .returned (.tuple #[.agg #[Vi L', Vi s', vn', ve'], Vi r]) ∧ I64 L' ∧ I64 s' ∧ vs.length = n'.length ∧ n'.length ≤ 3000 ∧ (∀ l ∈ n', ∀ x ∈ l, I64 x) ∧ Hold w.heap.size w w' (oB ve' f' :: nextR vn' vs n') ∧ JoinE both L1 s1 n1 f1 L2 s2 n2 f2 L' s' n' f' r
set_option maxHeartbeats 4000000 in
theorem combine_any {both : Bool} {fk fd : Nat} (hK : KeepC both fk) (hDc : DecC both fd) (L1 s1 L2 s2 : Int) (vn1 ve1 vn2 ve2 : Value) (n1 n2 : List (List Int)) (f1 f2 : List Bool) (w : World) (hm : Ma w L1 s1 n1 f1 vn1 ve1) (hm2 : Ma w L2 s2 n2 f2 vn2 ve2) (hl1 : n1.length ≤ 50) (hl2 : n2.length ≤ 50) :
    Calls Try.prog 65 #[.agg #[Vi L1, Vi s1, vn1, ve1], .agg #[Vi L2, Vi s2, vn2, ve2], .func (.func fk) #[] #[], .func (.func fd) #[] #[]] w fun e w' => ∃ (L' s' r : Int) (vn' ve' : Value) (vs : List Value) (n' : List (List Int)) (f' : List Bool), e = .returned (.tuple #[.agg #[Vi L', Vi s', vn', ve'], Vi r]) ∧ I64 L' ∧ I64 s' ∧ vs.length = n'.length ∧ n'.length ≤ 3000 ∧ (∀ l ∈ n', ∀ x ∈ l, I64 x) ∧ Hold w.heap.size w w' (oB ve' f' :: nextR vn' vs n') ∧ JoinE both L1 s1 n1 f1 L2 s2 n2 f2 L' s' n' f' r := by
  refine Sym.enter (args := [.agg #[Vi L1, Vi s1, vn1, ve1], .agg #[Vi L2, Vi s2, vn2, ve2], .func (.func fk) #[] #[], .func (.func fd) #[] #[]]) Try.func65 rfl rfl rfl (fun a0 hS0 => ?_)
  refine wp_seq (seq_cutx (α := Nat × Nat × Nat × Nat × Nat) (fun x => [(4, Vp x.1), (5, Vp x.2.1), (6, Vp x.2.2.1), (7, Vp x.2.2.2.1), (8, Vp x.2.2.2.2)]) (fun x w' => Hold w.heap.size w w' [oX 25 x.2.2.2.2 4 [Vi 0, Vi 0, .slice none 0 0, .slice none 0 0], oX 93 x.2.2.2.1 1 [.func (.func fd) #[] #[]], oX 91 x.2.2.1 1 [.func (.func fk) #[] #[]], oX 25 x.2.1 4 [Vi L2, Vi s2, vn2, ve2], oX 25 x.1 4 [Vi L1, Vi s1, vn1, ve1]]) tab_ok hS0 ?_ (fun x a w1 hS h => ?_))
  · refine zB rfl ?_
    refine zB rfl ?_
    refine zB rfl ?_
    refine zB rfl ?_
    refine zB rfl ?_
    repeat first|refine zP rfl ?_|refine zK rfl ?_
    exact o_nil ⟨(_, _, _, _, _), ⟨rfl, rfl, rfl, rfl, rfl, trivial⟩, (((((Hold.start w).box (T := 25) (k := 4) #[Vi L1, Vi s1, vn1, ve1] rfl).box (T := 25) (k := 4) #[Vi L2, Vi s2, vn2, ve2] rfl).box (T := 91) (k := 1) #[.func (.func fk) #[] #[]] rfl).box (T := 93) (k := 1) #[.func (.func fd) #[] #[]] rfl).box (T := 25) (k := 4) #[Vi 0, Vi 0, .slice none 0 0, .slice none 0 0] rfl⟩
  obtain ⟨b0, b1, bk, bd, R⟩ := x
  dsimp only at hS h
  clear hS0
  refine wp_seq (wp_seq (seq_cut [(4, Vp b0), (5, Vp b1), (6, Vp bk), (7, Vp bd), (8, Vp R), (10, Vi (twoM L1 s1 n1 f1 L2 s2 n2 f2))] (fun w' => RowKit.Below w1.heap.size w1 w') tab_ok hS ?_ (fun a w2 hS hw => ?_)))
  · refine zA ([Vi L1, Vi s1, vn1, ve1]) rfl rfl (x4 h.r (i := 4) rfl) ?_
    refine zA ([Vi L2, Vi s2, vn2, ve2]) rfl rfl (x4 h.r (i := 3) rfl) ?_
    refine zF rfl (en_afit) (afit_any L1 s1 L2 s2 vn1 ve1 vn2 ve2 n1 n2 f1 f2 w1 (hm.keep h.b) (hm2.keep h.b)) ?_
    rintro e w2 ⟨rfl, k1⟩
    refine ⟨_, rfl, ?_⟩
    repeat first|refine zP rfl ?_|refine zK rfl ?_
    exact o_nil ⟨⟨rfl, rfl, rfl, rfl, rfl, rfl, trivial⟩, k1⟩
  replace h := h.below hw
  clear hw
  refine wp_seq (seq_cut [(4, Vp b0), (5, Vp b1), (6, Vp bk), (7, Vp bd), (8, Vp R), (10, Vi (twoM L1 s1 n1 f1 L2 s2 n2 f2)), (19, .bool (decide (twoM L1 s1 n1 f1 L2 s2 n2 f2 ≠ 0)))] (· = w2) tab_ok hS ?_ (fun a w3 hS hw => ?_))
  · repeat first|refine zP rfl ?_|refine zK rfl ?_
    refine zC rfl (rfl) ?_
    exact o_nil ⟨⟨rfl, rfl, rfl, rfl, rfl, rfl, rfl, trivial⟩, rfl⟩
  subst hw
  refine cond hS rfl (fun hT => ?_) (fun hF => wp_skip ?_)
  · refine wp_seq (seq_cut [(8, Vp R), (9, Vi (twoM L1 s1 n1 f1 L2 s2 n2 f2))] (fun w' => Hold w.heap.size w w' [oX 25 R 4 [Vi 0, Vi 0, .slice none 0 0, .slice none 0 0], oX 93 bd 1 [.func (.func fd) #[] #[]], oX 91 bk 1 [.func (.func fk) #[] #[]], oX 25 b1 4 [Vi L2, Vi s2, vn2, ve2], oX 25 b0 4 [Vi L1, Vi s1, vn1, ve1]]) tab_ok hS ?_ (fun a w4 hS h => ?_))
    · repeat first|refine zP rfl ?_|refine zK rfl ?_
      refine o_step0 rfl rfl (And.intro rfl (And.intro rfl (And.intro (x_cells4 h.r (i := 0) rfl) ?_)))
      repeat first|refine zP rfl ?_|refine zK rfl ?_
      exact o_nil ⟨⟨rfl, rfl, trivial⟩, h.xput4 (i := 0) rfl _ _ _ _⟩
    have hfin := (((h.nil 26 1).nil 4 1).perm (List.perm_append_comm (l₁ := [_, _]))).drop
    refine wp_ret ?_
    repeat (first | refine then_ret ?_ | refine block_ret ?_)
    refine retc2 tab_ok hS rfl rfl rfl rfl rfl (o := 0) (vs := [Vi 0, Vi 0, .slice none 0 0, .slice none 0 0]) (x4 h.r (i := 0) rfl) rfl ⟨0, 0, _, _, _, [], [], [], rfl, by unfold I64; omega, by unfold I64; omega, rfl, by simp, by simp, hfin, .inl ⟨of_decide_eq_true hT, rfl, rfl, rfl, rfl, rfl⟩⟩
  have htw := Decidable.not_not.1 (of_decide_eq_false hF)
  obtain ⟨v1, v2, hLL⟩ := two_zero htw
  obtain ⟨hsh1, hL300, -⟩ := shape_of_valid v1
  obtain ⟨hsh2, -, -⟩ := shape_of_valid v2
  subst hLL
  obtain ⟨Ln, rfl⟩ := Int.eq_ofNat_of_zero_le hsh1.L0
  have hLI := hm.L
  refine wp_seq (seq_cutx (α := Int × Value × Value × List Value × List (List Int) × List Bool) (fun _ => [(4, Vp b0), (5, Vp b1), (6, Vp bk), (7, Vp bd), (8, Vp R)]) (fun v w' => I64 v.1 ∧ v.2.2.2.1.length = v.2.2.2.2.1.length ∧ (∀ l ∈ v.2.2.2.2.1, ∀ x ∈ l, I64 x) ∧ Canon Ln v.1 v.2.2.2.2.1 v.2.2.2.2.2 ∧ Alike Ln v.2.2.2.2.1 v.2.2.2.2.2 v.1 n1 f1 s1 ∧ Hold w.heap.size w w' ([oX 25 R 4 [Vi 0, Vi 0, .slice none 0 0, .slice none 0 0], oX 93 bd 1 [.func (.func fd) #[] #[]], oX 91 bk 1 [.func (.func fk) #[] #[]], oX 25 b1 4 [Vi Ln, Vi s2, vn2, ve2], oX 25 b0 4 [Vi Ln, Vi v.1, v.2.1, v.2.2.1]] ++ (oB v.2.2.1 v.2.2.2.2.2 :: nextR v.2.1 v.2.2.2.1 v.2.2.2.2.1))) tab_ok hS ?_ (fun v a w4 hS hw => ?_))
  · refine zA ([Vi Ln, Vi s1, vn1, ve1]) rfl rfl (x4 h.r (i := 4) rfl) ?_
    refine zF rfl (en_aleast') (aleast_any (Ln : Int) s1 vn1 ve1 n1 f1 w3 (hm.keep h.b) v1 (by omega)) ?_
    rintro e w4 ⟨s', vn', ve', vs, n', f', rfl, hs', hvs, hI64, hH, hcan, hal⟩
    refine ⟨_, rfl, ?_⟩
    obtain ⟨ge, ce, rfl, -⟩ := hH.r.any (i := 0) rfl
    obtain ⟨gn, cn, hvn, -⟩ := hH.r.any (i := 1) (v := vn') (e := 26) (s := 1) (n := vs.length) (xs := vs) rfl
    subst hvn
    rw [List.append_nil] at hH
    have h9 := (h.join hH).perm List.perm_append_comm
    repeat first|refine zP rfl ?_|refine zK rfl ?_
    refine o_step0 rfl rfl (And.intro rfl (And.intro rfl (And.intro (x_cells4 h9.r (i := 4) rfl) ?_)))
    exact o_nil ⟨(s', .slice gn vs.length cn, .slice ge f'.length ce, vs, n', f'), ⟨rfl, rfl, rfl, rfl, rfl, trivial⟩, hs', hvs, hI64, hcan, hal, h9.xput4 (i := 4) rfl _ _ _ _⟩
  obtain ⟨t1, vm1, vf1, vs1, m1, g1⟩ := v
  simp only at hw
  obtain ⟨ht1, hvs1, hi1, hc1, ha1, h⟩ := hw
  refine wp_seq (seq_cutx (α := Int × Value × Value × List Value × List (List Int) × List Bool) (fun _ => [(4, Vp b0), (5, Vp b1), (6, Vp bk), (7, Vp bd), (8, Vp R)]) (fun v w' => I64 v.1 ∧ v.2.2.2.1.length = v.2.2.2.2.1.length ∧ (∀ l ∈ v.2.2.2.2.1, ∀ x ∈ l, I64 x) ∧ Canon Ln v.1 v.2.2.2.2.1 v.2.2.2.2.2 ∧ Alike Ln v.2.2.2.2.1 v.2.2.2.2.2 v.1 n2 f2 s2 ∧ Hold w.heap.size w w' ([oX 25 R 4 [Vi 0, Vi 0, .slice none 0 0, .slice none 0 0], oX 93 bd 1 [.func (.func fd) #[] #[]], oX 91 bk 1 [.func (.func fk) #[] #[]], oX 25 b1 4 [Vi Ln, Vi v.1, v.2.1, v.2.2.1], oX 25 b0 4 [Vi Ln, Vi t1, vm1, vf1]] ++ ((oB vf1 g1 :: nextR vm1 vs1 m1) ++ (oB v.2.2.1 v.2.2.2.2.2 :: nextR v.2.1 v.2.2.2.1 v.2.2.2.2.1)))) tab_ok hS ?_ (fun v a w5 hS hw => ?_))
  · refine zA ([Vi Ln, Vi s2, vn2, ve2]) rfl rfl (x4 h.r (i := 3) rfl) ?_
    refine zF rfl (en_aleast') (aleast_any (Ln : Int) s2 vn2 ve2 n2 f2 w4 (hm2.keep h.b) v2 (by omega)) ?_
    rintro e w5 ⟨s', vn', ve', vs, n', f', rfl, hs', hvs, hI64, hH, hcan, hal⟩
    refine ⟨_, rfl, ?_⟩
    obtain ⟨ge, ce, rfl, -⟩ := hH.r.any (i := 0) rfl
    obtain ⟨gn, cn, hvn, -⟩ := hH.r.any (i := 1) (v := vn') (e := 26) (s := 1) (n := vs.length) (xs := vs) rfl
    subst hvn
    rw [List.append_nil] at hH
    have h9 := ((h.join hH).perm List.perm_append_comm).cast (List.append_assoc _ _ _)
    repeat first|refine zP rfl ?_|refine zK rfl ?_
    refine o_step0 rfl rfl (And.intro rfl (And.intro rfl (And.intro (x_cells4 h9.r (i := 3) rfl) ?_)))
    exact o_nil ⟨(s', .slice gn vs.length cn, .slice ge f'.length ce, vs, n', f'), ⟨rfl, rfl, rfl, rfl, rfl, trivial⟩, hs', hvs, hI64, hcan, hal, h9.xput4 (i := 3) rfl _ _ _ _⟩
  obtain ⟨t2, vm2, vf2, vs2, m2, g2⟩ := v
  simp only at hw
  obtain ⟨ht2, hvs2, hi2, hc2, ha2, h⟩ := hw
  have hk1 := canon_few hsh1 hc1 ha1
  have hk2 := canon_few hsh2 hc2 ha2
  obtain ⟨W, hW⟩ : ∃ W, W = m2.length + 1 := ⟨_, rfl⟩
  obtain ⟨n, hn⟩ : ∃ n, n = (m1.length + 1) * W := ⟨_, rfl⟩
  have hn2 : n ≤ 2601 := by rw [hn, hW]; exact Nat.mul_le_mul (by omega : m1.length + 1 ≤ 51) (by omega : m2.length + 1 ≤ 51)
  have hPI : PairsI Ln W n t1 m1 g1 t2 m2 g2 := ⟨hc1.shape, hc2.shape, hW, hn, by omega, by omega⟩
  obtain ⟨F, hF⟩ : ∃ F, foundM (cdP W (keepB both (t1, t2))) (joinN Ln W n m1 m2 both) Ln = F := ⟨_, rfl⟩
  refine wp_seq (seq_cut [(4, Vp b0), (5, Vp b1), (6, Vp bk), (7, Vp bd), (8, Vp R), (11, .func (.func 93) #[] #[Vp bk, Vp b0, Vp b1])] (· = w5) tab_ok hS ?_ (fun a w6 hS hw => ?_))
  · repeat first|refine zP rfl ?_|refine zK rfl ?_
    exact o_nil ⟨⟨rfl, rfl, rfl, rfl, rfl, rfl, trivial⟩, rfl⟩
  subst hw
  refine wp_seq (seq_cut [(4, Vp b0), (5, Vp b1), (6, Vp bk), (7, Vp bd), (8, Vp R), (11, .func (.func 93) #[] #[Vp bk, Vp b0, Vp b1]), (12, .func (.func 94) #[] #[Vp bd, Vp b0, Vp b1])] (· = w6) tab_ok hS ?_ (fun a w7 hS hw => ?_))
  · repeat first|refine zP rfl ?_|refine zK rfl ?_
    exact o_nil ⟨⟨rfl, rfl, rfl, rfl, rfl, rfl, rfl, trivial⟩, rfl⟩
  subst hw
  refine wp_seq (comb_r8 hK hDc h hvs1 hvs2 hi1 hi2 ht1 ht2 hPI (by omega) (by omega) hF (by rfl) hS ?_)
  rintro ⟨c, vn, ve, vs⟩ a w8 hS ⟨hvs, hI, h⟩
  dsimp only at hS hvs hI h
  have hx0 : inR W n (keepB both (t1, t2)) := hPI.keepR (hPI.mk' hc1.shape.s1 hc1.shape.s2 hc2.shape.s1 hc2.shape.s2)
  have hFo : Found (cdP W (keepB both (t1, t2))) (joinN Ln W n m1 m2 both) Ln F := by
    rw [← hF]; exact foundM_found3 hPI.jshape (cdP_lt hx0).1 (by rw [joinN_len]; exact (cdP_lt hx0).2)
  obtain ⟨hjs, hja⟩ := hPI.join hFo
  have hcap := hFo.inn.ok.cap
  rw [joinN_len] at hcap
  have hjv := valid_of_shape hjs hL300 (by simp; omega)
  refine wp_seq (wp_seq (seq_cut [(8, Vp R), (13, Vp c), (49, .bool false)] (· = w8) tab_ok hS ?_ (fun a w9 hS hw => ?_)))
  · repeat first|refine zP rfl ?_|refine zK rfl ?_
    refine zC rfl (decide_eq_false (by decide)) ?_
    exact o_nil ⟨⟨rfl, rfl, rfl, trivial⟩, rfl⟩
  subst hw
  refine cond hS rfl (fun hT => by cases hT) (fun _ => wp_skip ?_)
  have hmJ := ma_rows (L := (Ln : Int)) (s := (if F.rows.length = 0 then -1 else 0 : Int)) h.tail (by rw [List.length_map]; exact hvs) hI hLI (by unfold I64; split <;> omega)
  refine wp_seq (seq_cutx (α := (Int × Value × Value × List Value × List (List Int) × List Bool) × List Ow) (fun _ => [(8, Vp R), (9, Vi 0)]) (fun v w' => I64 v.1.1 ∧ v.1.2.2.2.1.length = v.1.2.2.2.2.1.length ∧ (∀ l ∈ v.1.2.2.2.2.1, ∀ x ∈ l, I64 x) ∧ v.1.2.2.2.2.1.length ≤ 3000 ∧ Canon Ln v.1.1 v.1.2.2.2.2.1 v.1.2.2.2.2.2 ∧ (∀ u, Word Ln u → accM v.1.2.2.2.2.1 v.1.2.2.2.2.2 v.1.1 u = joinB both (accM n1 f1 s1 u) (accM n2 f2 s2 u)) ∧ Hold w.heap.size w w' ((oX 25 R 4 [Vi Ln, Vi v.1.1, v.1.2.1, v.1.2.2.1] :: v.2) ++ (oB v.1.2.2.1 v.1.2.2.2.2.2 :: nextR v.1.2.1 v.1.2.2.2.1 v.1.2.2.2.2.1))) tab_ok hS ?_ (fun v a w10 hS hw => ?_))
  · refine zA ([Vi Ln, Vi (if F.rows.length = 0 then -1 else 0 : Int), vn, ve]) rfl rfl (x4 h.r (i := 0) rfl) ?_
    refine zF rfl (en_aleast') (aleast_any (Ln : Int) _ vn ve _ _ w9 hmJ hjv (by simp; omega)) ?_
    rintro e w10 ⟨s', vn', ve', vs', n', f', rfl, hs', hvs', hI64, hH, hcan, hal⟩
    refine ⟨_, rfl, ?_⟩
    obtain ⟨ge, ce, rfl, -⟩ := hH.r.any (i := 0) rfl
    obtain ⟨gn, cn, hvn, -⟩ := hH.r.any (i := 1) (v := vn') (e := 26) (s := 1) (n := vs'.length) (xs := vs') rfl
    subst hvn
    rw [List.append_nil] at hH
    have h9 := (h.drop.join hH).perm List.perm_append_comm
    repeat first|refine zP rfl ?_|refine zK rfl ?_
    refine o_step0 rfl rfl (And.intro rfl (And.intro rfl (And.intro (x_cells4 h9.r (i := 0) rfl) ?_)))
    repeat first|refine zP rfl ?_|refine zK rfl ?_
    exact o_nil ⟨((s', .slice gn vs'.length cn, .slice ge f'.length ce, vs', n', f'), _), ⟨rfl, rfl, trivial⟩, hs', hvs', hI64, (by have := canon_few hjs hcan hal; rw [List.length_map] at this; show n'.length ≤ 3000; omega), hcan, fun u hu => by rw [hal u hu, hja u hu, ha1 u hu, ha2 u hu], h9.xput4 (i := 0) rfl _ _ _ _⟩
  obtain ⟨⟨s', vn', ve', vs', n', f'⟩, rs⟩ := v
  simp only at hw
  obtain ⟨hs', hvs', hI64, hfew, hcan, hacc, h⟩ := hw
  refine wp_ret ?_
  repeat (first | refine then_ret ?_ | refine block_ret ?_)
  refine retc2 tab_ok hS rfl rfl rfl rfl rfl (o := 0) (vs := [Vi Ln, Vi s', vn', ve']) (x4 h.r (i := 0) rfl) rfl ⟨Ln, s', 0, vn', ve', vs', n', f', rfl, hLI, hs', hvs', hfew, hI64, h.drop, .inr ⟨htw, rfl, rfl, hcan, hacc⟩⟩
set_option maxHeartbeats 1000000 in
theorem aBoth_c : JoinC true 32 := fun L1 s1 L2 s2 vn1 ve1 vn2 ve2 n1 n2 f1 f2 w hm hm2 hl1 hl2 => by
  refine Sym.enter (args := [.agg #[Vi L1, Vi s1, vn1, ve1], .agg #[Vi L2, Vi s2, vn2, ve2]]) Try.func32 rfl rfl rfl (fun a0 hS0 => ?_)
  refine wp_seq (seq_cutx (α := Nat × Nat × Nat) (fun x => [(2, Vp x.1), (3, Vp x.2.1), (4, Vp x.2.2)]) (fun x w' => Hold w.heap.size w w' [oX 25 x.2.2 4 [Vi 0, Vi 0, .slice none 0 0, .slice none 0 0], oX 25 x.2.1 4 [Vi L2, Vi s2, vn2, ve2], oX 25 x.1 4 [Vi L1, Vi s1, vn1, ve1]]) tab_ok hS0 ?_ (fun x a w1 hS h => ?_))
  · refine zB rfl ?_
    refine zB rfl ?_
    refine zB rfl ?_
    repeat first|refine zP rfl ?_|refine zK rfl ?_
    exact o_nil ⟨(_, _, _), ⟨rfl, rfl, rfl, trivial⟩, (((Hold.start w).box (T := 25) (k := 4) #[Vi L1, Vi s1, vn1, ve1] rfl).box (T := 25) (k := 4) #[Vi L2, Vi s2, vn2, ve2] rfl).box (T := 25) (k := 4) #[Vi 0, Vi 0, .slice none 0 0, .slice none 0 0] rfl⟩
  obtain ⟨b0, b1, R⟩ := x
  dsimp only at hS h
  clear hS0
  refine wp_seq (seq_cut [(2, Vp b0), (3, Vp b1), (4, Vp R), (6, .func (.func 64) #[] #[])] (· = w1) tab_ok hS ?_ (fun a w2 hS hw => ?_))
  · repeat first|refine zP rfl ?_|refine zK rfl ?_
    exact o_nil ⟨⟨rfl, rfl, rfl, rfl, trivial⟩, rfl⟩
  subst hw
  refine wp_seq (seq_cutx (α := (Int × Int × Int × Value × Value × List Value × List (List Int) × List Bool) × List Ow) (fun v => [(4, Vp R), (5, Vi v.1.2.2.1)]) (fun v w' => I64 v.1.1 ∧ I64 v.1.2.1 ∧ v.1.2.2.2.2.2.1.length = v.1.2.2.2.2.2.2.1.length ∧ v.1.2.2.2.2.2.2.1.length ≤ 3000 ∧ (∀ l ∈ v.1.2.2.2.2.2.2.1, ∀ x ∈ l, I64 x) ∧ JoinE true L1 s1 n1 f1 L2 s2 n2 f2 v.1.1 v.1.2.1 v.1.2.2.2.2.2.2.1 v.1.2.2.2.2.2.2.2 v.1.2.2.1 ∧ Hold w.heap.size w w' ((oX 25 R 4 [Vi v.1.1, Vi v.1.2.1, v.1.2.2.2.1, v.1.2.2.2.2.1] :: v.2) ++ (oB v.1.2.2.2.2.1 v.1.2.2.2.2.2.2.2 :: nextR v.1.2.2.2.1 v.1.2.2.2.2.2.1 v.1.2.2.2.2.2.2.1))) tab_ok hS ?_ (fun v a w3 hS hw => ?_))
  · refine zA ([Vi L1, Vi s1, vn1, ve1]) rfl rfl (x4 h.r (i := 2) rfl) ?_
    refine zA ([Vi L2, Vi s2, vn2, ve2]) rfl rfl (x4 h.r (i := 1) rfl) ?_
    repeat first|refine zP rfl ?_|refine zK rfl ?_
    refine zF rfl (en_acombine) (combine_any both1 both2 L1 s1 L2 s2 vn1 ve1 vn2 ve2 n1 n2 f1 f2 w2 (hm.keep h.b) (hm2.keep h.b) hl1 hl2) ?_
    rintro e w3 ⟨L', s', r, vn', ve', vs, n', f', rfl, hL', hs', hvs, hfew, hI64, hH, hJ⟩
    refine ⟨_, rfl, ?_⟩
    obtain ⟨ge, ce, rfl, -⟩ := hH.r.any (i := 0) rfl
    obtain ⟨gn, cn, hvn, -⟩ := hH.r.any (i := 1) (v := vn') (e := 26) (s := 1) (n := vs.length) (xs := vs) rfl
    subst hvn
    have h9 := (h.join hH).perm List.perm_append_comm
    repeat first|refine zP rfl ?_|refine zK rfl ?_
    refine o_step0 rfl rfl (And.intro rfl (And.intro rfl (And.intro (x_cells4 h9.r (i := 0) rfl) ?_)))
    repeat first|refine zP rfl ?_|refine zK rfl ?_
    exact o_nil ⟨((L', s', r, .slice gn vs.length cn, .slice ge f'.length ce, vs, n', f'), _), ⟨rfl, rfl, trivial⟩, hL', hs', hvs, hfew, hI64, hJ, h9.xput4 (i := 0) rfl _ _ _ _⟩
  obtain ⟨⟨L', s', r, vn', ve', vs, n', f'⟩, rs⟩ := v
  simp only at hS hw
  obtain ⟨hL', hs', hvs, hfew, hI64, hJ, h⟩ := hw
  refine wp_ret ?_
  repeat (first | refine then_ret ?_ | refine block_ret ?_)
  refine retc2 tab_ok hS rfl rfl rfl rfl rfl (o := 0) (vs := [Vi L', Vi s', vn', ve']) (x4 h.r (i := 0) rfl) rfl ⟨L', s', r, vn', ve', vs, n', f', rfl, hL', hs', hvs, hfew, hI64, h.drop, hJ⟩
set_option maxHeartbeats 1000000 in
theorem aEither_c : JoinC false 33 := fun L1 s1 L2 s2 vn1 ve1 vn2 ve2 n1 n2 f1 f2 w hm hm2 hl1 hl2 => by
  refine Sym.enter (args := [.agg #[Vi L1, Vi s1, vn1, ve1], .agg #[Vi L2, Vi s2, vn2, ve2]]) Try.func33 rfl rfl rfl (fun a0 hS0 => ?_)
  refine wp_seq (seq_cutx (α := Nat × Nat × Nat) (fun x => [(2, Vp x.1), (3, Vp x.2.1), (4, Vp x.2.2)]) (fun x w' => Hold w.heap.size w w' [oX 25 x.2.2 4 [Vi 0, Vi 0, .slice none 0 0, .slice none 0 0], oX 25 x.2.1 4 [Vi L2, Vi s2, vn2, ve2], oX 25 x.1 4 [Vi L1, Vi s1, vn1, ve1]]) tab_ok hS0 ?_ (fun x a w1 hS h => ?_))
  · refine zB rfl ?_
    refine zB rfl ?_
    refine zB rfl ?_
    repeat first|refine zP rfl ?_|refine zK rfl ?_
    exact o_nil ⟨(_, _, _), ⟨rfl, rfl, rfl, trivial⟩, (((Hold.start w).box (T := 25) (k := 4) #[Vi L1, Vi s1, vn1, ve1] rfl).box (T := 25) (k := 4) #[Vi L2, Vi s2, vn2, ve2] rfl).box (T := 25) (k := 4) #[Vi 0, Vi 0, .slice none 0 0, .slice none 0 0] rfl⟩
  obtain ⟨b0, b1, R⟩ := x
  dsimp only at hS h
  clear hS0
  refine wp_seq (seq_cut [(2, Vp b0), (3, Vp b1), (4, Vp R), (6, .func (.func 67) #[] #[])] (· = w1) tab_ok hS ?_ (fun a w2 hS hw => ?_))
  · repeat first|refine zP rfl ?_|refine zK rfl ?_
    exact o_nil ⟨⟨rfl, rfl, rfl, rfl, trivial⟩, rfl⟩
  subst hw
  refine wp_seq (seq_cutx (α := (Int × Int × Int × Value × Value × List Value × List (List Int) × List Bool) × List Ow) (fun v => [(4, Vp R), (5, Vi v.1.2.2.1)]) (fun v w' => I64 v.1.1 ∧ I64 v.1.2.1 ∧ v.1.2.2.2.2.2.1.length = v.1.2.2.2.2.2.2.1.length ∧ v.1.2.2.2.2.2.2.1.length ≤ 3000 ∧ (∀ l ∈ v.1.2.2.2.2.2.2.1, ∀ x ∈ l, I64 x) ∧ JoinE false L1 s1 n1 f1 L2 s2 n2 f2 v.1.1 v.1.2.1 v.1.2.2.2.2.2.2.1 v.1.2.2.2.2.2.2.2 v.1.2.2.1 ∧ Hold w.heap.size w w' ((oX 25 R 4 [Vi v.1.1, Vi v.1.2.1, v.1.2.2.2.1, v.1.2.2.2.2.1] :: v.2) ++ (oB v.1.2.2.2.2.1 v.1.2.2.2.2.2.2.2 :: nextR v.1.2.2.2.1 v.1.2.2.2.2.2.1 v.1.2.2.2.2.2.2.1))) tab_ok hS ?_ (fun v a w3 hS hw => ?_))
  · refine zA ([Vi L1, Vi s1, vn1, ve1]) rfl rfl (x4 h.r (i := 2) rfl) ?_
    refine zA ([Vi L2, Vi s2, vn2, ve2]) rfl rfl (x4 h.r (i := 1) rfl) ?_
    repeat first|refine zP rfl ?_|refine zK rfl ?_
    refine zF rfl (en_acombine) (combine_any either1 either2 L1 s1 L2 s2 vn1 ve1 vn2 ve2 n1 n2 f1 f2 w2 (hm.keep h.b) (hm2.keep h.b) hl1 hl2) ?_
    rintro e w3 ⟨L', s', r, vn', ve', vs, n', f', rfl, hL', hs', hvs, hfew, hI64, hH, hJ⟩
    refine ⟨_, rfl, ?_⟩
    obtain ⟨ge, ce, rfl, -⟩ := hH.r.any (i := 0) rfl
    obtain ⟨gn, cn, hvn, -⟩ := hH.r.any (i := 1) (v := vn') (e := 26) (s := 1) (n := vs.length) (xs := vs) rfl
    subst hvn
    have h9 := (h.join hH).perm List.perm_append_comm
    repeat first|refine zP rfl ?_|refine zK rfl ?_
    refine o_step0 rfl rfl (And.intro rfl (And.intro rfl (And.intro (x_cells4 h9.r (i := 0) rfl) ?_)))
    repeat first|refine zP rfl ?_|refine zK rfl ?_
    exact o_nil ⟨((L', s', r, .slice gn vs.length cn, .slice ge f'.length ce, vs, n', f'), _), ⟨rfl, rfl, trivial⟩, hL', hs', hvs, hfew, hI64, hJ, h9.xput4 (i := 0) rfl _ _ _ _⟩
  obtain ⟨⟨L', s', r, vn', ve', vs, n', f'⟩, rs⟩ := v
  simp only at hS hw
  obtain ⟨hL', hs', hvs, hfew, hI64, hJ, h⟩ := hw
  refine wp_ret ?_
  repeat (first | refine then_ret ?_ | refine block_ret ?_)
  refine retc2 tab_ok hS rfl rfl rfl rfl rfl (o := 0) (vs := [Vi L', Vi s', vn', ve']) (x4 h.r (i := 0) rfl) rfl ⟨L', s', r, vn', ve', vs, n', f', rfl, hL', hs', hvs, hfew, hI64, h.drop, hJ⟩
end Jn
end Go.Proofs.Ythcoppfiahnpoaa
namespace Go.Proofs.Ythcoppfiahnpoaa
theorem sum_add : ∀ (l : List Nat) (f g h k : Nat → Nat), (∀ c ∈ l, f c + g c = h c + k c) → (l.map f).sum + (l.map g).sum = (l.map h).sum + (l.map k).sum
  | [], _, _, _, _, _ => rfl
  | c :: l, f, g, h, k, e => by
    have h1 := e c (List.mem_cons_self ..)
    have h2 := sum_add l f g h k (fun d hd => e d (List.mem_cons_of_mem _ hd))
    simp only [List.map_cons, List.sum_cons]
    omega
theorem cnt_join {L : Nat} {n1 n2 n3 n4 : List (List Int)} {f1 f2 f3 f4 : List Bool} : ∀ (k : Nat) (p q s t : Int), (∀ u, u.length = k → Word L u → accM n3 f3 p u = joinB true (accM n1 f1 s u) (accM n2 f2 t u)) → (∀ u, u.length = k → Word L u → accM n4 f4 q u = joinB false (accM n1 f1 s u) (accM n2 f2 t u)) →
    cntM n3 f3 L k p + cntM n4 f4 L k q = cntM n1 f1 L k s + cntM n2 f2 L k t
  | 0, p, q, s, t, h, h' => by
    have e1 := h [] rfl (Word.nil _)
    have e2 := h' [] rfl (Word.nil _)
    rw [accM_nil, accM_nil, accM_nil] at e1 e2
    rw [cntM, cntM, cntM, cntM, e1, e2]
    cases endsM f1 s <;> cases endsM f2 t <;> rfl
  | k + 1, p, q, s, t, h, h' => by
    rw [cntM, cntM, cntM, cntM]
    refine sum_add _ _ _ _ _ fun c hc => cnt_join k _ _ _ _ (fun u hu hw => ?_) (fun u hu hw => ?_)
    · have := h (c :: u) (by simp [hu]) (hw.cons (List.mem_range.1 hc))
      rwa [accM_cons, accM_cons, accM_cons] at this
    · have := h' (c :: u) (by simp [hu]) (hw.cons (List.mem_range.1 hc))
      rwa [accM_cons, accM_cons, accM_cons] at this
theorem accepts_join {both : Bool} {L s1 s2 s' : Int} {n1 n2 n' : List (List Int)} {f1 f2 f' : List Bool} (v1 : validM L s1 n1 f1 = 0) (v2 : validM L s2 n2 f2 = 0) (v3 : validM L s' n' f' = 0) (h : ∀ w, Word L.toNat w → accM n' f' s' w = joinB both (accM n1 f1 s1 w) (accM n2 f2 s2 w)) (w : List Int) :
    acceptsM L s' n' f' w = joinB both (acceptsM L s1 n1 f1 w) (acceptsM L s2 n2 f2 w) := by
  have e1 : decide (validM L s1 n1 f1 ≠ 0) = false := by simp [v1]
  have e2 : decide (validM L s2 n2 f2 ≠ 0) = false := by simp [v2]
  have e3 : decide (validM L s' n' f' ≠ 0) = false := by simp [v3]
  simp only [acceptsM, e1, e2, e3, goM_acc]
  cases hi : inB L w with
  | false => cases both <;> rfl
  | true => rw [h _ (inB_word (shape_of_valid v1).1.L0 hi)]; simp
theorem count_join {L s1 s2 s3 s4 len : Int} {n1 n2 n3 n4 : List (List Int)} {f1 f2 f3 f4 : List Bool} (v1 : validM L s1 n1 f1 = 0) (v2 : validM L s2 n2 f2 = 0) (v3 : validM L s3 n3 f3 = 0) (v4 : validM L s4 n4 f4 = 0) (hc : (countM L s1 n1 f1 len).2 = 0)
    (h3 : ∀ w, Word L.toNat w → accM n3 f3 s3 w = joinB true (accM n1 f1 s1 w) (accM n2 f2 s2 w)) (h4 : ∀ w, Word L.toNat w → accM n4 f4 s4 w = joinB false (accM n1 f1 s1 w) (accM n2 f2 s2 w)) :
    (countM L s3 n3 f3 len).2 = 0 ∧ (countM L s4 n4 f4 len).2 = 0 ∧ ∃ a b c d : Nat, (countM L s3 n3 f3 len).1 = (a : Int) ∧ (countM L s4 n4 f4 len).1 = (b : Int) ∧ (countM L s1 n1 f1 len).1 = (c : Int) ∧ (countM L s2 n2 f2 len).1 = (d : Int) ∧ (a + b) % 18446744073709551616 = (c + d) % 18446744073709551616 := by
  have hl : ¬ (len < 0 ∨ 1000 < len) := fun h => by
    rw [countM, if_pos (.inr h)] at hc
    cases hc
  have e : ∀ {s : Int} {n : List (List Int)} {f : List Bool}, validM L s n f = 0 → countM L s n f len = (((cntM n f L.toNat len.toNat s % 18446744073709551616 : Nat) : Int), 0) := fun v => if_neg (by omega)
  have key := cnt_join (L := L.toNat) (n1 := n1) (n2 := n2) (n3 := n3) (n4 := n4) (f1 := f1) (f2 := f2) (f3 := f3) (f4 := f4) len.toNat s3 s4 s1 s2 (fun u _ hu => h3 u hu) (fun u _ hu => h4 u hu)
  rw [e v1, e v2, e v3, e v4]
  refine ⟨rfl, rfl, _, _, _, _, rfl, rfl, rfl, rfl, ?_⟩
  omega
end Go.Proofs.Ythcoppfiahnpoaa
namespace Go.Proofs.Ythcoppfiahnpoaa
open Go Sym
theorem en_Count : enters Try.prog 31 = true := by kernel_rfl
def wU (L : Nat) (next : List (List Int)) (fin : List Bool) (k j : Nat) : Nat := cntM next fin L k (j : Int) % 18446744073709551616
def wB (fin : List Bool) (i j : Nat) : Nat := if j < i ∧ fin.getD j false = true then 1 else 0
def wN (L : Nat) (next : List (List Int)) (fin : List Bool) (k i c j : Nat) : Nat := if j < i then wU L next fin (k + 1) j else if j = i then sU L next fin k i c else 0
theorem wN_row {L : Nat} {next : List (List Int)} {fin : List Bool} {k i j : Nat} : wN L next fin k i L j = wN L next fin k (i + 1) 0 j := by
  unfold wN
  by_cases h : j < i
  · rw [if_pos h, if_pos (by omega)]
  · rw [if_neg h]
    by_cases e : j = i
    · subst e
      rw [if_pos rfl, if_pos (by omega), sU_all, cU, if_neg (by omega), Nat.add_sub_cancel, wU]
    · rw [if_neg e, if_neg (by omega)]
      by_cases e2 : j = i + 1
      · rw [if_pos e2]; simp [sU]
      · rw [if_neg e2]
theorem wN_set {L : Nat} {next : List (List Int)} {fin : List Bool} {k i c j : Nat} : wN L next fin k i (c + 1) j = if i = j then (sU L next fin k i c + cntM next fin L k (stepM next (i : Int) c) % 18446744073709551616) % 18446744073709551616 else wN L next fin k i c j := by
  by_cases e : i = j
  · subst e
    rw [if_pos rfl, wN, if_neg (by omega), if_pos rfl, sU_step]
  · rw [if_neg e]
    unfold wN
    by_cases h : j < i
    · rw [if_pos h, if_pos h]
    · rw [if_neg h, if_neg h, if_neg (fun h2 => e h2.symm), if_neg (fun h2 => e h2.symm)]
theorem sU_lt (L : Nat) (next : List (List Int)) (fin : List Bool) (k i c : Nat) : sU L next fin k i c < 18446744073709551616 := Nat.mod_lt _ (by decide)
theorem cnt_r20 {Ln ln g gl B i c t j : Nat} {s : Int} {vn ve : Value} {next : List (List Int)} {fin : List Bool} {xs ys : List Nat} {w0 w : World} (hx : Box w0 B Ln s vn ve) (hm : Ma w0 Ln s next fin vn ve) (h : Hold w0.heap.size w0 w [oU (Vs gl next.length next.length) xs, oU (Vs g next.length next.length) ys]) (hxl : xs.length = next.length) (hyl : ys.length = next.length) (hi : i < next.length) (hc : c < next[i].length) (hj : next[i][c] = (j : Int)) (hjn : j < next.length)
    {Q : Exit → Act → World → Prop} {a : Act} {ops : Array Oper} {id : Nat} (hops : Sym.regionOf Try.f31.body 20 = some (id, ops))
    (hS : St Try.f31.ntmps a [(1, Vi ln), (2, Vp B), (6, (Vs g next.length next.length)), (8, Vi t), (9, (Vs gl next.length next.length)), (10, Vi i), (11, Vi c)])
    (hq : ∀ a' w', St Try.f31.ntmps a' [(1, Vi ln), (2, Vp B), (6, (Vs g next.length next.length)), (8, Vi t), (9, (Vs gl next.length next.length)), (10, Vi i), (11, Vi c)] → Hold w0.heap.size w0 w' [oU (Vs gl next.length next.length) (xs.set i ((gt xs i + gt ys j) % 18446744073709551616)), oU (Vs g next.length next.length) ys] → Q .normal a' w') : (Code.region id ops true).wp Try.prog Q a w := by
  cases hops
  refine any_cut 19 [(1, Vi ln), (2, Vp B), (6, (Vs g next.length next.length)), (8, Vi t), (9, (Vs gl next.length next.length)), (10, Vi i), (11, Vi c)] (fun w' => Hold w0.heap.size w0 w' [oU (Vs gl next.length next.length) (xs.set i ((gt xs i + gt ys j) % 18446744073709551616)), oU (Vs g next.length next.length) ys]) mixed hS ?_ hq
  have hy : RowKit.Below w.drew.heap.size w.drew w.drew := RowKit.Below.refl _ _
  have hD := h.drew
  obtain ⟨bn, on, cn, hvn, ar, cr, hc1, hc2⟩ := (hm.keep hD.b).cell hi
  obtain ⟨br, orr, rfl, hc3⟩ := hc2 c hc
  subst hvn
  rw [hj] at hc3
  have k1 := hD.r.cU (i := 0) rfl (j := i) (by omega)
  have k2 := hD.r.cU (i := 1) rfl (j := j) (by omega)
  refine yT 0 tab_ok rfl (by kernel_rfl) hy rfl (rfl) ?_
  refine yT 1 tab_ok rfl (by kernel_rfl) hy rfl (rfl) ?_
  refine yT 2 tab_ok rfl (by kernel_rfl) hy rfl (rfl) ?_
  refine yT 3 tab_ok rfl (by kernel_rfl) hy rfl (rfl) ?_
  refine yT 4 tab_ok rfl (by kernel_rfl) hy rfl (Exists.intro _ (And.intro (rfl) (And.intro (hi) rfl))) ?_
  refine yL 5 tab_ok rfl (by kernel_rfl) hy rfl rfl (k1) ?_
  refine yT 6 tab_ok rfl (by kernel_rfl) hy rfl (rfl) ?_
  refine yT 7 tab_ok rfl (by kernel_rfl) hy rfl (rfl) ?_
  refine yL 8 tab_ok rfl (by kernel_rfl) hy rfl rfl ((hx.keep hD.b).c2) ?_
  refine yT 9 tab_ok rfl (by kernel_rfl) hy rfl (rfl) ?_
  refine yT 10 tab_ok rfl (by kernel_rfl) hy rfl (Exists.intro _ (And.intro (rfl) (And.intro (hi) rfl))) ?_
  refine yL 11 tab_ok rfl (by kernel_rfl) hy rfl rfl (hc1) ?_
  refine yT 12 tab_ok rfl (by kernel_rfl) hy rfl (rfl) ?_
  refine yT 13 tab_ok rfl (by kernel_rfl) hy rfl (Exists.intro _ (And.intro (rfl) (And.intro (hc) rfl))) ?_
  refine yL 14 tab_ok rfl (by kernel_rfl) hy rfl rfl (hc3) ?_
  refine yT 15 tab_ok rfl (by kernel_rfl) hy rfl (Exists.intro _ (And.intro (rfl) (And.intro (hjn) rfl))) ?_
  refine yL 16 tab_ok rfl (by kernel_rfl) hy rfl rfl (k2) ?_
  refine yT 17 tab_ok rfl (by kernel_rfl) hy rfl (Exists.intro _ (And.intro (u64_add _ _) rfl)) ?_
  refine yT 18 tab_ok rfl (by kernel_rfl) hy rfl (Exists.intro _ (And.intro (rfl) (And.intro (hi) rfl))) ?_
  refine y_one 19 (by kernel_rfl) (y_op0 19 tab_ok rfl rfl rfl ?_)
  refine And.intro rfl (And.intro rfl (And.intro ⟨_, k1⟩ (And.intro (hD.r.free (i := 0) rfl _) (And.intro (.inl (by kernel_rfl)) ?_))))
  exact y_end (by kernel_rfl) ⟨rfl, rfl, rfl, rfl, rfl, rfl, rfl, trivial⟩ (hD.storeU (i := 0) rfl i _)
set_option maxHeartbeats 2000000 in
theorem count_any (L s len : Int) (vn ve : Value) (next : List (List Int)) (fin : List Bool) (w : World) (hm : Ma w L s next fin vn ve) :
    Calls Try.prog 31 #[.agg #[Vi L, Vi s, vn, ve], Vi len] w fun e w' => e = .returned (.tuple #[.int .u64 (countM L s next fin len).1, Vi (countM L s next fin len).2]) ∧ RowKit.Below w.heap.size w w' := by
  refine Sym.enter (args := [.agg #[Vi L, Vi s, vn, ve], Vi len]) Try.func31 rfl rfl rfl (fun a0 hS0 => ?_)
  obtain ⟨B, hBB⟩ : ∃ B, B = w.heap.size := ⟨_, rfl⟩
  refine wp_seq (seq_cut [(1, Vi len), (2, Vp B)] (· = w.alloc (.cells #[Vi L, Vi s, vn, ve] 25)) tab_ok hS0 ?_ (fun a wc hS hw => ?_))
  · subst hBB
    refine zB rfl ?_
    repeat first|refine zP rfl ?_|refine zK rfl ?_
    exact o_nil ⟨⟨rfl, rfl, trivial⟩, rfl⟩
  obtain ⟨hB, hx⟩ := box_new hw
  rw [← hBB] at hx
  clear hw
  replace hm := hm.keep hB
  refine wp_seq (wp_seq (seq_cut [(1, Vi len), (2, Vp B), (22, .bool (decide (validM L s next fin ≠ 0) || (decide (len < 0) || decide (1000 < len))))] (fun w' => RowKit.Below wc.heap.size wc w') tab_ok hS ?_ (fun a w2 hS hw => ?_)))
  · refine zA ([Vi L, Vi s, vn, ve]) rfl rfl (⟨hx.c0, hx.c1, hx.c2, hx.c3, trivial⟩) ?_
    refine zF rfl (en_Valid) (valid_any L s vn ve next fin wc hm) ?_
    rintro e w3 ⟨rfl, h3⟩
    refine ⟨_, rfl, ?_⟩
    repeat first|refine zP rfl ?_|refine zK rfl ?_
    cases h1 : decide (validM L s next fin ≠ 0)
    case true =>
      refine zC rfl (h1) ?_
      repeat first|refine zP rfl ?_|refine zK rfl ?_
      exact o_nil ⟨⟨rfl, rfl, rfl, trivial⟩, h3⟩
    refine zC rfl (h1) ?_
    repeat first|refine zP rfl ?_|refine zK rfl ?_
    cases h2 : decide (len < 0)
    case true =>
      refine zC rfl (h2) ?_
      repeat first|refine zP rfl ?_|refine zK rfl ?_
      exact o_nil ⟨⟨rfl, rfl, rfl, trivial⟩, h3⟩
    refine zC rfl (h2) ?_
    repeat first|refine zP rfl ?_|refine zK rfl ?_
    refine zC rfl (rfl) ?_
    repeat first|refine zP rfl ?_|refine zK rfl ?_
    exact o_nil ⟨⟨rfl, rfl, rfl, trivial⟩, h3⟩
  replace hx := hx.keep hw
  replace hm := hm.keep hw
  replace hB := below_trans hB hw
  clear hw
  refine cond hS rfl (fun hT => ?_) (fun hF => wp_skip ?_)
  · refine wp_seq (seq_cut [(4, .int .u64 0), (5, Vi 1)] (· = w2) tab_ok hS ?_ (fun a w3 hS hw => ?_))
    · repeat first|refine zP rfl ?_|refine zK rfl ?_
      exact o_nil ⟨⟨rfl, rfl, trivial⟩, rfl⟩
    subst hw
    have hc : countM L s next fin len = (0, 1) := by
      simp only [Bool.or_eq_true, decide_eq_true_eq] at hT
      exact if_pos hT
    rw [hc]
    refine wp_ret ?_
    repeat (first | refine then_ret ?_ | refine block_ret ?_)
    exact ret2 hS rfl rfl rfl ⟨rfl, hB⟩
  simp only [Bool.or_eq_false_iff, decide_eq_false_iff_not, ne_eq, Decidable.not_not] at hF
  obtain ⟨hv, hl0, hl1⟩ := hF
  have hc : countM L s next fin len = (((cntM next fin L.toNat len.toNat s % 18446744073709551616 : Nat) : Int), 0) := if_neg (by omega)
  obtain ⟨h1, hL, hn⟩ := shape_of_valid hv
  have hfl := h1.fin
  obtain ⟨ln, rfl⟩ : ∃ n : Nat, len = n := ⟨len.toNat, by omega⟩
  obtain ⟨Ln, rfl⟩ : ∃ n : Nat, L = n := ⟨L.toNat, by have := h1.L0; omega⟩
  rw [Int.toNat_natCast, Int.toNat_natCast] at hc
  have K := fun w' (h : RowKit.Below w2.heap.size w2 w') => And.intro (hx.keep h) (hm.keep h)
  refine wp_seq (seq_cutx (α := Nat) (fun g => [(1, Vi ln), (2, Vp B), (6, (Vs g next.length next.length))]) (fun g w' => Hold w2.heap.size w2 w' [oU (Vs g next.length next.length) (rowU next.length (wB fin 0))]) tab_ok hS ?_ (fun g a w3 hS h => ?_))
  · obtain ⟨an, bn, on, cn, hvn, -⟩ := hm.n
    subst hvn
    repeat first|refine zP rfl ?_|refine zK rfl ?_
    refine zL rfl (hx.c2) ?_
    repeat first|refine zP rfl ?_|refine zK rfl ?_
    refine zM (next.length) rfl rfl rfl rfl rfl ((by show 8 * _ ≤ _; omega)) ((by omega)) ?_
    repeat first|refine zP rfl ?_|refine zK rfl ?_
    have h0 := (Hold.start w2).makeU (n := next.length) (by omega)
    rw [show List.replicate next.length 0 = rowU next.length (wB fin 0) from eq_rowU (by simp) fun j hj => by
      rw [wB, if_neg (by omega)]; simp [gt, List.getD_eq_getElem?_getD, hj]] at h0
    exact o_nil ⟨_, ⟨rfl, rfl, rfl, trivial⟩, h0⟩
  refine wp_seq (wp_seq (seq_cut [(1, Vi ln), (2, Vp B), (6, (Vs g next.length next.length)), (7, Vi (0 : Nat))] (· = w3) tab_ok hS ?_ (fun a w' hS hw => ?_)))
  · repeat first|refine zP rfl ?_|refine zK rfl ?_
    exact o_nil ⟨⟨rfl, rfl, rfl, rfl, trivial⟩, rfl⟩
  subst hw
  refine wp_block (loop0 hS (fun γ E w' => ∃ i : Nat, i ≤ next.length ∧ γ = next.length - i ∧ E = [(1, Vi ln), (2, Vp B), (6, (Vs g next.length next.length)), (7, Vi i)] ∧ Hold w2.heap.size w2 w' [oU (Vs g next.length next.length) (rowU next.length (wB fin i))]) next.length ⟨0, by omega, by omega, rfl, h⟩ ?_)
  clear h hS
  rintro γ E w4 a ⟨i, hi, rfl, rfl, h⟩ hS
  refine wp_seq (wp_seq (seq_cut [(1, Vi ln), (2, Vp B), (6, (Vs g next.length next.length)), (7, Vi i), (30, .bool (decide (i < next.length)))] (· = w4) tab_ok hS ?_ (fun a w5 hS hw => ?_)))
  · repeat first|refine zP rfl ?_|refine zK rfl ?_
    refine zC rfl (lt_nat _ _) ?_
    repeat first|refine zP rfl ?_|refine zK rfl ?_
    exact o_nil ⟨⟨rfl, rfl, rfl, rfl, rfl, trivial⟩, rfl⟩
  subst hw
  refine cond hS rfl (fun hT => wp_skip ?_) (fun hF => ?_)
  · have hii : i < next.length := of_decide_eq_true hT
    have hif : i < fin.length := by omega
    refine wp_seq (wp_block ?_)
    refine wp_seq (seq_cut [(1, Vi ln), (2, Vp B), (6, (Vs g next.length next.length)), (7, Vi i), (37, .bool fin[i])] (· = w5) tab_ok hS ?_ (fun a w6 hS hw => ?_))
    · obtain ⟨hx, hm⟩ := K _ h.b
      obtain ⟨b, o, ce, hve, hcell⟩ := hm.end hif
      subst hve
      repeat first|refine zP rfl ?_|refine zK rfl ?_
      refine zL rfl (hx.c3) ?_
      repeat first|refine zP rfl ?_|refine zK rfl ?_
      refine zI rfl (rfl) (hif) ?_
      refine zL rfl (hcell) ?_
      repeat first|refine zP rfl ?_|refine zK rfl ?_
      exact o_nil ⟨⟨rfl, rfl, rfl, rfl, rfl, trivial⟩, rfl⟩
    subst hw
    have hg : fin.getD i false = fin[i] := by simp [List.getD_eq_getElem?_getD, hif]
    refine cut (F := fun a' w' => St Try.f31.ntmps a' [(1, Vi ln), (2, Vp B), (6, (Vs g next.length next.length)), (7, Vi i)] ∧ Hold w2.heap.size w2 w' [oU (Vs g next.length next.length) (rowU next.length (wB fin (i + 1)))]) ?_ ?_
    · refine cond hS rfl (fun hT2 => ?_) (fun hF2 => wp_skip ?_)
      · refine seq_cut [(1, Vi ln), (2, Vp B), (6, (Vs g next.length next.length)), (7, Vi i)] (fun w' => Hold w2.heap.size w2 w' [oU (Vs g next.length next.length) (rowU next.length (wB fin (i + 1)))]) tab_ok hS ?_ (fun a w8 hS h => ?_)
        · have hlt : i < (rowU next.length (wB fin i)).length := by rw [rowU_len]; exact hii
          have h2 := h.storeU (i := 0) rfl i 1
          rw [rowU_set (g := wB fin (i + 1)) (fun j hj => by
            unfold wB
            by_cases e : i = j
            · subst e
              rw [if_pos ⟨by omega, by rw [hg]; exact hT2⟩, if_pos rfl]
            · rw [if_neg e]
              by_cases e2 : j < i ∧ fin.getD j false = true
              · rw [if_pos e2, if_pos ⟨by omega, e2.2⟩]
              · rw [if_neg e2, if_neg (fun k => e2 ⟨by omega, k.2⟩)])] at h2
          repeat first|refine zP rfl ?_|refine zK rfl ?_
          refine zI rfl (rfl) (hii) ?_
          refine zS rfl rfl (h.r.cU (i := 0) rfl (j := i) hlt) (h.r.free (i := 0) rfl _) ?_
          exact o_nil ⟨⟨rfl, rfl, rfl, rfl, trivial⟩, h2⟩
        exact ⟨hS, h⟩
      · refine ⟨hS.sub ⟨rfl, rfl, rfl, rfl, trivial⟩, ?_⟩
        rw [eq_rowU (xs := rowU next.length (wB fin i)) (f := wB fin (i + 1)) (rowU_len _ _) (fun j hj => by
          rw [rowU_gt _ hj]
          unfold wB
          by_cases e : i = j
          · subst e
            rw [if_neg (by omega), if_neg (fun k => by have k3 := k.2; rw [hg, hF2] at k3; cases k3)]
          · by_cases e2 : j < i ∧ fin.getD j false = true
            · rw [if_pos e2, if_pos ⟨by omega, e2.2⟩]
            · rw [if_neg e2, if_neg (fun k => e2 ⟨by omega, k.2⟩)])] at h
        exact h
    rintro a w6 ⟨hS, h⟩
    refine block_normal ?_
    refine then_normal ?_
    refine seq_cut [(1, Vi ln), (2, Vp B), (6, (Vs g next.length next.length)), (7, Vi (i + 1 : Nat))] (· = w6) tab_ok hS ?_ (fun a w7 hS hw => ?_)
    · repeat first|refine zP rfl ?_|refine zK rfl ?_
      refine zN rfl (i64_add i 1 (by omega)) ?_
      repeat first|refine zP rfl ?_|refine zK rfl ?_
      exact o_nil ⟨⟨rfl, rfl, rfl, rfl, trivial⟩, rfl⟩
    subst hw
    exact ⟨next.length - (i + 1), _, by omega, ⟨i + 1, by omega, rfl, rfl, h⟩, hS⟩
  have hii : i = next.length := by have := of_decide_eq_false hF; omega
  subst hii
  refine wp_exit ?_
  repeat (first | refine then_exit ?_ | refine block_exit ?_ | refine block_other rfl ?_)
  rw [eq_rowU (xs := rowU next.length (wB fin next.length)) (f := wU Ln next fin 0) (rowU_len _ _) (fun j hj => by
    rw [rowU_gt _ hj, wB, wU]
    unfold cntM endsM
    rw [Int.toNat_natCast, decide_eq_true (Int.natCast_nonneg _), Bool.true_and]
    by_cases e2 : fin.getD j false = true
    · rw [if_pos ⟨hj, e2⟩, if_pos e2]
    · rw [if_neg (fun k => e2 k.2), if_neg e2])] at h
  refine wp_seq (wp_seq (seq_cut [(1, Vi ln), (2, Vp B), (6, (Vs g next.length next.length)), (8, Vi (0 : Nat))] (· = w5) tab_ok hS ?_ (fun a w' hS hw => ?_)))
  · repeat first|refine zP rfl ?_|refine zK rfl ?_
    exact o_nil ⟨⟨rfl, rfl, rfl, rfl, trivial⟩, rfl⟩
  subst hw
  refine wp_block (loop0 hS (fun γ E w' => ∃ (t g : Nat), t ≤ ln ∧ γ = ln - t ∧ E = [(1, Vi ln), (2, Vp B), (6, (Vs g next.length next.length)), (8, Vi t)] ∧ Hold w2.heap.size w2 w' [oU (Vs g next.length next.length) (rowU next.length (wU Ln next fin t))]) ln ⟨0, g, by omega, by omega, rfl, h⟩ ?_)
  clear h hS
  rintro γ E w7 a ⟨t, g, ht, rfl, rfl, h⟩ hS
  refine wp_seq (wp_seq (seq_cut [(1, Vi ln), (2, Vp B), (6, (Vs g next.length next.length)), (8, Vi t), (43, .bool (decide (t < ln)))] (· = w7) tab_ok hS ?_ (fun a w8 hS hw => ?_)))
  · repeat first|refine zP rfl ?_|refine zK rfl ?_
    refine zC rfl (lt_nat _ _) ?_
    exact o_nil ⟨⟨rfl, rfl, rfl, rfl, rfl, trivial⟩, rfl⟩
  subst hw
  refine cond hS rfl (fun hT => wp_skip ?_) (fun hF => ?_)
  case refine_2 =>
    have htt : ln = t := by have := of_decide_eq_false hF; omega
    subst htt
    refine wp_exit ?_
    repeat (first | refine then_exit ?_ | refine block_exit ?_ | refine block_other rfl ?_)
    obtain ⟨hx, hm⟩ := K _ h.b
    have hs1 := h1.s1
    have hs2 := h1.s2
    refine wp_seq (wp_seq (seq_cut [(1, Vi ln), (2, Vp B), (6, (Vs g next.length next.length)), (92, .bool (decide (s < 0)))] (· = w8) tab_ok hS ?_ (fun a w9 hS hw => ?_)))
    · repeat first|refine zP rfl ?_|refine zK rfl ?_
      refine zL rfl (hx.c1) ?_
      refine zC rfl (rfl) ?_
      exact o_nil ⟨⟨rfl, rfl, rfl, rfl, trivial⟩, rfl⟩
    subst hw
    refine cond hS rfl (fun hT => ?_) (fun hF => wp_skip ?_)
    · have hsn : s = -1 := by have := of_decide_eq_true hT; omega
      refine wp_seq (seq_cut [(4, .int .u64 0), (5, Vi 0)] (· = w9) tab_ok hS ?_ (fun a w10 hS hw => ?_))
      · repeat first|refine zP rfl ?_|refine zK rfl ?_
        exact o_nil ⟨⟨rfl, rfl, trivial⟩, rfl⟩
      subst hw
      rw [hc, hsn, cntM_none]
      refine wp_ret ?_
      repeat (first | refine then_ret ?_ | refine block_ret ?_)
      exact ret2 hS rfl rfl rfl ⟨rfl, below_trans hB h.b⟩
    obtain ⟨sn, rfl⟩ := Int.eq_ofNat_of_zero_le (show 0 ≤ s by have := of_decide_eq_false hF; omega)
    have hcell := h.r.cU (i := 0) rfl (j := sn) (by rw [rowU_len]; omega)
    rw [rowU_gt _ (by omega), wU] at hcell
    refine wp_seq (seq_cut [(4, .int .u64 (((cntM next fin Ln ln sn % 18446744073709551616 : Nat)) : Int)), (5, Vi 0)] (· = w9) tab_ok hS ?_ (fun a w10 hS hw => ?_))
    · repeat first|refine zP rfl ?_|refine zK rfl ?_
      refine zL rfl (hx.c1) ?_
      refine zI rfl (rfl) ((by omega)) ?_
      refine zL rfl (hcell) ?_
      repeat first|refine zP rfl ?_|refine zK rfl ?_
      exact o_nil ⟨⟨rfl, rfl, trivial⟩, rfl⟩
    subst hw
    rw [hc]
    refine wp_ret ?_
    repeat (first | refine then_ret ?_ | refine block_ret ?_)
    exact ret2 hS rfl rfl rfl ⟨rfl, below_trans hB h.b⟩
  have htt : t < ln := of_decide_eq_true hT
  refine wp_seq (wp_block ?_)
  refine wp_seq (seq_cutx (α := Nat) (fun gl => [(1, Vi ln), (2, Vp B), (6, (Vs g next.length next.length)), (8, Vi t), (9, (Vs gl next.length next.length))]) (fun gl w' => Hold w2.heap.size w2 w' [oU (Vs gl next.length next.length) (rowU next.length (wN Ln next fin t 0 0)), oU (Vs g next.length next.length) (rowU next.length (wU Ln next fin t))]) tab_ok hS ?_ (fun gl a w9 hS h => ?_))
  · repeat first|refine zP rfl ?_|refine zK rfl ?_
    refine zM (next.length) rfl rfl rfl rfl rfl ((by show 8 * _ ≤ _; omega)) ((by omega)) ?_
    repeat first|refine zP rfl ?_|refine zK rfl ?_
    have h0 := h.makeU (n := next.length) (by omega)
    rw [show List.replicate next.length 0 = rowU next.length (wN Ln next fin t 0 0) from eq_rowU (by simp) fun j hj => by
      rw [wN, if_neg (by omega)]
      simp [gt, List.getD_eq_getElem?_getD, hj, sU]] at h0
    exact o_nil ⟨_, ⟨rfl, rfl, rfl, rfl, rfl, trivial⟩, h0⟩
  refine wp_seq (wp_seq (seq_cut [(1, Vi ln), (2, Vp B), (6, (Vs g next.length next.length)), (8, Vi t), (9, (Vs gl next.length next.length)), (10, Vi (0 : Nat))] (· = w9) tab_ok hS ?_ (fun a w' hS hw => ?_)))
  · repeat first|refine zP rfl ?_|refine zK rfl ?_
    exact o_nil ⟨⟨rfl, rfl, rfl, rfl, rfl, rfl, trivial⟩, rfl⟩
  subst hw
  refine wp_block (loop0 hS (fun γ E w' => ∃ (i : Nat), i ≤ next.length ∧ γ = next.length - i ∧ E = [(1, Vi ln), (2, Vp B), (6, (Vs g next.length next.length)), (8, Vi t), (9, (Vs gl next.length next.length)), (10, Vi i)] ∧ Hold w2.heap.size w2 w' [oU (Vs gl next.length next.length) (rowU next.length (wN Ln next fin t i 0)), oU (Vs g next.length next.length) (rowU next.length (wU Ln next fin t))]) next.length ⟨0, by omega, by omega, rfl, h⟩ ?_)
  clear h hS
  rintro γ E w10 a ⟨i, hi, rfl, rfl, h⟩ hS
  refine wp_seq (wp_seq (seq_cut [(1, Vi ln), (2, Vp B), (6, (Vs g next.length next.length)), (8, Vi t), (9, (Vs gl next.length next.length)), (10, Vi i), (52, .bool (decide (i < next.length)))] (· = w10) tab_ok hS ?_ (fun a w11 hS hw => ?_)))
  · repeat first|refine zP rfl ?_|refine zK rfl ?_
    refine zC rfl (lt_nat _ _) ?_
    repeat first|refine zP rfl ?_|refine zK rfl ?_
    exact o_nil ⟨⟨rfl, rfl, rfl, rfl, rfl, rfl, rfl, trivial⟩, rfl⟩
  subst hw
  refine cond hS rfl (fun hT => wp_skip ?_) (fun hF => ?_)
  case refine_2 =>
    have hii : i = next.length := by have := of_decide_eq_false hF; omega
    subst hii
    refine wp_exit ?_
    repeat (first | refine then_exit ?_ | refine block_exit ?_ | refine block_other rfl ?_)
    have hrow : rowU next.length (wN Ln next fin t next.length 0) = rowU next.length (wU Ln next fin (t + 1)) := eq_rowU (rowU_len _ _) fun j hj => by
      rw [rowU_gt _ hj, wN, if_pos hj]
    rw [hrow] at h
    refine seq_cut [(1, Vi ln), (2, Vp B), (6, (Vs gl next.length next.length)), (8, Vi t)] (· = w11) tab_ok hS ?_ (fun a w12 hS hw => ?_)
    · repeat first|refine zP rfl ?_|refine zK rfl ?_
      exact o_nil ⟨⟨rfl, rfl, rfl, rfl, trivial⟩, rfl⟩
    subst hw
    refine block_normal ?_
    refine then_normal ?_
    refine seq_cut [(1, Vi ln), (2, Vp B), (6, (Vs gl next.length next.length)), (8, Vi (t + 1 : Nat))] (· = w12) tab_ok hS ?_ (fun a w13 hS hw => ?_)
    · repeat first|refine zP rfl ?_|refine zK rfl ?_
      refine zN rfl (i64_add t 1 (by omega)) ?_
      repeat first|refine zP rfl ?_|refine zK rfl ?_
      exact o_nil ⟨⟨rfl, rfl, rfl, rfl, trivial⟩, rfl⟩
    subst hw
    exact ⟨ln - (t + 1), _, by omega, ⟨t + 1, gl, by omega, rfl, rfl, (h.erase 1)⟩, hS⟩
  have hii : i < next.length := of_decide_eq_true hT
  obtain ⟨hrl, hrr⟩ := h1.rows i hii
  refine wp_seq (wp_block ?_)
  refine wp_seq (seq_cut [(1, Vi ln), (2, Vp B), (6, (Vs g next.length next.length)), (8, Vi t), (9, (Vs gl next.length next.length)), (10, Vi i), (11, Vi (0 : Nat))] (· = w11) tab_ok hS ?_ (fun a w12 hS hw => ?_))
  · repeat first|refine zP rfl ?_|refine zK rfl ?_
    exact o_nil ⟨⟨rfl, rfl, rfl, rfl, rfl, rfl, rfl, trivial⟩, rfl⟩
  subst hw
  refine wp_block (loop0 hS (fun γ E w' => ∃ (c : Nat), c ≤ Ln ∧ γ = Ln - c ∧ E = [(1, Vi ln), (2, Vp B), (6, (Vs g next.length next.length)), (8, Vi t), (9, (Vs gl next.length next.length)), (10, Vi i), (11, Vi c)] ∧ Hold w2.heap.size w2 w' [oU (Vs gl next.length next.length) (rowU next.length (wN Ln next fin t i c)), oU (Vs g next.length next.length) (rowU next.length (wU Ln next fin t))]) Ln ⟨0, by omega, by omega, rfl, h⟩ ?_)
  clear h hS
  rintro γ E w13 a ⟨c, hcL, rfl, rfl, h⟩ hS
  refine wp_seq (wp_seq (seq_cut [(1, Vi ln), (2, Vp B), (6, (Vs g next.length next.length)), (8, Vi t), (9, (Vs gl next.length next.length)), (10, Vi i), (11, Vi c), (58, .bool (decide (c < Ln)))] (· = w13) tab_ok hS ?_ (fun a w14 hS hw => ?_)))
  · repeat first|refine zP rfl ?_|refine zK rfl ?_
    refine zL rfl ((K _ h.b).1.c0) ?_
    refine zC rfl (lt_nat _ _) ?_
    exact o_nil ⟨⟨rfl, rfl, rfl, rfl, rfl, rfl, rfl, rfl, trivial⟩, rfl⟩
  subst hw
  refine cond hS rfl (fun hT => wp_skip ?_) (fun hF => ?_)
  case refine_2 =>
    have hcc : c = Ln := by have := of_decide_eq_false hF; omega
    subst hcc
    refine wp_exit ?_
    repeat (first | refine then_exit ?_ | refine block_exit ?_ | refine block_other rfl ?_)
    refine block_normal ?_
    refine then_normal ?_
    refine seq_cut [(1, Vi ln), (2, Vp B), (6, (Vs g next.length next.length)), (8, Vi t), (9, (Vs gl next.length next.length)), (10, Vi (i + 1 : Nat))] (· = w14) tab_ok hS ?_ (fun a w15 hS hw => ?_)
    · repeat first|refine zP rfl ?_|refine zK rfl ?_
      refine zN rfl (i64_add i 1 (by omega)) ?_
      repeat first|refine zP rfl ?_|refine zK rfl ?_
      exact o_nil ⟨⟨rfl, rfl, rfl, rfl, rfl, rfl, trivial⟩, rfl⟩
    subst hw
    rw [show rowU next.length (wN c next fin t i c) = rowU next.length (wN c next fin t (i + 1) 0) from eq_rowU (rowU_len _ _) fun j hj => by rw [rowU_gt _ hj, wN_row]] at h
    exact ⟨next.length - (i + 1), _, by omega, ⟨i + 1, by omega, rfl, rfl, h⟩, hS⟩
  have hcl : c < Ln := of_decide_eq_true hT
  have hcr : c < next[i].length := by omega
  have hxr := hrr c hcr
  obtain ⟨x, hxe⟩ : ∃ x, next[i][c] = x := ⟨_, rfl⟩
  rw [hxe] at hxr
  have hst : stepM next (i : Int) c = x := by rw [stepM_get hii hcr, hxe]
  refine wp_seq (wp_block ?_)
  refine wp_seq (seq_cut [(1, Vi ln), (2, Vp B), (6, (Vs g next.length next.length)), (8, Vi t), (9, (Vs gl next.length next.length)), (10, Vi i), (11, Vi c), (69, .bool (decide (0 ≤ x)))] (· = w14) tab_ok hS ?_ (fun a w15 hS hw => ?_))
  · obtain ⟨hx, hm⟩ := K _ h.b
    obtain ⟨bn, on, cn, hvn, ar, cr, hc1, hc2⟩ := hm.cell hii
    obtain ⟨br, orr, rfl, hc3⟩ := hc2 c hcr
    rw [hxe] at hc3
    subst hvn
    repeat first|refine zP rfl ?_|refine zK rfl ?_
    refine zL rfl (hx.c2) ?_
    repeat first|refine zP rfl ?_|refine zK rfl ?_
    refine zI rfl (rfl) (hii) ?_
    refine zL rfl (hc1) ?_
    repeat first|refine zP rfl ?_|refine zK rfl ?_
    refine zI rfl (rfl) (hcr) ?_
    refine zL rfl (hc3) ?_
    refine zC rfl (rfl) ?_
    exact o_nil ⟨⟨rfl, rfl, rfl, rfl, rfl, rfl, rfl, rfl, trivial⟩, rfl⟩
  subst hw
  refine cut (F := fun a' w' => St Try.f31.ntmps a' [(1, Vi ln), (2, Vp B), (6, (Vs g next.length next.length)), (8, Vi t), (9, (Vs gl next.length next.length)), (10, Vi i), (11, Vi c)] ∧ Hold w2.heap.size w2 w' [oU (Vs gl next.length next.length) (rowU next.length (wN Ln next fin t i (c + 1))), oU (Vs g next.length next.length) (rowU next.length (wU Ln next fin t))]) ?_ ?_
  · refine cond hS rfl (fun hT => ?_) (fun hF => wp_skip ?_)
    · obtain ⟨j, rfl⟩ := Int.eq_ofNat_of_zero_le (of_decide_eq_true hT)
      refine cnt_r20 hx hm h (rowU_len _ _) (rowU_len _ _) hii hcr hxe (by omega) (by rfl) (hS.sub ⟨rfl, rfl, rfl, rfl, rfl, rfl, rfl, trivial⟩) (fun a w16 hS h => ⟨hS, ?_⟩)
      rw [rowU_gt _ hii, rowU_gt _ (by omega), rowU_set (g := wN Ln next fin t i (c + 1)) (fun q hq => by
        rw [wN_set, hst]
        by_cases e : i = q
        · rw [if_pos e, if_pos e, wN, if_neg (by omega), if_pos rfl, wU]
        · rw [if_neg e, if_neg e])] at h
      exact h
    · refine ⟨hS.sub ⟨rfl, rfl, rfl, rfl, rfl, rfl, rfl, trivial⟩, ?_⟩
      have hxn : x = -1 := by have := of_decide_eq_false hF; omega
      rw [show rowU next.length (wN Ln next fin t i c) = rowU next.length (wN Ln next fin t i (c + 1)) from eq_rowU (rowU_len _ _) fun q hq => by
        rw [rowU_gt _ hq, wN_set, hst, hxn, cntM_none]
        by_cases e : i = q
        · subst e
          have := sU_lt Ln next fin t i c
          rw [if_pos rfl, wN, if_neg (by omega), if_pos rfl]
          omega
        · rw [if_neg e]] at h
      exact h
  rintro a w16 ⟨hS, h⟩
  refine block_normal ?_
  refine then_normal ?_
  refine seq_cut [(1, Vi ln), (2, Vp B), (6, (Vs g next.length next.length)), (8, Vi t), (9, (Vs gl next.length next.length)), (10, Vi i), (11, Vi (c + 1 : Nat))] (· = w16) tab_ok hS ?_ (fun a w17 hS hw => ?_)
  · repeat first|refine zP rfl ?_|refine zK rfl ?_
    refine zN rfl (i64_add c 1 (by omega)) ?_
    repeat first|refine zP rfl ?_|refine zK rfl ?_
    exact o_nil ⟨⟨rfl, rfl, rfl, rfl, rfl, rfl, rfl, trivial⟩, rfl⟩
  subst hw
  exact ⟨Ln - (c + 1), _, by omega, ⟨c + 1, by omega, rfl, rfl, h⟩, hS⟩
end Go.Proofs.Ythcoppfiahnpoaa
namespace Go.Proofs.Ythcoppfiahnpoaa
open Go Sym
theorem JoinE.sh {both : Bool} {L1 s1 L2 s2 L' s' r : Int} {n1 n2 n' : List (List Int)} {f1 f2 f' : List Bool} (h : JoinE both L1 s1 n1 f1 L2 s2 n2 f2 L' s' n' f' r) (hr : r = 0) (hn : n'.length ≤ 3000) :
    validM L1 s1 n1 f1 = 0 ∧ validM L2 s2 n2 f2 = 0 ∧ L1 = L2 ∧ L' = L1 ∧ validM L1 s' n' f' = 0 ∧ ∀ w, Word L1.toNat w → accM n' f' s' w = joinB both (accM n1 f1 s1 w) (accM n2 f2 s2 w) := by
  rcases h with ⟨h0, h1, _⟩ | ⟨h0, _, rfl, h1, h2⟩
  · rw [hr] at h1
    exact (h0 h1.symm).elim
  · obtain ⟨v1, v2, h3⟩ := two_zero h0
    exact ⟨v1, v2, h3, rfl, valid_of_shape h1.shape (shape_of_valid v1).2.1 (by omega), h2⟩
theorem own_ma {base : Nat} {w0 w : World} {L s : Int} {vn ve : Value} {vs : List Value} {n : List (List Int)} {f : List Bool} (h : Hold base w0 w (oB ve f :: nextR vn vs n)) (hl : vs.length = n.length) (hI : ∀ l ∈ n, ∀ x ∈ l, I64 x) (hL : I64 L) (hs : I64 s) : Ma w L s n f vn ve :=
  ma_rows (rest := []) (by rwa [List.append_nil]) hl hI hL hs
set_option maxHeartbeats 4000000 in
theorem autoCounts_any (C : AwakeC) (JB : Jn.JoinC true 32) (JE : Jn.JoinC false 33) (L1 s1 L2 s2 len : Int) (vn1 ve1 vn2 ve2 vw : Value) (n1 n2 : List (List Int)) (f1 f2 : List Bool) (words : List (List Int)) (w : World)
    (hi1 : MaIn w L1 s1 n1 f1 vn1 ve1) (hi2 : MaIn w L2 s2 n2 f2 vn2 ve2) (hlen : I64 len) (hw0 : Sl w vw words PRow) :
    Calls Try.prog 10 #[.agg #[Vi L1, Vi s1, vn1, ve1], .agg #[Vi L2, Vi s2, vn2, ve2], Vi len, vw] w fun e w' => e = .returned (.bool true) ∧ RowKit.Below w.heap.size w w' := by
  refine Sym.enter (args := [.agg #[Vi L1, Vi s1, vn1, ve1], .agg #[Vi L2, Vi s2, vn2, ve2], Vi len, vw]) Try.func10 rfl rfl rfl (fun a0 hS0 => ?_)
  obtain ⟨M, hM⟩ : ∃ M, M = w.heap.size := ⟨_, rfl⟩
  obtain ⟨N, hN⟩ : ∃ N, N = (w.alloc (.cells #[Vi L1, Vi s1, vn1, ve1] 25)).heap.size := ⟨_, rfl⟩
  refine wp_seq (seq_cut [(2, Vi len), (3, vw), (4, Vp M), (5, Vp N)] (· = (w.alloc (.cells #[Vi L1, Vi s1, vn1, ve1] 25)).alloc (.cells #[Vi L2, Vi s2, vn2, ve2] 25)) tab_ok hS0 ?_ (fun a wc hS hw => ?_))
  · subst hN hM
    refine zB rfl ?_
    refine zB rfl ?_
    repeat first|refine zP rfl ?_|refine zK rfl ?_
    exact o_nil ⟨⟨rfl, rfl, rfl, rfl, trivial⟩, rfl⟩
  have hB1 := below_alloc w (.cells #[Vi L1, Vi s1, vn1, ve1] 25)
  have hB2 := below_alloc (w.alloc (.cells #[Vi L1, Vi s1, vn1, ve1] 25)) (.cells #[Vi L2, Vi s2, vn2, ve2] 25)
  rw [← hw] at hB2
  have hB := below_trans hB1 hB2
  have hx : MBx wc M L1 s1 n1 f1 vn1 ve1 := ⟨by rw [hM]; exact (OwnB.new w [Vi L1, Vi s1, vn1, ve1] 25).keep hB2 (by rw [alloc_size]; omega), hi1.ma.keep hB⟩
  have hy : MBx wc N L2 s2 n2 f2 vn2 ve2 := ⟨by rw [hw, hN]; exact OwnB.new _ [Vi L2, Vi s2, vn2, ve2] _, hi2.ma.keep hB⟩
  clear hw hB1 hB2 hN hM hS0
  replace hw0 := hw0.keep hB (fun _ _ h => PRow.keep hB h)
  obtain ⟨b28, hb28⟩ : ∃ b, (!smallM L1 n1 f1 || !smallM L2 n2 f2) = b := ⟨_, rfl⟩
  refine wp_seq (wp_seq (seq_cut [(2, Vi len), (3, vw), (4, Vp M), (5, Vp N), (33, .bool b28)] (fun w' => RowKit.Below wc.heap.size wc w') tab_ok hS ?_ (fun a w1 hS hw => ?_)))
  · refine zA ([Vi L1, Vi s1, vn1, ve1]) rfl rfl (hx.cells) ?_
    refine zF rfl (en_small') (small_any L1 s1 vn1 ve1 n1 f1 _ hx.m) ?_
    rintro e w1 ⟨rfl, h1⟩
    refine ⟨_, rfl, ?_⟩
    cases e1 : !smallM L1 n1 f1
    case true =>
      rw [e1, Bool.true_or] at hb28; subst hb28
      refine zP rfl ?_
      rw [e1]
      repeat first|refine zP rfl ?_|refine zK rfl ?_
      exact o_nil ⟨⟨rfl, rfl, rfl, rfl, rfl, trivial⟩, h1⟩
    rw [e1, Bool.false_or] at hb28
    refine zP rfl ?_
    rw [e1]
    repeat first|refine zP rfl ?_|refine zK rfl ?_
    refine zA ([Vi L2, Vi s2, vn2, ve2]) rfl rfl ((hy.keep h1).cells) ?_
    refine zF rfl (en_small') (small_any L2 s2 vn2 ve2 n2 f2 _ (hy.keep h1).m) ?_
    rintro e w2 ⟨rfl, h2⟩
    refine ⟨_, rfl, ?_⟩
    refine zP rfl ?_
    rw [hb28]
    repeat first|refine zP rfl ?_|refine zK rfl ?_
    exact o_nil ⟨⟨rfl, rfl, rfl, rfl, rfl, trivial⟩, below_trans h1 h2⟩
  replace hB := below_trans hB hw
  replace hx := hx.keep hw
  replace hy := hy.keep hw
  replace hw0 := hw0.keep hw (fun _ _ h => PRow.keep hw h)
  clear hw
  refine cond hS rfl (fun hT => ?_) (fun hF => wp_skip ?_)
  · refine wp_seq (seq_cut [(8, .bool true)] (fun w' => RowKit.Below w1.heap.size w1 w') tab_ok hS ?_ (fun a w2 hS hw => ?_))
    · refine zF rfl (en_awake) (awake_any C _) ?_
      rintro e w2 ⟨rfl, h2⟩
      refine ⟨_, rfl, ?_⟩
      repeat first|refine zP rfl ?_|refine zK rfl ?_
      exact o_nil ⟨⟨rfl, trivial⟩, h2⟩
    refine wp_ret ?_
    repeat (first | refine then_ret ?_ | refine block_ret ?_)
    exact ret1 hS rfl rfl ⟨rfl, below_trans hB hw⟩
  rw [hF] at hb28
  simp only [Bool.or_eq_false_iff, Bool.not_eq_false'] at hb28
  obtain ⟨g1, g2⟩ := hb28
  obtain ⟨hs1, -, -⟩ := small_rows g1
  obtain ⟨hs2, -, -⟩ := small_rows g2
  refine wp_seq (seq_cut [(2, Vi len), (3, vw), (4, Vp M), (5, Vp N), (9, .int .u64 (countM L1 s1 n1 f1 len).1), (10, Vi (countM L1 s1 n1 f1 len).2)] (fun w' => RowKit.Below w1.heap.size w1 w') tab_ok hS ?_ (fun a w2 hS hw => ?_))
  · refine zA ([Vi L1, Vi s1, vn1, ve1]) rfl rfl (hx.cells) ?_
    repeat first|refine zP rfl ?_|refine zK rfl ?_
    refine zF rfl (en_Count) (count_any L1 s1 len vn1 ve1 n1 f1 _ hx.m) ?_
    rintro e w2 ⟨rfl, h2⟩
    refine ⟨_, rfl, ?_⟩
    repeat first|refine zP rfl ?_|refine zK rfl ?_
    exact o_nil ⟨⟨rfl, rfl, rfl, rfl, rfl, rfl, trivial⟩, h2⟩
  replace hB := below_trans hB hw
  replace hx := hx.keep hw
  replace hy := hy.keep hw
  replace hw0 := hw0.keep hw (fun _ _ h => PRow.keep hw h)
  clear hw
  refine wp_seq (seq_cut [(2, Vi len), (3, vw), (4, Vp M), (5, Vp N), (9, .int .u64 (countM L1 s1 n1 f1 len).1), (10, Vi (countM L1 s1 n1 f1 len).2), (11, .int .u64 (countM L1 s1 n1 f1 len).1), (12, Vi (countM L1 s1 n1 f1 len).2)] (fun w' => RowKit.Below w2.heap.size w2 w') tab_ok hS ?_ (fun a w3 hS hw => ?_))
  · refine zA ([Vi L1, Vi s1, vn1, ve1]) rfl rfl (hx.cells) ?_
    refine zF rfl (en_Copy) (hi1.copy hB) ?_
    rintro e w3 ⟨vn4, ve4, rfl, hm4, h4⟩
    refine ⟨_, rfl, ?_⟩
    repeat first|refine zP rfl ?_|refine zK rfl ?_
    refine zF rfl (en_aCount) (C.count L1 s1 len vn4 ve4 n1 f1 w3 (hm4.ma hi1.ma.L hi1.ma.s) hlen (by omega)) ?_
    rintro e w4 ⟨rfl, h5⟩
    refine ⟨_, rfl, ?_⟩
    repeat first|refine zP rfl ?_|refine zK rfl ?_
    exact o_nil ⟨⟨rfl, rfl, rfl, rfl, rfl, rfl, rfl, rfl, trivial⟩, below_trans h4 h5⟩
  replace hB := below_trans hB hw
  replace hx := hx.keep hw
  replace hy := hy.keep hw
  replace hw0 := hw0.keep hw (fun _ _ h => PRow.keep hw h)
  clear hw
  refine wp_seq (wp_seq (seq_cut [(2, Vi len), (3, vw), (4, Vp M), (5, Vp N), (11, .int .u64 (countM L1 s1 n1 f1 len).1), (12, Vi (countM L1 s1 n1 f1 len).2), (55, .bool false)] (· = w3) tab_ok hS ?_ (fun a w4 hS hw => ?_)))
  · repeat first|refine zP rfl ?_|refine zK rfl ?_
    refine zC rfl (decide_eq_false (fun h => h rfl)) ?_
    repeat first|refine zP rfl ?_|refine zK rfl ?_
    refine zC rfl (decide_eq_false (fun h => h rfl)) ?_
    repeat first|refine zP rfl ?_|refine zK rfl ?_
    exact o_nil ⟨⟨rfl, rfl, rfl, rfl, rfl, rfl, rfl, trivial⟩, rfl⟩
  subst hw
  refine cond hS rfl (fun hT => by cases hT) (fun _ => wp_skip ?_)
  refine wp_seq (seq_cut [(2, Vi len), (3, vw), (4, Vp M), (5, Vp N), (11, .int .u64 (countM L1 s1 n1 f1 len).1), (12, Vi (countM L1 s1 n1 f1 len).2), (13, .int .u64 (countM L2 s2 n2 f2 len).1), (14, Vi (countM L2 s2 n2 f2 len).2)] (fun w' => RowKit.Below w4.heap.size w4 w') tab_ok hS ?_ (fun a w5 hS hw => ?_))
  · refine zA ([Vi L2, Vi s2, vn2, ve2]) rfl rfl (hy.cells) ?_
    repeat first|refine zP rfl ?_|refine zK rfl ?_
    refine zF rfl (en_aCount) (C.count L2 s2 len vn2 ve2 n2 f2 _ hy.m hlen (by omega)) ?_
    rintro e w5 ⟨rfl, h5⟩
    refine ⟨_, rfl, ?_⟩
    repeat first|refine zP rfl ?_|refine zK rfl ?_
    exact o_nil ⟨⟨rfl, rfl, rfl, rfl, rfl, rfl, rfl, rfl, trivial⟩, h5⟩
  replace hB := below_trans hB hw
  replace hx := hx.keep hw
  replace hy := hy.keep hw
  replace hw0 := hw0.keep hw (fun _ _ h => PRow.keep hw h)
  clear hw
  refine wp_seq (seq_cutx (α := Nat × (Int × Int × Int) × (Value × Value) × List (List Int) × List Bool) (fun x => [(2, Vi len), (3, vw), (4, Vp M), (5, Vp N), (11, .int .u64 (countM L1 s1 n1 f1 len).1), (12, Vi (countM L1 s1 n1 f1 len).2), (13, .int .u64 (countM L2 s2 n2 f2 len).1), (14, Vi (countM L2 s2 n2 f2 len).2), (15, Vp x.1), (16, Vi x.2.1.2.2)]) (fun x w' => RowKit.Below w5.heap.size w5 w' ∧ MBx w' x.1 x.2.1.1 x.2.1.2.1 x.2.2.2.1 x.2.2.2.2 x.2.2.1.1 x.2.2.1.2 ∧ x.2.2.2.1.length ≤ 3000 ∧ JoinE true L1 s1 n1 f1 L2 s2 n2 f2 x.2.1.1 x.2.1.2.1 x.2.2.2.1 x.2.2.2.2 x.2.1.2.2) tab_ok hS ?_ (fun x a w6 hS h6 => ?_))
  · refine zA ([Vi L1, Vi s1, vn1, ve1]) rfl rfl (hx.cells) ?_
    refine zA ([Vi L2, Vi s2, vn2, ve2]) rfl rfl (hy.cells) ?_
    refine zF rfl (Jn.en_aBoth) (JB L1 s1 L2 s2 vn1 ve1 vn2 ve2 n1 n2 f1 f2 _ hx.m hy.m (by omega) (by omega)) ?_
    rintro e w6 ⟨L', s', r, vn', ve', vs, n', f', rfl, hL', hs', hvs, hfew, hI64, hH, hJ⟩
    refine ⟨_, rfl, ?_⟩
    have hMa := own_ma hH hvs hI64 hL' hs'
    obtain ⟨an, cn, hvn⟩ := hMa.n.len
    obtain ⟨ae, ce, hve⟩ := hMa.e.len
    have hp := mb_put hMa
    subst hvn hve
    repeat first|refine zP rfl ?_|refine zK rfl ?_
    refine zB rfl ?_
    refine o_step0 rfl rfl (And.intro rfl (And.intro rfl (And.intro (own_cells4 (OwnB.new w6 [Vi 0, Vi 0, .slice none 0 0, .slice none 0 0] 25)) ?_)))
    repeat first|refine zP rfl ?_|refine zK rfl ?_
    exact o_nil ⟨(w6.heap.size, (L', s', r), (.slice an n'.length cn, .slice ae f'.length ce), n', f'), ⟨rfl, rfl, rfl, rfl, rfl, rfl, rfl, rfl, rfl, rfl, trivial⟩, below_trans hH.b hp.1, hp.2, hfew, hJ⟩
  obtain ⟨b15, ⟨L5, s5, r5⟩, ⟨vn5, ve5⟩, n5, f5⟩ := x
  obtain ⟨hw, h5, hf5, hj5⟩ := h6
  dsimp only at hS h5 hf5 hj5
  replace hB := below_trans hB hw
  replace hx := hx.keep hw
  replace hy := hy.keep hw
  replace hw0 := hw0.keep hw (fun _ _ h => PRow.keep hw h)
  clear hw
  refine wp_seq (seq_cutx (α := Nat × (Int × Int × Int) × (Value × Value) × List (List Int) × List Bool) (fun x => [(2, Vi len), (3, vw), (4, Vp M), (5, Vp N), (11, .int .u64 (countM L1 s1 n1 f1 len).1), (12, Vi (countM L1 s1 n1 f1 len).2), (13, .int .u64 (countM L2 s2 n2 f2 len).1), (14, Vi (countM L2 s2 n2 f2 len).2), (15, Vp b15), (16, Vi r5), (17, Vp x.1), (18, Vi x.2.1.2.2)]) (fun x w' => RowKit.Below w6.heap.size w6 w' ∧ MBx w' x.1 x.2.1.1 x.2.1.2.1 x.2.2.2.1 x.2.2.2.2 x.2.2.1.1 x.2.2.1.2 ∧ x.2.2.2.1.length ≤ 3000 ∧ JoinE false L1 s1 n1 f1 L2 s2 n2 f2 x.2.1.1 x.2.1.2.1 x.2.2.2.1 x.2.2.2.2 x.2.1.2.2) tab_ok hS ?_ (fun x a w7 hS h7 => ?_))
  · refine zA ([Vi L1, Vi s1, vn1, ve1]) rfl rfl (hx.cells) ?_
    refine zA ([Vi L2, Vi s2, vn2, ve2]) rfl rfl (hy.cells) ?_
    refine zF rfl (Jn.en_aEither) (JE L1 s1 L2 s2 vn1 ve1 vn2 ve2 n1 n2 f1 f2 _ hx.m hy.m (by omega) (by omega)) ?_
    rintro e w7 ⟨L', s', r, vn', ve', vs, n', f', rfl, hL', hs', hvs, hfew, hI64, hH, hJ⟩
    refine ⟨_, rfl, ?_⟩
    have hMa := own_ma hH hvs hI64 hL' hs'
    obtain ⟨an, cn, hvn⟩ := hMa.n.len
    obtain ⟨ae, ce, hve⟩ := hMa.e.len
    have hp := mb_put hMa
    subst hvn hve
    repeat first|refine zP rfl ?_|refine zK rfl ?_
    refine zB rfl ?_
    refine o_step0 rfl rfl (And.intro rfl (And.intro rfl (And.intro (own_cells4 (OwnB.new w7 [Vi 0, Vi 0, .slice none 0 0, .slice none 0 0] 25)) ?_)))
    repeat first|refine zP rfl ?_|refine zK rfl ?_
    exact o_nil ⟨(w7.heap.size, (L', s', r), (.slice an n'.length cn, .slice ae f'.length ce), n', f'), ⟨rfl, rfl, rfl, rfl, rfl, rfl, rfl, rfl, rfl, rfl, rfl, rfl, trivial⟩, below_trans hH.b hp.1, hp.2, hfew, hJ⟩
  obtain ⟨b17, ⟨L7, s7, r7⟩, ⟨vn7, ve7⟩, n7, f7⟩ := x
  obtain ⟨hw, h7, hf7, hj7⟩ := h7
  dsimp only at hS h7 hf7 hj7
  replace hB := below_trans hB hw
  replace hx := hx.keep hw
  replace hy := hy.keep hw
  replace hw0 := hw0.keep hw (fun _ _ h => PRow.keep hw h)
  replace h5 := h5.keep hw
  clear hw
  refine wp_seq (wp_seq (seq_cutx (α := Bool) (fun b => [(2, Vi len), (3, vw), (4, Vp M), (5, Vp N), (11, .int .u64 (countM L1 s1 n1 f1 len).1), (12, Vi (countM L1 s1 n1 f1 len).2), (13, .int .u64 (countM L2 s2 n2 f2 len).1), (14, Vi (countM L2 s2 n2 f2 len).2), (15, Vp b15), (17, Vp b17), (87, .bool b)]) (fun b w' => w' = w7 ∧ (b = false → (countM L1 s1 n1 f1 len).2 = 0 ∧ (countM L2 s2 n2 f2 len).2 = 0 ∧ r5 = 0 ∧ r7 = 0)) tab_ok hS ?_ (fun b a w8 hS hw => ?_)))
  · by_cases e1 : (countM L1 s1 n1 f1 len).2 = 0
    · by_cases e2 : (countM L2 s2 n2 f2 len).2 = 0
      · by_cases e3 : r5 = 0
        · by_cases e4 : r7 = 0
          · repeat first|refine zP rfl ?_|refine zK rfl ?_
            refine zC rfl (decide_eq_false (fun h => h e1)) ?_
            repeat first|refine zP rfl ?_|refine zK rfl ?_
            refine zC rfl (decide_eq_false (fun h => h e2)) ?_
            repeat first|refine zP rfl ?_|refine zK rfl ?_
            refine zC rfl (decide_eq_false (fun h => h e3)) ?_
            repeat first|refine zP rfl ?_|refine zK rfl ?_
            refine zC rfl (decide_eq_false (fun h => h e4)) ?_
            repeat first|refine zP rfl ?_|refine zK rfl ?_
            exact o_nil ⟨false, ⟨rfl, rfl, rfl, rfl, rfl, rfl, rfl, rfl, rfl, rfl, rfl, trivial⟩, rfl, fun _ => ⟨e1, e2, e3, e4⟩⟩
          · repeat first|refine zP rfl ?_|refine zK rfl ?_
            refine zC rfl (decide_eq_false (fun h => h e1)) ?_
            repeat first|refine zP rfl ?_|refine zK rfl ?_
            refine zC rfl (decide_eq_false (fun h => h e2)) ?_
            repeat first|refine zP rfl ?_|refine zK rfl ?_
            refine zC rfl (decide_eq_false (fun h => h e3)) ?_
            repeat first|refine zP rfl ?_|refine zK rfl ?_
            refine zC rfl (decide_eq_true e4) ?_
            repeat first|refine zP rfl ?_|refine zK rfl ?_
            exact o_nil ⟨true, ⟨rfl, rfl, rfl, rfl, rfl, rfl, rfl, rfl, rfl, rfl, rfl, trivial⟩, rfl, fun h => by cases h⟩
        · repeat first|refine zP rfl ?_|refine zK rfl ?_
          refine zC rfl (decide_eq_false (fun h => h e1)) ?_
          repeat first|refine zP rfl ?_|refine zK rfl ?_
          refine zC rfl (decide_eq_false (fun h => h e2)) ?_
          repeat first|refine zP rfl ?_|refine zK rfl ?_
          refine zC rfl (decide_eq_true e3) ?_
          repeat first|refine zP rfl ?_|refine zK rfl ?_
          exact o_nil ⟨true, ⟨rfl, rfl, rfl, rfl, rfl, rfl, rfl, rfl, rfl, rfl, rfl, trivial⟩, rfl, fun h => by cases h⟩
      · repeat first|refine zP rfl ?_|refine zK rfl ?_
        refine zC rfl (decide_eq_false (fun h => h e1)) ?_
        repeat first|refine zP rfl ?_|refine zK rfl ?_
        refine zC rfl (decide_eq_true e2) ?_
        repeat first|refine zP rfl ?_|refine zK rfl ?_
        exact o_nil ⟨true, ⟨rfl, rfl, rfl, rfl, rfl, rfl, rfl, rfl, rfl, rfl, rfl, trivial⟩, rfl, fun h => by cases h⟩
    · repeat first|refine zP rfl ?_|refine zK rfl ?_
      refine zC rfl (decide_eq_true e1) ?_
      repeat first|refine zP rfl ?_|refine zK rfl ?_
      exact o_nil ⟨true, ⟨rfl, rfl, rfl, rfl, rfl, rfl, rfl, rfl, rfl, rfl, rfl, trivial⟩, rfl, fun h => by cases h⟩
  obtain ⟨rfl, hb⟩ := hw
  refine cond hS rfl (fun hT => ?_) (fun hF => wp_skip ?_)
  · refine wp_seq (seq_cut [(8, .bool true)] (fun w' => RowKit.Below w8.heap.size w8 w') tab_ok hS ?_ (fun a w9 hS hw => ?_))
    · refine zF rfl (en_awake) (awake_any C _) ?_
      rintro e w9 ⟨rfl, h2⟩
      refine ⟨_, rfl, ?_⟩
      repeat first|refine zP rfl ?_|refine zK rfl ?_
      exact o_nil ⟨⟨rfl, trivial⟩, h2⟩
    refine wp_ret ?_
    repeat (first | refine then_ret ?_ | refine block_ret ?_)
    exact ret1 hS rfl rfl ⟨rfl, below_trans hB hw⟩
  obtain ⟨e1, e2, e3, e4⟩ := hb hF
  obtain ⟨v1, v2, hLL, hL5, v5, a5⟩ := hj5.sh e3 hf5
  obtain ⟨-, -, -, hL7, v7, a7⟩ := hj7.sh e4 hf7
  replace hL5 := hL5.symm
  replace hL7 := hL7.symm
  subst hL5 hL7
  subst hLL
  obtain ⟨c5, c7, ca, cb, cc, cd, k5, k7, k1, k2, ksum⟩ := count_join (len := len) v1 v2 v5 v7 e1 a5 a7
  clear hj5 hj7 hb
  refine wp_seq (seq_cut [(2, Vi len), (3, vw), (4, Vp M), (5, Vp N), (11, .int .u64 (countM L1 s1 n1 f1 len).1), (12, Vi (countM L1 s1 n1 f1 len).2), (13, .int .u64 (countM L1 s2 n2 f2 len).1), (14, Vi (countM L1 s2 n2 f2 len).2), (15, Vp b15), (17, Vp b17), (19, .int .u64 (ca : Int)), (20, Vi 0)] (fun w' => RowKit.Below w8.heap.size w8 w') tab_ok hS ?_ (fun a w9 hS hw => ?_))
  · refine zA ([Vi L1, Vi s5, vn5, ve5]) rfl rfl (h5.cells) ?_
    repeat first|refine zP rfl ?_|refine zK rfl ?_
    refine zF rfl (en_aCount) (C.count L1 s5 len vn5 ve5 n5 f5 _ h5.m hlen (by omega)) ?_
    rintro e w9 ⟨rfl, h9⟩
    refine ⟨_, rfl, ?_⟩
    rw [k5, c5]
    repeat first|refine zP rfl ?_|refine zK rfl ?_
    exact o_nil ⟨⟨rfl, rfl, rfl, rfl, rfl, rfl, rfl, rfl, rfl, rfl, rfl, rfl, trivial⟩, h9⟩
  replace hB := below_trans hB hw
  replace hx := hx.keep hw
  replace hy := hy.keep hw
  replace hw0 := hw0.keep hw (fun _ _ h => PRow.keep hw h)
  replace h5 := h5.keep hw
  replace h7 := h7.keep hw
  clear hw
  refine wp_seq (seq_cut [(2, Vi len), (3, vw), (4, Vp M), (5, Vp N), (11, .int .u64 (countM L1 s1 n1 f1 len).1), (12, Vi (countM L1 s1 n1 f1 len).2), (13, .int .u64 (countM L1 s2 n2 f2 len).1), (14, Vi (countM L1 s2 n2 f2 len).2), (15, Vp b15), (17, Vp b17), (19, .int .u64 (ca : Int)), (20, Vi 0), (21, .int .u64 (cb : Int)), (22, Vi 0)] (fun w' => RowKit.Below w9.heap.size w9 w') tab_ok hS ?_ (fun a w10 hS hw => ?_))
  · refine zA ([Vi L1, Vi s7, vn7, ve7]) rfl rfl (h7.cells) ?_
    repeat first|refine zP rfl ?_|refine zK rfl ?_
    refine zF rfl (en_aCount) (C.count L1 s7 len vn7 ve7 n7 f7 _ h7.m hlen (by omega)) ?_
    rintro e w10 ⟨rfl, h9⟩
    refine ⟨_, rfl, ?_⟩
    rw [k7, c7]
    repeat first|refine zP rfl ?_|refine zK rfl ?_
    exact o_nil ⟨⟨rfl, rfl, rfl, rfl, rfl, rfl, rfl, rfl, rfl, rfl, rfl, rfl, rfl, rfl, trivial⟩, h9⟩
  replace hB := below_trans hB hw
  replace hx := hx.keep hw
  replace hy := hy.keep hw
  replace hw0 := hw0.keep hw (fun _ _ h => PRow.keep hw h)
  replace h5 := h5.keep hw
  replace h7 := h7.keep hw
  clear hw
  rw [k1, k2] at hS
  refine wp_seq (wp_seq (seq_cut [(3, vw), (4, Vp M), (5, Vp N), (15, Vp b15), (17, Vp b17), (115, .bool false)] (· = w10) tab_ok hS ?_ (fun a w11 hS hw => ?_)))
  · repeat first|refine zP rfl ?_|refine zK rfl ?_
    refine zC rfl (decide_eq_false (by decide)) ?_
    repeat first|refine zP rfl ?_|refine zK rfl ?_
    refine zC rfl (decide_eq_false (by decide)) ?_
    repeat first|refine zP rfl ?_|refine zK rfl ?_
    refine zN rfl (u64_add _ _) ?_
    repeat first|refine zP rfl ?_|refine zK rfl ?_
    refine zN rfl (u64_add _ _) ?_
    refine zC rfl (decide_eq_false (fun h => h (by rw [ksum]))) ?_
    repeat first|refine zP rfl ?_|refine zK rfl ?_
    exact o_nil ⟨⟨rfl, rfl, rfl, rfl, rfl, rfl, trivial⟩, rfl⟩
  subst hw
  refine cond hS rfl (fun hT => by cases hT) (fun _ => wp_skip ?_)
  obtain ⟨gw, b, o, cw, rfl, aw, kw1, kw2, -⟩ := id hw0
  refine wp_seq (wp_seq (seq_cut [(3, .slice gw words.length cw), (4, Vp M), (5, Vp N), (15, Vp b15), (17, Vp b17), (23, Vi (0 : Nat))] (· = w11) tab_ok hS ?_ (fun a w12 hS hw => ?_)))
  · repeat first|refine zP rfl ?_|refine zK rfl ?_
    exact o_nil ⟨⟨rfl, rfl, rfl, rfl, rfl, rfl, trivial⟩, rfl⟩
  subst hw
  refine wp_block (loop0 hS (fun g E wr => ∃ i : Nat, i ≤ words.length ∧ g = words.length - i ∧ E = [(3, .slice gw words.length cw), (4, Vp M), (5, Vp N), (15, Vp b15), (17, Vp b17), (23, Vi i)] ∧ RowKit.Below w12.heap.size w12 wr) words.length ⟨0, Nat.zero_le _, rfl, rfl, RowKit.Below.refl _ _⟩ ?_)
  rintro g E wr aa ⟨i, hi, rfl, rfl, hK⟩ hS
  refine wp_seq (wp_seq (seq_cut [(3, .slice gw words.length cw), (4, Vp M), (5, Vp N), (15, Vp b15), (17, Vp b17), (23, Vi i), (119, .bool (decide (i < words.length)))] (· = wr) tab_ok hS ?_ (fun a w13 hS hw => ?_)))
  · repeat first|refine zP rfl ?_|refine zK rfl ?_
    refine zC rfl (lt_nat _ _) ?_
    exact o_nil ⟨⟨rfl, rfl, rfl, rfl, rfl, rfl, rfl, trivial⟩, rfl⟩
  subst hw
  refine cond hS rfl (fun hT => wp_skip ?_) (fun hF => ?_)
  case refine_2 =>
    refine wp_exit ?_
    repeat (first | refine then_exit ?_ | refine block_exit ?_ | refine block_other rfl ?_)
    refine wp_seq (seq_cut [(8, .bool true)] (fun w' => RowKit.Below w13.heap.size w13 w') tab_ok hS ?_ (fun a w14 hS hw => ?_))
    · refine zF rfl (en_awake) (awake_any C _) ?_
      rintro e w14 ⟨rfl, h2⟩
      refine ⟨_, rfl, ?_⟩
      repeat first|refine zP rfl ?_|refine zK rfl ?_
      exact o_nil ⟨⟨rfl, trivial⟩, h2⟩
    refine wp_ret ?_
    repeat (first | refine then_ret ?_ | refine block_ret ?_)
    exact ret1 hS rfl rfl ⟨rfl, below_trans hB (below_trans hK hw)⟩
  have hlt : i < words.length := of_decide_eq_true hT
  obtain rfl := aw (by omega)
  have hx' := hx.keep hK
  have hy' := hy.keep hK
  have h5' := h5.keep hK
  have h7' := h7.keep hK
  obtain ⟨u, hu, hpu⟩ : ∃ u, w13.cell? ⟨b, o + i, none⟩ = some u ∧ PRow w13 u words[i] := by
    obtain ⟨a2, b2, o2, c2, e2', m2, -, -, hel2⟩ := hw0.keep hK (fun _ _ h => PRow.keep hK h)
    have h3 := m2 (by omega)
    subst h3
    simp only [Value.slice.injEq, Option.some.injEq, Addr.mk.injEq, and_true, true_and] at e2'
    obtain ⟨⟨rfl, rfl⟩, -⟩ := e2'
    exact hel2 i hlt
  obtain ⟨p1, hp1⟩ : ∃ x, x = acceptsM L1 s1 n1 f1 words[i] := ⟨_, rfl⟩
  obtain ⟨p2, hp2⟩ : ∃ x, x = acceptsM L1 s2 n2 f2 words[i] := ⟨_, rfl⟩
  have hq5 := accepts_join v1 v2 v5 a5 words[i]
  have hq7 := accepts_join v1 v2 v7 a7 words[i]
  rw [← hp1, ← hp2] at hq5 hq7
  refine wp_seq (wp_block ?_)
  refine wp_seq (quiet_cut [(3, .slice (some ⟨b, o, none⟩) words.length cw), (4, Vp M), (5, Vp N), (15, Vp b15), (17, Vp b17), (23, Vi i), (24, .bool p1), (25, .bool p2)] tab_ok mixed (by kernel_rfl) hS ?_ (fun a w14 hS hw => ?_))
  · refine qA ([Vi L1, Vi s1, vn1, ve1]) rfl rfl (hx'.cells) ?_
    repeat first|refine qP rfl ?_|refine qK rfl ?_
    refine qI rfl (rfl) (hlt) ?_
    refine qL rfl (hu) ?_
    refine qF (.bool p1) rfl (en_aAccepts) (fun w1 h1 => (by rw [hp1]; exact C.accepts L1 s1 vn1 ve1 u n1 f1 words[i] w1 (hx'.m.keep h1) (hpu.keep h1).1)) ?_
    refine qA ([Vi L1, Vi s2, vn2, ve2]) rfl rfl (hy'.cells) ?_
    repeat first|refine qP rfl ?_|refine qK rfl ?_
    refine qI rfl (rfl) (hlt) ?_
    refine qL rfl (hu) ?_
    refine qF (.bool p2) rfl (en_aAccepts) (fun w1 h1 => (by rw [hp2]; exact C.accepts L1 s2 vn2 ve2 u n2 f2 words[i] w1 (hy'.m.keep h1) (hpu.keep h1).1)) ?_
    repeat first|refine qP rfl ?_|refine qK rfl ?_
    exact q_nil ⟨rfl, rfl, rfl, rfl, rfl, rfl, rfl, rfl, trivial⟩
  replace hu := keep hw hu
  replace hpu := hpu.keep hw
  have h5'' := h5'.keep hw
  have h7'' := h7'.keep hw
  refine wp_seq (quiet_cut [(3, .slice (some ⟨b, o, none⟩) words.length cw), (4, Vp M), (5, Vp N), (15, Vp b15), (17, Vp b17), (23, Vi i), (157, .bool false)] tab_ok mixed (by kernel_rfl) hS ?_ (fun a w15 hS hw2 => ?_))
  · refine qA ([Vi L1, Vi s5, vn5, ve5]) rfl rfl (h5''.cells) ?_
    repeat first|refine qP rfl ?_|refine qK rfl ?_
    refine qI rfl (rfl) (hlt) ?_
    refine qL rfl (hu) ?_
    refine qF (.bool (joinB true p1 p2)) rfl (en_aAccepts) (fun w1 h1 => (by rw [← hq5]; exact C.accepts L1 s5 vn5 ve5 u n5 f5 words[i] w1 (h5''.m.keep h1) (hpu.keep h1).1)) ?_
    cases p1 <;> cases p2
    all_goals
      repeat first|refine qP rfl ?_|refine qK rfl ?_
      refine qC rfl (bne_self_eq_false _) ?_
      repeat first|refine qP rfl ?_|refine qK rfl ?_
      refine qA ([Vi L1, Vi s7, vn7, ve7]) rfl rfl (h7''.cells) ?_
      repeat first|refine qP rfl ?_|refine qK rfl ?_
      refine qI rfl (rfl) (hlt) ?_
      refine qL rfl (hu) ?_
      refine qF (.bool (joinB false _ _)) rfl (en_aAccepts) (fun w1 h1 => (by rw [← hq7]; exact C.accepts L1 s7 vn7 ve7 u n7 f7 words[i] w1 (h7''.m.keep h1) (hpu.keep h1).1)) ?_
      repeat first|refine qP rfl ?_|refine qK rfl ?_
      refine qC rfl (bne_self_eq_false _) ?_
      repeat first|refine qP rfl ?_|refine qK rfl ?_
      exact q_nil ⟨rfl, rfl, rfl, rfl, rfl, rfl, rfl, trivial⟩
  refine cond hS rfl (fun hT => by cases hT) (fun _ => wp_skip ?_)
  refine block_normal ?_
  refine then_normal ?_
  refine seq_cut [(3, .slice (some ⟨b, o, none⟩) words.length cw), (4, Vp M), (5, Vp N), (15, Vp b15), (17, Vp b17), (23, Vi (i + 1 : Nat))] (· = w15) tab_ok hS ?_ (fun a w16 hS hw3 => ?_)
  · repeat first|refine zP rfl ?_|refine zK rfl ?_
    refine zN rfl (wrap_succ (by omega)) ?_
    repeat first|refine zP rfl ?_|refine zK rfl ?_
    exact o_nil ⟨⟨rfl, rfl, rfl, rfl, rfl, rfl, trivial⟩, rfl⟩
  subst hw3
  exact ⟨words.length - (i + 1), _, by omega, ⟨i + 1, hlt, rfl, rfl, below_trans hK (below_trans hw hw2)⟩, hS⟩
end Go.Proofs.Ythcoppfiahnpoaa
