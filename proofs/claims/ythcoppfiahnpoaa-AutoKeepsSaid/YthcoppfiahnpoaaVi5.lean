/- AutoKeeps holds of the program as it landed: arguments stay as they are, and what is returned shares no memory with them, so that a machine that is written over behind a call does not change the result, nor the result the machine; for any valid machine of at most 30 states and 8 letters. -/
import Derived.Test.YthcoppfiahnpoaaVi4
set_option maxRecDepth 100000
namespace Go.Proofs.Ythcoppfiahnpoaa
namespace Jn
open Go Sym
section
variable {base : Nat} {w0 w w' : World} {l rest : List Ow}
theorem x4 (h : Rows base w l) {i T b : Nat} {v0 v1 v2 v3 : Value} (hi : l[i]? = some (oX T b 4 [v0, v1, v2, v3])) : cellsAt w.cell? b 0 [v0, v1, v2, v3] := ⟨h.xcell hi (j := 0) rfl, h.xcell hi (j := 1) rfl, h.xcell hi (j := 2) rfl, h.xcell hi (j := 3) rfl, trivial⟩
theorem xbox (h : Rows base w l) {i T b : Nat} {L s : Int} {v2 v3 : Value} (hi : l[i]? = some (oX T b 4 [Vi L, Vi s, v2, v3])) : Box w b L s v2 v3 := ⟨h.xcell hi (j := 0) rfl, h.xcell hi (j := 1) rfl, h.xcell hi (j := 2) rfl, h.xcell hi (j := 3) rfl⟩
theorem two_ma {A : List Ow} {L s1 s2 : Int} {n1 n2 : List (List Int)} {f1 f2 : List Bool} {vn1 ve1 vn2 ve2 : Value} {vs1 vs2 : List Value} (h : Hold base w0 w (A ++ ((oB ve1 f1 :: nextR vn1 vs1 n1) ++ (oB ve2 f2 :: nextR vn2 vs2 n2))))
    (l1 : vs1.length = n1.length) (l2 : vs2.length = n2.length) (i1 : ∀ l ∈ n1, ∀ x ∈ l, I64 x) (i2 : ∀ l ∈ n2, ∀ x ∈ l, I64 x) (hL : I64 L) (h1 : I64 s1) (h2 : I64 s2) : Ma w L s1 n1 f1 vn1 ve1 ∧ Ma w L s2 n2 f2 vn2 ve2 := by
  have e1 := h.perm (l' := oB ve1 f1 :: (nextR vn1 vs1 n1 ++ ((oB ve2 f2 :: nextR vn2 vs2 n2) ++ A))) (by
    refine List.perm_append_comm.trans ?_
    rw [List.append_assoc]; exact .refl _)
  have e2 := h.perm (l' := oB ve2 f2 :: (nextR vn2 vs2 n2 ++ (A ++ (oB ve1 f1 :: nextR vn1 vs1 n1)))) (by
    rw [← List.append_assoc]; exact List.perm_append_comm)
  exact ⟨ma_rows e1 l1 i1 hL h1, ma_rows e2 l2 i2 hL h2⟩
theorem comb_end1 {x a : Ow} {A : List Ow} (h : Hold base w0 w (x :: a :: (A ++ []))) : Hold base w0 w (x :: a :: A) := by rwa [List.append_nil] at h
end
section
variable {base : Nat} {w0 w w' : World} {both : Bool} {fk fd b0 b1 bk bd R Ln W n : Nat} {s1 s2 : Int} {vn1 ve1 vn2 ve2 : Value} {vs1 vs2 : List Value} {n1 n2 : List (List Int)} {f1 f2 : List Bool} {F : FS}
theorem comb_end2 {x a : Ow} {A : List Ow} (h : Hold base w0 w (a :: (A ++ [x]))) : Hold base w0 w (x :: a :: A) := h.perm (List.perm_append_comm (l₁ := a :: A) (l₂ := [x]))
set_option maxHeartbeats 4000000 in
theorem comb_r8 (hK : KeepC both fk) (hDc : DecC both fd) (h : Hold base w0 w ([oX 25 R 4 [Vi 0, Vi 0, .slice none 0 0, .slice none 0 0], oX 93 bd 1 [.func (.func fd) #[] #[]], oX 91 bk 1 [.func (.func fk) #[] #[]], oX 25 b1 4 [Vi Ln, Vi s2, vn2, ve2], oX 25 b0 4 [Vi Ln, Vi s1, vn1, ve1]] ++ ((oB ve1 f1 :: nextR vn1 vs1 n1) ++ (oB ve2 f2 :: nextR vn2 vs2 n2)))) (l1 : vs1.length = n1.length) (l2 : vs2.length = n2.length) (i1 : ∀ l ∈ n1, ∀ x ∈ l, I64 x) (i2 : ∀ l ∈ n2, ∀ x ∈ l, I64 x) (h1 : I64 s1) (h2 : I64 s2)
    (hPI : PairsI Ln W n s1 n1 f1 s2 n2 f2) (hL : Ln ≤ 100000) (hn : n ≤ 20000) (hF : foundM (cdP W (keepB both (s1, s2))) (joinN Ln W n n1 n2 both) Ln = F)
    {Q : Exit → Act → World → Prop} {a : Act} {ops : Array Oper} {id : Nat} (hops : Sym.regionOf Try.f65.body 8 = some (id, ops)) (hS : St Try.f65.ntmps a [(4, Vp b0), (5, Vp b1), (6, Vp bk), (7, Vp bd), (8, Vp R), (11, .func (.func 93) #[] #[Vp bk, Vp b0, Vp b1]), (12, .func (.func 94) #[] #[Vp bd, Vp b0, Vp b1])])
    (hq : ∀ (x : Nat × Value × Value × List Value) a' w', St Try.f65.ntmps a' [(4, Vp b0), (5, Vp b1), (6, Vp bk), (7, Vp bd), (8, Vp R), (13, Vp x.1), (14, Vi 0)] → x.2.2.2.length = F.rows.length ∧ (∀ l ∈ F.rows.map (renumM F.place (joinN Ln W n n1 n2 both) Ln), ∀ x ∈ l, I64 x) ∧ Hold base w0 w' ((oX 25 x.1 4 [Vi Ln, Vi (if F.rows.length = 0 then -1 else 0 : Int), x.2.1, x.2.2.1] :: (oB x.2.2.1 (foundFin F (joinF W n f1 f2 both)) :: nextR x.2.1 x.2.2.2 (F.rows.map (renumM F.place (joinN Ln W n n1 n2 both) Ln)))) ++ ([oX 25 R 4 [Vi 0, Vi 0, .slice none 0 0, .slice none 0 0], oX 93 bd 1 [.func (.func fd) #[] #[]], oX 91 bk 1 [.func (.func fk) #[] #[]], oX 25 b1 4 [Vi Ln, Vi s2, vn2, ve2], oX 25 b0 4 [Vi Ln, Vi s1, vn1, ve1]] ++ ((oB ve1 f1 :: nextR vn1 vs1 n1) ++ (oB ve2 f2 :: nextR vn2 vs2 n2)))) → Q .normal a' w') : (Code.region id ops true).wp Try.prog Q a w := by
  cases hops
  refine any_cutx (α := Nat × Value × Value × List Value) 15 (fun x => [(4, Vp b0), (5, Vp b1), (6, Vp bk), (7, Vp bd), (8, Vp R), (13, Vp x.1), (14, Vi 0)]) (fun x w' => x.2.2.2.length = F.rows.length ∧ (∀ l ∈ F.rows.map (renumM F.place (joinN Ln W n n1 n2 both) Ln), ∀ x ∈ l, I64 x) ∧ Hold base w0 w' ((oX 25 x.1 4 [Vi Ln, Vi (if F.rows.length = 0 then -1 else 0 : Int), x.2.1, x.2.2.1] :: (oB x.2.2.1 (foundFin F (joinF W n f1 f2 both)) :: nextR x.2.1 x.2.2.2 (F.rows.map (renumM F.place (joinN Ln W n n1 n2 both) Ln)))) ++ ([oX 25 R 4 [Vi 0, Vi 0, .slice none 0 0, .slice none 0 0], oX 93 bd 1 [.func (.func fd) #[] #[]], oX 91 bk 1 [.func (.func fk) #[] #[]], oX 25 b1 4 [Vi Ln, Vi s2, vn2, ve2], oX 25 b0 4 [Vi Ln, Vi s1, vn1, ve1]] ++ ((oB ve1 f1 :: nextR vn1 vs1 n1) ++ (oB ve2 f2 :: nextR vn2 vs2 n2))))) mixed hS ?_ hq
  have hy0 : RowKit.Below w.drew.heap.size w.drew w.drew := RowKit.Below.refl _ _
  have hD := h.drew
  have hs0 := Hold.start w.drew
  have hLI : I64 (Ln : Int) := by unfold I64; omega
  have hs1 := hPI.h1
  have hs2 := hPI.h2
  have facts : ∀ u, RowKit.Below w.drew.heap.size w.drew u → Box u b0 Ln s1 vn1 ve1 ∧ Box u b1 Ln s2 vn2 ve2 ∧ u.cell? ⟨bk, 0, none⟩ = some (.func (.func fk) #[] #[]) ∧ u.cell? ⟨bd, 0, none⟩ = some (.func (.func fd) #[] #[]) ∧ Ma u Ln s1 n1 f1 vn1 ve1 ∧ Ma u Ln s2 n2 f2 vn2 ve2 := fun u hu => by
    have hDu := hD.below hu
    obtain ⟨m1, m2⟩ := two_ma (L := (Ln : Int)) (s1 := s1) (s2 := s2) hDu l1 l2 i1 i2 hLI h1 h2
    exact ⟨xbox hDu.r (i := 4) rfl, xbox hDu.r (i := 3) rfl, hDu.r.xcell (i := 2) rfl (j := 0) rfl, hDu.r.xcell (i := 1) rfl (j := 0) rfl, m1, m2⟩
  have hst : ∀ {rs : List Ow} (y : Int × Int) (c : Nat) (u : World), inR W n y → c < Ln → Hold w.drew.heap.size w.drew u rs → Calls Try.prog 93 ([pairV y, Vi c] ++ (#[Vp bk, Vp b0, Vp b1] : Array Value).toList).toArray u fun e u' => ∃ z : Int × Int, inR W n z ∧ e = .returned (pairV z) ∧ tgtM (joinN Ln W n n1 n2 both) (plc W y.1 y.2 : Int) c = cdP W z ∧ RowKit.Below u.heap.size u u' := fun y c u hyr hc hu => by
    obtain ⟨x1, x2, x3, x4, m1, m2⟩ := facts u hu.b
    obtain ⟨r1, r2⟩ := hPI.rng hyr
    exact (combine1_any hK Ln s1 Ln s2 c y vn1 ve1 vn2 ve2 n1 n2 u x3 x1 x2 m1.n m2.n r1 r2 (shape_row hs1 r1 (by omega)) (shape_row hs2 r2 (by omega))).mono (fun e u' h9 => ⟨keepB both (step2 n1 n2 y c), hPI.keepR (hPI.stepR hyr hc), h9.1, hPI.jtgt hyr hc, h9.2⟩)
  have hnd : ∀ {rs : List Ow} (y : Int × Int) (u : World), inR W n y → Hold w.drew.heap.size w.drew u rs → Calls Try.prog 94 ([pairV y] ++ (#[Vp bd, Vp b0, Vp b1] : Array Value).toList).toArray u fun e u' => e = .returned (.bool ((joinF W n f1 f2 both).getD (plc W y.1 y.2) false)) ∧ RowKit.Below u.heap.size u u' := fun y u hyr hu => by
    obtain ⟨x1, x2, x3, x4, m1, m2⟩ := facts u hu.b
    obtain ⟨r1, r2⟩ := hPI.rng hyr
    rw [hPI.jfin hyr]
    exact combine2_any hDc Ln s1 Ln s2 y vn1 ve1 vn2 ve2 f1 f2 u x4 x1 x2 m1.e m2.e (by rw [hs1.fin]; exact r1) (by rw [hs2.fin]; exact r2)
  have hx0 : inR W n (keepB both (s1, s2)) := hPI.keepR (hPI.mk' hs1.s1 hs1.s2 hs2.s1 hs2.s2)
  have bld : ∀ {u : World} {rs : List Ow}, Hold w.drew.heap.size w.drew u rs → _ := fun {u} {rs} hu => buildP_any (W := W) (n := n) (x0 := keepB both (s1, s2)) (L := Ln) (lim := 20000) (S := 93) (S2 := 94) (caps := #[Vp bk, Vp b0, Vp b1]) (caps2 := #[Vp bd, Vp b0, Vp b1]) (next := (joinN Ln W n n1 n2 both)) (fin := (joinF W n f1 f2 both)) (F := F) (rest := rs) (w := u) hu (by omega) joinN_len hx0 hL hn (by omega) (hPI.jshape (both := both)) en_c1 en_c2 (fun y c u' => hst (rs := rs) y c u') (fun y u' => hnd (rs := rs) y u') hF
  refine yL 0 tab_ok rfl (by kernel_rfl) hy0 rfl rfl (hD.r.xcell (i := 2) rfl (j := 0) rfl) ?_
  refine yT 1 tab_ok rfl (by kernel_rfl) hy0 rfl (Exists.intro ([Vi Ln, Vi s1, vn1, ve1]) (And.intro rfl (And.intro (x4 hD.r (i := 4) rfl) rfl))) ?_
  refine yT 2 tab_ok rfl (by kernel_rfl) hy0 rfl (Exists.intro ([Vi Ln, Vi s2, vn2, ve2]) (And.intro rfl (And.intro (x4 hD.r (i := 3) rfl) rfl))) ?_
  refine yT 6 tab_ok rfl (by kernel_rfl) hy0 rfl (rfl) ?_
  refine yL 7 tab_ok rfl (by kernel_rfl) hy0 rfl rfl (hD.r.xcell (i := 4) rfl (j := 0) rfl) ?_
  refine yT 8 tab_ok rfl (by kernel_rfl) hy0 rfl (rfl) ?_
  refine yT 9 tab_ok rfl (by kernel_rfl) hy0 rfl (rfl) ?_
  refine y_two 3 14 (by kernel_rfl) (y_op 3 tab_ok rfl rfl rfl rfl ?_) (y_op 14 tab_ok rfl rfl rfl rfl ?_)
  · refine And.intro en_astarts ((astarts_any (Ln : Int) s1 (Ln : Int) s2 vn1 ve1 vn2 ve2 _).mono ?_)
    rintro e u1 ⟨rfl, k1⟩
    refine ⟨_, rfl, ?_⟩
    have hy1 := below_trans hy0 k1
    refine And.intro (.inr hy1) ?_
    have hs1 := hs0.below k1
    refine y_two 4 14 (by kernel_rfl) (y_op 4 tab_ok rfl rfl rfl rfl ?_) (y_op 14 tab_ok rfl rfl rfl rfl ?_)
    · refine And.intro hK.en ((hK.c (s1, s2) _).mono ?_)
      rintro e u2 ⟨rfl, k2⟩
      refine ⟨_, rfl, ?_⟩
      have hy2 := below_trans hy1 k2
      refine And.intro (.inr hy2) ?_
      have hs2 := hs1.below k2
      refine y_two 5 14 (by kernel_rfl) (y_op 5 tab_ok rfl rfl rfl rfl ?_) (y_op 14 tab_ok rfl rfl rfl rfl ?_)
      · refine And.intro en_anowhere ((anowhere_any _).mono ?_)
        rintro e u3 ⟨rfl, k3⟩
        refine ⟨_, rfl, ?_⟩
        have hy3 := below_trans hy2 k3
        refine And.intro (.inr hy3) ?_
        have hs3 := hs2.below k3
        refine y_two 10 14 (by kernel_rfl) (y_op 10 tab_ok rfl rfl rfl rfl ?_) (y_op 14 tab_ok rfl rfl rfl rfl ?_)
        · refine And.intro en_buildP ((bld hs3).mono ?_)
          rintro e u4 ⟨vn, ve, vs, rfl, -, hvs, hI, hs4⟩
          refine ⟨_, rfl, ?_⟩
          have hy4 := hs4.b
          refine And.intro (.inr hy4) ?_
          refine yT 11 tab_ok rfl (by kernel_rfl) hy4 rfl (rfl) ?_
          refine yT 12 tab_ok rfl (by kernel_rfl) hy4 rfl (rfl) ?_
          refine yG 13 tab_ok rfl (by kernel_rfl) (.inr hy4) rfl rfl ?_
          refine y_one 14 (by kernel_rfl) (y_op 14 tab_ok rfl rfl rfl rfl ?_)
          have hy5 := hy4.alloc (hy4.size) (.cells #[Vi 0, Vi 0, .slice none 0 0, .slice none 0 0] 25)
          refine And.intro (.inr hy5) ?_
          have hs5 := hs4.box (T := 25) (k := 4) #[Vi 0, Vi 0, .slice none 0 0, .slice none 0 0] rfl
          have hz := comb_end1 hs5
          obtain ⟨ge, ce, hve, -⟩ := hz.r.any (i := 1) (v := ve) (e := 4) (s := 1) (n := (foundFin F (joinF W n f1 f2 both)).length) (xs := bools (foundFin F (joinF W n f1 f2 both))) rfl
          obtain ⟨gn, cn, hvn, -⟩ := hz.r.any (i := 2) (v := vn) (e := 26) (s := 1) (n := vs.length) (xs := vs) rfl
          subst hve hvn
          refine y_one 15 (by kernel_rfl) (y_op0 15 tab_ok rfl rfl rfl ?_)
          refine And.intro rfl (And.intro rfl (And.intro (x_cells4 hz.r (i := 0) rfl) (And.intro (.inl (by kernel_rfl)) ?_)))
          refine yG 16 tab_ok rfl (by kernel_rfl) (.inl (by kernel_rfl)) rfl rfl ?_
          exact y_endx (_, .slice gn vs.length cn, .slice ge (foundFin F (joinF W n f1 f2 both)).length ce, vs) (by kernel_rfl) ⟨rfl, rfl, rfl, rfl, rfl, rfl, rfl, trivial⟩ ⟨hvs, hI, hD.join (hz.xput4 (i := 0) rfl _ _ _ _)⟩
        · have hy4 := hy3.alloc (hy3.size) (.cells #[Vi 0, Vi 0, .slice none 0 0, .slice none 0 0] 25)
          refine And.intro (.inr hy4) ?_
          have hs4 := hs3.box (T := 25) (k := 4) #[Vi 0, Vi 0, .slice none 0 0, .slice none 0 0] rfl
          refine y_one 10 (by kernel_rfl) (y_op 10 tab_ok rfl rfl rfl rfl ?_)
          refine And.intro en_buildP ((bld hs4).mono ?_)
          rintro e u5 ⟨vn, ve, vs, rfl, -, hvs, hI, hs5⟩
          refine ⟨_, rfl, ?_⟩
          have hy5 := hs5.b
          refine And.intro (.inr hy5) ?_
          have hz := comb_end2 hs5
          obtain ⟨ge, ce, hve, -⟩ := hz.r.any (i := 1) (v := ve) (e := 4) (s := 1) (n := (foundFin F (joinF W n f1 f2 both)).length) (xs := bools (foundFin F (joinF W n f1 f2 both))) rfl
          obtain ⟨gn, cn, hvn, -⟩ := hz.r.any (i := 2) (v := vn) (e := 26) (s := 1) (n := vs.length) (xs := vs) rfl
          subst hve hvn
          refine yT 11 tab_ok rfl (by kernel_rfl) hy5 rfl (rfl) ?_
          refine yT 12 tab_ok rfl (by kernel_rfl) hy5 rfl (rfl) ?_
          refine yG 13 tab_ok rfl (by kernel_rfl) (.inr hy5) rfl rfl ?_
          refine y_one 15 (by kernel_rfl) (y_op0 15 tab_ok rfl rfl rfl ?_)
          refine And.intro rfl (And.intro rfl (And.intro (x_cells4 hz.r (i := 0) rfl) (And.intro (.inl (by kernel_rfl)) ?_)))
          refine yG 16 tab_ok rfl (by kernel_rfl) (.inl (by kernel_rfl)) rfl rfl ?_
          exact y_endx (_, .slice gn vs.length cn, .slice ge (foundFin F (joinF W n f1 f2 both)).length ce, vs) (by kernel_rfl) ⟨rfl, rfl, rfl, rfl, rfl, rfl, rfl, trivial⟩ ⟨hvs, hI, hD.join (hz.xput4 (i := 0) rfl _ _ _ _)⟩
      · have hy3 := hy2.alloc (hy2.size) (.cells #[Vi 0, Vi 0, .slice none 0 0, .slice none 0 0] 25)
        refine And.intro (.inr hy3) ?_
        have hs3 := hs2.box (T := 25) (k := 4) #[Vi 0, Vi 0, .slice none 0 0, .slice none 0 0] rfl
        refine y_one 5 (by kernel_rfl) (y_op 5 tab_ok rfl rfl rfl rfl ?_)
        refine And.intro en_anowhere ((anowhere_any _).mono ?_)
        rintro e u4 ⟨rfl, k4⟩
        refine ⟨_, rfl, ?_⟩
        have hy4 := below_trans hy3 k4
        refine And.intro (.inr hy4) ?_
        have hs4 := hs3.below k4
        refine y_one 10 (by kernel_rfl) (y_op 10 tab_ok rfl rfl rfl rfl ?_)
        refine And.intro en_buildP ((bld hs4).mono ?_)
        rintro e u5 ⟨vn, ve, vs, rfl, -, hvs, hI, hs5⟩
        refine ⟨_, rfl, ?_⟩
        have hy5 := hs5.b
        refine And.intro (.inr hy5) ?_
        have hz := comb_end2 hs5
        obtain ⟨ge, ce, hve, -⟩ := hz.r.any (i := 1) (v := ve) (e := 4) (s := 1) (n := (foundFin F (joinF W n f1 f2 both)).length) (xs := bools (foundFin F (joinF W n f1 f2 both))) rfl
        obtain ⟨gn, cn, hvn, -⟩ := hz.r.any (i := 2) (v := vn) (e := 26) (s := 1) (n := vs.length) (xs := vs) rfl
        subst hve hvn
        refine yT 11 tab_ok rfl (by kernel_rfl) hy5 rfl (rfl) ?_
        refine yT 12 tab_ok rfl (by kernel_rfl) hy5 rfl (rfl) ?_
        refine yG 13 tab_ok rfl (by kernel_rfl) (.inr hy5) rfl rfl ?_
        refine y_one 15 (by kernel_rfl) (y_op0 15 tab_ok rfl rfl rfl ?_)
        refine And.intro rfl (And.intro rfl (And.intro (x_cells4 hz.r (i := 0) rfl) (And.intro (.inl (by kernel_rfl)) ?_)))
        refine yG 16 tab_ok rfl (by kernel_rfl) (.inl (by kernel_rfl)) rfl rfl ?_
        exact y_endx (_, .slice gn vs.length cn, .slice ge (foundFin F (joinF W n f1 f2 both)).length ce, vs) (by kernel_rfl) ⟨rfl, rfl, rfl, rfl, rfl, rfl, rfl, trivial⟩ ⟨hvs, hI, hD.join (hz.xput4 (i := 0) rfl _ _ _ _)⟩
    · have hy2 := hy1.alloc (hy1.size) (.cells #[Vi 0, Vi 0, .slice none 0 0, .slice none 0 0] 25)
      refine And.intro (.inr hy2) ?_
      have hs2 := hs1.box (T := 25) (k := 4) #[Vi 0, Vi 0, .slice none 0 0, .slice none 0 0] rfl
      refine y_one 4 (by kernel_rfl) (y_op 4 tab_ok rfl rfl rfl rfl ?_)
      refine And.intro hK.en ((hK.c (s1, s2) _).mono ?_)
      rintro e u3 ⟨rfl, k3⟩
      refine ⟨_, rfl, ?_⟩
      have hy3 := below_trans hy2 k3
      refine And.intro (.inr hy3) ?_
      have hs3 := hs2.below k3
      refine y_one 5 (by kernel_rfl) (y_op 5 tab_ok rfl rfl rfl rfl ?_)
      refine And.intro en_anowhere ((anowhere_any _).mono ?_)
      rintro e u4 ⟨rfl, k4⟩
      refine ⟨_, rfl, ?_⟩
      have hy4 := below_trans hy3 k4
      refine And.intro (.inr hy4) ?_
      have hs4 := hs3.below k4
      refine y_one 10 (by kernel_rfl) (y_op 10 tab_ok rfl rfl rfl rfl ?_)
      refine And.intro en_buildP ((bld hs4).mono ?_)
      rintro e u5 ⟨vn, ve, vs, rfl, -, hvs, hI, hs5⟩
      refine ⟨_, rfl, ?_⟩
      have hy5 := hs5.b
      refine And.intro (.inr hy5) ?_
      have hz := comb_end2 hs5
      obtain ⟨ge, ce, hve, -⟩ := hz.r.any (i := 1) (v := ve) (e := 4) (s := 1) (n := (foundFin F (joinF W n f1 f2 both)).length) (xs := bools (foundFin F (joinF W n f1 f2 both))) rfl
      obtain ⟨gn, cn, hvn, -⟩ := hz.r.any (i := 2) (v := vn) (e := 26) (s := 1) (n := vs.length) (xs := vs) rfl
      subst hve hvn
      refine yT 11 tab_ok rfl (by kernel_rfl) hy5 rfl (rfl) ?_
      refine yT 12 tab_ok rfl (by kernel_rfl) hy5 rfl (rfl) ?_
      refine yG 13 tab_ok rfl (by kernel_rfl) (.inr hy5) rfl rfl ?_
      refine y_one 15 (by kernel_rfl) (y_op0 15 tab_ok rfl rfl rfl ?_)
      refine And.intro rfl (And.intro rfl (And.intro (x_cells4 hz.r (i := 0) rfl) (And.intro (.inl (by kernel_rfl)) ?_)))
      refine yG 16 tab_ok rfl (by kernel_rfl) (.inl (by kernel_rfl)) rfl rfl ?_
      exact y_endx (_, .slice gn vs.length cn, .slice ge (foundFin F (joinF W n f1 f2 both)).length ce, vs) (by kernel_rfl) ⟨rfl, rfl, rfl, rfl, rfl, rfl, rfl, trivial⟩ ⟨hvs, hI, hD.join (hz.xput4 (i := 0) rfl _ _ _ _)⟩
  · have hy1 := hy0.alloc (Nat.le_refl _) (.cells #[Vi 0, Vi 0, .slice none 0 0, .slice none 0 0] 25)
    refine And.intro (.inr hy1) ?_
    have hs1 := hs0.box (T := 25) (k := 4) #[Vi 0, Vi 0, .slice none 0 0, .slice none 0 0] rfl
    refine y_one 3 (by kernel_rfl) (y_op 3 tab_ok rfl rfl rfl rfl ?_)
    refine And.intro en_astarts ((astarts_any (Ln : Int) s1 (Ln : Int) s2 vn1 ve1 vn2 ve2 _).mono ?_)
    rintro e u2 ⟨rfl, k2⟩
    refine ⟨_, rfl, ?_⟩
    have hy2 := below_trans hy1 k2
    refine And.intro (.inr hy2) ?_
    have hs2 := hs1.below k2
    refine y_one 4 (by kernel_rfl) (y_op 4 tab_ok rfl rfl rfl rfl ?_)
    refine And.intro hK.en ((hK.c (s1, s2) _).mono ?_)
    rintro e u3 ⟨rfl, k3⟩
    refine ⟨_, rfl, ?_⟩
    have hy3 := below_trans hy2 k3
    refine And.intro (.inr hy3) ?_
    have hs3 := hs2.below k3
    refine y_one 5 (by kernel_rfl) (y_op 5 tab_ok rfl rfl rfl rfl ?_)
    refine And.intro en_anowhere ((anowhere_any _).mono ?_)
    rintro e u4 ⟨rfl, k4⟩
    refine ⟨_, rfl, ?_⟩
    have hy4 := below_trans hy3 k4
    refine And.intro (.inr hy4) ?_
    have hs4 := hs3.below k4
    refine y_one 10 (by kernel_rfl) (y_op 10 tab_ok rfl rfl rfl rfl ?_)
    refine And.intro en_buildP ((bld hs4).mono ?_)
    rintro e u5 ⟨vn, ve, vs, rfl, -, hvs, hI, hs5⟩
    refine ⟨_, rfl, ?_⟩
    have hy5 := hs5.b
    refine And.intro (.inr hy5) ?_
    have hz := comb_end2 hs5
    obtain ⟨ge, ce, hve, -⟩ := hz.r.any (i := 1) (v := ve) (e := 4) (s := 1) (n := (foundFin F (joinF W n f1 f2 both)).length) (xs := bools (foundFin F (joinF W n f1 f2 both))) rfl
    obtain ⟨gn, cn, hvn, -⟩ := hz.r.any (i := 2) (v := vn) (e := 26) (s := 1) (n := vs.length) (xs := vs) rfl
    subst hve hvn
    refine yT 11 tab_ok rfl (by kernel_rfl) hy5 rfl (rfl) ?_
    refine yT 12 tab_ok rfl (by kernel_rfl) hy5 rfl (rfl) ?_
    refine yG 13 tab_ok rfl (by kernel_rfl) (.inr hy5) rfl rfl ?_
    refine y_one 15 (by kernel_rfl) (y_op0 15 tab_ok rfl rfl rfl ?_)
    refine And.intro rfl (And.intro rfl (And.intro (x_cells4 hz.r (i := 0) rfl) (And.intro (.inl (by kernel_rfl)) ?_)))
    refine yG 16 tab_ok rfl (by kernel_rfl) (.inl (by kernel_rfl)) rfl rfl ?_
    exact y_endx (_, .slice gn vs.length cn, .slice ge (foundFin F (joinF W n f1 f2 both)).length ce, vs) (by kernel_rfl) ⟨rfl, rfl, rfl, rfl, rfl, rfl, rfl, trivial⟩ ⟨hvs, hI, hD.join (hz.xput4 (i := 0) rfl _ _ _ _)⟩
end
end Jn
end Go.Proofs.Ythcoppfiahnpoaa
namespace Go.Proofs.Ythcoppfiahnpoaa
namespace Jn
open Go Sym
theorem en_aleast' : enters Try.prog 42 = true := by kernel_rfl
def JoinC (both : Bool) (f : Nat) : Prop := ∀ (L1 s1 L2 s2 : Int) (vn1 ve1 vn2 ve2 : Value) (n1 n2 : List (List Int)) (f1 f2 : List Bool) (w : World), Ma w L1 s1 n1 f1 vn1 ve1 → Ma w L2 s2 n2 f2 vn2 ve2 → n1.length ≤ 50 → n2.length ≤ 50 →
  Calls Try.prog f #[.agg #[Vi L1, Vi s1, vn1, ve1], .agg #[Vi L2, Vi s2, vn2, ve2]] w fun e w' => ∃ (L' s' r : Int) (vn' ve' : Value) (vs : List Value) (n' : List (List Int)) (f' : List Bool), e = .returned (.tuple #[.agg #[Vi L', Vi s', vn', ve'], Vi r]) ∧ I64 L' ∧ I64 s' ∧ vs.length = n'.length ∧ n'.length ≤ 3000 ∧ (∀ l ∈ n', ∀ x ∈ l, I64 x) ∧ Hold w.heap.size w w' (oB ve' f' :: nextR vn' vs n') ∧ JoinE both L1 s1 n1 f1 L2 s2 n2 f2 L' s' n' f' r
set_option maxHeartbeats 4000000 in
theorem combine_any {both : Bool} {fk fd : Nat} (hK : KeepC both fk) (hDc : DecC both fd) (L1 s1 L2 s2 : Int) (vn1 ve1 vn2 ve2 : Value) (n1 n2 : List (List Int)) (f1 f2 : List Bool) (w : World) (hm : Ma w L1 s1 n1 f1 vn1 ve1) (hm2 : Ma w L2 s2 n2 f2 vn2 ve2) (hl1 : n1.length ≤ 50) (hl2 : n2.length ≤ 50) :
    Calls Try.prog 65 #[.agg #[Vi L1, Vi s1, vn1, ve1], .agg #[Vi L2, Vi s2, vn2, ve2], .func (.func fk) #[] #[], .func (.func fd) #[] #[]] w fun e w' => ∃ (L' s' r : Int) (vn' ve' : Value) (vs : List Value) (n' : List (List Int)) (f' : List Bool), e = .returned (.tuple #[.agg #[Vi L', Vi s', vn', ve'], Vi r]) ∧ I64 L' ∧ I64 s' ∧ vs.length = n'.length ∧ n'.length ≤ 3000 ∧ (∀ l ∈ n', ∀ x ∈ l, I64 x) ∧ Hold w.heap.size w w' (oB ve' f' :: nextR vn' vs n') ∧ JoinE both L1 s1 n1 f1 L2 s2 n2 f2 L' s' n' f' r := by
  refine Sym.enter (args := [.agg #[Vi L1, Vi s1, vn1, ve1], .agg #[Vi L2, Vi s2, vn2, ve2], .func (.func fk) #[] #[], .func (.func fd) #[] #[]]) Try.func65 rfl rfl rfl (fun a0 hS0 => ?_)
  refine wp_seq (seq_cutx (α := Nat × Nat × Nat × Nat × Nat) (fun x => [(4, Vp x.1), (5, Vp x.2.1), (6, Vp x.2.2.1), (7, Vp x.2.2.2.1), (8, Vp x.2.2.2.2)]) (fun x w' => Hold w.heap.size w w' [oX 25 x.2.2.2.2 4 [Vi 0, Vi 0, .slice none 0 0, .slice none 0 0], oX 93 x.2.2.2.1 1 [.func (.func fd) #[] #[]], oX 91 x.2.2.1 1 [.func (.func fk) #[] #[]], oX 25 x.2.1 4 [Vi L2, Vi s2, vn2, ve2], oX 25 x.1 4 [Vi L1, Vi s1, vn1, ve1]]) tab_ok hS0 ?_ (fun x a w1 hS h => ?_))
  · refine zB rfl ?_
    refine zB rfl ?_
    refine zB rfl ?_
    refine zB rfl ?_
    refine zB rfl ?_
    repeat first|refine zP rfl ?_|refine zK rfl ?_
    exact o_nil ⟨(_, _, _, _, _), ⟨rfl, rfl, rfl, rfl, rfl, trivial⟩, (((((Hold.start w).box (T := 25) (k := 4) #[Vi L1, Vi s1, vn1, ve1] rfl).box (T := 25) (k := 4) #[Vi L2, Vi s2, vn2, ve2] rfl).box (T := 91) (k := 1) #[.func (.func fk) #[] #[]] rfl).box (T := 93) (k := 1) #[.func (.func fd) #[] #[]] rfl).box (T := 25) (k := 4) #[Vi 0, Vi 0, .slice none 0 0, .slice none 0 0] rfl⟩
  obtain ⟨b0, b1, bk, bd, R⟩ := x
  dsimp only at hS h
  clear hS0
  refine wp_seq (wp_seq (seq_cut [(4, Vp b0), (5, Vp b1), (6, Vp bk), (7, Vp bd), (8, Vp R), (10, Vi (twoM L1 s1 n1 f1 L2 s2 n2 f2))] (fun w' => RowKit.Below w1.heap.size w1 w') tab_ok hS ?_ (fun a w2 hS hw => ?_)))
  · refine zA ([Vi L1, Vi s1, vn1, ve1]) rfl rfl (x4 h.r (i := 4) rfl) ?_
    refine zA ([Vi L2, Vi s2, vn2, ve2]) rfl rfl (x4 h.r (i := 3) rfl) ?_
    refine zF rfl (en_afit) (afit_any L1 s1 L2 s2 vn1 ve1 vn2 ve2 n1 n2 f1 f2 w1 (hm.keep h.b) (hm2.keep h.b)) ?_
    rintro e w2 ⟨rfl, k1⟩
    refine ⟨_, rfl, ?_⟩
    repeat first|refine zP rfl ?_|refine zK rfl ?_
    exact o_nil ⟨⟨rfl, rfl, rfl, rfl, rfl, rfl, trivial⟩, k1⟩
  replace h := h.below hw
  clear hw
  refine wp_seq (seq_cut [(4, Vp b0), (5, Vp b1), (6, Vp bk), (7, Vp bd), (8, Vp R), (10, Vi (twoM L1 s1 n1 f1 L2 s2 n2 f2)), (19, .bool (decide (twoM L1 s1 n1 f1 L2 s2 n2 f2 ≠ 0)))] (· = w2) tab_ok hS ?_ (fun a w3 hS hw => ?_))
  · repeat first|refine zP rfl ?_|refine zK rfl ?_
    refine zC rfl (rfl) ?_
    exact o_nil ⟨⟨rfl, rfl, rfl, rfl, rfl, rfl, rfl, trivial⟩, rfl⟩
  subst hw
  refine cond hS rfl (fun hT => ?_) (fun hF => wp_skip ?_)
  · refine wp_seq (seq_cut [(8, Vp R), (9, Vi (twoM L1 s1 n1 f1 L2 s2 n2 f2))] (fun w' => Hold w.heap.size w w' [oX 25 R 4 [Vi 0, Vi 0, .slice none 0 0, .slice none 0 0], oX 93 bd 1 [.func (.func fd) #[] #[]], oX 91 bk 1 [.func (.func fk) #[] #[]], oX 25 b1 4 [Vi L2, Vi s2, vn2, ve2], oX 25 b0 4 [Vi L1, Vi s1, vn1, ve1]]) tab_ok hS ?_ (fun a w4 hS h => ?_))
    · repeat first|refine zP rfl ?_|refine zK rfl ?_
      refine o_step0 rfl rfl (And.intro rfl (And.intro rfl (And.intro (x_cells4 h.r (i := 0) rfl) ?_)))
      repeat first|refine zP rfl ?_|refine zK rfl ?_
      exact o_nil ⟨⟨rfl, rfl, trivial⟩, h.xput4 (i := 0) rfl _ _ _ _⟩
    have hfin := (((h.nil 26 1).nil 4 1).perm (List.perm_append_comm (l₁ := [_, _]))).drop
    refine wp_ret ?_
    repeat (first | refine then_ret ?_ | refine block_ret ?_)
    refine retc2 tab_ok hS rfl rfl rfl rfl rfl (o := 0) (vs := [Vi 0, Vi 0, .slice none 0 0, .slice none 0 0]) (x4 h.r (i := 0) rfl) rfl ⟨0, 0, _, _, _, [], [], [], rfl, by unfold I64; omega, by unfold I64; omega, rfl, by simp, by simp, hfin, .inl ⟨of_decide_eq_true hT, rfl, rfl, rfl, rfl, rfl⟩⟩
  have htw := Decidable.not_not.1 (of_decide_eq_false hF)
  obtain ⟨v1, v2, hLL⟩ := two_zero htw
  obtain ⟨hsh1, hL300, -⟩ := shape_of_valid v1
  obtain ⟨hsh2, -, -⟩ := shape_of_valid v2
  subst hLL
  obtain ⟨Ln, rfl⟩ := Int.eq_ofNat_of_zero_le hsh1.L0
  have hLI := hm.L
  refine wp_seq (seq_cutx (α := Int × Value × Value × List Value × List (List Int) × List Bool) (fun _ => [(4, Vp b0), (5, Vp b1), (6, Vp bk), (7, Vp bd), (8, Vp R)]) (fun v w' => I64 v.1 ∧ v.2.2.2.1.length = v.2.2.2.2.1.length ∧ (∀ l ∈ v.2.2.2.2.1, ∀ x ∈ l, I64 x) ∧ Canon Ln v.1 v.2.2.2.2.1 v.2.2.2.2.2 ∧ Alike Ln v.2.2.2.2.1 v.2.2.2.2.2 v.1 n1 f1 s1 ∧ Hold w.heap.size w w' ([oX 25 R 4 [Vi 0, Vi 0, .slice none 0 0, .slice none 0 0], oX 93 bd 1 [.func (.func fd) #[] #[]], oX 91 bk 1 [.func (.func fk) #[] #[]], oX 25 b1 4 [Vi Ln, Vi s2, vn2, ve2], oX 25 b0 4 [Vi Ln, Vi v.1, v.2.1, v.2.2.1]] ++ (oB v.2.2.1 v.2.2.2.2.2 :: nextR v.2.1 v.2.2.2.1 v.2.2.2.2.1))) tab_ok hS ?_ (fun v a w4 hS hw => ?_))
  · refine zA ([Vi Ln, Vi s1, vn1, ve1]) rfl rfl (x4 h.r (i := 4) rfl) ?_
    refine zF rfl (en_aleast') (aleast_any (Ln : Int) s1 vn1 ve1 n1 f1 w3 (hm.keep h.b) v1 (by omega)) ?_
    rintro e w4 ⟨s', vn', ve', vs, n', f', rfl, hs', hvs, hI64, hH, hcan, hal⟩
    refine ⟨_, rfl, ?_⟩
    obtain ⟨ge, ce, rfl, -⟩ := hH.r.any (i := 0) rfl
    obtain ⟨gn, cn, hvn, -⟩ := hH.r.any (i := 1) (v := vn') (e := 26) (s := 1) (n := vs.length) (xs := vs) rfl
    subst hvn
    rw [List.append_nil] at hH
    have h9 := (h.join hH).perm List.perm_append_comm
    repeat first|refine zP rfl ?_|refine zK rfl ?_
    refine o_step0 rfl rfl (And.intro rfl (And.intro rfl (And.intro (x_cells4 h9.r (i := 4) rfl) ?_)))
    exact o_nil ⟨(s', .slice gn vs.length cn, .slice ge f'.length ce, vs, n', f'), ⟨rfl, rfl, rfl, rfl, rfl, trivial⟩, hs', hvs, hI64, hcan, hal, h9.xput4 (i := 4) rfl _ _ _ _⟩
  obtain ⟨t1, vm1, vf1, vs1, m1, g1⟩ := v
  simp only at hw
  obtain ⟨ht1, hvs1, hi1, hc1, ha1, h⟩ := hw
  refine wp_seq (seq_cutx (α := Int × Value × Value × List Value × List (List Int) × List Bool) (fun _ => [(4, Vp b0), (5, Vp b1), (6, Vp bk), (7, Vp bd), (8, Vp R)]) (fun v w' => I64 v.1 ∧ v.2.2.2.1.length = v.2.2.2.2.1.length ∧ (∀ l ∈ v.2.2.2.2.1, ∀ x ∈ l, I64 x) ∧ Canon Ln v.1 v.2.2.2.2.1 v.2.2.2.2.2 ∧ Alike Ln v.2.2.2.2.1 v.2.2.2.2.2 v.1 n2 f2 s2 ∧ Hold w.heap.size w w' ([oX 25 R 4 [Vi 0, Vi 0, .slice none 0 0, .slice none 0 0], oX 93 bd 1 [.func (.func fd) #[] #[]], oX 91 bk 1 [.func (.func fk) #[] #[]], oX 25 b1 4 [Vi Ln, Vi v.1, v.2.1, v.2.2.1], oX 25 b0 4 [Vi Ln, Vi t1, vm1, vf1]] ++ ((oB vf1 g1 :: nextR vm1 vs1 m1) ++ (oB v.2.2.1 v.2.2.2.2.2 :: nextR v.2.1 v.2.2.2.1 v.2.2.2.2.1)))) tab_ok hS ?_ (fun v a w5 hS hw => ?_))
  · refine zA ([Vi Ln, Vi s2, vn2, ve2]) rfl rfl (x4 h.r (i := 3) rfl) ?_
    refine zF rfl (en_aleast') (aleast_any (Ln : Int) s2 vn2 ve2 n2 f2 w4 (hm2.keep h.b) v2 (by omega)) ?_
    rintro e w5 ⟨s', vn', ve', vs, n', f', rfl, hs', hvs, hI64, hH, hcan, hal⟩
    refine ⟨_, rfl, ?_⟩
    obtain ⟨ge, ce, rfl, -⟩ := hH.r.any (i := 0) rfl
    obtain ⟨gn, cn, hvn, -⟩ := hH.r.any (i := 1) (v := vn') (e := 26) (s := 1) (n := vs.length) (xs := vs) rfl
    subst hvn
    rw [List.append_nil] at hH
    have h9 := ((h.join hH).perm List.perm_append_comm).cast (List.append_assoc _ _ _)
    repeat first|refine zP rfl ?_|refine zK rfl ?_
    refine o_step0 rfl rfl (And.intro rfl (And.intro rfl (And.intro (x_cells4 h9.r (i := 3) rfl) ?_)))
    exact o_nil ⟨(s', .slice gn vs.length cn, .slice ge f'.length ce, vs, n', f'), ⟨rfl, rfl, rfl, rfl, rfl, trivial⟩, hs', hvs, hI64, hcan, hal, h9.xput4 (i := 3) rfl _ _ _ _⟩
  obtain ⟨t2, vm2, vf2, vs2, m2, g2⟩ := v
  simp only at hw
  obtain ⟨ht2, hvs2, hi2, hc2, ha2, h⟩ := hw
  have hk1 := canon_few hsh1 hc1 ha1
  have hk2 := canon_few hsh2 hc2 ha2
  obtain ⟨W, hW⟩ : ∃ W, W = m2.length + 1 := ⟨_, rfl⟩
  obtain ⟨n, hn⟩ : ∃ n, n = (m1.length + 1) * W := ⟨_, rfl⟩
  have hn2 : n ≤ 2601 := by rw [hn, hW]; exact Nat.mul_le_mul (by omega : m1.length + 1 ≤ 51) (by omega : m2.length + 1 ≤ 51)
  have hPI : PairsI Ln W n t1 m1 g1 t2 m2 g2 := ⟨hc1.shape, hc2.shape, hW, hn, by omega, by omega⟩
  obtain ⟨F, hF⟩ : ∃ F, foundM (cdP W (keepB both (t1, t2))) (joinN Ln W n m1 m2 both) Ln = F := ⟨_, rfl⟩
  refine wp_seq (seq_cut [(4, Vp b0), (5, Vp b1), (6, Vp bk), (7, Vp bd), (8, Vp R), (11, .func (.func 93) #[] #[Vp bk, Vp b0, Vp b1])] (· = w5) tab_ok hS ?_ (fun a w6 hS hw => ?_))
  · repeat first|refine zP rfl ?_|refine zK rfl ?_
    exact o_nil ⟨⟨rfl, rfl, rfl, rfl, rfl, rfl, trivial⟩, rfl⟩
  subst hw
  refine wp_seq (seq_cut [(4, Vp b0), (5, Vp b1), (6, Vp bk), (7, Vp bd), (8, Vp R), (11, .func (.func 93) #[] #[Vp bk, Vp b0, Vp b1]), (12, .func (.func 94) #[] #[Vp bd, Vp b0, Vp b1])] (· = w6) tab_ok hS ?_ (fun a w7 hS hw => ?_))
  · repeat first|refine zP rfl ?_|refine zK rfl ?_
    exact o_nil ⟨⟨rfl, rfl, rfl, rfl, rfl, rfl, rfl, trivial⟩, rfl⟩
  subst hw
  refine wp_seq (comb_r8 hK hDc h hvs1 hvs2 hi1 hi2 ht1 ht2 hPI (by omega) (by omega) hF (by rfl) hS ?_)
  rintro ⟨c, vn, ve, vs⟩ a w8 hS ⟨hvs, hI, h⟩
  dsimp only at hS hvs hI h
  have hx0 : inR W n (keepB both (t1, t2)) := hPI.keepR (hPI.mk' hc1.shape.s1 hc1.shape.s2 hc2.shape.s1 hc2.shape.s2)
  have hFo : Found (cdP W (keepB both (t1, t2))) (joinN Ln W n m1 m2 both) Ln F := by
    rw [← hF]; exact foundM_found3 hPI.jshape (cdP_lt hx0).1 (by rw [joinN_len]; exact (cdP_lt hx0).2)
  obtain ⟨hjs, hja⟩ := hPI.join hFo
  have hcap := hFo.inn.ok.cap
  rw [joinN_len] at hcap
  have hjv := valid_of_shape hjs hL300 (by simp; omega)
  refine wp_seq (wp_seq (seq_cut [(8, Vp R), (13, Vp c), (49, .bool false)] (· = w8) tab_ok hS ?_ (fun a w9 hS hw => ?_)))
  · repeat first|refine zP rfl ?_|refine zK rfl ?_
    refine zC rfl (decide_eq_false (by decide)) ?_
    exact o_nil ⟨⟨rfl, rfl, rfl, trivial⟩, rfl⟩
  subst hw
  refine cond hS rfl (fun hT => by cases hT) (fun _ => wp_skip ?_)
  have hmJ := ma_rows (L := (Ln : Int)) (s := (if F.rows.length = 0 then -1 else 0 : Int)) h.tail (by rw [List.length_map]; exact hvs) hI hLI (by unfold I64; split <;> omega)
  refine wp_seq (seq_cutx (α := (Int × Value × Value × List Value × List (List Int) × List Bool) × List Ow) (fun _ => [(8, Vp R), (9, Vi 0)]) (fun v w' => I64 v.1.1 ∧ v.1.2.2.2.1.length = v.1.2.2.2.2.1.length ∧ (∀ l ∈ v.1.2.2.2.2.1, ∀ x ∈ l, I64 x) ∧ v.1.2.2.2.2.1.length ≤ 3000 ∧ Canon Ln v.1.1 v.1.2.2.2.2.1 v.1.2.2.2.2.2 ∧ (∀ u, Word Ln u → accM v.1.2.2.2.2.1 v.1.2.2.2.2.2 v.1.1 u = joinB both (accM n1 f1 s1 u) (accM n2 f2 s2 u)) ∧ Hold w.heap.size w w' ((oX 25 R 4 [Vi Ln, Vi v.1.1, v.1.2.1, v.1.2.2.1] :: v.2) ++ (oB v.1.2.2.1 v.1.2.2.2.2.2 :: nextR v.1.2.1 v.1.2.2.2.1 v.1.2.2.2.2.1))) tab_ok hS ?_ (fun v a w10 hS hw => ?_))
  · refine zA ([Vi Ln, Vi (if F.rows.length = 0 then -1 else 0 : Int), vn, ve]) rfl rfl (x4 h.r (i := 0) rfl) ?_
    refine zF rfl (en_aleast') (aleast_any (Ln : Int) _ vn ve _ _ w9 hmJ hjv (by simp; omega)) ?_
    rintro e w10 ⟨s', vn', ve', vs', n', f', rfl, hs', hvs', hI64, hH, hcan, hal⟩
    refine ⟨_, rfl, ?_⟩
    obtain ⟨ge, ce, rfl, -⟩ := hH.r.any (i := 0) rfl
    obtain ⟨gn, cn, hvn, -⟩ := hH.r.any (i := 1) (v := vn') (e := 26) (s := 1) (n := vs'.length) (xs := vs') rfl
    subst hvn
    rw [List.append_nil] at hH
    have h9 := (h.drop.join hH).perm List.perm_append_comm
    repeat first|refine zP rfl ?_|refine zK rfl ?_
    refine o_step0 rfl rfl (And.intro rfl (And.intro rfl (And.intro (x_cells4 h9.r (i := 0) rfl) ?_)))
    repeat first|refine zP rfl ?_|refine zK rfl ?_
    exact o_nil ⟨((s', .slice gn vs'.length cn, .slice ge f'.length ce, vs', n', f'), _), ⟨rfl, rfl, trivial⟩, hs', hvs', hI64, (by have := canon_few hjs hcan hal; rw [List.length_map] at this; show n'.length ≤ 3000; omega), hcan, fun u hu => by rw [hal u hu, hja u hu, ha1 u hu, ha2 u hu], h9.xput4 (i := 0) rfl _ _ _ _⟩
  obtain ⟨⟨s', vn', ve', vs', n', f'⟩, rs⟩ := v
  simp only at hw
  obtain ⟨hs', hvs', hI64, hfew, hcan, hacc, h⟩ := hw
  refine wp_ret ?_
  repeat (first | refine then_ret ?_ | refine block_ret ?_)
  refine retc2 tab_ok hS rfl rfl rfl rfl rfl (o := 0) (vs := [Vi Ln, Vi s', vn', ve']) (x4 h.r (i := 0) rfl) rfl ⟨Ln, s', 0, vn', ve', vs', n', f', rfl, hLI, hs', hvs', hfew, hI64, h.drop, .inr ⟨htw, rfl, rfl, hcan, hacc⟩⟩
set_option maxHeartbeats 1000000 in
theorem aEither_c : JoinC false 33 := fun L1 s1 L2 s2 vn1 ve1 vn2 ve2 n1 n2 f1 f2 w hm hm2 hl1 hl2 => by
  refine Sym.enter (args := [.agg #[Vi L1, Vi s1, vn1, ve1], .agg #[Vi L2, Vi s2, vn2, ve2]]) Try.func33 rfl rfl rfl (fun a0 hS0 => ?_)
  refine wp_seq (seq_cutx (α := Nat × Nat × Nat) (fun x => [(2, Vp x.1), (3, Vp x.2.1), (4, Vp x.2.2)]) (fun x w' => Hold w.heap.size w w' [oX 25 x.2.2 4 [Vi 0, Vi 0, .slice none 0 0, .slice none 0 0], oX 25 x.2.1 4 [Vi L2, Vi s2, vn2, ve2], oX 25 x.1 4 [Vi L1, Vi s1, vn1, ve1]]) tab_ok hS0 ?_ (fun x a w1 hS h => ?_))
  · refine zB rfl ?_
    refine zB rfl ?_
    refine zB rfl ?_
    repeat first|refine zP rfl ?_|refine zK rfl ?_
    exact o_nil ⟨(_, _, _), ⟨rfl, rfl, rfl, trivial⟩, (((Hold.start w).box (T := 25) (k := 4) #[Vi L1, Vi s1, vn1, ve1] rfl).box (T := 25) (k := 4) #[Vi L2, Vi s2, vn2, ve2] rfl).box (T := 25) (k := 4) #[Vi 0, Vi 0, .slice none 0 0, .slice none 0 0] rfl⟩
  obtain ⟨b0, b1, R⟩ := x
  dsimp only at hS h
  clear hS0
  refine wp_seq (seq_cut [(2, Vp b0), (3, Vp b1), (4, Vp R), (6, .func (.func 67) #[] #[])] (· = w1) tab_ok hS ?_ (fun a w2 hS hw => ?_))
  · repeat first|refine zP rfl ?_|refine zK rfl ?_
    exact o_nil ⟨⟨rfl, rfl, rfl, rfl, trivial⟩, rfl⟩
  subst hw
  refine wp_seq (seq_cutx (α := (Int × Int × Int × Value × Value × List Value × List (List Int) × List Bool) × List Ow) (fun v => [(4, Vp R), (5, Vi v.1.2.2.1)]) (fun v w' => I64 v.1.1 ∧ I64 v.1.2.1 ∧ v.1.2.2.2.2.2.1.length = v.1.2.2.2.2.2.2.1.length ∧ v.1.2.2.2.2.2.2.1.length ≤ 3000 ∧ (∀ l ∈ v.1.2.2.2.2.2.2.1, ∀ x ∈ l, I64 x) ∧ JoinE false L1 s1 n1 f1 L2 s2 n2 f2 v.1.1 v.1.2.1 v.1.2.2.2.2.2.2.1 v.1.2.2.2.2.2.2.2 v.1.2.2.1 ∧ Hold w.heap.size w w' ((oX 25 R 4 [Vi v.1.1, Vi v.1.2.1, v.1.2.2.2.1, v.1.2.2.2.2.1] :: v.2) ++ (oB v.1.2.2.2.2.1 v.1.2.2.2.2.2.2.2 :: nextR v.1.2.2.2.1 v.1.2.2.2.2.2.1 v.1.2.2.2.2.2.2.1))) tab_ok hS ?_ (fun v a w3 hS hw => ?_))
  · refine zA ([Vi L1, Vi s1, vn1, ve1]) rfl rfl (x4 h.r (i := 2) rfl) ?_
    refine zA ([Vi L2, Vi s2, vn2, ve2]) rfl rfl (x4 h.r (i := 1) rfl) ?_
    repeat first|refine zP rfl ?_|refine zK rfl ?_
    refine zF rfl (en_acombine) (combine_any either1 either2 L1 s1 L2 s2 vn1 ve1 vn2 ve2 n1 n2 f1 f2 w2 (hm.keep h.b) (hm2.keep h.b) hl1 hl2) ?_
    rintro e w3 ⟨L', s', r, vn', ve', vs, n', f', rfl, hL', hs', hvs, hfew, hI64, hH, hJ⟩
    refine ⟨_, rfl, ?_⟩
    obtain ⟨ge, ce, rfl, -⟩ := hH.r.any (i := 0) rfl
    obtain ⟨gn, cn, hvn, -⟩ := hH.r.any (i := 1) (v := vn') (e := 26) (s := 1) (n := vs.length) (xs := vs) rfl
    subst hvn
    have h9 := (h.join hH).perm List.perm_append_comm
    repeat first|refine zP rfl ?_|refine zK rfl ?_
    refine o_step0 rfl rfl (And.intro rfl (And.intro rfl (And.intro (x_cells4 h9.r (i := 0) rfl) ?_)))
    repeat first|refine zP rfl ?_|refine zK rfl ?_
    exact o_nil ⟨((L', s', r, .slice gn vs.length cn, .slice ge f'.length ce, vs, n', f'), _), ⟨rfl, rfl, trivial⟩, hL', hs', hvs, hfew, hI64, hJ, h9.xput4 (i := 0) rfl _ _ _ _⟩
  obtain ⟨⟨L', s', r, vn', ve', vs, n', f'⟩, rs⟩ := v
  simp only at hS hw
  obtain ⟨hL', hs', hvs, hfew, hI64, hJ, h⟩ := hw
  refine wp_ret ?_
  repeat (first | refine then_ret ?_ | refine block_ret ?_)
  refine retc2 tab_ok hS rfl rfl rfl rfl rfl (o := 0) (vs := [Vi L', Vi s', vn', ve']) (x4 h.r (i := 0) rfl) rfl ⟨L', s', r, vn', ve', vs, n', f', rfl, hL', hs', hvs, hfew, hI64, h.drop, hJ⟩
end Jn
end Go.Proofs.Ythcoppfiahnpoaa
namespace Go.Proofs.Ythcoppfiahnpoaa
end Go.Proofs.Ythcoppfiahnpoaa
namespace Go.Proofs.Ythcoppfiahnpoaa
open Go Sym
end Go.Proofs.Ythcoppfiahnpoaa
namespace Go.Proofs.Ythcoppfiahnpoaa
open Go Sym
end Go.Proofs.Ythcoppfiahnpoaa
namespace Go.Proofs.Ythcoppfiahnpoaa
open Go Sym
section
variable {w w' : World} {g q T T' k k' i j : Nat} {v : Value}
def TyB (w : World) (g T k : Nat) : Prop := ∃ cs : Array Value, w.heap[g]? = some (.cells cs T (0, 0)) ∧ k ≤ cs.size
theorem heap_far (w : World) (i : Nat) (v : Value) (h : g ≠ q) : (w.setCell ⟨q, i, none⟩ v).heap[g]? = w.heap[g]? := by
  simp [World.setCell, Array.getElem?_modify, h.symm]
theorem heap_near {cs : Array Value} {fr : Nat × Nat} (h : w.heap[q]? = some (.cells cs T fr)) (i : Nat) (v : Value) : (w.setCell ⟨q, i, none⟩ v).heap[q]? = some (.cells (cs.setIfInBounds i v) T fr) := heap_setCell_same q i v h
theorem TyB.set (h : TyB w g T k) (q i : Nat) (v : Value) : TyB (w.setCell ⟨q, i, none⟩ v) g T k := by
  obtain ⟨cs, h1, h2⟩ := h
  by_cases e : g = q
  · subst e
    exact ⟨_, heap_near h1 i v, by simpa using h2⟩
  · exact ⟨cs, by rw [heap_far w i v e]; exact h1, h2⟩
theorem TyB.keep (h : TyB w g T k) (hb : RowKit.Below w.heap.size w w') : TyB w' g T k := by
  obtain ⟨cs, h1, h2⟩ := h
  exact ⟨cs, (hb.block g (Array.getElem?_eq_some_iff.1 h1).1).trans h1, h2⟩
theorem TyB.cell (h : TyB w g T k) (hj : j < k) : ∃ u, w.cell? ⟨g, j, none⟩ = some u := by
  obtain ⟨cs, h1, h2⟩ := h
  refine ⟨cs[j]'(by omega), ?_⟩
  unfold World.cell?
  rw [show w.heap[(⟨g, j, none⟩ : Addr).block]? = _ from h1]
  simp [show j < cs.size by omega]
theorem TyB.free (h : TyB w g T k) (j : Nat) : w.frozen? ⟨g, j, none⟩ = false := by
  obtain ⟨cs, h1, h2⟩ := h
  unfold World.frozen?
  rw [show w.heap[(⟨g, j, none⟩ : Addr).block]? = _ from h1]
  simp
theorem TyB.ne (h : TyB w g T k) (h' : TyB w q T' k') (hT : T ≠ T') : g ≠ q := fun e => by
  obtain ⟨cs, h1, _⟩ := h
  obtain ⟨ds, h2, _⟩ := h'
  subst e
  rw [h1] at h2
  simp only [Option.some.injEq, Obj.cells.injEq] at h2
  exact hT h2.2.1
theorem cell_far (h : g ≠ q) : (w.setCell ⟨q, i, none⟩ v).cell? ⟨g, j, none⟩ = w.cell? ⟨g, j, none⟩ := by
  unfold World.cell?
  rw [show (w.setCell ⟨q, i, none⟩ v).heap[(⟨g, j, none⟩ : Addr).block]? = w.heap[(⟨g, j, none⟩ : Addr).block]? from heap_far w i v h]
def BoolB (w : World) (g k : Nat) : Prop := ∃ cs : Array Value, w.heap[g]? = some (.cells cs 4 (0, 0)) ∧ ∀ j, j < k → ∃ b, cs[j]? = some (.bool b)
theorem BoolB.ty (h : BoolB w g k) : TyB w g 4 k := by
  obtain ⟨cs, h1, h2⟩ := h
  refine ⟨cs, h1, ?_⟩
  rcases Nat.lt_or_ge cs.size k with hlt | hge
  · obtain ⟨b, hb⟩ := h2 cs.size hlt
    simp at hb
  · exact hge
theorem BoolB.cell (h : BoolB w g k) (hj : j < k) : ∃ b, w.cell? ⟨g, j, none⟩ = some (.bool b) := by
  obtain ⟨cs, h1, h2⟩ := h
  obtain ⟨b, hb⟩ := h2 j hj
  refine ⟨b, ?_⟩
  unfold World.cell?
  rw [show w.heap[(⟨g, j, none⟩ : Addr).block]? = _ from h1]
  simpa using hb
theorem BoolB.far (h : BoolB w g k) (hq : g ≠ q) (i : Nat) (v : Value) : BoolB (w.setCell ⟨q, i, none⟩ v) g k := by
  obtain ⟨cs, h1, h2⟩ := h
  exact ⟨cs, by rw [heap_far w i v hq]; exact h1, h2⟩
theorem BoolB.set (h : BoolB w g k) (q i : Nat) (b : Bool) : BoolB (w.setCell ⟨q, i, none⟩ (.bool b)) g k := by
  by_cases e : g = q
  · subst e
    obtain ⟨cs, h1, h2⟩ := h
    refine ⟨_, heap_near h1 i (.bool b), fun j hj => ?_⟩
    obtain ⟨c, hc⟩ := h2 j hj
    rw [Array.getElem?_setIfInBounds]
    split
    · rename_i e
      subst e
      have : i < cs.size := (Array.getElem?_eq_some_iff.1 hc).1
      rw [if_pos this]
      exact ⟨b, rfl⟩
    · exact ⟨c, hc⟩
  · exact h.far e i _
theorem BoolB.keep (h : BoolB w g k) (hb : RowKit.Below w.heap.size w w') : BoolB w' g k := by
  obtain ⟨cs, h1, h2⟩ := h
  exact ⟨cs, (hb.block g (Array.getElem?_eq_some_iff.1 h1).1).trans h1, h2⟩
end
structure Soft (base top : Nat) (w : World) (n L : Nat) (vn ve : Value) : Prop where
  e : 0 < n → ∃ ge ce, ve = Vs ge n ce ∧ BoolB w ge n ∧ base ≤ ge ∧ ge < top
  r : 0 < n → ∃ gn cn, vn = Vs gn n cn ∧ TyB w gn 26 n ∧ ∀ j, j < n → 0 < L → ∃ g c, w.cell? ⟨gn, 0 + j, none⟩ = some (Vs g L c) ∧ TyB w g 3 L ∧ base ≤ g ∧ g < top
section
variable {base top : Nat} {w w' : World} {n L q i k : Nat} {vn ve v : Value} {next : List (List Int)} {fin : List Bool}
theorem Soft.keep (h : Soft base top w n L vn ve) (hb : RowKit.Below w.heap.size w w') : Soft base top w' n L vn ve := by
  refine ⟨fun h0 => ?_, fun h0 => ?_⟩
  · obtain ⟨ge, ce, e1, e2, e3⟩ := h.e h0
    exact ⟨ge, ce, e1, e2.keep hb, e3⟩
  · obtain ⟨gn, cn, e1, e2, e3⟩ := h.r h0
    refine ⟨gn, cn, e1, e2.keep hb, fun j hj hL => ?_⟩
    obtain ⟨g, c, r1, r2, r3⟩ := e3 j hj hL
    exact ⟨g, c, Go.Proofs.Ythcoppfiahnpoaa.keep hb r1, r2.keep hb, r3⟩
theorem Soft.setB (h : Soft base top w n L vn ve) (hq : TyB w q 4 k) (i : Nat) (b : Bool) : Soft base top (w.setCell ⟨q, i, none⟩ (.bool b)) n L vn ve := by
  refine ⟨fun h0 => ?_, fun h0 => ?_⟩
  · obtain ⟨ge, ce, e1, e2, e3⟩ := h.e h0
    exact ⟨ge, ce, e1, e2.set q i b, e3⟩
  · obtain ⟨gn, cn, e1, e2, e3⟩ := h.r h0
    refine ⟨gn, cn, e1, e2.set q i _, fun j hj hL => ?_⟩
    obtain ⟨g, c, r1, r2, r3⟩ := e3 j hj hL
    exact ⟨g, c, by rw [cell_far (e2.ne hq (by decide))]; exact r1, r2.set q i _, r3⟩
theorem Soft.setI (h : Soft base top w n L vn ve) (hq : TyB w q 3 k) (i : Nat) (v : Value) : Soft base top (w.setCell ⟨q, i, none⟩ v) n L vn ve := by
  refine ⟨fun h0 => ?_, fun h0 => ?_⟩
  · obtain ⟨ge, ce, e1, e2, e3⟩ := h.e h0
    exact ⟨ge, ce, e1, e2.far (e2.ty.ne hq (by decide)) i v, e3⟩
  · obtain ⟨gn, cn, e1, e2, e3⟩ := h.r h0
    refine ⟨gn, cn, e1, e2.set q i _, fun j hj hL => ?_⟩
    obtain ⟨g, c, r1, r2, r3⟩ := e3 j hj hL
    exact ⟨g, c, by rw [cell_far (e2.ne hq (by decide))]; exact r1, r2.set q i _, r3⟩
theorem OwnM.soft (h : OwnM base w next fin vn ve) (hf : fin.length = next.length) (hL : ∀ r ∈ next, r.length = L) : Soft base w.heap.size w next.length L vn ve := by
  refine ⟨fun h0 => ?_, fun h0 => ?_⟩
  · rcases h.e.2 with ⟨_, h1⟩ | ⟨g, cap, cur, h1, h2, h3, h4, h5, h6, h7⟩
    · omega
    · rw [hf] at h1
      refine ⟨g, cap, h1, ⟨cur, h3, fun j hj => ?_⟩, h2, (Array.getElem?_eq_some_iff.1 h3).1⟩
      have h8 : (cur.toList.take (fin.length * 1))[j]? = (fin.map Value.bool)[j]? := by rw [h7]
      rw [List.getElem?_take, if_pos (by omega), List.getElem?_map, List.getElem?_eq_getElem (show j < fin.length by omega)] at h8
      exact ⟨fin[j]'(by omega), by simpa using h8⟩
  · obtain ⟨us, hl, hn, hu⟩ := h.n
    rcases hn.2 with ⟨_, h1⟩ | ⟨g, cap, cur, h1, h2, h3, h4, h5, h6, h7⟩
    · omega
    · refine ⟨g, cap, h1, ⟨cur, h3, by omega⟩, fun j hj h0L => ?_⟩
      obtain ⟨u, u1, u2, _⟩ := hu j hj
      have hr := hL _ (List.getElem_mem hj)
      have hc : w.cell? ⟨g, 0 + j, none⟩ = some u := by
        rw [Nat.zero_add]
        unfold World.cell?
        rw [show w.heap[(⟨g, j, none⟩ : Addr).block]? = _ from h3]
        have h8 : (cur.toList.take (next.length * 1))[j]? = us[j]? := by rw [h7]
        rw [List.getElem?_take, if_pos (by omega), u1] at h8
        simpa using h8
      rcases u2.2 with ⟨_, k1⟩ | ⟨g2, cap2, cur2, k1, k2, k3, k4, k5, k6, k7⟩
      · omega
      · rw [hr] at k1 k4
        exact ⟨g2, cap2, by rw [hc, k1], ⟨cur2, k3, by omega⟩, k2, (Array.getElem?_eq_some_iff.1 k3).1⟩
theorem OwnM.far (h : OwnM base w next fin vn ve) {row : Option Nat} (hg : w.grownBy w' row) (hr : ∀ k, row = some k → k < base) : OwnM base w' next fin vn ve := by
  have key : ∀ {e s m : Nat} {u : Value} {xs : List Value}, w.ownsRow base e s u m xs → w'.ownsRow base e s u m xs := fun {e s m u xs} ho => ho.kept hg (by
    cases hu : u.ownBlock with
    | none => exact .inl rfl
    | some b =>
      refine .inr fun e2 => ?_
      have h1 := (ho.lt b hu).1
      have h2 := hr b e2.symm
      omega)
  obtain ⟨us, hl, hn, hu⟩ := h.n
  exact ⟨key h.e, us, hl, key hn, fun j hj => by
    obtain ⟨u, u1, u2, u3⟩ := hu j hj
    exact ⟨u, u1, key u2, u3⟩⟩
theorem OwnM.below (h : OwnM base w next fin vn ve) (hb : RowKit.Below w.heap.size w w') : OwnM base w' next fin vn ve := h.far (grown_below hb) (fun k e => by cases e)
theorem OwnM.mono {base' : Nat} (h : OwnM base w next fin vn ve) (hb : base' ≤ base) : OwnM base' w next fin vn ve := by
  obtain ⟨us, hl, hn, hu⟩ := h.n
  exact ⟨own_mono h.e hb, us, hl, own_mono hn hb, fun j hj => by
    obtain ⟨u, u1, u2, u3⟩ := hu j hj
    exact ⟨u, u1, own_mono u2 hb, u3⟩⟩
theorem OwnM.put (h : OwnM base w next fin vn ve) {b : Nat} {vs : List Value} (ho : OwnB w b 25 vs) (us : List Value) : OwnM base (w.setCells b 0 us) next fin vn ve := by
  have hg := grown_sets b us 0 w
  have key : ∀ {e s m : Nat} {u : Value} {xs : List Value}, w.ownsRow base e s u m xs → e ≠ 25 → (w.setCells b 0 us).ownsRow base e s u m xs := fun {e s m u xs} h1 he => h1.kept hg (.inr fun e2 => own_neB h1 ho he e2.symm)
  obtain ⟨us', hl, hn, hu⟩ := h.n
  exact ⟨key h.e (by decide), us', hl, key hn (by decide), fun j hj => by
    obtain ⟨u, u1, u2, u3⟩ := hu j hj
    exact ⟨u, u1, key u2 (by decide), u3⟩⟩
theorem hold_ownM {w0 : World} {vs : List Value} (h : Hold base w0 w (oB ve fin :: nextR vn vs next)) (hl : vs.length = next.length) (hI : ∀ l ∈ next, ∀ x ∈ l, I64 x) : OwnM base w next fin vn ve := by
  refine ⟨h.r.1 0 _ rfl, vs, hl, by have := h.r.1 1 _ rfl; rw [← hl]; exact this, fun j hj => ?_⟩
  have hj' : j < vs.length := by omega
  refine ⟨vs[j], List.getElem?_eq_getElem hj', ?_, hI _ (List.getElem_mem hj)⟩
  have := h.r.1 (j + 2) (oI vs[j] next[j]) (by
    show (List.zipWith (fun v l => oI v l) vs next)[j]? = _
    rw [List.getElem?_zipWith, List.getElem?_eq_getElem hj', List.getElem?_eq_getElem hj])
  exact this
end
structure KL (w0 : World) (t Ln : Nat) (w : World) (bs : List (Nat × List Value)) (ss : List (Nat × Nat × Value × Value)) (ms : List (Nat × List (List Int) × List Bool × Value × Value)) : Prop where
  b : RowKit.Below w0.heap.size w0 w
  o : ∀ (i : Nat) (x : Nat × List Value), bs[i]? = some x → OwnB w x.1 25 x.2
  s : ∀ (i : Nat) (x : Nat × Nat × Value × Value), ss[i]? = some x → Soft w0.heap.size x.1 w x.2.1 Ln x.2.2.1 x.2.2.2
  m : ∀ (i : Nat) (x : Nat × List (List Int) × List Bool × Value × Value), ms[i]? = some x → t ≤ x.1 ∧ OwnM x.1 w x.2.1 x.2.2.1 x.2.2.2.1 x.2.2.2.2
section
variable {w0 w w' : World} {t Ln q k : Nat} {bs : List (Nat × List Value)} {ss : List (Nat × Nat × Value × Value)} {ms : List (Nat × List (List Int) × List Bool × Value × Value)}
theorem KL.below (h : KL w0 t Ln w bs ss ms) (hb : RowKit.Below w.heap.size w w') : KL w0 t Ln w' bs ss ms :=
  ⟨below_trans h.b hb, fun i x hx => (h.o i x hx).keep hb (h.o i x hx).lt, fun i x hx => (h.s i x hx).keep hb, fun i x hx => ⟨(h.m i x hx).1, (h.m i x hx).2.below hb⟩⟩
theorem OwnB.ty {b : Nat} {vs : List Value} (h : OwnB w b 25 vs) : TyB w b 25 vs.length := ⟨_, h, by simp⟩
theorem KL.set (h : KL w0 t Ln w bs ss ms) {T i : Nat} (hq : TyB w q T k) (hT : T ≠ 25) (h1 : w0.heap.size ≤ q) (h2 : q < t) (v : Value) (hs : ∀ (j : Nat) (x : Nat × Nat × Value × Value), ss[j]? = some x → Soft w0.heap.size x.1 (w.setCell ⟨q, i, none⟩ v) x.2.1 Ln x.2.2.1 x.2.2.2) : KL w0 t Ln (w.setCell ⟨q, i, none⟩ v) bs ss ms := by
  have hg := grown_set w q i v
  exact ⟨below_of_grown h.b hg (fun k e => by cases e; exact h1), fun j x hx => (h.o j x hx).kept hg (fun e => (h.o j x hx).ty.ne hq hT.symm (by cases e; rfl)), hs, fun j x hx => ⟨(h.m j x hx).1, (h.m j x hx).2.far hg (fun k e => by cases e; have := (h.m j x hx).1; omega)⟩⟩
theorem KL.setB (h : KL w0 t Ln w bs ss ms) (hq : TyB w q 4 k) (h1 : w0.heap.size ≤ q) (h2 : q < t) (i : Nat) (b : Bool) : KL w0 t Ln (w.setCell ⟨q, i, none⟩ (.bool b)) bs ss ms :=
  h.set hq (by decide) h1 h2 _ fun j x hx => (h.s j x hx).setB hq i b
theorem KL.setI (h : KL w0 t Ln w bs ss ms) (hq : TyB w q 3 k) (h1 : w0.heap.size ≤ q) (h2 : q < t) (i : Nat) (v : Value) : KL w0 t Ln (w.setCell ⟨q, i, none⟩ v) bs ss ms :=
  h.set hq (by decide) h1 h2 _ fun j x hx => (h.s j x hx).setI hq i v
theorem KL.addO (h : KL w0 t Ln w bs ss ms) {b : Nat} {vs : List Value} (ho : OwnB w b 25 vs) : KL w0 t Ln w (bs ++ [(b, vs)]) ss ms := by
  refine ⟨h.b, fun i x hx => ?_, h.s, h.m⟩
  rw [List.getElem?_append] at hx
  split at hx
  · exact h.o i x hx
  · rw [List.getElem?_singleton] at hx
    split at hx
    · cases hx; exact ho
    · cases hx
theorem KL.addS (h : KL w0 t Ln w bs ss ms) {p n : Nat} {vn ve : Value} (hs : Soft w0.heap.size p w n Ln vn ve) : KL w0 t Ln w bs (ss ++ [(p, n, vn, ve)]) ms := by
  refine ⟨h.b, h.o, fun i x hx => ?_, h.m⟩
  rw [List.getElem?_append] at hx
  split at hx
  · exact h.s i x hx
  · rw [List.getElem?_singleton] at hx
    split at hx
    · cases hx; exact hs
    · cases hx
theorem KL.addM (h : KL w0 t Ln w bs ss ms) {p : Nat} {n : List (List Int)} {f : List Bool} {vn ve : Value} (ht : t ≤ p) (hm : OwnM p w n f vn ve) : KL w0 t Ln w bs ss (ms ++ [(p, n, f, vn, ve)]) := by
  refine ⟨h.b, h.o, h.s, fun i x hx => ?_⟩
  rw [List.getElem?_append] at hx
  split at hx
  · exact h.m i x hx
  · rw [List.getElem?_singleton] at hx
    split at hx
    · cases hx; exact ⟨ht, hm⟩
    · cases hx
theorem TyB.cell0 {w : World} {g T k j : Nat} (h : TyB w g T k) (hj : j < k) : ∃ u, w.cell? ⟨g, 0 + j, none⟩ = some u := by rw [Nat.zero_add]; exact h.cell hj
theorem TyB.free0 {w : World} {g T k : Nat} (h : TyB w g T k) (j : Nat) : w.frozen? ⟨g, 0 + j, none⟩ = false := by rw [Nat.zero_add]; exact h.free j
theorem BoolB.cell0 {w : World} {g k j : Nat} (h : BoolB w g k) (hj : j < k) : ∃ b, w.cell? ⟨g, 0 + j, none⟩ = some (.bool b) := by rw [Nat.zero_add]; exact h.cell hj
theorem own_ownB {w : World} {base T b : Nat} {vs : List Value} (h : w.ownsRow base T 4 (Vs b 1 1) 1 vs) : OwnB w b T vs := by
  rcases h.2 with ⟨h1, _⟩ | ⟨g, cap, cur, h1, _, h3, _, _, h6, h7⟩
  · cases h1
  · simp only [Value.slice.injEq, Option.some.injEq, Addr.mk.injEq, and_true, true_and] at h1
    obtain ⟨rfl, rfl⟩ := h1
    unfold OwnB
    rw [h3]
    have e : cur.toList = vs := by
      rw [← h7, List.take_of_length_le (by simp [h6])]
    rw [← e]
end
end Go.Proofs.Ythcoppfiahnpoaa
namespace Go.Proofs.Ythcoppfiahnpoaa
open Go Sym
theorem own_sl {base : Nat} {w : World} {next : List (List Int)} {fin : List Bool} {vn ve : Value} (h : OwnM base w next fin vn ve) : ∃ a c, vn = .slice a next.length c := by
  obtain ⟨us, hl, hn, hu⟩ := h.n
  rcases hn.2 with ⟨h1, h2⟩ | ⟨g, cap, cur, h1, _⟩
  · exact ⟨none, 0, by rw [h1, h2]⟩
  · exact ⟨_, _, h1⟩
theorem own_se {base : Nat} {w : World} {next : List (List Int)} {fin : List Bool} {vn ve : Value} (h : OwnM base w next fin vn ve) : ∃ a c, ve = .slice a fin.length c := by
  rcases h.e.2 with ⟨h1, h2⟩ | ⟨g, cap, cur, h1, _⟩
  · exact ⟨none, 0, by rw [h1, h2]⟩
  · exact ⟨_, _, h1⟩
set_option maxHeartbeats 4000000 in
theorem keeps_r3 {Ln M : Nat} {s : Int} {vn ve : Value} {next : List (List Int)} {fin : List Bool} {w0 w : World} (h : Hold w0.heap.size w0 w [oX 25 M 4 [Vi Ln, Vi s, vn, ve]])
    (hcp : ∀ u, RowKit.Below w0.heap.size w0 u → Calls Try.prog 16 #[.agg #[Vi Ln, Vi s, vn, ve]] u fun e u' => ∃ vn' ve', e = .returned (.agg #[Vi Ln, Vi s, vn', ve']) ∧ OwnM u.heap.size u' next fin vn' ve' ∧ RowKit.Below u.heap.size u u')
    {Q : Exit → Act → World → Prop} {a : Act} {ops : Array Oper} {id : Nat} (hops : Sym.regionOf Try.f11.body 3 = some (id, ops)) (hS : St Try.f11.ntmps a [(1, Vp M)])
    (hq : ∀ (x : Nat × Nat × Value × Value × Value × Value) a' w', St Try.f11.ntmps a' [(1, Vp M), (3, Vp x.1), (4, Vp x.2.1)] → Hold w0.heap.size w0 w' [oX 25 x.1 4 [Vi Ln, Vi s, x.2.2.1, x.2.2.2.1], oX 25 x.2.1 4 [Vi Ln, Vi s, x.2.2.2.2.1, x.2.2.2.2.2], oX 25 M 4 [Vi Ln, Vi s, vn, ve]] ∧ OwnM w0.heap.size w' next fin x.2.2.1 x.2.2.2.1 ∧ OwnM w0.heap.size w' next fin x.2.2.2.2.1 x.2.2.2.2.2 → Q .normal a' w') : (Code.region id ops true).wp Try.prog Q a w := by
  cases hops
  refine any_cutx (α := Nat × Nat × Value × Value × Value × Value) 6 (fun x => [(1, Vp M), (3, Vp x.1), (4, Vp x.2.1)]) (fun x w' => Hold w0.heap.size w0 w' [oX 25 x.1 4 [Vi Ln, Vi s, x.2.2.1, x.2.2.2.1], oX 25 x.2.1 4 [Vi Ln, Vi s, x.2.2.2.2.1, x.2.2.2.2.2], oX 25 M 4 [Vi Ln, Vi s, vn, ve]] ∧ OwnM w0.heap.size w' next fin x.2.2.1 x.2.2.2.1 ∧ OwnM w0.heap.size w' next fin x.2.2.2.2.1 x.2.2.2.2.2) mixed hS ?_ hq
  have hy0 : RowKit.Below w.drew.heap.size w.drew w.drew := RowKit.Below.refl _ _
  have hs0 := h.drew
  refine yT 0 tab_ok rfl (by kernel_rfl) hy0 rfl (Exists.intro ([Vi Ln, Vi s, vn, ve]) (And.intro rfl (And.intro (Jn.x4 hs0.r (i := 0) rfl) rfl))) ?_
  refine yT 2 tab_ok rfl (by kernel_rfl) hy0 rfl (Exists.intro ([Vi Ln, Vi s, vn, ve]) (And.intro rfl (And.intro (Jn.x4 hs0.r (i := 0) rfl) rfl))) ?_
  refine y_three 1 4 5 (by kernel_rfl) (y_op 1 tab_ok rfl rfl rfl rfl ?_) (y_op 4 tab_ok rfl rfl rfl rfl ?_) (y_op 5 tab_ok rfl rfl rfl rfl ?_)
  · refine And.intro en_Copy ((hcp _ hs0.b).mono ?_)
    rintro e u1 ⟨vn1, ve1, rfl, m1, k1⟩
    refine ⟨_, rfl, ?_⟩
    have hy1 := below_trans hy0 k1
    refine And.intro (.inr hy1) ?_
    have hs1 := hs0.below k1
    replace m1 := m1.mono hs0.s
    refine y_three 3 4 5 (by kernel_rfl) (y_op 3 tab_ok rfl rfl rfl rfl ?_) (y_op 4 tab_ok rfl rfl rfl rfl ?_) (y_op 5 tab_ok rfl rfl rfl rfl ?_)
    · refine And.intro en_Copy ((hcp _ hs1.b).mono ?_)
      rintro e u2 ⟨vn2, ve2, rfl, m2, k2⟩
      refine ⟨_, rfl, ?_⟩
      have hy2 := below_trans hy1 k2
      refine And.intro (.inr hy2) ?_
      have hs2 := hs1.below k2
      replace m1 := m1.below k2
      replace m2 := m2.mono hs1.s
      refine y_two 4 5 (by kernel_rfl) (y_op 4 tab_ok rfl rfl rfl rfl ?_) (y_op 5 tab_ok rfl rfl rfl rfl ?_)
      · have hy3 := hy2.alloc (hy2.size) (.cells #[Vi 0, Vi 0, .slice none 0 0, .slice none 0 0] 25)
        refine And.intro (.inr hy3) ?_
        have hs3 := hs2.box (T := 25) (k := 4) #[Vi 0, Vi 0, .slice none 0 0, .slice none 0 0] rfl
        replace m1 := m1.below (below_alloc _ (.cells #[Vi 0, Vi 0, .slice none 0 0, .slice none 0 0] 25))
        replace m2 := m2.below (below_alloc _ (.cells #[Vi 0, Vi 0, .slice none 0 0, .slice none 0 0] 25))
        refine y_one 5 (by kernel_rfl) (y_op 5 tab_ok rfl rfl rfl rfl ?_)
        have hy4 := hy3.alloc (hy3.size) (.cells #[Vi 0, Vi 0, .slice none 0 0, .slice none 0 0] 25)
        refine And.intro (.inr hy4) ?_
        have hs4 := hs3.box (T := 25) (k := 4) #[Vi 0, Vi 0, .slice none 0 0, .slice none 0 0] rfl
        replace m1 := m1.below (below_alloc _ (.cells #[Vi 0, Vi 0, .slice none 0 0, .slice none 0 0] 25))
        replace m2 := m2.below (below_alloc _ (.cells #[Vi 0, Vi 0, .slice none 0 0, .slice none 0 0] 25))
        have hz := hs4.perm (.swap _ _ _)
        obtain ⟨an1, cn1, hv1⟩ := own_sl m1
        obtain ⟨an2, cn2, hv2⟩ := own_sl m2
        obtain ⟨ae1, ce1, hw1⟩ := own_se m1
        obtain ⟨ae2, ce2, hw2⟩ := own_se m2
        subst hv1 hv2 hw1 hw2
        have oA := own_ownB (hz.r.1 0 _ rfl)
        have m1 := m1.put oA [Vi Ln, Vi s, .slice an1 next.length cn1, .slice ae1 fin.length ce1]
        have m2 := m2.put oA [Vi Ln, Vi s, .slice an1 next.length cn1, .slice ae1 fin.length ce1]
        have hz2 := hz.xput4 (i := 0) rfl (Vi Ln) (Vi s) (.slice an1 next.length cn1) (.slice ae1 fin.length ce1)
        have oB := own_ownB (hz2.r.1 1 _ rfl)
        have m1 := m1.put oB [Vi Ln, Vi s, .slice an2 next.length cn2, .slice ae2 fin.length ce2]
        have m2 := m2.put oB [Vi Ln, Vi s, .slice an2 next.length cn2, .slice ae2 fin.length ce2]
        refine y_one 6 (by kernel_rfl) (y_op0 6 tab_ok rfl rfl rfl ?_)
        refine And.intro rfl (And.intro rfl (And.intro (x_cells4 hz.r (i := 0) rfl) (And.intro (.inl (by kernel_rfl)) ?_)))
        refine y_one 7 (by kernel_rfl) (y_op0 7 tab_ok rfl rfl rfl ?_)
        refine And.intro rfl (And.intro rfl (And.intro (x_cells4 hz2.r (i := 1) rfl) (And.intro (.inl (by kernel_rfl)) ?_)))
        exact y_endx (_, _, .slice an1 next.length cn1, .slice ae1 fin.length ce1, .slice an2 next.length cn2, .slice ae2 fin.length ce2) (by kernel_rfl) ⟨rfl, rfl, rfl, trivial⟩ ⟨hz2.xput4 (i := 1) rfl _ _ _ _, m1, m2⟩
      · have hy3 := hy2.alloc (hy2.size) (.cells #[Vi 0, Vi 0, .slice none 0 0, .slice none 0 0] 25)
        refine And.intro (.inr hy3) ?_
        have hs3 := hs2.box (T := 25) (k := 4) #[Vi 0, Vi 0, .slice none 0 0, .slice none 0 0] rfl
        replace m1 := m1.below (below_alloc _ (.cells #[Vi 0, Vi 0, .slice none 0 0, .slice none 0 0] 25))
        replace m2 := m2.below (below_alloc _ (.cells #[Vi 0, Vi 0, .slice none 0 0, .slice none 0 0] 25))
        refine y_one 4 (by kernel_rfl) (y_op 4 tab_ok rfl rfl rfl rfl ?_)
        have hy4 := hy3.alloc (hy3.size) (.cells #[Vi 0, Vi 0, .slice none 0 0, .slice none 0 0] 25)
        refine And.intro (.inr hy4) ?_
        have hs4 := hs3.box (T := 25) (k := 4) #[Vi 0, Vi 0, .slice none 0 0, .slice none 0 0] rfl
        replace m1 := m1.below (below_alloc _ (.cells #[Vi 0, Vi 0, .slice none 0 0, .slice none 0 0] 25))
        replace m2 := m2.below (below_alloc _ (.cells #[Vi 0, Vi 0, .slice none 0 0, .slice none 0 0] 25))
        have hz := hs4
        obtain ⟨an1, cn1, hv1⟩ := own_sl m1
        obtain ⟨an2, cn2, hv2⟩ := own_sl m2
        obtain ⟨ae1, ce1, hw1⟩ := own_se m1
        obtain ⟨ae2, ce2, hw2⟩ := own_se m2
        subst hv1 hv2 hw1 hw2
        have oA := own_ownB (hz.r.1 0 _ rfl)
        have m1 := m1.put oA [Vi Ln, Vi s, .slice an1 next.length cn1, .slice ae1 fin.length ce1]
        have m2 := m2.put oA [Vi Ln, Vi s, .slice an1 next.length cn1, .slice ae1 fin.length ce1]
        have hz2 := hz.xput4 (i := 0) rfl (Vi Ln) (Vi s) (.slice an1 next.length cn1) (.slice ae1 fin.length ce1)
        have oB := own_ownB (hz2.r.1 1 _ rfl)
        have m1 := m1.put oB [Vi Ln, Vi s, .slice an2 next.length cn2, .slice ae2 fin.length ce2]
        have m2 := m2.put oB [Vi Ln, Vi s, .slice an2 next.length cn2, .slice ae2 fin.length ce2]
        refine y_one 6 (by kernel_rfl) (y_op0 6 tab_ok rfl rfl rfl ?_)
        refine And.intro rfl (And.intro rfl (And.intro (x_cells4 hz.r (i := 0) rfl) (And.intro (.inl (by kernel_rfl)) ?_)))
        refine y_one 7 (by kernel_rfl) (y_op0 7 tab_ok rfl rfl rfl ?_)
        refine And.intro rfl (And.intro rfl (And.intro (x_cells4 hz2.r (i := 1) rfl) (And.intro (.inl (by kernel_rfl)) ?_)))
        exact y_endx (_, _, .slice an1 next.length cn1, .slice ae1 fin.length ce1, .slice an2 next.length cn2, .slice ae2 fin.length ce2) (by kernel_rfl) ⟨rfl, rfl, rfl, trivial⟩ ⟨hz2.xput4 (i := 1) rfl _ _ _ _, m1, m2⟩
    · have hy2 := hy1.alloc (hy1.size) (.cells #[Vi 0, Vi 0, .slice none 0 0, .slice none 0 0] 25)
      refine And.intro (.inr hy2) ?_
      have hs2 := hs1.box (T := 25) (k := 4) #[Vi 0, Vi 0, .slice none 0 0, .slice none 0 0] rfl
      replace m1 := m1.below (below_alloc _ (.cells #[Vi 0, Vi 0, .slice none 0 0, .slice none 0 0] 25))
      refine y_two 3 5 (by kernel_rfl) (y_op 3 tab_ok rfl rfl rfl rfl ?_) (y_op 5 tab_ok rfl rfl rfl rfl ?_)
      · refine And.intro en_Copy ((hcp _ hs2.b).mono ?_)
        rintro e u3 ⟨vn2, ve2, rfl, m2, k3⟩
        refine ⟨_, rfl, ?_⟩
        have hy3 := below_trans hy2 k3
        refine And.intro (.inr hy3) ?_
        have hs3 := hs2.below k3
        replace m1 := m1.below k3
        replace m2 := m2.mono hs2.s
        refine y_one 5 (by kernel_rfl) (y_op 5 tab_ok rfl rfl rfl rfl ?_)
        have hy4 := hy3.alloc (hy3.size) (.cells #[Vi 0, Vi 0, .slice none 0 0, .slice none 0 0] 25)
        refine And.intro (.inr hy4) ?_
        have hs4 := hs3.box (T := 25) (k := 4) #[Vi 0, Vi 0, .slice none 0 0, .slice none 0 0] rfl
        replace m1 := m1.below (below_alloc _ (.cells #[Vi 0, Vi 0, .slice none 0 0, .slice none 0 0] 25))
        replace m2 := m2.below (below_alloc _ (.cells #[Vi 0, Vi 0, .slice none 0 0, .slice none 0 0] 25))
        have hz := hs4.perm (.swap _ _ _)
        obtain ⟨an1, cn1, hv1⟩ := own_sl m1
        obtain ⟨an2, cn2, hv2⟩ := own_sl m2
        obtain ⟨ae1, ce1, hw1⟩ := own_se m1
        obtain ⟨ae2, ce2, hw2⟩ := own_se m2
        subst hv1 hv2 hw1 hw2
        have oA := own_ownB (hz.r.1 0 _ rfl)
        have m1 := m1.put oA [Vi Ln, Vi s, .slice an1 next.length cn1, .slice ae1 fin.length ce1]
        have m2 := m2.put oA [Vi Ln, Vi s, .slice an1 next.length cn1, .slice ae1 fin.length ce1]
        have hz2 := hz.xput4 (i := 0) rfl (Vi Ln) (Vi s) (.slice an1 next.length cn1) (.slice ae1 fin.length ce1)
        have oB := own_ownB (hz2.r.1 1 _ rfl)
        have m1 := m1.put oB [Vi Ln, Vi s, .slice an2 next.length cn2, .slice ae2 fin.length ce2]
        have m2 := m2.put oB [Vi Ln, Vi s, .slice an2 next.length cn2, .slice ae2 fin.length ce2]
        refine y_one 6 (by kernel_rfl) (y_op0 6 tab_ok rfl rfl rfl ?_)
        refine And.intro rfl (And.intro rfl (And.intro (x_cells4 hz.r (i := 0) rfl) (And.intro (.inl (by kernel_rfl)) ?_)))
        refine y_one 7 (by kernel_rfl) (y_op0 7 tab_ok rfl rfl rfl ?_)
        refine And.intro rfl (And.intro rfl (And.intro (x_cells4 hz2.r (i := 1) rfl) (And.intro (.inl (by kernel_rfl)) ?_)))
        exact y_endx (_, _, .slice an1 next.length cn1, .slice ae1 fin.length ce1, .slice an2 next.length cn2, .slice ae2 fin.length ce2) (by kernel_rfl) ⟨rfl, rfl, rfl, trivial⟩ ⟨hz2.xput4 (i := 1) rfl _ _ _ _, m1, m2⟩
      · have hy3 := hy2.alloc (hy2.size) (.cells #[Vi 0, Vi 0, .slice none 0 0, .slice none 0 0] 25)
        refine And.intro (.inr hy3) ?_
        have hs3 := hs2.box (T := 25) (k := 4) #[Vi 0, Vi 0, .slice none 0 0, .slice none 0 0] rfl
        replace m1 := m1.below (below_alloc _ (.cells #[Vi 0, Vi 0, .slice none 0 0, .slice none 0 0] 25))
        refine y_one 3 (by kernel_rfl) (y_op 3 tab_ok rfl rfl rfl rfl ?_)
        refine And.intro en_Copy ((hcp _ hs3.b).mono ?_)
        rintro e u4 ⟨vn2, ve2, rfl, m2, k4⟩
        refine ⟨_, rfl, ?_⟩
        have hy4 := below_trans hy3 k4
        refine And.intro (.inr hy4) ?_
        have hs4 := hs3.below k4
        replace m1 := m1.below k4
        replace m2 := m2.mono hs3.s
        have hz := hs4.perm (.swap _ _ _)
        obtain ⟨an1, cn1, hv1⟩ := own_sl m1
        obtain ⟨an2, cn2, hv2⟩ := own_sl m2
        obtain ⟨ae1, ce1, hw1⟩ := own_se m1
        obtain ⟨ae2, ce2, hw2⟩ := own_se m2
        subst hv1 hv2 hw1 hw2
        have oA := own_ownB (hz.r.1 0 _ rfl)
        have m1 := m1.put oA [Vi Ln, Vi s, .slice an1 next.length cn1, .slice ae1 fin.length ce1]
        have m2 := m2.put oA [Vi Ln, Vi s, .slice an1 next.length cn1, .slice ae1 fin.length ce1]
        have hz2 := hz.xput4 (i := 0) rfl (Vi Ln) (Vi s) (.slice an1 next.length cn1) (.slice ae1 fin.length ce1)
        have oB := own_ownB (hz2.r.1 1 _ rfl)
        have m1 := m1.put oB [Vi Ln, Vi s, .slice an2 next.length cn2, .slice ae2 fin.length ce2]
        have m2 := m2.put oB [Vi Ln, Vi s, .slice an2 next.length cn2, .slice ae2 fin.length ce2]
        refine y_one 6 (by kernel_rfl) (y_op0 6 tab_ok rfl rfl rfl ?_)
        refine And.intro rfl (And.intro rfl (And.intro (x_cells4 hz.r (i := 0) rfl) (And.intro (.inl (by kernel_rfl)) ?_)))
        refine y_one 7 (by kernel_rfl) (y_op0 7 tab_ok rfl rfl rfl ?_)
        refine And.intro rfl (And.intro rfl (And.intro (x_cells4 hz2.r (i := 1) rfl) (And.intro (.inl (by kernel_rfl)) ?_)))
        exact y_endx (_, _, .slice an1 next.length cn1, .slice ae1 fin.length ce1, .slice an2 next.length cn2, .slice ae2 fin.length ce2) (by kernel_rfl) ⟨rfl, rfl, rfl, trivial⟩ ⟨hz2.xput4 (i := 1) rfl _ _ _ _, m1, m2⟩
    · have hy2 := hy1.alloc (hy1.size) (.cells #[Vi 0, Vi 0, .slice none 0 0, .slice none 0 0] 25)
      refine And.intro (.inr hy2) ?_
      have hs2 := hs1.box (T := 25) (k := 4) #[Vi 0, Vi 0, .slice none 0 0, .slice none 0 0] rfl
      replace m1 := m1.below (below_alloc _ (.cells #[Vi 0, Vi 0, .slice none 0 0, .slice none 0 0] 25))
      refine y_two 3 4 (by kernel_rfl) (y_op 3 tab_ok rfl rfl rfl rfl ?_) (y_op 4 tab_ok rfl rfl rfl rfl ?_)
      · refine And.intro en_Copy ((hcp _ hs2.b).mono ?_)
        rintro e u3 ⟨vn2, ve2, rfl, m2, k3⟩
        refine ⟨_, rfl, ?_⟩
        have hy3 := below_trans hy2 k3
        refine And.intro (.inr hy3) ?_
        have hs3 := hs2.below k3
        replace m1 := m1.below k3
        replace m2 := m2.mono hs2.s
        refine y_one 4 (by kernel_rfl) (y_op 4 tab_ok rfl rfl rfl rfl ?_)
        have hy4 := hy3.alloc (hy3.size) (.cells #[Vi 0, Vi 0, .slice none 0 0, .slice none 0 0] 25)
        refine And.intro (.inr hy4) ?_
        have hs4 := hs3.box (T := 25) (k := 4) #[Vi 0, Vi 0, .slice none 0 0, .slice none 0 0] rfl
        replace m1 := m1.below (below_alloc _ (.cells #[Vi 0, Vi 0, .slice none 0 0, .slice none 0 0] 25))
        replace m2 := m2.below (below_alloc _ (.cells #[Vi 0, Vi 0, .slice none 0 0, .slice none 0 0] 25))
        have hz := hs4
        obtain ⟨an1, cn1, hv1⟩ := own_sl m1
        obtain ⟨an2, cn2, hv2⟩ := own_sl m2
        obtain ⟨ae1, ce1, hw1⟩ := own_se m1
        obtain ⟨ae2, ce2, hw2⟩ := own_se m2
        subst hv1 hv2 hw1 hw2
        have oA := own_ownB (hz.r.1 0 _ rfl)
        have m1 := m1.put oA [Vi Ln, Vi s, .slice an1 next.length cn1, .slice ae1 fin.length ce1]
        have m2 := m2.put oA [Vi Ln, Vi s, .slice an1 next.length cn1, .slice ae1 fin.length ce1]
        have hz2 := hz.xput4 (i := 0) rfl (Vi Ln) (Vi s) (.slice an1 next.length cn1) (.slice ae1 fin.length ce1)
        have oB := own_ownB (hz2.r.1 1 _ rfl)
        have m1 := m1.put oB [Vi Ln, Vi s, .slice an2 next.length cn2, .slice ae2 fin.length ce2]
        have m2 := m2.put oB [Vi Ln, Vi s, .slice an2 next.length cn2, .slice ae2 fin.length ce2]
        refine y_one 6 (by kernel_rfl) (y_op0 6 tab_ok rfl rfl rfl ?_)
        refine And.intro rfl (And.intro rfl (And.intro (x_cells4 hz.r (i := 0) rfl) (And.intro (.inl (by kernel_rfl)) ?_)))
        refine y_one 7 (by kernel_rfl) (y_op0 7 tab_ok rfl rfl rfl ?_)
        refine And.intro rfl (And.intro rfl (And.intro (x_cells4 hz2.r (i := 1) rfl) (And.intro (.inl (by kernel_rfl)) ?_)))
        exact y_endx (_, _, .slice an1 next.length cn1, .slice ae1 fin.length ce1, .slice an2 next.length cn2, .slice ae2 fin.length ce2) (by kernel_rfl) ⟨rfl, rfl, rfl, trivial⟩ ⟨hz2.xput4 (i := 1) rfl _ _ _ _, m1, m2⟩
      · have hy3 := hy2.alloc (hy2.size) (.cells #[Vi 0, Vi 0, .slice none 0 0, .slice none 0 0] 25)
        refine And.intro (.inr hy3) ?_
        have hs3 := hs2.box (T := 25) (k := 4) #[Vi 0, Vi 0, .slice none 0 0, .slice none 0 0] rfl
        replace m1 := m1.below (below_alloc _ (.cells #[Vi 0, Vi 0, .slice none 0 0, .slice none 0 0] 25))
        refine y_one 3 (by kernel_rfl) (y_op 3 tab_ok rfl rfl rfl rfl ?_)
        refine And.intro en_Copy ((hcp _ hs3.b).mono ?_)
        rintro e u4 ⟨vn2, ve2, rfl, m2, k4⟩
        refine ⟨_, rfl, ?_⟩
        have hy4 := below_trans hy3 k4
        refine And.intro (.inr hy4) ?_
        have hs4 := hs3.below k4
        replace m1 := m1.below k4
        replace m2 := m2.mono hs3.s
        have hz := hs4
        obtain ⟨an1, cn1, hv1⟩ := own_sl m1
        obtain ⟨an2, cn2, hv2⟩ := own_sl m2
        obtain ⟨ae1, ce1, hw1⟩ := own_se m1
        obtain ⟨ae2, ce2, hw2⟩ := own_se m2
        subst hv1 hv2 hw1 hw2
        have oA := own_ownB (hz.r.1 0 _ rfl)
        have m1 := m1.put oA [Vi Ln, Vi s, .slice an1 next.length cn1, .slice ae1 fin.length ce1]
        have m2 := m2.put oA [Vi Ln, Vi s, .slice an1 next.length cn1, .slice ae1 fin.length ce1]
        have hz2 := hz.xput4 (i := 0) rfl (Vi Ln) (Vi s) (.slice an1 next.length cn1) (.slice ae1 fin.length ce1)
        have oB := own_ownB (hz2.r.1 1 _ rfl)
        have m1 := m1.put oB [Vi Ln, Vi s, .slice an2 next.length cn2, .slice ae2 fin.length ce2]
        have m2 := m2.put oB [Vi Ln, Vi s, .slice an2 next.length cn2, .slice ae2 fin.length ce2]
        refine y_one 6 (by kernel_rfl) (y_op0 6 tab_ok rfl rfl rfl ?_)
        refine And.intro rfl (And.intro rfl (And.intro (x_cells4 hz.r (i := 0) rfl) (And.intro (.inl (by kernel_rfl)) ?_)))
        refine y_one 7 (by kernel_rfl) (y_op0 7 tab_ok rfl rfl rfl ?_)
        refine And.intro rfl (And.intro rfl (And.intro (x_cells4 hz2.r (i := 1) rfl) (And.intro (.inl (by kernel_rfl)) ?_)))
        exact y_endx (_, _, .slice an1 next.length cn1, .slice ae1 fin.length ce1, .slice an2 next.length cn2, .slice ae2 fin.length ce2) (by kernel_rfl) ⟨rfl, rfl, rfl, trivial⟩ ⟨hz2.xput4 (i := 1) rfl _ _ _ _, m1, m2⟩
  · have hy1 := hy0.alloc (Nat.le_refl _) (.cells #[Vi 0, Vi 0, .slice none 0 0, .slice none 0 0] 25)
    refine And.intro (.inr hy1) ?_
    have hs1 := hs0.box (T := 25) (k := 4) #[Vi 0, Vi 0, .slice none 0 0, .slice none 0 0] rfl
    refine y_two 1 5 (by kernel_rfl) (y_op 1 tab_ok rfl rfl rfl rfl ?_) (y_op 5 tab_ok rfl rfl rfl rfl ?_)
    · refine And.intro en_Copy ((hcp _ hs1.b).mono ?_)
      rintro e u2 ⟨vn1, ve1, rfl, m1, k2⟩
      refine ⟨_, rfl, ?_⟩
      have hy2 := below_trans hy1 k2
      refine And.intro (.inr hy2) ?_
      have hs2 := hs1.below k2
      replace m1 := m1.mono hs1.s
      refine y_two 3 5 (by kernel_rfl) (y_op 3 tab_ok rfl rfl rfl rfl ?_) (y_op 5 tab_ok rfl rfl rfl rfl ?_)
      · refine And.intro en_Copy ((hcp _ hs2.b).mono ?_)
        rintro e u3 ⟨vn2, ve2, rfl, m2, k3⟩
        refine ⟨_, rfl, ?_⟩
        have hy3 := below_trans hy2 k3
        refine And.intro (.inr hy3) ?_
        have hs3 := hs2.below k3
        replace m1 := m1.below k3
        replace m2 := m2.mono hs2.s
        refine y_one 5 (by kernel_rfl) (y_op 5 tab_ok rfl rfl rfl rfl ?_)
        have hy4 := hy3.alloc (hy3.size) (.cells #[Vi 0, Vi 0, .slice none 0 0, .slice none 0 0] 25)
        refine And.intro (.inr hy4) ?_
        have hs4 := hs3.box (T := 25) (k := 4) #[Vi 0, Vi 0, .slice none 0 0, .slice none 0 0] rfl
        replace m1 := m1.below (below_alloc _ (.cells #[Vi 0, Vi 0, .slice none 0 0, .slice none 0 0] 25))
        replace m2 := m2.below (below_alloc _ (.cells #[Vi 0, Vi 0, .slice none 0 0, .slice none 0 0] 25))
        have hz := hs4.perm (.swap _ _ _)
        obtain ⟨an1, cn1, hv1⟩ := own_sl m1
        obtain ⟨an2, cn2, hv2⟩ := own_sl m2
        obtain ⟨ae1, ce1, hw1⟩ := own_se m1
        obtain ⟨ae2, ce2, hw2⟩ := own_se m2
        subst hv1 hv2 hw1 hw2
        have oA := own_ownB (hz.r.1 0 _ rfl)
        have m1 := m1.put oA [Vi Ln, Vi s, .slice an1 next.length cn1, .slice ae1 fin.length ce1]
        have m2 := m2.put oA [Vi Ln, Vi s, .slice an1 next.length cn1, .slice ae1 fin.length ce1]
        have hz2 := hz.xput4 (i := 0) rfl (Vi Ln) (Vi s) (.slice an1 next.length cn1) (.slice ae1 fin.length ce1)
        have oB := own_ownB (hz2.r.1 1 _ rfl)
        have m1 := m1.put oB [Vi Ln, Vi s, .slice an2 next.length cn2, .slice ae2 fin.length ce2]
        have m2 := m2.put oB [Vi Ln, Vi s, .slice an2 next.length cn2, .slice ae2 fin.length ce2]
        refine y_one 6 (by kernel_rfl) (y_op0 6 tab_ok rfl rfl rfl ?_)
        refine And.intro rfl (And.intro rfl (And.intro (x_cells4 hz.r (i := 0) rfl) (And.intro (.inl (by kernel_rfl)) ?_)))
        refine y_one 7 (by kernel_rfl) (y_op0 7 tab_ok rfl rfl rfl ?_)
        refine And.intro rfl (And.intro rfl (And.intro (x_cells4 hz2.r (i := 1) rfl) (And.intro (.inl (by kernel_rfl)) ?_)))
        exact y_endx (_, _, .slice an1 next.length cn1, .slice ae1 fin.length ce1, .slice an2 next.length cn2, .slice ae2 fin.length ce2) (by kernel_rfl) ⟨rfl, rfl, rfl, trivial⟩ ⟨hz2.xput4 (i := 1) rfl _ _ _ _, m1, m2⟩
      · have hy3 := hy2.alloc (hy2.size) (.cells #[Vi 0, Vi 0, .slice none 0 0, .slice none 0 0] 25)
        refine And.intro (.inr hy3) ?_
        have hs3 := hs2.box (T := 25) (k := 4) #[Vi 0, Vi 0, .slice none 0 0, .slice none 0 0] rfl
        replace m1 := m1.below (below_alloc _ (.cells #[Vi 0, Vi 0, .slice none 0 0, .slice none 0 0] 25))
        refine y_one 3 (by kernel_rfl) (y_op 3 tab_ok rfl rfl rfl rfl ?_)
        refine And.intro en_Copy ((hcp _ hs3.b).mono ?_)
        rintro e u4 ⟨vn2, ve2, rfl, m2, k4⟩
        refine ⟨_, rfl, ?_⟩
        have hy4 := below_trans hy3 k4
        refine And.intro (.inr hy4) ?_
        have hs4 := hs3.below k4
        replace m1 := m1.below k4
        replace m2 := m2.mono hs3.s
        have hz := hs4.perm (.swap _ _ _)
        obtain ⟨an1, cn1, hv1⟩ := own_sl m1
        obtain ⟨an2, cn2, hv2⟩ := own_sl m2
        obtain ⟨ae1, ce1, hw1⟩ := own_se m1
        obtain ⟨ae2, ce2, hw2⟩ := own_se m2
        subst hv1 hv2 hw1 hw2
        have oA := own_ownB (hz.r.1 0 _ rfl)
        have m1 := m1.put oA [Vi Ln, Vi s, .slice an1 next.length cn1, .slice ae1 fin.length ce1]
        have m2 := m2.put oA [Vi Ln, Vi s, .slice an1 next.length cn1, .slice ae1 fin.length ce1]
        have hz2 := hz.xput4 (i := 0) rfl (Vi Ln) (Vi s) (.slice an1 next.length cn1) (.slice ae1 fin.length ce1)
        have oB := own_ownB (hz2.r.1 1 _ rfl)
        have m1 := m1.put oB [Vi Ln, Vi s, .slice an2 next.length cn2, .slice ae2 fin.length ce2]
        have m2 := m2.put oB [Vi Ln, Vi s, .slice an2 next.length cn2, .slice ae2 fin.length ce2]
        refine y_one 6 (by kernel_rfl) (y_op0 6 tab_ok rfl rfl rfl ?_)
        refine And.intro rfl (And.intro rfl (And.intro (x_cells4 hz.r (i := 0) rfl) (And.intro (.inl (by kernel_rfl)) ?_)))
        refine y_one 7 (by kernel_rfl) (y_op0 7 tab_ok rfl rfl rfl ?_)
        refine And.intro rfl (And.intro rfl (And.intro (x_cells4 hz2.r (i := 1) rfl) (And.intro (.inl (by kernel_rfl)) ?_)))
        exact y_endx (_, _, .slice an1 next.length cn1, .slice ae1 fin.length ce1, .slice an2 next.length cn2, .slice ae2 fin.length ce2) (by kernel_rfl) ⟨rfl, rfl, rfl, trivial⟩ ⟨hz2.xput4 (i := 1) rfl _ _ _ _, m1, m2⟩
    · have hy2 := hy1.alloc (hy1.size) (.cells #[Vi 0, Vi 0, .slice none 0 0, .slice none 0 0] 25)
      refine And.intro (.inr hy2) ?_
      have hs2 := hs1.box (T := 25) (k := 4) #[Vi 0, Vi 0, .slice none 0 0, .slice none 0 0] rfl
      refine y_one 1 (by kernel_rfl) (y_op 1 tab_ok rfl rfl rfl rfl ?_)
      refine And.intro en_Copy ((hcp _ hs2.b).mono ?_)
      rintro e u3 ⟨vn1, ve1, rfl, m1, k3⟩
      refine ⟨_, rfl, ?_⟩
      have hy3 := below_trans hy2 k3
      refine And.intro (.inr hy3) ?_
      have hs3 := hs2.below k3
      replace m1 := m1.mono hs2.s
      refine y_one 3 (by kernel_rfl) (y_op 3 tab_ok rfl rfl rfl rfl ?_)
      refine And.intro en_Copy ((hcp _ hs3.b).mono ?_)
      rintro e u4 ⟨vn2, ve2, rfl, m2, k4⟩
      refine ⟨_, rfl, ?_⟩
      have hy4 := below_trans hy3 k4
      refine And.intro (.inr hy4) ?_
      have hs4 := hs3.below k4
      replace m1 := m1.below k4
      replace m2 := m2.mono hs3.s
      have hz := hs4.perm (.swap _ _ _)
      obtain ⟨an1, cn1, hv1⟩ := own_sl m1
      obtain ⟨an2, cn2, hv2⟩ := own_sl m2
      obtain ⟨ae1, ce1, hw1⟩ := own_se m1
      obtain ⟨ae2, ce2, hw2⟩ := own_se m2
      subst hv1 hv2 hw1 hw2
      have oA := own_ownB (hz.r.1 0 _ rfl)
      have m1 := m1.put oA [Vi Ln, Vi s, .slice an1 next.length cn1, .slice ae1 fin.length ce1]
      have m2 := m2.put oA [Vi Ln, Vi s, .slice an1 next.length cn1, .slice ae1 fin.length ce1]
      have hz2 := hz.xput4 (i := 0) rfl (Vi Ln) (Vi s) (.slice an1 next.length cn1) (.slice ae1 fin.length ce1)
      have oB := own_ownB (hz2.r.1 1 _ rfl)
      have m1 := m1.put oB [Vi Ln, Vi s, .slice an2 next.length cn2, .slice ae2 fin.length ce2]
      have m2 := m2.put oB [Vi Ln, Vi s, .slice an2 next.length cn2, .slice ae2 fin.length ce2]
      refine y_one 6 (by kernel_rfl) (y_op0 6 tab_ok rfl rfl rfl ?_)
      refine And.intro rfl (And.intro rfl (And.intro (x_cells4 hz.r (i := 0) rfl) (And.intro (.inl (by kernel_rfl)) ?_)))
      refine y_one 7 (by kernel_rfl) (y_op0 7 tab_ok rfl rfl rfl ?_)
      refine And.intro rfl (And.intro rfl (And.intro (x_cells4 hz2.r (i := 1) rfl) (And.intro (.inl (by kernel_rfl)) ?_)))
      exact y_endx (_, _, .slice an1 next.length cn1, .slice ae1 fin.length ce1, .slice an2 next.length cn2, .slice ae2 fin.length ce2) (by kernel_rfl) ⟨rfl, rfl, rfl, trivial⟩ ⟨hz2.xput4 (i := 1) rfl _ _ _ _, m1, m2⟩
  · have hy1 := hy0.alloc (Nat.le_refl _) (.cells #[Vi 0, Vi 0, .slice none 0 0, .slice none 0 0] 25)
    refine And.intro (.inr hy1) ?_
    have hs1 := hs0.box (T := 25) (k := 4) #[Vi 0, Vi 0, .slice none 0 0, .slice none 0 0] rfl
    refine y_two 1 4 (by kernel_rfl) (y_op 1 tab_ok rfl rfl rfl rfl ?_) (y_op 4 tab_ok rfl rfl rfl rfl ?_)
    · refine And.intro en_Copy ((hcp _ hs1.b).mono ?_)
      rintro e u2 ⟨vn1, ve1, rfl, m1, k2⟩
      refine ⟨_, rfl, ?_⟩
      have hy2 := below_trans hy1 k2
      refine And.intro (.inr hy2) ?_
      have hs2 := hs1.below k2
      replace m1 := m1.mono hs1.s
      refine y_two 3 4 (by kernel_rfl) (y_op 3 tab_ok rfl rfl rfl rfl ?_) (y_op 4 tab_ok rfl rfl rfl rfl ?_)
      · refine And.intro en_Copy ((hcp _ hs2.b).mono ?_)
        rintro e u3 ⟨vn2, ve2, rfl, m2, k3⟩
        refine ⟨_, rfl, ?_⟩
        have hy3 := below_trans hy2 k3
        refine And.intro (.inr hy3) ?_
        have hs3 := hs2.below k3
        replace m1 := m1.below k3
        replace m2 := m2.mono hs2.s
        refine y_one 4 (by kernel_rfl) (y_op 4 tab_ok rfl rfl rfl rfl ?_)
        have hy4 := hy3.alloc (hy3.size) (.cells #[Vi 0, Vi 0, .slice none 0 0, .slice none 0 0] 25)
        refine And.intro (.inr hy4) ?_
        have hs4 := hs3.box (T := 25) (k := 4) #[Vi 0, Vi 0, .slice none 0 0, .slice none 0 0] rfl
        replace m1 := m1.below (below_alloc _ (.cells #[Vi 0, Vi 0, .slice none 0 0, .slice none 0 0] 25))
        replace m2 := m2.below (below_alloc _ (.cells #[Vi 0, Vi 0, .slice none 0 0, .slice none 0 0] 25))
        have hz := hs4
        obtain ⟨an1, cn1, hv1⟩ := own_sl m1
        obtain ⟨an2, cn2, hv2⟩ := own_sl m2
        obtain ⟨ae1, ce1, hw1⟩ := own_se m1
        obtain ⟨ae2, ce2, hw2⟩ := own_se m2
        subst hv1 hv2 hw1 hw2
        have oA := own_ownB (hz.r.1 0 _ rfl)
        have m1 := m1.put oA [Vi Ln, Vi s, .slice an1 next.length cn1, .slice ae1 fin.length ce1]
        have m2 := m2.put oA [Vi Ln, Vi s, .slice an1 next.length cn1, .slice ae1 fin.length ce1]
        have hz2 := hz.xput4 (i := 0) rfl (Vi Ln) (Vi s) (.slice an1 next.length cn1) (.slice ae1 fin.length ce1)
        have oB := own_ownB (hz2.r.1 1 _ rfl)
        have m1 := m1.put oB [Vi Ln, Vi s, .slice an2 next.length cn2, .slice ae2 fin.length ce2]
        have m2 := m2.put oB [Vi Ln, Vi s, .slice an2 next.length cn2, .slice ae2 fin.length ce2]
        refine y_one 6 (by kernel_rfl) (y_op0 6 tab_ok rfl rfl rfl ?_)
        refine And.intro rfl (And.intro rfl (And.intro (x_cells4 hz.r (i := 0) rfl) (And.intro (.inl (by kernel_rfl)) ?_)))
        refine y_one 7 (by kernel_rfl) (y_op0 7 tab_ok rfl rfl rfl ?_)
        refine And.intro rfl (And.intro rfl (And.intro (x_cells4 hz2.r (i := 1) rfl) (And.intro (.inl (by kernel_rfl)) ?_)))
        exact y_endx (_, _, .slice an1 next.length cn1, .slice ae1 fin.length ce1, .slice an2 next.length cn2, .slice ae2 fin.length ce2) (by kernel_rfl) ⟨rfl, rfl, rfl, trivial⟩ ⟨hz2.xput4 (i := 1) rfl _ _ _ _, m1, m2⟩
      · have hy3 := hy2.alloc (hy2.size) (.cells #[Vi 0, Vi 0, .slice none 0 0, .slice none 0 0] 25)
        refine And.intro (.inr hy3) ?_
        have hs3 := hs2.box (T := 25) (k := 4) #[Vi 0, Vi 0, .slice none 0 0, .slice none 0 0] rfl
        replace m1 := m1.below (below_alloc _ (.cells #[Vi 0, Vi 0, .slice none 0 0, .slice none 0 0] 25))
        refine y_one 3 (by kernel_rfl) (y_op 3 tab_ok rfl rfl rfl rfl ?_)
        refine And.intro en_Copy ((hcp _ hs3.b).mono ?_)
        rintro e u4 ⟨vn2, ve2, rfl, m2, k4⟩
        refine ⟨_, rfl, ?_⟩
        have hy4 := below_trans hy3 k4
        refine And.intro (.inr hy4) ?_
        have hs4 := hs3.below k4
        replace m1 := m1.below k4
        replace m2 := m2.mono hs3.s
        have hz := hs4
        obtain ⟨an1, cn1, hv1⟩ := own_sl m1
        obtain ⟨an2, cn2, hv2⟩ := own_sl m2
        obtain ⟨ae1, ce1, hw1⟩ := own_se m1
        obtain ⟨ae2, ce2, hw2⟩ := own_se m2
        subst hv1 hv2 hw1 hw2
        have oA := own_ownB (hz.r.1 0 _ rfl)
        have m1 := m1.put oA [Vi Ln, Vi s, .slice an1 next.length cn1, .slice ae1 fin.length ce1]
        have m2 := m2.put oA [Vi Ln, Vi s, .slice an1 next.length cn1, .slice ae1 fin.length ce1]
        have hz2 := hz.xput4 (i := 0) rfl (Vi Ln) (Vi s) (.slice an1 next.length cn1) (.slice ae1 fin.length ce1)
        have oB := own_ownB (hz2.r.1 1 _ rfl)
        have m1 := m1.put oB [Vi Ln, Vi s, .slice an2 next.length cn2, .slice ae2 fin.length ce2]
        have m2 := m2.put oB [Vi Ln, Vi s, .slice an2 next.length cn2, .slice ae2 fin.length ce2]
        refine y_one 6 (by kernel_rfl) (y_op0 6 tab_ok rfl rfl rfl ?_)
        refine And.intro rfl (And.intro rfl (And.intro (x_cells4 hz.r (i := 0) rfl) (And.intro (.inl (by kernel_rfl)) ?_)))
        refine y_one 7 (by kernel_rfl) (y_op0 7 tab_ok rfl rfl rfl ?_)
        refine And.intro rfl (And.intro rfl (And.intro (x_cells4 hz2.r (i := 1) rfl) (And.intro (.inl (by kernel_rfl)) ?_)))
        exact y_endx (_, _, .slice an1 next.length cn1, .slice ae1 fin.length ce1, .slice an2 next.length cn2, .slice ae2 fin.length ce2) (by kernel_rfl) ⟨rfl, rfl, rfl, trivial⟩ ⟨hz2.xput4 (i := 1) rfl _ _ _ _, m1, m2⟩
    · have hy2 := hy1.alloc (hy1.size) (.cells #[Vi 0, Vi 0, .slice none 0 0, .slice none 0 0] 25)
      refine And.intro (.inr hy2) ?_
      have hs2 := hs1.box (T := 25) (k := 4) #[Vi 0, Vi 0, .slice none 0 0, .slice none 0 0] rfl
      refine y_one 1 (by kernel_rfl) (y_op 1 tab_ok rfl rfl rfl rfl ?_)
      refine And.intro en_Copy ((hcp _ hs2.b).mono ?_)
      rintro e u3 ⟨vn1, ve1, rfl, m1, k3⟩
      refine ⟨_, rfl, ?_⟩
      have hy3 := below_trans hy2 k3
      refine And.intro (.inr hy3) ?_
      have hs3 := hs2.below k3
      replace m1 := m1.mono hs2.s
      refine y_one 3 (by kernel_rfl) (y_op 3 tab_ok rfl rfl rfl rfl ?_)
      refine And.intro en_Copy ((hcp _ hs3.b).mono ?_)
      rintro e u4 ⟨vn2, ve2, rfl, m2, k4⟩
      refine ⟨_, rfl, ?_⟩
      have hy4 := below_trans hy3 k4
      refine And.intro (.inr hy4) ?_
      have hs4 := hs3.below k4
      replace m1 := m1.below k4
      replace m2 := m2.mono hs3.s
      have hz := hs4
      obtain ⟨an1, cn1, hv1⟩ := own_sl m1
      obtain ⟨an2, cn2, hv2⟩ := own_sl m2
      obtain ⟨ae1, ce1, hw1⟩ := own_se m1
      obtain ⟨ae2, ce2, hw2⟩ := own_se m2
      subst hv1 hv2 hw1 hw2
      have oA := own_ownB (hz.r.1 0 _ rfl)
      have m1 := m1.put oA [Vi Ln, Vi s, .slice an1 next.length cn1, .slice ae1 fin.length ce1]
      have m2 := m2.put oA [Vi Ln, Vi s, .slice an1 next.length cn1, .slice ae1 fin.length ce1]
      have hz2 := hz.xput4 (i := 0) rfl (Vi Ln) (Vi s) (.slice an1 next.length cn1) (.slice ae1 fin.length ce1)
      have oB := own_ownB (hz2.r.1 1 _ rfl)
      have m1 := m1.put oB [Vi Ln, Vi s, .slice an2 next.length cn2, .slice ae2 fin.length ce2]
      have m2 := m2.put oB [Vi Ln, Vi s, .slice an2 next.length cn2, .slice ae2 fin.length ce2]
      refine y_one 6 (by kernel_rfl) (y_op0 6 tab_ok rfl rfl rfl ?_)
      refine And.intro rfl (And.intro rfl (And.intro (x_cells4 hz.r (i := 0) rfl) (And.intro (.inl (by kernel_rfl)) ?_)))
      refine y_one 7 (by kernel_rfl) (y_op0 7 tab_ok rfl rfl rfl ?_)
      refine And.intro rfl (And.intro rfl (And.intro (x_cells4 hz2.r (i := 1) rfl) (And.intro (.inl (by kernel_rfl)) ?_)))
      exact y_endx (_, _, .slice an1 next.length cn1, .slice ae1 fin.length ce1, .slice an2 next.length cn2, .slice ae2 fin.length ce2) (by kernel_rfl) ⟨rfl, rfl, rfl, trivial⟩ ⟨hz2.xput4 (i := 1) rfl _ _ _ _, m1, m2⟩
theorem keeps_r12 {Ln bA bB bX bY bK i n ge ce : Nat} {s : Int} {vn : Value} {w : World} (ho : OwnB w bA 25 [Vi Ln, Vi s, vn, Vs ge n ce]) (hb : BoolB w ge n) (hi : i < n)
    {Q : Exit → Act → World → Prop} {a : Act} {ops : Array Oper} {id : Nat} (hops : Sym.regionOf Try.f11.body 12 = some (id, ops)) (hS : St Try.f11.ntmps a [(3, Vp bA), (4, Vp bB), (5, Vp bX), (7, Vp bY), (9, Vp bK), (10, Vi i)])
    (hq : ∀ (x : Bool) a' w', St Try.f11.ntmps a' [(3, Vp bA), (4, Vp bB), (5, Vp bX), (7, Vp bY), (9, Vp bK), (10, Vi i)] → w' = w.drew.setCell ⟨ge, 0 + i, none⟩ (.bool x) → Q .normal a' w') : (Code.region id ops true).wp Try.prog Q a w := by
  cases hops
  refine any_cutx (α := Bool) 10 (fun _ => [(3, Vp bA), (4, Vp bB), (5, Vp bX), (7, Vp bY), (9, Vp bK), (10, Vi i)]) (fun x w' => w' = w.drew.setCell ⟨ge, 0 + i, none⟩ (.bool x)) mixed hS ?_ hq
  have hy : RowKit.Below w.drew.heap.size w.drew w.drew := RowKit.Below.refl _ _
  have hd : RowKit.Below w.heap.size w w.drew := (RowKit.Below.refl _ _).drew
  have ho := ho.keep hd ho.lt
  have hb := hb.keep hd
  obtain ⟨x, hx⟩ := hb.cell0 hi
  refine yT 0 tab_ok rfl (by kernel_rfl) hy rfl (rfl) ?_
  refine yL 1 tab_ok rfl (by kernel_rfl) hy rfl rfl (ho.cell (i := 3) rfl) ?_
  refine yT 2 tab_ok rfl (by kernel_rfl) hy rfl (rfl) ?_
  refine yT 3 tab_ok rfl (by kernel_rfl) hy rfl (rfl) ?_
  refine yL 4 tab_ok rfl (by kernel_rfl) hy rfl rfl (ho.cell (i := 3) rfl) ?_
  refine yT 5 tab_ok rfl (by kernel_rfl) hy rfl (rfl) ?_
  refine yT 6 tab_ok rfl (by kernel_rfl) hy rfl (Exists.intro _ (And.intro (rfl) (And.intro (hi) rfl))) ?_
  refine yL 7 tab_ok rfl (by kernel_rfl) hy rfl rfl (hx) ?_
  refine yT 8 tab_ok rfl (by kernel_rfl) hy rfl (rfl) ?_
  refine yT 9 tab_ok rfl (by kernel_rfl) hy rfl (Exists.intro _ (And.intro (rfl) (And.intro (hi) rfl))) ?_
  refine y_one 10 (by kernel_rfl) (y_op0 10 tab_ok rfl rfl rfl ?_)
  refine And.intro rfl (And.intro rfl (And.intro ⟨_, hx⟩ (And.intro (hb.ty.free0 _) (And.intro (.inl (by kernel_rfl)) ?_))))
  exact y_endx _ (by kernel_rfl) ⟨rfl, rfl, rfl, rfl, rfl, rfl, trivial⟩ rfl
theorem keeps_r13 {Ln bA bB bX bY bK i n ge ce : Nat} {s : Int} {vn : Value} {w : World} (ho : OwnB w bB 25 [Vi Ln, Vi s, vn, Vs ge n ce]) (hb : BoolB w ge n) (hi : i < n)
    {Q : Exit → Act → World → Prop} {a : Act} {ops : Array Oper} {id : Nat} (hops : Sym.regionOf Try.f11.body 13 = some (id, ops)) (hS : St Try.f11.ntmps a [(3, Vp bA), (4, Vp bB), (5, Vp bX), (7, Vp bY), (9, Vp bK), (10, Vi i)])
    (hq : ∀ (x : Bool) a' w', St Try.f11.ntmps a' [(3, Vp bA), (4, Vp bB), (5, Vp bX), (7, Vp bY), (9, Vp bK), (10, Vi i)] → w' = w.drew.setCell ⟨ge, 0 + i, none⟩ (.bool x) → Q .normal a' w') : (Code.region id ops true).wp Try.prog Q a w := by
  cases hops
  refine any_cutx (α := Bool) 10 (fun _ => [(3, Vp bA), (4, Vp bB), (5, Vp bX), (7, Vp bY), (9, Vp bK), (10, Vi i)]) (fun x w' => w' = w.drew.setCell ⟨ge, 0 + i, none⟩ (.bool x)) mixed hS ?_ hq
  have hy : RowKit.Below w.drew.heap.size w.drew w.drew := RowKit.Below.refl _ _
  have hd : RowKit.Below w.heap.size w w.drew := (RowKit.Below.refl _ _).drew
  have ho := ho.keep hd ho.lt
  have hb := hb.keep hd
  obtain ⟨x, hx⟩ := hb.cell0 hi
  refine yT 0 tab_ok rfl (by kernel_rfl) hy rfl (rfl) ?_
  refine yL 1 tab_ok rfl (by kernel_rfl) hy rfl rfl (ho.cell (i := 3) rfl) ?_
  refine yT 2 tab_ok rfl (by kernel_rfl) hy rfl (rfl) ?_
  refine yT 3 tab_ok rfl (by kernel_rfl) hy rfl (rfl) ?_
  refine yL 4 tab_ok rfl (by kernel_rfl) hy rfl rfl (ho.cell (i := 3) rfl) ?_
  refine yT 5 tab_ok rfl (by kernel_rfl) hy rfl (rfl) ?_
  refine yT 6 tab_ok rfl (by kernel_rfl) hy rfl (Exists.intro _ (And.intro (rfl) (And.intro (hi) rfl))) ?_
  refine yL 7 tab_ok rfl (by kernel_rfl) hy rfl rfl (hx) ?_
  refine yT 8 tab_ok rfl (by kernel_rfl) hy rfl (rfl) ?_
  refine yT 9 tab_ok rfl (by kernel_rfl) hy rfl (Exists.intro _ (And.intro (rfl) (And.intro (hi) rfl))) ?_
  refine y_one 10 (by kernel_rfl) (y_op0 10 tab_ok rfl rfl rfl ?_)
  refine And.intro rfl (And.intro rfl (And.intro ⟨_, hx⟩ (And.intro (hb.ty.free0 _) (And.intro (.inl (by kernel_rfl)) ?_))))
  exact y_endx _ (by kernel_rfl) ⟨rfl, rfl, rfl, rfl, rfl, rfl, trivial⟩ rfl
end Go.Proofs.Ythcoppfiahnpoaa
namespace Go.Proofs.Ythcoppfiahnpoaa
open Go Sym
theorem aLeast_own (L s : Int) (vn ve : Value) (next : List (List Int)) (fin : List Bool) (w : World) (hm : Ma w L s next fin vn ve) (hv : validM L s next fin = 0) (h100 : next.length ≤ 100) :
    Calls Try.prog 20 #[.agg #[Vi L, Vi s, vn, ve]] w fun e w' => ∃ (s' : Int) (vn' ve' : Value) (n' : List (List Int)) (f' : List Bool), e = .returned (.tuple #[.agg #[Vi L, Vi s', vn', ve'], Vi 0]) ∧ I64 s' ∧ OwnM w.heap.size w' n' f' vn' ve' ∧ RowKit.Below w.heap.size w w' ∧ Canon L s' n' f' ∧ Alike L.toNat n' f' s' next fin s := by
  refine Sym.enter (args := [.agg #[Vi L, Vi s, vn, ve]]) Try.func20 rfl rfl rfl (fun a0 hS0 => ?_)
  refine wp_seq (seq_cutx (α := Nat × Nat) (fun x => [(1, Vp x.1), (2, Vp x.2)]) (fun x w' => Hold w.heap.size w w' [oX 25 x.2 4 [Vi 0, Vi 0, .slice none 0 0, .slice none 0 0], oX 25 x.1 4 [Vi L, Vi s, vn, ve]]) tab_ok hS0 ?_ (fun x a w1 hS h => ?_))
  · refine zB rfl ?_
    refine zB rfl ?_
    repeat first|refine zP rfl ?_|refine zK rfl ?_
    exact o_nil ⟨(_, _), ⟨rfl, rfl, trivial⟩, ((Hold.start w).box (T := 25) (k := 4) #[Vi L, Vi s, vn, ve] rfl).box (T := 25) (k := 4) #[Vi 0, Vi 0, .slice none 0 0, .slice none 0 0] rfl⟩
  obtain ⟨M, R⟩ := x
  dsimp only at hS h
  clear hS0
  refine wp_seq (wp_seq (seq_cut [(1, Vp M), (2, Vp R), (6, .bool false)] (fun w' => RowKit.Below w1.heap.size w1 w') tab_ok hS ?_ (fun a w2 hS hw => ?_)))
  · refine zA ([Vi L, Vi s, vn, ve]) rfl rfl (Jn.x4 h.r (i := 1) rfl) ?_
    refine zF rfl (en_aValid) (aValid_any L s vn ve next fin w1 (hm.keep h.b)) ?_
    rintro e w3 ⟨rfl, h3⟩
    refine ⟨_, rfl, ?_⟩
    rw [hv]
    refine zC rfl (decide_eq_false (by decide)) ?_
    repeat first|refine zP rfl ?_|refine zK rfl ?_
    exact o_nil ⟨⟨rfl, rfl, rfl, trivial⟩, h3⟩
  replace h := h.below hw
  clear hw
  refine cond hS rfl (fun hT => by cases hT) (fun _ => wp_skip ?_)
  refine wp_seq (seq_cutx (α := (Int × Value × Value × List Value × List (List Int) × List Bool) × List Ow) (fun _ => [(2, Vp R), (3, Vi 0)]) (fun v w' => I64 v.1.1 ∧ v.1.2.2.2.1.length = v.1.2.2.2.2.1.length ∧ (∀ l ∈ v.1.2.2.2.2.1, ∀ x ∈ l, I64 x) ∧ Canon L v.1.1 v.1.2.2.2.2.1 v.1.2.2.2.2.2 ∧ Alike L.toNat v.1.2.2.2.2.1 v.1.2.2.2.2.2 v.1.1 next fin s ∧ Hold w.heap.size w w' ((oX 25 R 4 [Vi L, Vi v.1.1, v.1.2.1, v.1.2.2.1] :: v.2) ++ (oB v.1.2.2.1 v.1.2.2.2.2.2 :: nextR v.1.2.1 v.1.2.2.2.1 v.1.2.2.2.2.1))) tab_ok hS ?_ (fun v a w3 hS hw => ?_))
  · refine zA ([Vi L, Vi s, vn, ve]) rfl rfl (Jn.x4 h.r (i := 1) rfl) ?_
    refine zF rfl (en_aleast) (aleast_any L s vn ve next fin w2 (hm.keep h.b) hv (by omega)) ?_
    rintro e w3 ⟨s', vn', ve', vs, n', f', rfl, hs', hvs, hI64, hH, hcan, hal⟩
    refine ⟨_, rfl, ?_⟩
    obtain ⟨ge, ce, rfl, -⟩ := hH.r.any (i := 0) rfl
    obtain ⟨gn, cn, hvn, -⟩ := hH.r.any (i := 1) (v := vn') (e := 26) (s := 1) (n := vs.length) (xs := vs) rfl
    subst hvn
    rw [List.append_nil] at hH
    have h9 := (h.join hH).perm List.perm_append_comm
    repeat first|refine zP rfl ?_|refine zK rfl ?_
    refine o_step0 rfl rfl (And.intro rfl (And.intro rfl (And.intro (x_cells4 h9.r (i := 0) rfl) ?_)))
    repeat first|refine zP rfl ?_|refine zK rfl ?_
    exact o_nil ⟨((s', .slice gn vs.length cn, .slice ge f'.length ce, vs, n', f'), _), ⟨rfl, rfl, trivial⟩, hs', hvs, hI64, hcan, hal, h9.xput4 (i := 0) rfl _ _ _ _⟩
  obtain ⟨⟨s', vn', ve', vs, n', f'⟩, rs⟩ := v
  simp only at hw
  obtain ⟨hs', hvs, hI64, hcan, hal, h⟩ := hw
  refine wp_ret ?_
  repeat (first | refine then_ret ?_ | refine block_ret ?_)
  exact retc2 tab_ok hS rfl rfl rfl rfl rfl (o := 0) (vs := [Vi L, Vi s', vn', ve']) (Jn.x4 h.r (i := 0) rfl) rfl ⟨s', vn', ve', n', f', rfl, hs', hold_ownM h.drop hvs hI64, h.b, hcan, hal⟩
theorem Soft.e' {base top n L : Nat} {w : World} {vn : Value} {ge ce : Nat} (h : Soft base top w n L vn (Vs ge n ce)) (h0 : 0 < n) : BoolB w ge n ∧ base ≤ ge ∧ ge < top := by
  obtain ⟨g, c, e, e2⟩ := h.e h0
  simp only [Value.slice.injEq, Option.some.injEq, Addr.mk.injEq, and_true, true_and] at e
  obtain ⟨rfl, rfl⟩ := e
  exact e2
theorem Soft.r' {base top n L : Nat} {w : World} {ve : Value} {gn cn : Nat} (h : Soft base top w n L (Vs gn n cn) ve) (h0 : 0 < n) {j : Nat} (hj : j < n) (hL : 0 < L) : ∃ g c, w.cell? ⟨gn, 0 + j, none⟩ = some (Vs g L c) ∧ TyB w g 3 L ∧ base ≤ g ∧ g < top := by
  obtain ⟨g, c, e, e2, e3⟩ := h.r h0
  simp only [Value.slice.injEq, Option.some.injEq, Addr.mk.injEq, and_true, true_and] at e
  obtain ⟨rfl, rfl⟩ := e
  exact e3 j hj hL
theorem Soft.forms {base top n L : Nat} {w : World} {vn ve : Value} (h : Soft base top w n L vn ve) (h0 : 0 < n) : (∃ g c, vn = Vs g n c) ∧ ∃ g c, ve = Vs g n c := by
  obtain ⟨g, c, e, -⟩ := h.r h0
  obtain ⟨g', c', e', -⟩ := h.e h0
  exact ⟨⟨g, c, e⟩, ⟨g', c', e'⟩⟩
theorem own_put {w : World} {L s : Int} {vn ve : Value} (w' : World) (hw : w' = (w.alloc (.cells #[Vi 0, Vi 0, .slice none 0 0, .slice none 0 0] 25)).setCells w.heap.size 0 [Vi L, Vi s, vn, ve]) : RowKit.Below w.heap.size w w' ∧ OwnB w' w.heap.size 25 [Vi L, Vi s, vn, ve] := by
  have hnew := OwnB.new w [Vi 0, Vi 0, .slice none 0 0, .slice none 0 0] 25
  have hg := grown_sets w.heap.size [Vi L, Vi s, vn, ve] 0 (w.alloc (.cells #[Vi 0, Vi 0, .slice none 0 0, .slice none 0 0] 25))
  have hb := below_of_grown (below_alloc w (.cells #[Vi 0, Vi 0, .slice none 0 0, .slice none 0 0] 25)) hg (fun q hq => by cases hq; exact Nat.le_refl _)
  rw [hw]
  exact ⟨hb, hnew.sets rfl⟩
set_option maxHeartbeats 8000000 in
theorem autoKeeps_any (C : AwakeC) (JE : Jn.JoinC false 33) (L s : Int) (vn ve : Value) (next : List (List Int)) (fin : List Bool) (w : World) (hi : MaIn w L s next fin vn ve) :
    Calls Try.prog 11 #[.agg #[Vi L, Vi s, vn, ve]] w fun e w' => e = .returned (.bool true) ∧ RowKit.Below w.heap.size w w' := by
  refine Sym.enter (args := [.agg #[Vi L, Vi s, vn, ve]]) Try.func11 rfl rfl rfl (fun a0 hS0 => ?_)
  refine wp_seq (seq_cutx (α := Nat) (fun M => [(1, Vp M)]) (fun M w' => Hold w.heap.size w w' [oX 25 M 4 [Vi L, Vi s, vn, ve]]) tab_ok hS0 ?_ (fun M a wc hS h => ?_))
  · refine zB rfl ?_
    repeat first|refine zP rfl ?_|refine zK rfl ?_
    exact o_nil ⟨_, ⟨rfl, trivial⟩, (Hold.start w).box (T := 25) (k := 4) #[Vi L, Vi s, vn, ve] rfl⟩
  clear hS0
  obtain ⟨b26, hb26⟩ : ∃ b, (!smallM L next fin || decide (validM L s next fin ≠ 0)) = b := ⟨_, rfl⟩
  refine wp_seq (wp_seq (seq_cut [(1, Vp M), (21, .bool b26)] (fun w' => RowKit.Below wc.heap.size wc w') tab_ok hS ?_ (fun a w1 hS hK => ?_)))
  · refine zA ([Vi L, Vi s, vn, ve]) rfl rfl (Jn.x4 h.r (i := 0) rfl) ?_
    refine zF rfl (en_small') (small_any L s vn ve next fin _ (hi.ma.keep h.b)) ?_
    rintro e w1 ⟨rfl, h1⟩
    refine ⟨_, rfl, ?_⟩
    cases e1 : !smallM L next fin
    case true =>
      rw [e1, Bool.true_or] at hb26; subst hb26
      refine zP rfl ?_
      rw [e1]
      repeat first|refine zP rfl ?_|refine zK rfl ?_
      exact o_nil ⟨⟨rfl, rfl, trivial⟩, h1⟩
    rw [e1, Bool.false_or] at hb26
    refine zP rfl ?_
    rw [e1]
    repeat first|refine zP rfl ?_|refine zK rfl ?_
    refine zA ([Vi L, Vi s, vn, ve]) rfl rfl (Jn.x4 (h.below h1).r (i := 0) rfl) ?_
    refine zF rfl (en_Valid) (valid_any L s vn ve next fin _ (hi.ma.keep (h.below h1).b)) ?_
    rintro e w2 ⟨rfl, h2⟩
    refine ⟨_, rfl, ?_⟩
    refine zC rfl (hb26) ?_
    repeat first|refine zP rfl ?_|refine zK rfl ?_
    exact o_nil ⟨⟨rfl, rfl, trivial⟩, below_trans h1 h2⟩
  replace h := h.below hK
  clear hK
  refine cond hS rfl (fun hT => ?_) (fun hF => wp_skip ?_)
  · refine wp_seq (seq_cut [(2, .bool true)] (fun w' => RowKit.Below w1.heap.size w1 w') tab_ok hS ?_ (fun a w2 hS hw => ?_))
    · refine zF rfl (en_awake) (awake_any C _) ?_
      rintro e w2 ⟨rfl, h2⟩
      refine ⟨_, rfl, ?_⟩
      repeat first|refine zP rfl ?_|refine zK rfl ?_
      exact o_nil ⟨⟨rfl, trivial⟩, h2⟩
    refine wp_ret ?_
    repeat (first | refine then_ret ?_ | refine block_ret ?_)
    exact ret1 hS rfl rfl ⟨rfl, below_trans h.b hw⟩
  rw [hF, Bool.or_eq_false_iff, Bool.not_eq_false', decide_eq_false_iff_not, ne_eq, Decidable.not_not] at hb26
  obtain ⟨hsm, hv⟩ := hb26
  obtain ⟨hn30, -, hL8⟩ := small_rows hsm
  obtain ⟨hs, -, -⟩ := shape_of_valid hv
  obtain ⟨Ln, rfl⟩ := Int.eq_ofNat_of_zero_le hs.L0
  have hLI := hi.ma.L
  have hsI := hi.ma.s
  have hrl : ∀ r ∈ next, r.length = Ln := fun r hr => by
    obtain ⟨j, hj, rfl⟩ := List.mem_iff_getElem.1 hr
    have := (hs.rows j hj).1
    omega
  refine wp_seq (keeps_r3 h (fun u hu => hi.copy hu) (by rfl) (hS.sub ⟨rfl, trivial⟩) ?_)
  rintro ⟨bA, bB, vna, vea, vnb, veb⟩ a w2 hS ⟨h, ma, mb⟩
  dsimp only at hS h ma mb
  obtain ⟨t, ht⟩ : ∃ t, t = w2.heap.size := ⟨_, rfl⟩
  have sa := ma.soft hs.fin hrl
  have sb := mb.soft hs.fin hrl
  rw [← ht] at sa sb
  have hk : KL w t Ln w2 [(bA, [Vi Ln, Vi s, vna, vea]), (bB, [Vi Ln, Vi s, vnb, veb]), (M, [Vi Ln, Vi s, vn, ve])] [(t, next.length, vna, vea), (t, next.length, vnb, veb)] [] :=
    (((((⟨h.b, fun i x hx => by simp at hx, fun i x hx => by simp at hx, fun i x hx => by simp at hx⟩ : KL w t Ln w2 [] [] []).addO (own_ownB (h.r.1 0 _ rfl))).addO (own_ownB (h.r.1 1 _ rfl))).addO (own_ownB (h.r.1 2 _ rfl))).addS sa).addS sb
  have hva := own_sl ma
  have mA := ma.ma hLI hsI
  have mB := mb.ma hLI hsI
  clear ma mb sa sb h
  have hmb : ∀ {u}, RowKit.Below w.heap.size w u → Ma u Ln s next fin vn ve := fun hu => hi.ma.keep hu
  refine wp_seq (seq_cutx (α := Nat × Int × (Value × Value) × List (List Int) × List Bool) (fun x => [(1, Vp M), (3, Vp bA), (4, Vp bB), (5, Vp x.1), (6, Vi 0)]) (fun x w' => RowKit.Below w2.heap.size w2 w' ∧ OwnB w' x.1 25 [Vi Ln, Vi x.2.1, x.2.2.1.1, x.2.2.1.2] ∧ OwnM t w' x.2.2.2.1 x.2.2.2.2 x.2.2.1.1 x.2.2.1.2 ∧ I64 x.2.1 ∧ Canon Ln x.2.1 x.2.2.2.1 x.2.2.2.2 ∧ Alike Ln x.2.2.2.1 x.2.2.2.2 x.2.1 next fin s) tab_ok hS ?_ (fun x a w3 hS h3 => ?_))
  · have oA := hk.o 0 _ rfl
    refine zA ([Vi Ln, Vi s, vna, vea]) rfl rfl (⟨oA.cell (i := 0) rfl, oA.cell (i := 1) rfl, oA.cell (i := 2) rfl, oA.cell (i := 3) rfl, trivial⟩) ?_
    refine zF rfl (en_aLeast) (aLeast_own Ln s vna vea next fin w2 mA hv (by omega)) ?_
    rintro e w3 ⟨s', vn', ve', n', f', rfl, hs', hO, hB, hcan, hal⟩
    refine ⟨_, rfl, ?_⟩
    obtain ⟨an, cn, hvn⟩ := own_sl hO
    obtain ⟨ae, ce, hve⟩ := own_se hO
    subst hvn hve
    repeat first|refine zP rfl ?_|refine zK rfl ?_
    refine zB rfl ?_
    refine o_step0 rfl rfl (And.intro rfl (And.intro rfl (And.intro (own_cells4 (OwnB.new w3 [Vi 0, Vi 0, .slice none 0 0, .slice none 0 0] 25)) ?_)))
    have hp := own_put (w := w3) (L := (Ln : Int)) (s := s') (vn := .slice an n'.length cn) (ve := .slice ae f'.length ce) _ rfl
    repeat first|refine zP rfl ?_|refine zK rfl ?_
    exact o_nil ⟨(w3.heap.size, s', (.slice an n'.length cn, .slice ae f'.length ce), n', f'), ⟨rfl, rfl, rfl, rfl, rfl, trivial⟩, below_trans hB hp.1, hp.2, (by rw [ht]; exact hO.below hp.1), hs', hcan, hal⟩
  obtain ⟨bX, sx, ⟨vnx, vex⟩, nx, fx⟩ := x
  obtain ⟨hw, oX, mX, hsx, cX, aX⟩ := h3
  dsimp only at hS oX mX hsx cX aX
  have hvx := own_sl mX
  have hxfew := canon_few hs cX aX
  have hxrl : ∀ r ∈ nx, r.length = Ln := fun r hr => by
    obtain ⟨j, hj, rfl⟩ := List.mem_iff_getElem.1 hr
    have := (cX.shape.rows j hj).1
    omega
  have hwt : w.heap.size ≤ t := by rw [ht]; exact hk.b.size
  obtain ⟨tx, htx⟩ : ∃ tx, tx = w3.heap.size := ⟨_, rfl⟩
  have httx : t ≤ tx := by rw [ht, htx]; exact hw.size
  have sX := (mX.mono hwt).soft cX.shape.fin hxrl
  rw [← htx] at sX
  replace hk := (((hk.below hw).addO oX).addS sX).addM (Nat.le_refl t) mX
  replace mA := mA.keep hw
  replace mB := mB.keep hw
  clear hw sX
  refine wp_seq (seq_cutx (α := Nat × Value × Value) (fun x => [(1, Vp M), (3, Vp bA), (4, Vp bB), (5, Vp bX), (6, Vi 0), (7, Vp x.1), (8, Vi 0)]) (fun x w' => RowKit.Below w3.heap.size w3 w' ∧ OwnB w' x.1 25 [Vi Ln, Vi sx, x.2.1, x.2.2] ∧ OwnM tx w' nx fx x.2.1 x.2.2) tab_ok hS ?_ (fun x a w4 hS h4 => ?_))
  · have oA := hk.o 0 _ rfl
    have oB := hk.o 1 _ rfl
    refine zA ([Vi Ln, Vi s, vna, vea]) rfl rfl (⟨oA.cell (i := 0) rfl, oA.cell (i := 1) rfl, oA.cell (i := 2) rfl, oA.cell (i := 3) rfl, trivial⟩) ?_
    refine zA ([Vi Ln, Vi s, vnb, veb]) rfl rfl (⟨oB.cell (i := 0) rfl, oB.cell (i := 1) rfl, oB.cell (i := 2) rfl, oB.cell (i := 3) rfl, trivial⟩) ?_
    refine zF rfl (Jn.en_aEither) (JE Ln s Ln s vna vea vnb veb next next fin fin w3 mA mB (by omega) (by omega)) ?_
    rintro e w4 ⟨L', s', r, vn', ve', vs, n', f', rfl, hL', hs', hvs, hfew, hI64, hH, hJ⟩
    refine ⟨_, rfl, ?_⟩
    have hO := hold_ownM hH hvs hI64
    obtain ⟨rfl, rfl, rfl, rfl, rfl⟩ : r = 0 ∧ L' = (Ln : Int) ∧ s' = sx ∧ n' = nx ∧ f' = fx := by
      rcases hJ with ⟨h0, _⟩ | ⟨_, h1, h2, h3, h4⟩
      · exact (h0 (by unfold twoM; rw [if_neg (by simp [hv]), if_neg (by simp [hv]), if_neg (by simp)])).elim
      · obtain ⟨a1, a2, a3⟩ := canon_one h3 cX (fun u hu => by
          rw [h4 u hu, aX u hu]
          simp [joinB])
        exact ⟨h1, h2, a1, a2, a3⟩
    obtain ⟨an, cn, hvn⟩ := own_sl hO
    obtain ⟨ae, ce, hve⟩ := own_se hO
    subst hvn hve
    repeat first|refine zP rfl ?_|refine zK rfl ?_
    refine zB rfl ?_
    refine o_step0 rfl rfl (And.intro rfl (And.intro rfl (And.intro (own_cells4 (OwnB.new w4 [Vi 0, Vi 0, .slice none 0 0, .slice none 0 0] 25)) ?_)))
    have hp := own_put (w := w4) (L := (Ln : Int)) (s := s') (vn := .slice an n'.length cn) (ve := .slice ae f'.length ce) _ rfl
    repeat first|refine zP rfl ?_|refine zK rfl ?_
    exact o_nil ⟨(w4.heap.size, .slice an n'.length cn, .slice ae f'.length ce), ⟨rfl, rfl, rfl, rfl, rfl, rfl, rfl, trivial⟩, below_trans hH.b hp.1, hp.2, (by rw [htx]; exact hO.below hp.1)⟩
  obtain ⟨bY, vny, vey⟩ := x
  obtain ⟨hw, oY, mY⟩ := h4
  dsimp only at hS oY mY
  replace hk := ((hk.below hw).addO oY).addM httx mY
  replace mA := mA.keep hw
  replace mB := mB.keep hw
  have hz4 : tx ≤ w4.heap.size := by rw [htx]; exact hw.size
  clear hw oY mY oX mX
  refine wp_seq (wp_seq (seq_cut [(3, Vp bA), (4, Vp bB), (5, Vp bX), (7, Vp bY), (61, .bool false)] (fun w' => RowKit.Below w4.heap.size w4 w') tab_ok hS ?_ (fun a w5 hS hw => ?_)))
  · have oA := hk.o 0 _ rfl
    have oM := hk.o 2 _ rfl
    repeat first|refine zP rfl ?_|refine zK rfl ?_
    refine zC rfl (decide_eq_false (by decide)) ?_
    repeat first|refine zP rfl ?_|refine zK rfl ?_
    refine zC rfl (decide_eq_false (by decide)) ?_
    repeat first|refine zP rfl ?_|refine zK rfl ?_
    refine zA ([Vi Ln, Vi s, vna, vea]) rfl rfl (⟨oA.cell (i := 0) rfl, oA.cell (i := 1) rfl, oA.cell (i := 2) rfl, oA.cell (i := 3) rfl, trivial⟩) ?_
    refine zA ([Vi Ln, Vi s, vn, ve]) rfl rfl (⟨oM.cell (i := 0) rfl, oM.cell (i := 1) rfl, oM.cell (i := 2) rfl, oM.cell (i := 3) rfl, trivial⟩) ?_
    refine zF rfl (en_Same) (same_any Ln s Ln s vna vea vn ve next next fin fin _ mA (hmb hk.b)) ?_
    rintro e w5 ⟨rfl, k1⟩
    refine ⟨_, rfl, ?_⟩
    rw [show sameM Ln s next fin Ln s next fin = true from decide_eq_true ⟨rfl, rfl, rfl, rfl⟩]
    have hk1 := hk.below k1
    have oB := hk1.o 1 _ rfl
    have oM := hk1.o 2 _ rfl
    repeat first|refine zP rfl ?_|refine zK rfl ?_
    refine zA ([Vi Ln, Vi s, vnb, veb]) rfl rfl (⟨oB.cell (i := 0) rfl, oB.cell (i := 1) rfl, oB.cell (i := 2) rfl, oB.cell (i := 3) rfl, trivial⟩) ?_
    refine zA ([Vi Ln, Vi s, vn, ve]) rfl rfl (⟨oM.cell (i := 0) rfl, oM.cell (i := 1) rfl, oM.cell (i := 2) rfl, oM.cell (i := 3) rfl, trivial⟩) ?_
    refine zF rfl (en_Same) (same_any Ln s Ln s vnb veb vn ve next next fin fin _ (mB.keep k1) (hmb hk1.b)) ?_
    rintro e w6 ⟨rfl, k2⟩
    refine ⟨_, rfl, ?_⟩
    rw [show sameM Ln s next fin Ln s next fin = true from decide_eq_true ⟨rfl, rfl, rfl, rfl⟩]
    have hk2 := hk1.below k2
    have oX := hk2.o 3 _ rfl
    have oY := hk2.o 4 _ rfl
    repeat first|refine zP rfl ?_|refine zK rfl ?_
    refine zA ([Vi Ln, Vi sx, vnx, vex]) rfl rfl (⟨oX.cell (i := 0) rfl, oX.cell (i := 1) rfl, oX.cell (i := 2) rfl, oX.cell (i := 3) rfl, trivial⟩) ?_
    refine zA ([Vi Ln, Vi sx, vny, vey]) rfl rfl (⟨oY.cell (i := 0) rfl, oY.cell (i := 1) rfl, oY.cell (i := 2) rfl, oY.cell (i := 3) rfl, trivial⟩) ?_
    refine zF rfl (en_Same) (same_any Ln sx Ln sx vnx vex vny vey nx nx fx fx _ ((hk2.m 0 _ rfl).2.ma hLI hsx) ((hk2.m 1 _ rfl).2.ma hLI hsx)) ?_
    rintro e w7 ⟨rfl, k3⟩
    refine ⟨_, rfl, ?_⟩
    rw [show sameM Ln sx nx fx Ln sx nx fx = true from decide_eq_true ⟨rfl, rfl, rfl, rfl⟩]
    repeat first|refine zP rfl ?_|refine zK rfl ?_
    exact o_nil ⟨⟨rfl, rfl, rfl, rfl, rfl, trivial⟩, below_trans k1 (below_trans k2 k3)⟩
  replace hk := hk.below hw
  have hz5 : tx ≤ w5.heap.size := Nat.le_trans hz4 hw.size
  clear hw mA mB
  refine cond hS rfl (fun hT => by cases hT) (fun _ => wp_skip ?_)
  refine wp_seq (seq_cutx (α := Nat × Value × Value) (fun x => [(3, Vp bA), (4, Vp bB), (5, Vp bX), (7, Vp bY), (9, Vp x.1)]) (fun x w' => RowKit.Below w5.heap.size w5 w' ∧ OwnB w' x.1 25 [Vi Ln, Vi sx, x.2.1, x.2.2] ∧ OwnM w5.heap.size w' nx fx x.2.1 x.2.2) tab_ok hS ?_ (fun x a w6 hS h6 => ?_))
  · have oX := hk.o 3 _ rfl
    refine zA ([Vi Ln, Vi sx, vnx, vex]) rfl rfl (⟨oX.cell (i := 0) rfl, oX.cell (i := 1) rfl, oX.cell (i := 2) rfl, oX.cell (i := 3) rfl, trivial⟩) ?_
    refine zF rfl (en_Copy) (ma_copy ((hk.m 0 _ rfl).2.ma hLI hsx) cX.shape hL8 (show nx.length ≤ 60 by omega)) ?_
    rintro e w6 ⟨vn', ve', rfl, hO, hB⟩
    refine ⟨_, rfl, ?_⟩
    obtain ⟨an, cn, hvn⟩ := own_sl hO
    obtain ⟨ae, ce, hve⟩ := own_se hO
    subst hvn hve
    refine zB rfl ?_
    refine o_step0 rfl rfl (And.intro rfl (And.intro rfl (And.intro (own_cells4 (OwnB.new w6 [Vi 0, Vi 0, .slice none 0 0, .slice none 0 0] 25)) ?_)))
    have hp := own_put (w := w6) (L := (Ln : Int)) (s := sx) (vn := .slice an nx.length cn) (ve := .slice ae fx.length ce) _ rfl
    repeat first|refine zP rfl ?_|refine zK rfl ?_
    exact o_nil ⟨(w6.heap.size, .slice an nx.length cn, .slice ae fx.length ce), ⟨rfl, rfl, rfl, rfl, rfl, trivial⟩, below_trans hB hp.1, hp.2, hO.below hp.1⟩
  obtain ⟨bK, vnk, vek⟩ := x
  obtain ⟨hw, oK, mK⟩ := h6
  dsimp only at hS oK mK
  have htk := hz5
  obtain ⟨tk, htk2⟩ : ∃ tk, tk = w5.heap.size := ⟨_, rfl⟩
  rw [← htk2] at mK htk
  replace hk := ((hk.below hw).addO oK).addM (Nat.le_trans httx htk) mK
  clear hw oK mK
  refine wp_seq (wp_seq (seq_cut [(3, Vp bA), (4, Vp bB), (5, Vp bX), (7, Vp bY), (9, Vp bK), (10, Vi (0 : Nat))] (· = w6) tab_ok hS ?_ (fun a w7 hS hw => ?_)))
  · repeat first|refine zP rfl ?_|refine zK rfl ?_
    exact o_nil ⟨⟨rfl, rfl, rfl, rfl, rfl, rfl, trivial⟩, rfl⟩
  subst hw
  refine wp_block (loop0 hS (fun g E w' => ∃ i : Nat, i ≤ next.length ∧ g = next.length - i ∧ E = [(3, Vp bA), (4, Vp bB), (5, Vp bX), (7, Vp bY), (9, Vp bK), (10, Vi i)] ∧ KL w t Ln w' [(bA, [Vi Ln, Vi s, vna, vea]), (bB, [Vi Ln, Vi s, vnb, veb]), (M, [Vi Ln, Vi s, vn, ve]), (bX, [Vi Ln, Vi sx, vnx, vex]), (bY, [Vi Ln, Vi sx, vny, vey]), (bK, [Vi Ln, Vi sx, vnk, vek])] [(t, next.length, vna, vea), (t, next.length, vnb, veb), (tx, nx.length, vnx, vex)] [(t, nx, fx, vnx, vex), (tx, nx, fx, vny, vey), (tk, nx, fx, vnk, vek)]) next.length ⟨0, Nat.zero_le _, rfl, rfl, hk⟩ ?_)
  clear hS hk
  rintro g E wr a ⟨i, hii, rfl, rfl, hk⟩ hS
  refine wp_seq (wp_seq (seq_cut [(3, Vp bA), (4, Vp bB), (5, Vp bX), (7, Vp bY), (9, Vp bK), (10, Vi i), (68, .bool (decide (i < next.length)))] (· = wr) tab_ok hS ?_ (fun a w8 hS hw => ?_)))
  · obtain ⟨gn, cn, rfl⟩ := hva
    repeat first|refine zP rfl ?_|refine zK rfl ?_
    refine zL rfl ((hk.o 0 _ rfl).cell (i := 2) rfl) ?_
    repeat first|refine zP rfl ?_|refine zK rfl ?_
    refine zC rfl (lt_nat _ _) ?_
    exact o_nil ⟨⟨rfl, rfl, rfl, rfl, rfl, rfl, rfl, trivial⟩, rfl⟩
  subst hw
  refine cond hS rfl (fun hT => wp_skip ?_) (fun hF => ?_)
  case refine_2 =>
    refine wp_exit ?_
    repeat (first | refine then_exit ?_ | refine block_exit ?_ | refine block_other rfl ?_)
    refine wp_seq (wp_seq (seq_cut [(3, Vp bA), (4, Vp bB), (5, Vp bX), (7, Vp bY), (9, Vp bK), (120, .bool false)] (fun w' => RowKit.Below w8.heap.size w8 w') tab_ok hS ?_ (fun a w9 hS hw => ?_)))
    · have oX := hk.o 3 _ rfl
      have oK := hk.o 5 _ rfl
      refine zA ([Vi Ln, Vi sx, vnx, vex]) rfl rfl (⟨oX.cell (i := 0) rfl, oX.cell (i := 1) rfl, oX.cell (i := 2) rfl, oX.cell (i := 3) rfl, trivial⟩) ?_
      refine zA ([Vi Ln, Vi sx, vnk, vek]) rfl rfl (⟨oK.cell (i := 0) rfl, oK.cell (i := 1) rfl, oK.cell (i := 2) rfl, oK.cell (i := 3) rfl, trivial⟩) ?_
      refine zF rfl (en_Same) (same_any Ln sx Ln sx vnx vex vnk vek nx nx fx fx _ ((hk.m 0 _ rfl).2.ma hLI hsx) ((hk.m 2 _ rfl).2.ma hLI hsx)) ?_
      rintro e w9 ⟨rfl, k1⟩
      refine ⟨_, rfl, ?_⟩
      rw [show sameM Ln sx nx fx Ln sx nx fx = true from decide_eq_true ⟨rfl, rfl, rfl, rfl⟩]
      have hk1 := hk.below k1
      have oY := hk1.o 4 _ rfl
      have oK := hk1.o 5 _ rfl
      repeat first|refine zP rfl ?_|refine zK rfl ?_
      refine zA ([Vi Ln, Vi sx, vny, vey]) rfl rfl (⟨oY.cell (i := 0) rfl, oY.cell (i := 1) rfl, oY.cell (i := 2) rfl, oY.cell (i := 3) rfl, trivial⟩) ?_
      refine zA ([Vi Ln, Vi sx, vnk, vek]) rfl rfl (⟨oK.cell (i := 0) rfl, oK.cell (i := 1) rfl, oK.cell (i := 2) rfl, oK.cell (i := 3) rfl, trivial⟩) ?_
      refine zF rfl (en_Same) (same_any Ln sx Ln sx vny vey vnk vek nx nx fx fx _ ((hk1.m 1 _ rfl).2.ma hLI hsx) ((hk1.m 2 _ rfl).2.ma hLI hsx)) ?_
      rintro e w10 ⟨rfl, k2⟩
      refine ⟨_, rfl, ?_⟩
      rw [show sameM Ln sx nx fx Ln sx nx fx = true from decide_eq_true ⟨rfl, rfl, rfl, rfl⟩]
      repeat first|refine zP rfl ?_|refine zK rfl ?_
      exact o_nil ⟨⟨rfl, rfl, rfl, rfl, rfl, rfl, trivial⟩, below_trans k1 k2⟩
    replace hk := hk.below hw
    clear hw
    refine cond hS rfl (fun hT => by cases hT) (fun _ => wp_skip ?_)
    have hk2 := (((⟨hk.b, hk.o, fun i x hx => by simp at hx, fun i x hx => by simp at hx⟩ : KL w tx Ln w9 [(bA, [Vi Ln, Vi s, vna, vea]), (bB, [Vi Ln, Vi s, vnb, veb]), (M, [Vi Ln, Vi s, vn, ve]), (bX, [Vi Ln, Vi sx, vnx, vex]), (bY, [Vi Ln, Vi sx, vny, vey]), (bK, [Vi Ln, Vi sx, vnk, vek])] [] []).addS (hk.s 2 _ rfl)).addM (Nat.le_refl tx) (hk.m 1 _ rfl).2).addM htk (hk.m 2 _ rfl).2
    clear hk
    refine wp_seq (wp_seq (seq_cut [(3, Vp bA), (4, Vp bB), (5, Vp bX), (7, Vp bY), (9, Vp bK), (12, Vi (0 : Nat))] (· = w9) tab_ok hS ?_ (fun a w10 hS hw => ?_)))
    · repeat first|refine zP rfl ?_|refine zK rfl ?_
      exact o_nil ⟨⟨rfl, rfl, rfl, rfl, rfl, rfl, trivial⟩, rfl⟩
    subst hw
    refine wp_block (loop0 hS (fun g E w' => ∃ i : Nat, i ≤ nx.length ∧ g = nx.length - i ∧ E = [(3, Vp bA), (4, Vp bB), (5, Vp bX), (7, Vp bY), (9, Vp bK), (12, Vi i)] ∧ KL w tx Ln w' [(bA, [Vi Ln, Vi s, vna, vea]), (bB, [Vi Ln, Vi s, vnb, veb]), (M, [Vi Ln, Vi s, vn, ve]), (bX, [Vi Ln, Vi sx, vnx, vex]), (bY, [Vi Ln, Vi sx, vny, vey]), (bK, [Vi Ln, Vi sx, vnk, vek])] [(tx, nx.length, vnx, vex)] [(tx, nx, fx, vny, vey), (tk, nx, fx, vnk, vek)]) nx.length ⟨0, Nat.zero_le _, rfl, rfl, hk2⟩ ?_)
    clear hS hk2
    rintro g E wr a ⟨i, hii, rfl, rfl, hk⟩ hS
    refine wp_seq (wp_seq (seq_cut [(3, Vp bA), (4, Vp bB), (5, Vp bX), (7, Vp bY), (9, Vp bK), (12, Vi i), (125, .bool (decide (i < nx.length)))] (· = wr) tab_ok hS ?_ (fun a w11 hS hw => ?_)))
    · obtain ⟨gn, cn, rfl⟩ := hvx
      repeat first|refine zP rfl ?_|refine zK rfl ?_
      refine zL rfl ((hk.o 3 _ rfl).cell (i := 2) rfl) ?_
      repeat first|refine zP rfl ?_|refine zK rfl ?_
      refine zC rfl (lt_nat _ _) ?_
      exact o_nil ⟨⟨rfl, rfl, rfl, rfl, rfl, rfl, rfl, trivial⟩, rfl⟩
    subst hw
    refine cond hS rfl (fun hT => wp_skip ?_) (fun hF => ?_)
    case refine_2 =>
      refine wp_exit ?_
      repeat (first | refine then_exit ?_ | refine block_exit ?_ | refine block_other rfl ?_)
      refine wp_seq (seq_cut [(2, .bool true)] (fun w' => RowKit.Below w11.heap.size w11 w') tab_ok hS ?_ (fun a w12 hS hw => ?_))
      · have oY := hk.o 4 _ rfl
        have oK := hk.o 5 _ rfl
        refine zA ([Vi Ln, Vi sx, vny, vey]) rfl rfl (⟨oY.cell (i := 0) rfl, oY.cell (i := 1) rfl, oY.cell (i := 2) rfl, oY.cell (i := 3) rfl, trivial⟩) ?_
        refine zA ([Vi Ln, Vi sx, vnk, vek]) rfl rfl (⟨oK.cell (i := 0) rfl, oK.cell (i := 1) rfl, oK.cell (i := 2) rfl, oK.cell (i := 3) rfl, trivial⟩) ?_
        refine zF rfl (en_Same) (same_any Ln sx Ln sx vny vey vnk vek nx nx fx fx _ ((hk.m 0 _ rfl).2.ma hLI hsx) ((hk.m 1 _ rfl).2.ma hLI hsx)) ?_
        rintro e w12 ⟨rfl, k1⟩
        refine ⟨_, rfl, ?_⟩
        rw [show sameM Ln sx nx fx Ln sx nx fx = true from decide_eq_true ⟨rfl, rfl, rfl, rfl⟩]
        repeat first|refine zP rfl ?_|refine zK rfl ?_
        refine zF rfl (en_awake) (awake_any C _) ?_
        rintro e w13 ⟨rfl, k2⟩
        refine ⟨_, rfl, ?_⟩
        repeat first|refine zP rfl ?_|refine zK rfl ?_
        exact o_nil ⟨⟨rfl, trivial⟩, below_trans k1 k2⟩
      refine wp_ret ?_
      repeat (first | refine then_ret ?_ | refine block_ret ?_)
      exact ret1 hS rfl rfl ⟨rfl, below_trans hk.b hw⟩
    have hlt : i < nx.length := of_decide_eq_true hT
    obtain ⟨⟨gn, cn, e1⟩, ge, ce, e2⟩ := (hk.s 0 _ rfl).forms (by show 0 < nx.length; omega)
    dsimp only at e1 e2
    subst e1 e2
    refine wp_seq (wp_block ?_)
    obtain ⟨hb, hg1, hg2⟩ := (hk.s 0 _ rfl).e' (by show 0 < nx.length; omega)
    dsimp only at hb hg1 hg2
    obtain ⟨x, hx⟩ := hb.cell0 hlt
    refine wp_seq (seq_cut [(3, Vp bA), (4, Vp bB), (5, Vp bX), (7, Vp bY), (9, Vp bK), (12, Vi i)] (· = w11.setCell ⟨ge, 0 + i, none⟩ (.bool false)) tab_ok hS ?_ (fun a w12 hS hw => ?_))
    · repeat first|refine zP rfl ?_|refine zK rfl ?_
      refine zL rfl ((hk.o 3 _ rfl).cell (i := 3) rfl) ?_
      repeat first|refine zP rfl ?_|refine zK rfl ?_
      refine zI rfl (rfl) (hlt) ?_
      refine zS rfl rfl (hx) (hb.ty.free0 _) ?_
      exact o_nil ⟨⟨rfl, rfl, rfl, rfl, rfl, rfl, trivial⟩, rfl⟩
    replace hk := hk.setB hb.ty hg1 hg2 (0 + i) false
    rw [← hw] at hk
    clear hw hx hb
    refine wp_seq (seq_cut [(3, Vp bA), (4, Vp bB), (5, Vp bX), (7, Vp bY), (9, Vp bK), (12, Vi i), (13, Vi (0 : Nat))] (· = w12) tab_ok hS ?_ (fun a w13 hS hw => ?_))
    · repeat first|refine zP rfl ?_|refine zK rfl ?_
      exact o_nil ⟨⟨rfl, rfl, rfl, rfl, rfl, rfl, rfl, trivial⟩, rfl⟩
    subst hw
    refine wp_block (loop0 hS (fun g E w' => ∃ c : Nat, c ≤ Ln ∧ g = Ln - c ∧ E = [(3, Vp bA), (4, Vp bB), (5, Vp bX), (7, Vp bY), (9, Vp bK), (12, Vi i), (13, Vi c)] ∧ KL w tx Ln w' [(bA, [Vi Ln, Vi s, vna, vea]), (bB, [Vi Ln, Vi s, vnb, veb]), (M, [Vi Ln, Vi s, vn, ve]), (bX, [Vi Ln, Vi sx, Vs gn nx.length cn, Vs ge nx.length ce]), (bY, [Vi Ln, Vi sx, vny, vey]), (bK, [Vi Ln, Vi sx, vnk, vek])] [(tx, nx.length, Vs gn nx.length cn, Vs ge nx.length ce)] [(tx, nx, fx, vny, vey), (tk, nx, fx, vnk, vek)]) Ln ⟨0, Nat.zero_le _, rfl, rfl, hk⟩ ?_)
    clear hS hk
    rintro g E wr a ⟨c, hcL, rfl, rfl, hk⟩ hS
    refine wp_seq (wp_seq (seq_cut [(3, Vp bA), (4, Vp bB), (5, Vp bX), (7, Vp bY), (9, Vp bK), (12, Vi i), (13, Vi c), (135, .bool (decide (c < Ln)))] (· = wr) tab_ok hS ?_ (fun a w14 hS hw => ?_)))
    · repeat first|refine zP rfl ?_|refine zK rfl ?_
      refine zL rfl ((hk.o 3 _ rfl).cell (i := 0) rfl) ?_
      refine zC rfl (lt_nat _ _) ?_
      exact o_nil ⟨⟨rfl, rfl, rfl, rfl, rfl, rfl, rfl, rfl, trivial⟩, rfl⟩
    subst hw
    refine cond hS rfl (fun hT => wp_skip ?_) (fun hF => ?_)
    case refine_2 =>
      refine wp_exit ?_
      repeat (first | refine then_exit ?_ | refine block_exit ?_ | refine block_other rfl ?_)
      refine block_normal ?_
      refine then_normal ?_
      refine seq_cut [(3, Vp bA), (4, Vp bB), (5, Vp bX), (7, Vp bY), (9, Vp bK), (12, Vi (i + 1 : Nat))] (· = w14) tab_ok hS ?_ (fun a w15 hS hw => ?_)
      · repeat first|refine zP rfl ?_|refine zK rfl ?_
        refine zN rfl (wrap_succ (by omega)) ?_
        repeat first|refine zP rfl ?_|refine zK rfl ?_
        exact o_nil ⟨⟨rfl, rfl, rfl, rfl, rfl, rfl, trivial⟩, rfl⟩
      subst hw
      exact ⟨nx.length - (i + 1), _, by omega, ⟨i + 1, hlt, rfl, rfl, hk⟩, hS⟩
    have hcl : c < Ln := of_decide_eq_true hT
    obtain ⟨gr, cr, hr1, hr2, hg1, hg2⟩ := (hk.s 0 _ rfl).r' (by show 0 < nx.length; omega) hlt (by omega)
    dsimp only at hr1 hg2
    obtain ⟨old, hold⟩ := hr2.cell0 hcl
    refine wp_seq (wp_block ?_)
    refine seq_cut [(3, Vp bA), (4, Vp bB), (5, Vp bX), (7, Vp bY), (9, Vp bK), (12, Vi i), (13, Vi c)] (· = w14.setCell ⟨gr, 0 + c, none⟩ (Vi (-1))) tab_ok hS ?_ (fun a w15 hS hw => ?_)
    · repeat first|refine zP rfl ?_|refine zK rfl ?_
      refine zL rfl ((hk.o 3 _ rfl).cell (i := 2) rfl) ?_
      repeat first|refine zP rfl ?_|refine zK rfl ?_
      refine zI rfl (rfl) (hlt) ?_
      refine zL rfl (hr1) ?_
      repeat first|refine zP rfl ?_|refine zK rfl ?_
      refine zI rfl (rfl) (hcl) ?_
      refine zS rfl rfl (hold) (hr2.free0 _) ?_
      exact o_nil ⟨⟨rfl, rfl, rfl, rfl, rfl, rfl, rfl, trivial⟩, rfl⟩
    replace hk := hk.setI hr2 hg1 hg2 (0 + c) (Vi (-1))
    rw [← hw] at hk
    clear hw hold hr1 hr2
    refine block_normal ?_
    refine then_normal ?_
    refine seq_cut [(3, Vp bA), (4, Vp bB), (5, Vp bX), (7, Vp bY), (9, Vp bK), (12, Vi i), (13, Vi (c + 1 : Nat))] (· = w15) tab_ok hS ?_ (fun a w16 hS hw => ?_)
    · repeat first|refine zP rfl ?_|refine zK rfl ?_
      refine zN rfl (wrap_succ (by omega)) ?_
      repeat first|refine zP rfl ?_|refine zK rfl ?_
      exact o_nil ⟨⟨rfl, rfl, rfl, rfl, rfl, rfl, rfl, trivial⟩, rfl⟩
    subst hw
    exact ⟨Ln - (c + 1), _, by omega, ⟨c + 1, hcl, rfl, rfl, hk⟩, hS⟩
  have hlt : i < next.length := of_decide_eq_true hT
  obtain ⟨⟨gn, cn, e1⟩, ge, ce, e2⟩ := (hk.s 0 _ rfl).forms (by show 0 < next.length; omega)
  obtain ⟨⟨gn2, cn2, e3⟩, ge2, ce2, e4⟩ := (hk.s 1 _ rfl).forms (by show 0 < next.length; omega)
  dsimp only at e1 e2 e3 e4
  subst e1 e2 e3 e4
  refine wp_seq (wp_block ?_)
  obtain ⟨hb, hg1, hg2⟩ := (hk.s 0 _ rfl).e' (by show 0 < next.length; omega)
  dsimp only at hb hg2
  have hd : RowKit.Below w8.heap.size w8 w8.drew := (RowKit.Below.refl _ _).drew
  refine wp_seq (keeps_r12 (hk.o 0 _ rfl) hb hlt (by rfl) (hS.sub ⟨rfl, rfl, rfl, rfl, rfl, rfl, trivial⟩) (fun x a w9 hS hw => ?_))
  replace hk := (hk.below hd).setB (hb.keep hd).ty hg1 hg2 (0 + i) x
  rw [← hw] at hk
  clear hw hb hd
  obtain ⟨hb, hg1, hg2⟩ := (hk.s 1 _ rfl).e' (by show 0 < next.length; omega)
  dsimp only at hb hg2
  have hd : RowKit.Below w9.heap.size w9 w9.drew := (RowKit.Below.refl _ _).drew
  refine wp_seq (keeps_r13 (hk.o 1 _ rfl) hb hlt (by rfl) hS (fun x a w10 hS hw => ?_))
  replace hk := (hk.below hd).setB (hb.keep hd).ty hg1 hg2 (0 + i) x
  rw [← hw] at hk
  clear hw hb hd
  refine wp_seq (seq_cut [(3, Vp bA), (4, Vp bB), (5, Vp bX), (7, Vp bY), (9, Vp bK), (10, Vi i), (11, Vi (0 : Nat))] (· = w10) tab_ok hS ?_ (fun a w11 hS hw => ?_))
  · repeat first|refine zP rfl ?_|refine zK rfl ?_
    exact o_nil ⟨⟨rfl, rfl, rfl, rfl, rfl, rfl, rfl, trivial⟩, rfl⟩
  subst hw
  refine wp_block (loop0 hS (fun g E w' => ∃ c : Nat, c ≤ Ln ∧ g = Ln - c ∧ E = [(3, Vp bA), (4, Vp bB), (5, Vp bX), (7, Vp bY), (9, Vp bK), (10, Vi i), (11, Vi c)] ∧ KL w t Ln w' [(bA, [Vi Ln, Vi s, Vs gn next.length cn, Vs ge next.length ce]), (bB, [Vi Ln, Vi s, Vs gn2 next.length cn2, Vs ge2 next.length ce2]), (M, [Vi Ln, Vi s, vn, ve]), (bX, [Vi Ln, Vi sx, vnx, vex]), (bY, [Vi Ln, Vi sx, vny, vey]), (bK, [Vi Ln, Vi sx, vnk, vek])] [(t, next.length, Vs gn next.length cn, Vs ge next.length ce), (t, next.length, Vs gn2 next.length cn2, Vs ge2 next.length ce2), (tx, nx.length, vnx, vex)] [(t, nx, fx, vnx, vex), (tx, nx, fx, vny, vey), (tk, nx, fx, vnk, vek)]) Ln ⟨0, Nat.zero_le _, rfl, rfl, hk⟩ ?_)
  clear hS hk
  rintro g E wr a ⟨c, hcL, rfl, rfl, hk⟩ hS
  refine wp_seq (wp_seq (seq_cut [(3, Vp bA), (4, Vp bB), (5, Vp bX), (7, Vp bY), (9, Vp bK), (10, Vi i), (11, Vi c), (94, .bool (decide (c < Ln)))] (· = wr) tab_ok hS ?_ (fun a w12 hS hw => ?_)))
  · repeat first|refine zP rfl ?_|refine zK rfl ?_
    refine zL rfl ((hk.o 0 _ rfl).cell (i := 0) rfl) ?_
    refine zC rfl (lt_nat _ _) ?_
    exact o_nil ⟨⟨rfl, rfl, rfl, rfl, rfl, rfl, rfl, rfl, trivial⟩, rfl⟩
  subst hw
  refine cond hS rfl (fun hT => wp_skip ?_) (fun hF => ?_)
  case refine_2 =>
    refine wp_exit ?_
    repeat (first | refine then_exit ?_ | refine block_exit ?_ | refine block_other rfl ?_)
    refine block_normal ?_
    refine then_normal ?_
    refine seq_cut [(3, Vp bA), (4, Vp bB), (5, Vp bX), (7, Vp bY), (9, Vp bK), (10, Vi (i + 1 : Nat))] (· = w12) tab_ok hS ?_ (fun a w13 hS hw => ?_)
    · repeat first|refine zP rfl ?_|refine zK rfl ?_
      refine zN rfl (wrap_succ (by omega)) ?_
      repeat first|refine zP rfl ?_|refine zK rfl ?_
      exact o_nil ⟨⟨rfl, rfl, rfl, rfl, rfl, rfl, trivial⟩, rfl⟩
    subst hw
    exact ⟨next.length - (i + 1), _, by omega, ⟨i + 1, hlt, rfl, rfl, hk⟩, hS⟩
  have hcl : c < Ln := of_decide_eq_true hT
  refine wp_seq (wp_block ?_)
  obtain ⟨gr, cr, hr1, hr2, hg1, hg2⟩ := (hk.s 0 _ rfl).r' (by show 0 < next.length; omega) hlt (by omega)
  dsimp only at hr1 hg2
  obtain ⟨old, hold⟩ := hr2.cell0 hcl
  refine wp_seq (seq_cut [(3, Vp bA), (4, Vp bB), (5, Vp bX), (7, Vp bY), (9, Vp bK), (10, Vi i), (11, Vi c)] (· = w12.setCell ⟨gr, 0 + c, none⟩ (Vi (-1))) tab_ok hS ?_ (fun a w13 hS hw => ?_))
  · repeat first|refine zP rfl ?_|refine zK rfl ?_
    refine zL rfl ((hk.o 0 _ rfl).cell (i := 2) rfl) ?_
    repeat first|refine zP rfl ?_|refine zK rfl ?_
    refine zI rfl (rfl) (hlt) ?_
    refine zL rfl (hr1) ?_
    repeat first|refine zP rfl ?_|refine zK rfl ?_
    refine zI rfl (rfl) (hcl) ?_
    refine zS rfl rfl (hold) (hr2.free0 _) ?_
    exact o_nil ⟨⟨rfl, rfl, rfl, rfl, rfl, rfl, rfl, trivial⟩, rfl⟩
  replace hk := hk.setI hr2 hg1 hg2 (0 + c) (Vi (-1))
  rw [← hw] at hk
  clear hw hold hr1 hr2
  obtain ⟨gr, cr, hr1, hr2, hg1, hg2⟩ := (hk.s 1 _ rfl).r' (by show 0 < next.length; omega) hlt (by omega)
  dsimp only at hr1 hg2
  obtain ⟨old, hold⟩ := hr2.cell0 hcl
  refine seq_cut [(3, Vp bA), (4, Vp bB), (5, Vp bX), (7, Vp bY), (9, Vp bK), (10, Vi i), (11, Vi c)] (· = w13.setCell ⟨gr, 0 + c, none⟩ (Vi 0)) tab_ok hS ?_ (fun a w14 hS hw => ?_)
  · repeat first|refine zP rfl ?_|refine zK rfl ?_
    refine zL rfl ((hk.o 1 _ rfl).cell (i := 2) rfl) ?_
    repeat first|refine zP rfl ?_|refine zK rfl ?_
    refine zI rfl (rfl) (hlt) ?_
    refine zL rfl (hr1) ?_
    repeat first|refine zP rfl ?_|refine zK rfl ?_
    refine zI rfl (rfl) (hcl) ?_
    refine zS rfl rfl (hold) (hr2.free0 _) ?_
    exact o_nil ⟨⟨rfl, rfl, rfl, rfl, rfl, rfl, rfl, trivial⟩, rfl⟩
  replace hk := hk.setI hr2 hg1 hg2 (0 + c) (Vi 0)
  rw [← hw] at hk
  clear hw hold hr1 hr2
  refine block_normal ?_
  refine then_normal ?_
  refine seq_cut [(3, Vp bA), (4, Vp bB), (5, Vp bX), (7, Vp bY), (9, Vp bK), (10, Vi i), (11, Vi (c + 1 : Nat))] (· = w14) tab_ok hS ?_ (fun a w15 hS hw => ?_)
  · repeat first|refine zP rfl ?_|refine zK rfl ?_
    refine zN rfl (wrap_succ (by omega)) ?_
    repeat first|refine zP rfl ?_|refine zK rfl ?_
    exact o_nil ⟨⟨rfl, rfl, rfl, rfl, rfl, rfl, rfl, trivial⟩, rfl⟩
  subst hw
  exact ⟨Ln - (c + 1), _, by omega, ⟨c + 1, hcl, rfl, rfl, hk⟩, hS⟩
end Go.Proofs.Ythcoppfiahnpoaa
